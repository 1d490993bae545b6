/- The law for drawn regions of which every operation is shown: none need wait for all others. Over every program. -/
import Derived.Test.YtafdcbdbllpcnaaLate
set_option linter.unusedVariables false
set_option linter.unusedSimpArgs false
namespace Go.Proofs.Ytafdcbdbllpcnaa
open Go.RowKit

/-- As Region.shaped; all operations may be shown. -/
def Region.shapedZ (ops : Array Oper) (ds : List (Option Tmp)) (size : Nat) : Bool :=
  decide (ds.length = ops.size) &&
  (List.range ds.length).all (fun i => (List.range ds.length).all fun j => i == j || ds[i]? != ds[j]? || ds[i]? == some none) &&
  (List.range ds.length).all (fun j => ((ops[j]?).map fun o => some o.dst == ds[j]?).getD false) &&
  (List.range ds.length).all (fun j => ((ds[j]?).map fun d => (d.map fun t => decide (t < size)).getD true).getD false) &&
  (List.range ops.size).all (fun k => ((ops[k]?).map fun o => o.after.all fun e => !Region.binds .any e || decide (e.on < k)).getD false) &&
  (List.range ds.length).all (fun k => ((ops[k]?).map fun o => (o.guard.map fun g => waitsFor ops k g.1 && decide (g.1 < ds.length) && ((ds[g.1]?).map fun d => d.isSome).getD false).getD true).getD false)

section
variable {P : Program} {ops : Array Oper} {Q : Exit → Act → World → Prop}

structure GoodZ (X : World → World → Prop) (wt : Nat → Tmp) (ds : List (Option Tmp)) (R : Nat → Value → World → Prop) (a0 : Act) (w0 : World) (listed : Array Bool) (a : Act) (w : World) (n : Nat) : Prop where
  size : listed.size = n
  last : ∀ k, ds.length ≤ k → k < n → listed.getD k true = false
  ext : X w0 w
  defers : a.defers = a0.defers
  tsize : a.tmps.size = a0.tmps.size
  rest : ∀ t, (∀ j, listed.getD j false = true → ds[j]? ≠ some (some t)) → a.tmps[t]? = a0.tmps[t]?
  watch : ∀ j i, listed.getD j false = true → ds[j]? = some none → ds[i]? = some (some (wt j)) → listed.getD i false = true
  done : ∀ j d, ds[j]? = some d → listed.getD j false = true → ∃ W, X W w ∧ R j (valY wt a j d) W

theorem wpAny_drawz (X : World → World → Prop) (wt : Nat → Tmp) (xr : ∀ W, X W W) (xt : ∀ a b c, X a b → X b c → X a c) (ds : List (Option Tmp)) (R : Nat → Value → World → Prop) (a0 : Act) (w0 : World) (hs : Region.shapedZ ops ds a0.tmps.size = true) (hwt : ∀ j i : Nat, ds[j]? = some none → ds[i]? = some (some (wt j)) → waitsFor ops j i = true)
    (step : ∀ (k : Nat) (o : Oper) (d : Option Tmp) (b : Act) (W : World), ops[k]? = some o → ds[k]? = some d → X w0 W → (∀ t, some t ∉ ds → b.tmps[t]?.getD undef = a0.tmps[t]?.getD undef) →
      (∀ j dj, waitsFor ops k j = true → ds[j]? = some dj → ∃ Wj, X Wj W ∧ R j (valY wt b j dj) Wj) →
      (∀ g, o.guard = some g → ∀ v W, R g.1 v W → v = .bool g.2) ∧
      ∀ K : Act → World → Prop, (∀ v W', d ≠ none → X W W' → R k v W' → K (b.put d v) W') → (d = none → ∀ W', X W W' → R k (b.tmps[wt k]?.getD undef) W' → K b W') → o.wp P b W K Q)
    (last : ∀ (f : Tmp → Value) (W : World), X w0 W → (∀ j d, ds[j]? = some d → ∃ Wj, X Wj W ∧ R j (valYF wt f j d) Wj) →
      Q .normal (puts f (ds.filterMap id) a0) W) :
    ∀ (fuel : Nat) (listed : Array Bool) (a : Act) (w : World), GoodZ X wt ds R a0 w0 listed a w ops.size → left ops.size listed ≤ fuel → wpAny P .any ops Q fuel listed a w := by
  simp only [Region.shapedZ, Bool.and_eq_true, decide_eq_true_eq, List.all_eq_true, List.mem_range] at hs
  obtain ⟨⟨⟨⟨⟨hm, hnd⟩, hdst⟩, hin⟩, hback⟩, hgd⟩ := hs
  have hback' : ∀ (k : Nat) (o : Oper), ops[k]? = some o → ∀ e ∈ o.after, Region.binds .any e = true → Edge.on e < k := by
    intro k o ho e he hbd
    have h1 := hback k (Array.getElem?_eq_some_iff.1 ho).1
    rw [ho] at h1
    simp only [Option.map_some, Option.getD_some, Array.all_eq_true_iff_forall_mem, Bool.or_eq_true, Bool.not_eq_true', decide_eq_true_eq] at h1
    exact (h1 e he).resolve_left (by rw [hbd]; simp)
  have hdin : ∀ (j : Nat) (d : Tmp), ds[j]? = some (some d) → d < a0.tmps.size := by
    intro j d hj
    have h1 := hin j (List.getElem?_eq_some_iff.1 hj).1
    rw [hj] at h1
    simpa using h1
  have hnd' : ∀ (i j : Nat) (d : Tmp), ds[i]? = some (some d) → ds[j]? = some (some d) → i = j := by
    intro i j d hi hj
    have h1 := hnd i (List.getElem?_eq_some_iff.1 hi).1 j (List.getElem?_eq_some_iff.1 hj).1
    rw [hi, hj] at h1
    simpa using h1
  have hend : ∀ (fuel : Nat) (listed : Array Bool) (a : Act) (w : World), GoodZ X wt ds R a0 w0 listed a w ops.size → (∀ i, i < ops.size → listed.getD i true = true) → wpAny P .any ops Q fuel listed a w := by
    intro fuel listed a w hg hall
    have ha : puts (fun t => a.tmps[t]?.getD undef) (ds.filterMap id) a0 = a := by
      obtain ⟨p1, p2, p3⟩ := puts_spec (fun t => a.tmps[t]?.getD undef) (ds.filterMap id) a0
      have e1 : (puts (fun t => a.tmps[t]?.getD undef) (ds.filterMap id) a0).tmps = a.tmps := by
        apply Array.ext_getElem?
        intro t
        by_cases ht : t < a0.tmps.size
        · rw [p3 t ht]
          by_cases hmm : t ∈ ds.filterMap id
          · rw [if_pos hmm, Array.getElem?_eq_getElem (by rw [hg.tsize]; exact ht)]
            simp
          · rw [if_neg hmm]
            exact (hg.rest t fun j _ e => hmm (List.mem_filterMap.2 ⟨some t, List.mem_of_getElem? e, rfl⟩)).symm
        · rw [Array.getElem?_eq_none (by omega), Array.getElem?_eq_none (by rw [hg.tsize]; omega)]
      have e2 : (puts (fun t => a.tmps[t]?.getD undef) (ds.filterMap id) a0).defers = a.defers := by rw [p1, hg.defers]
      cases hp : puts (fun t => a.tmps[t]?.getD undef) (ds.filterMap id) a0 with
      | mk x y =>
        cases a with
        | mk x' y' =>
          rw [hp] at e1 e2
          simp only at e1 e2
          rw [e1, e2]
    have hl' := last (fun t => a.tmps[t]?.getD undef) w hg.ext (fun j d hd => by
      have hj : j < ops.size := by have := (List.getElem?_eq_some_iff.1 hd).1; omega
      obtain ⟨Wj, h1, h2⟩ := hg.done j d hd (by rw [← getD_false_of (by have := hg.size; omega) true]; exact hall j hj)
      exact ⟨Wj, h1, by cases d <;> exact h2⟩)
    rw [ha] at hl'
    exact wpAny_end hg.size hall fuel hl'
  intro fuel
  induction fuel with
  | zero =>
    intro listed a w hg hl
    refine hend _ _ _ _ hg fun i hi => ?_
    cases hii : listed.getD i true with
    | true => rfl
    | false =>
      have := left_set (listed := listed) hi hg.size hii
      omega
  | succ fuel ih =>
    intro listed a w hg hl
    by_cases hall : ∀ i, i < ops.size → listed.getD i true = true
    · exact hend _ _ _ _ hg hall
    obtain ⟨i0, hi0, hf0⟩ : ∃ i, i < ops.size ∧ listed.getD i true = false := by
      refine Classical.byContradiction fun hc => hall fun i hi => ?_
      cases hii : listed.getD i true with
      | true => rfl
      | false => exact absurd ⟨i, hi, hii⟩ hc
    refine ⟨fun hr => ?_, fun i hi => ?_⟩
    · exfalso
      have hex : ∃ i, i < ops.size ∧ listed.getD i true = false ∧ ∀ j, j < i → listed.getD j true = true := by
        have : ∀ n, (∃ i, i < n ∧ listed.getD i true = false) → ∃ i, i < n ∧ listed.getD i true = false ∧ ∀ j, j < i → listed.getD j true = true := by
          intro n
          induction n with
          | zero => rintro ⟨i, hi, _⟩; omega
          | succ n ihn =>
            rintro ⟨i, hi, hf⟩
            by_cases hx : ∃ i, i < n ∧ listed.getD i true = false
            · obtain ⟨i, h1, h2⟩ := ihn hx
              exact ⟨i, by omega, h2⟩
            · have hin : i = n := by
                rcases Nat.lt_or_ge i n with h | h
                · exact absurd ⟨i, h, hf⟩ hx
                · omega
              subst hin
              refine ⟨i, hi, hf, fun j hj => ?_⟩
              cases hjj : listed.getD j true with
              | true => rfl
              | false => exact absurd ⟨j, hj, hjj⟩ hx
        exact this _ ⟨i0, hi0, hf0⟩
      obtain ⟨i, hi, hf, hb⟩ := hex
      have : i ∈ Region.ready .any ops listed := by
        rw [mem_ready]
        refine ⟨hf, ops[i], Array.getElem?_eq_getElem hi, fun e he hbd => ?_⟩
        have h2 := hback' i _ (Array.getElem?_eq_getElem hi) e he hbd
        rw [← getD_false_of (by have := hg.size; omega) true]
        exact hb _ h2
      rw [hr] at this
      simp at this
    · have hi' := hi
      rw [mem_ready] at hi
      obtain ⟨hf, o, ho, hed⟩ := hi
      have hlt : i < ops.size := (Array.getElem?_eq_some_iff.1 ho).1
      have hcnt := left_set hlt hg.size hf
      have hsz' : (listed.setIfInBounds i true).size = ops.size := by simp [hg.size]
      have hdone : ∀ j, waitsFor ops i j = true → listed.getD j false = true := by
        intro j hj
        simp only [waitsFor, ho, Option.map_some, Option.getD_some, List.any_eq_true, Bool.and_eq_true, beq_iff_eq] at hj
        obtain ⟨e, he, h1, h2⟩ := hj
        rw [← h1]
        exact hed e (by simpa using he) h2
      rcases Nat.lt_or_ge i ds.length with hil | hil
      · obtain ⟨d, hdd⟩ : ∃ d, ds[i]? = some d := ⟨ds[i], List.getElem?_eq_getElem hil⟩
        have hd : o.dst = d := by
          have h1 := hdst i hil
          rw [ho, hdd] at h1
          simpa using h1
        have hst := step i o d a w ho hdd hg.ext (fun t ht => by rw [hg.rest t (fun j _ e => ht (List.mem_of_getElem? e))]) (fun j dj hj hdj => hg.done j dj hdj (hdone j hj))
        have hw : Region.wanted o (yielded ops a.tmps) = true := by
          cases hgo : o.guard with
          | none => simp [Region.wanted, hgo]
          | some g =>
            have h1 := hgd i hil
            rw [ho] at h1
            simp only [Option.map_some, Option.getD_some, hgo, Bool.and_eq_true, decide_eq_true_eq] at h1
            obtain ⟨⟨h2, h3⟩, h4⟩ := h1
            obtain ⟨dg, hdg⟩ : ∃ dg, ds[g.1]? = some dg := ⟨ds[g.1], List.getElem?_eq_getElem h3⟩
            rw [hdg] at h4
            cases dg with
            | none => simp at h4
            | some t =>
              obtain ⟨Wg, _, hR⟩ := hg.done g.1 _ hdg (hdone _ h2)
              have hv := hst.1 g hgo _ _ hR
              simp only [valY] at hv
              have htl : t < a.tmps.size := by rw [hg.tsize]; exact hdin _ _ hdg
              have hog : ((ops[g.1]?).bind (·.dst)) = some t := by
                have h5 := hdst g.1 h3
                rw [hdg] at h5
                cases hop : ops[g.1]? with
                | none => simp [hop] at h5
                | some og => simp only [hop, Option.map_some, Option.getD_some, beq_iff_eq, Option.some.injEq] at h5; simp [h5]
              obtain ⟨gj, gw⟩ := g
              rw [Array.getElem?_eq_getElem htl, Option.getD_some] at hv
              simp only at hog hv
              simp only [Region.wanted, hgo, yielded, hog, Option.bind_some, Array.getElem?_eq_getElem htl, hv]
              simp
        have hwatch : ∀ j i', (listed.setIfInBounds i true).getD j false = true → ds[j]? = some none → ds[i']? = some (some (wt j)) → (listed.setIfInBounds i true).getD i' false = true := by
          intro j i' h1 h2 h3
          have h4 : listed.getD i' false = true := by
            by_cases hij : i = j
            · subst hij; exact hdone _ (hwt _ _ h2 h3)
            · rw [getD_set_ne false hij] at h1
              exact hg.watch j i' h1 h2 h3
          by_cases hii : i = i'
          · subst hii; simp [show i < listed.size by have := hg.size; omega]
          · rw [getD_set_ne false hii]; exact h4
        have hkeep : ∀ (v : Value) (j : Nat) (dj : Option Tmp), i ≠ j → ds[j]? = some dj → listed.getD j false = true → valY wt (a.put d v) j dj = valY wt a j dj := by
          intro v j dj hij hdj hj
          cases d with
          | none => rfl
          | some d =>
            cases dj with
            | some dj =>
              have hne : d ≠ dj := fun e => hij (hnd' i j d hdd (by rw [hdj, e]))
              simp [valY, Act.put, Array.getElem?_setIfInBounds_ne hne]
            | none =>
              have hne : d ≠ wt j := by
                intro e
                subst e
                have h1 := hg.watch j i hj hdj hdd
                rw [getD_false_of (by have := hg.size; omega) true] at hf
                rw [hf] at h1
                simp at h1
              simp [valY, Act.put, Array.getElem?_setIfInBounds_ne hne]
        simp only [wpOp, ho, hw, if_true]
        refine .inl (hst.2 _ (fun v W' hdn hE hR => ?_) (fun hdn W' hE hR => ?_))
        · refine ih _ _ _ ⟨hsz', fun k hk hk2 => ?_, xt _ _ _ hg.ext hE, ?_, ?_, fun t ht => ?_, hwatch, fun j dj hdj hj => ?_⟩ (by omega)
          · rw [getD_set_ne true (by omega)]; exact hg.last k hk hk2
          · cases d <;> exact hg.defers
          · cases d <;> simp [Act.put, hg.tsize]
          · have h2 : (a.put d v).tmps[t]? = a.tmps[t]? := by
              cases d with
              | none => rfl
              | some d =>
                have htd : t ≠ d := fun e => by
                  refine ht i ?_ (by rw [e]; exact hdd)
                  simp [show i < listed.size by have := hg.size; omega]
                simp [Act.put, Array.getElem?_setIfInBounds_ne (Ne.symm htd)]
            rw [h2]
            refine hg.rest t fun j hj => ht j ?_
            by_cases hij : i = j
            · subst hij; simp [show i < listed.size by have := hg.size; omega]
            · rw [getD_set_ne false hij]; exact hj
          · by_cases hij : i = j
            · subst hij
              obtain rfl : d = dj := Option.some.inj (hdd.symm.trans hdj)
              cases d with
              | none => exact absurd rfl hdn
              | some d =>
                refine ⟨W', xr _, ?_⟩
                have hdl : d < a.tmps.size := by rw [hg.tsize]; exact hdin _ _ hdd
                have : valY wt (a.put (some d) v) i (some d) = v := by simp [valY, Act.put, hdl]
                rw [this]; exact hR
            · rw [getD_set_ne false hij] at hj
              obtain ⟨Wj, h3, h4⟩ := hg.done j dj hdj hj
              refine ⟨Wj, xt _ _ _ h3 hE, ?_⟩
              rw [hkeep v j dj hij hdj hj]; exact h4
        · subst hdn
          refine ih _ _ _ ⟨hsz', fun k hk hk2 => ?_, xt _ _ _ hg.ext hE, hg.defers, hg.tsize, fun t ht => ?_, hwatch, fun j dj hdj hj => ?_⟩ (by omega)
          · rw [getD_set_ne true (by omega)]; exact hg.last k hk hk2
          · refine hg.rest t fun j hj => ht j ?_
            by_cases hij : i = j
            · subst hij; simp [show i < listed.size by have := hg.size; omega]
            · rw [getD_set_ne false hij]; exact hj
          · by_cases hij : i = j
            · subst hij
              obtain rfl : none = dj := Option.some.inj (hdd.symm.trans hdj)
              exact ⟨W', xr _, hR⟩
            · rw [getD_set_ne false hij] at hj
              obtain ⟨Wj, h3, h4⟩ := hg.done j dj hdj hj
              exact ⟨Wj, xt _ _ _ h3 hE, h4⟩
      · omega
/-- An obligation an operation, in the text's order; then the last operations. -/
def stepsZ (P : Program) (ops : Array Oper) (Q : Exit → Act → World → Prop) (X : World → World → Prop) (wt : Nat → Tmp) (ds0 : List (Option Tmp)) (a0 : Act) (w1 : World) (R : Nat → Value → World → Prop) : Nat → List Oper → List (Option Tmp) → Prop
  | k, o :: os, some d :: ds => ((∀ g, o.guard = some g → ∀ v W, R g.1 v W → v = .bool g.2) ∧ ∀ (b : Act) (W : World), X w1 W → (∀ t, some t ∉ ds0 → b.tmps[t]?.getD undef = a0.tmps[t]?.getD undef) →
      (∀ j dj, waitsFor ops k j = true → ds0[j]? = some dj → ∃ Wj, X Wj W ∧ R j (valY wt b j dj) Wj) →
      ∀ K : Act → World → Prop, (∀ v W', X W W' → R k v W' → K (b.put (some d) v) W') → o.wp P b W K Q) ∧ stepsZ P ops Q X wt ds0 a0 w1 R (k + 1) os ds
  | k, o :: os, none :: ds => ((∀ g, o.guard = some g → ∀ v W, R g.1 v W → v = .bool g.2) ∧ ∀ (b : Act) (W : World), X w1 W → (∀ t, some t ∉ ds0 → b.tmps[t]?.getD undef = a0.tmps[t]?.getD undef) →
      (∀ j dj, waitsFor ops k j = true → ds0[j]? = some dj → ∃ Wj, X Wj W ∧ R j (valY wt b j dj) Wj) →
      ∀ K : Act → World → Prop, (∀ W', X W W' → R k (b.tmps[wt k]?.getD undef) W' → K b W') → o.wp P b W K Q) ∧ stepsZ P ops Q X wt ds0 a0 w1 R (k + 1) os ds
  | _, _, [] => ∀ (f : Tmp → Value) (W : World), X w1 W → (∀ j d, ds0[j]? = some d → ∃ Wj, X Wj W ∧ R j (valYF wt f j d) Wj) → Q .normal (puts f (ds0.filterMap id) a0) W
  | _, [], _ :: _ => True

theorem stepsZ_get {X : World → World → Prop} {wt : Nat → Tmp} {ds0 : List (Option Tmp)} {a0 : Act} {w1 : World} {R : Nat → Value → World → Prop} : ∀ (os : List Oper) (ds : List (Option Tmp)) (k i : Nat), stepsZ P ops Q X wt ds0 a0 w1 R k os ds → ∀ (o : Oper) (d : Option Tmp), os[i]? = some o → ds[i]? = some d →
    (∀ g, o.guard = some g → ∀ v W, R g.1 v W → v = .bool g.2) ∧ (∀ (b : Act) (W : World), X w1 W → (∀ t, some t ∉ ds0 → b.tmps[t]?.getD undef = a0.tmps[t]?.getD undef) →
      (∀ j dj, waitsFor ops (k + i) j = true → ds0[j]? = some dj → ∃ Wj, X Wj W ∧ R j (valY wt b j dj) Wj) →
      ∀ K : Act → World → Prop, (∀ v W', d ≠ none → X W W' → R (k + i) v W' → K (b.put d v) W') → (d = none → ∀ W', X W W' → R (k + i) (b.tmps[wt (k + i)]?.getD undef) W' → K b W') → o.wp P b W K Q)
  | [], _, _, _, _, _, _, h, _ => by simp at h
  | _ :: _, [], _, _, _, _, _, _, h => by simp at h
  | o' :: os, some d' :: ds, k, 0, h, o, d, ho, hd => by
    simp at ho hd; subst ho; subst hd
    exact ⟨h.1.1, fun b W h1 h2 h3 K hK _ => h.1.2 b W h1 h2 h3 K (fun v W' e r => hK v W' (by simp) e r)⟩
  | o' :: os, none :: ds, k, 0, h, o, d, ho, hd => by
    simp at ho hd; subst ho; subst hd
    exact ⟨h.1.1, fun b W h1 h2 h3 K _ hK => h.1.2 b W h1 h2 h3 K (fun W' e r => hK rfl W' e r)⟩
  | o' :: os, some d' :: ds, k, i + 1, h, o, d, ho, hd => by
    have := stepsZ_get os ds (k + 1) i h.2 o d (by simpa using ho) (by simpa using hd)
    rw [show k + 1 + i = k + (i + 1) by omega] at this
    exact this
  | o' :: os, none :: ds, k, i + 1, h, o, d, ho, hd => by
    have := stepsZ_get os ds (k + 1) i h.2 o d (by simpa using ho) (by simpa using hd)
    rw [show k + 1 + i = k + (i + 1) by omega] at this
    exact this

theorem stepsZ_last {X : World → World → Prop} {wt : Nat → Tmp} {ds0 : List (Option Tmp)} {a0 : Act} {w1 : World} {R : Nat → Value → World → Prop} : ∀ (os : List Oper) (ds : List (Option Tmp)) (k : Nat), stepsZ P ops Q X wt ds0 a0 w1 R k os ds → ds.length = os.length →
    ∀ (f : Tmp → Value) (W : World), X w1 W → (∀ j d, ds0[j]? = some d → ∃ Wj, X Wj W ∧ R j (valYF wt f j d) Wj) → Q .normal (puts f (ds0.filterMap id) a0) W
  | [], [], _, h, _ => h
  | [], _ :: _, _, _, hl => by simp at hl
  | _ :: _, [], _, _, hl => by simp at hl
  | _ :: os, some _ :: ds, k, h, hl => stepsZ_last os ds (k + 1) h.2 (by simpa using hl)
  | _ :: os, none :: ds, k, h, hl => stepsZ_last os ds (k + 1) h.2 (by simpa using hl)

/-- THE LAW, WIDER. -/
theorem wp_drawz {id : Nat} {a0 : Act} {w0 : World} {os : List Oper} (hm : P.follows .mixedOrders = true) (X : World → World → Prop) (wt : Nat → Tmp) (xr : ∀ W, X W W) (xt : ∀ a b c, X a b → X b c → X a c) (ds : List (Option Tmp)) (hs : Region.shapedZ os.toArray ds a0.tmps.size = true)
    (hwt : (List.range ds.length).all (fun j => (List.range ds.length).all fun i => ds[j]? != some none || ds[i]? != some (some (wt j)) || waitsFor os.toArray j i) = true) (R : Nat → Value → World → Prop)
    (step : stepsZ P os.toArray Q X wt ds a0 w0.drew R 0 os ds) : (Code.region id os.toArray true).wp P Q a0 w0 := by
  have hlt : ds.length = os.length := by
    simp only [Region.shapedZ, Bool.and_eq_true, decide_eq_true_eq] at hs
    simpa using hs.1.1.1.1.1
  refine wp_region_any hm (wpAny_drawz X wt xr xt ds R a0 w0.drew hs (fun j i h1 h2 => ?_) (fun k o d b W ho hd hE hb hdep => ?_) (fun f W hE hR => ?_) _ _ _ _ ⟨by simp, fun k _ hk => by simp at hk; simp [Array.getElem?_replicate, hk], xr _, rfl, rfl, fun _ _ => rfl, fun j i hj _ _ => ?_, fun j d hd hj => ?_⟩ ?_)
  · simp only [List.all_eq_true, List.mem_range, Bool.or_eq_true, bne_iff_ne, ne_eq] at hwt
    have h3 := hwt j (List.getElem?_eq_some_iff.1 h1).1 i (List.getElem?_eq_some_iff.1 h2).1
    rcases h3 with (h3 | h3) | h3
    · exact absurd h1 h3
    · exact absurd h2 h3
    · exact h3
  · have h := stepsZ_get (ops := os.toArray) os ds 0 k step o d (by simpa using ho) hd
    refine ⟨fun g hg v W' hR => h.1 g hg v W' hR, fun K hK hK2 => h.2 b W hE hb (fun j dj h1 h2 => hdep j dj (by simpa using h1) h2) K (fun v W' hn e r => hK v W' hn e (by simpa using r)) (fun hn W' e r => hK2 hn W' e (by simpa using r))⟩
  · have := stepsZ_last (ops := os.toArray) os ds 0 step hlt f W hE (fun j d hd => hR j d hd)
    simpa using this
  · exfalso
    rw [Array.getD_eq_getD_getElem?, Array.getElem?_replicate] at hj
    split at hj <;> simp at hj
  · exfalso
    rw [Array.getD_eq_getD_getElem?, Array.getElem?_replicate] at hj
    split at hj <;> simp at hj
  · exact Nat.le_trans List.countP_le_length (by simp)
end
end Go.Proofs.Ytafdcbdbllpcnaa
