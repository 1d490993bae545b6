/- The wider law where the last operations wait for the others by way of others. Over every program. -/
import Derived.Test.YtafdcbdbllpcnaaPart
import Derived.Test.YtafdcbdbllpcnaaLeafJ
import Derived.Test.YtafdcbdbllpcnaaLeafH
set_option linter.unusedVariables false
set_option linter.unusedSimpArgs false
namespace Go.Proofs.Ytafdcbdbllpcnaa
open Go.RowKit

/-- Does operation k wait for operation j, by way of others? -/
def reaches (ops : Array Oper) : Nat → Nat → Nat → Bool
  | 0, _, _ => false
  | n + 1, k, j => waitsFor ops k j || (List.range ops.size).any fun m => waitsFor ops k m && reaches ops n m j

def Region.shapedR (ops : Array Oper) (ds : List (Option Tmp)) (size : Nat) : Bool :=
  decide (ds.length < ops.size) &&
  (List.range ds.length).all (fun i => (List.range ds.length).all fun j => i == j || ds[i]? != ds[j]? || ds[i]? == some none) &&
  (List.range ds.length).all (fun j => ((ops[j]?).map fun o => some o.dst == ds[j]?).getD false) &&
  (List.range ds.length).all (fun j => ((ds[j]?).map fun d => (d.map fun t => decide (t < size)).getD true).getD false) &&
  (List.range ops.size).all (fun k => ((ops[k]?).map fun o => o.after.all fun e => !Region.binds .any e || decide (e.on < k)).getD false) &&
  (List.range ops.size).all (fun k => decide (k < ds.length) || (List.range k).all fun j => decide (j < ds.length) || waitsFor ops k j) &&
  (List.range ds.length).all (fun j => reaches ops ops.size ds.length j) &&
  (List.range ds.length).all (fun k => ((ops[k]?).map fun o => (o.guard.map fun g => waitsFor ops k g.1 && decide (g.1 < ds.length) && ((ds[g.1]?).map fun d => d.isSome).getD false).getD true).getD false)

section
variable {P : Program} {ops : Array Oper} {Q : Exit → Act → World → Prop}

/-- The last operations, in their one order. -/
theorem wpAny_chainR : ∀ (r fuel i : Nat) (listed : Array Bool) (a : Act) (w : World), i + r = ops.size → listed.size = ops.size → (∀ j, j < i → listed.getD j true = true) → (∀ j, i ≤ j → j < ops.size → listed.getD j true = false) →
    (∀ k j, i ≤ k → i ≤ j → j < k → k < ops.size → waitsFor ops k j = true) → (∀ (k : Nat) (o : Oper), ops[k]? = some o → ∀ e ∈ o.after, Region.binds .any e = true → Edge.on e < k) → r ≤ fuel → wpList P ops Q (ops.toList.drop i) a w → wpAny P .any ops Q fuel listed a w
  | 0, fuel, i, listed, a, w, hi, hs, h1, _, _, _, _, h => by
    rw [List.drop_of_length_le (by simp; omega)] at h
    exact wpAny_end hs (fun j hj => h1 j (by omega)) fuel h
  | r + 1, 0, _, _, _, _, _, _, _, _, _, _, hf, _ => by omega
  | r + 1, fuel + 1, i, listed, a, w, hi, hs, h1, h2, hw, hb, hf, h => by
    have hlt : i < ops.size := by omega
    have hready : ∀ k, k ∈ Region.ready .any ops listed ↔ k = i := by
      intro k
      rw [mem_ready]
      constructor
      · rintro ⟨hk, o, ho, hed⟩
        have hk2 : k < ops.size := (Array.getElem?_eq_some_iff.1 ho).1
        rcases Nat.lt_trichotomy k i with hki | hki | hki
        · rw [h1 k hki] at hk; simp at hk
        · exact hki
        · have := hw k i (by omega) (Nat.le_refl _) hki hk2
          simp only [waitsFor, ho, Option.map_some, Option.getD_some, List.any_eq_true, Bool.and_eq_true, beq_iff_eq] at this
          obtain ⟨e, he, e1, e2⟩ := this
          have h3 := hed e (by simpa using he) e2
          rw [e1, ← getD_false_of (by omega) true, h2 i (Nat.le_refl _) hlt] at h3
          simp at h3
      · rintro rfl
        refine ⟨h2 k (Nat.le_refl _) hlt, ops[k], Array.getElem?_eq_getElem hlt, fun e he hbd => ?_⟩
        have := hb k _ (Array.getElem?_eq_getElem hlt) e he hbd
        rw [← getD_false_of (by omega) true]
        exact h1 _ this
    have hdrop : ops.toList.drop i = ops[i] :: ops.toList.drop (i + 1) := by
      rw [List.drop_eq_getElem_cons (by simpa using hlt)]; simp
    rw [hdrop] at h
    have hnext : ∀ a' w', wpList P ops Q (ops.toList.drop (i + 1)) a' w' → wpAny P .any ops Q fuel (listed.setIfInBounds i true) a' w' := fun a' w' h' =>
      wpAny_chainR r fuel (i + 1) _ a' w' (by omega) (by simpa using hs) (fun j hj => by
        by_cases hij : i = j
        · subst hij; simp [show i < listed.size by omega]
        · rw [getD_set_ne true hij]; exact h1 j (by omega)) (fun j hj hj2 => by rw [getD_set_ne true (by omega)]; exact h2 j (by omega) hj2) (fun k j hk hj => hw k j (by omega) (by omega)) hb (by omega) h'
    refine ⟨fun hr => ?_, fun k hk => ?_⟩
    · have := (hready i).2 rfl
      rw [hr] at this; simp at this
    · obtain rfl := (hready k).1 hk
      unfold wpList at h
      simp only [wpOp, Array.getElem?_eq_getElem hlt]
      split at h
      · rename_i hwn; rw [if_pos hwn]; exact h.imp (Oper.wp_mono hnext) id
      · rename_i hwn; rw [if_neg hwn]; exact hnext _ _ h

structure GoodR (ops : Array Oper) (fin : List (Nat × Array Value)) (ds : List (Option Tmp)) (R : Nat → Value → World → Prop) (a0 : Act) (w0 : World) (listed : Array Bool) (a : Act) (w : World) (n : Nat) : Prop where
  size : listed.size = n
  last : ∀ k, ds.length ≤ k → k < n → listed.getD k true = false
  ext : XT fin w0 w
  defers : a.defers = a0.defers
  tsize : a.tmps.size = a0.tmps.size
  rest : ∀ t, (∀ j, listed.getD j false = true → ds[j]? ≠ some (some t)) → a.tmps[t]? = a0.tmps[t]?
  closed : ∀ k j, listed.getD k false = true → waitsFor ops k j = true → listed.getD j false = true
  done : ∀ j d, ds[j]? = some d → listed.getD j false = true → ∃ W, XT fin W w ∧ R j (valOf a d) W

theorem wpAny_drawsR (fin : List (Nat × Array Value)) (ds : List (Option Tmp)) (R : Nat → Value → World → Prop) (a0 : Act) (w0 : World) (hs : Region.shapedR ops ds a0.tmps.size = true)
    (step : ∀ (k : Nat) (o : Oper) (d : Option Tmp) (b : Act) (W : World), ops[k]? = some o → ds[k]? = some d → XT fin w0 W → (∀ t, some t ∉ ds → b.tmps[t]?.getD undef = a0.tmps[t]?.getD undef) →
      (∀ j dj, waitsFor ops k j = true → ds[j]? = some dj → ∃ Wj, XT fin Wj W ∧ R j (valOf b dj) Wj) →
      (∀ g, o.guard = some g → ∀ v W, R g.1 v W → v = .bool g.2) ∧
      ∀ K : Act → World → Prop, (∀ v W', XT fin W W' → R k v W' → K (b.put d v) W') → (d = none → ∀ W', XT fin W W' → R k undef W' → K b W') → o.wp P b W K Q)
    (last : ∀ (f : Tmp → Value) (W : World), XT fin w0 W → (∀ j d, ds[j]? = some d → ∃ Wj, XT fin Wj W ∧ R j (valF f d) Wj) →
      wpList P ops Q (ops.toList.drop ds.length) (puts f (ds.filterMap id) a0) W)
    (hnone : ∀ (j : Nat) (v : Value) (W : World), ds[j]? = some none → R j v W → R j undef W) :
    ∀ (fuel : Nat) (listed : Array Bool) (a : Act) (w : World), GoodR ops fin ds R a0 w0 listed a w ops.size → left ops.size listed ≤ fuel → wpAny P .any ops Q fuel listed a w := by
  simp only [Region.shapedR, Bool.and_eq_true, decide_eq_true_eq, List.all_eq_true, List.mem_range] at hs
  obtain ⟨⟨⟨⟨⟨⟨⟨hm, hnd⟩, hdst⟩, hin⟩, hback⟩, hwait⟩, hreach⟩, hgd⟩ := hs
  have hback' : ∀ (k : Nat) (o : Oper), ops[k]? = some o → ∀ e ∈ o.after, Region.binds .any e = true → Edge.on e < k := by
    intro k o ho e he hbd
    have h1 := hback k (Array.getElem?_eq_some_iff.1 ho).1
    rw [ho] at h1
    simp only [Option.map_some, Option.getD_some, Array.all_eq_true_iff_forall_mem, Bool.or_eq_true, Bool.not_eq_true', decide_eq_true_eq] at h1
    exact (h1 e he).resolve_left (by rw [hbd]; simp)
  have hwait' : ∀ k j, ds.length ≤ k → ds.length ≤ j → j < k → k < ops.size → waitsFor ops k j = true := by
    intro k j hk hjl hj hk2
    have h1 := hwait k hk2
    rw [Bool.or_eq_true, decide_eq_true_eq] at h1
    have h2 := h1.resolve_left (by omega)
    rw [List.all_eq_true] at h2
    have h3 := h2 j (List.mem_range.2 hj)
    rw [Bool.or_eq_true, decide_eq_true_eq] at h3
    exact h3.resolve_left (by omega)
  have hdin : ∀ (j : Nat) (d : Tmp), ds[j]? = some (some d) → d < a0.tmps.size := by
    intro j d hj
    have h1 := hin j (List.getElem?_eq_some_iff.1 hj).1
    rw [hj] at h1
    simpa using h1
  have hnd' : ∀ (i j : Nat) (d : Tmp), ds[i]? = some (some d) → ds[j]? = some (some d) → i = j := by
    intro i j d hi hj
    have h1 := hnd i (List.getElem?_eq_some_iff.1 hi).1 j (List.getElem?_eq_some_iff.1 hj).1
    rw [hi, hj] at h1
    simpa using h1
  intro fuel
  induction fuel with
  | zero =>
    intro listed a w hg hl
    exfalso
    have := left_set (listed := listed) hm hg.size (hg.last _ (Nat.le_refl _) hm)
    omega
  | succ fuel ih =>
    intro listed a w hg hl
    refine ⟨fun hr => ?_, fun i hi => ?_⟩
    · exfalso
      have hex : ∃ i, i < ops.size ∧ listed.getD i true = false ∧ ∀ j, j < i → listed.getD j true = true := by
        have : ∀ n, (∃ i, i < n ∧ listed.getD i true = false) → ∃ i, i < n ∧ listed.getD i true = false ∧ ∀ j, j < i → listed.getD j true = true := by
          intro n
          induction n with
          | zero => rintro ⟨i, hi, _⟩; omega
          | succ n ihn =>
            rintro ⟨i, hi, hf⟩
            by_cases hx : ∃ i, i < n ∧ listed.getD i true = false
            · obtain ⟨i, h1, h2⟩ := ihn hx
              exact ⟨i, by omega, h2⟩
            · have hin : i = n := by
                rcases Nat.lt_or_ge i n with h | h
                · exact absurd ⟨i, h, hf⟩ hx
                · omega
              subst hin
              refine ⟨i, hi, hf, fun j hj => ?_⟩
              cases hjj : listed.getD j true with
              | true => rfl
              | false => exact absurd ⟨j, hj, hjj⟩ hx
        exact this _ ⟨ds.length, hm, hg.last _ (Nat.le_refl _) hm⟩
      obtain ⟨i, hi, hf, hb⟩ := hex
      have : i ∈ Region.ready .any ops listed := by
        rw [mem_ready]
        refine ⟨hf, ops[i], Array.getElem?_eq_getElem hi, fun e he hbd => ?_⟩
        have h2 := hback' i _ (Array.getElem?_eq_getElem hi) e he hbd
        rw [← getD_false_of (by have := hg.size; omega) true]
        exact hb _ h2
      rw [hr] at this
      simp at this
    · have hi' := hi
      rw [mem_ready] at hi
      obtain ⟨hf, o, ho, hed⟩ := hi
      have hlt : i < ops.size := (Array.getElem?_eq_some_iff.1 ho).1
      have hcnt := left_set hlt hg.size hf
      have hsz' : (listed.setIfInBounds i true).size = ops.size := by simp [hg.size]
      have hdone : ∀ j, waitsFor ops i j = true → listed.getD j false = true := by
        intro j hj
        simp only [waitsFor, ho, Option.map_some, Option.getD_some, List.any_eq_true, Bool.and_eq_true, beq_iff_eq] at hj
        obtain ⟨e, he, h1, h2⟩ := hj
        rw [← h1]
        exact hed e (by simpa using he) h2
      have hcl : ∀ k j, (listed.setIfInBounds i true).getD k false = true → waitsFor ops k j = true → (listed.setIfInBounds i true).getD j false = true := by
        intro k j hk hw
        have hj : listed.getD j false = true := by
          by_cases hik : i = k
          · subst hik; exact hdone j hw
          · rw [getD_set_ne false hik] at hk; exact hg.closed k j hk hw
        by_cases hij : i = j
        · subst hij; simp [show i < listed.size by have := hg.size; omega]
        · rw [getD_set_ne false hij]; exact hj
      rcases Nat.lt_or_ge i ds.length with hil | hil
      · obtain ⟨d, hdd⟩ : ∃ d, ds[i]? = some d := ⟨ds[i], List.getElem?_eq_getElem hil⟩
        have hd : o.dst = d := by
          have h1 := hdst i hil
          rw [ho, hdd] at h1
          simpa using h1
        have hst := step i o d a w ho hdd hg.ext (fun t ht => by rw [hg.rest t (fun j _ e => ht (List.mem_of_getElem? e))]) (fun j dj hj hdj => hg.done j dj hdj (hdone j hj))
        have hw : Region.wanted o (yielded ops a.tmps) = true := by
          cases hgo : o.guard with
          | none => simp [Region.wanted, hgo]
          | some g =>
            have h1 := hgd i hil
            rw [ho] at h1
            simp only [Option.map_some, Option.getD_some, hgo, Bool.and_eq_true, decide_eq_true_eq] at h1
            obtain ⟨⟨h2, h3⟩, h4⟩ := h1
            obtain ⟨dg, hdg⟩ : ∃ dg, ds[g.1]? = some dg := ⟨ds[g.1], List.getElem?_eq_getElem h3⟩
            rw [hdg] at h4
            cases dg with
            | none => simp at h4
            | some t =>
              obtain ⟨Wg, _, hR⟩ := hg.done g.1 _ hdg (hdone _ h2)
              have hv := hst.1 g hgo _ _ hR
              simp only [valOf] at hv
              have htl : t < a.tmps.size := by rw [hg.tsize]; exact hdin _ _ hdg
              have hog : ((ops[g.1]?).bind (·.dst)) = some t := by
                have h5 := hdst g.1 h3
                rw [hdg] at h5
                cases hop : ops[g.1]? with
                | none => simp [hop] at h5
                | some og => simp only [hop, Option.map_some, Option.getD_some, beq_iff_eq, Option.some.injEq] at h5; simp [h5]
              obtain ⟨gj, gw⟩ := g
              rw [Array.getElem?_eq_getElem htl, Option.getD_some] at hv
              simp only at hog hv
              simp only [Region.wanted, hgo, yielded, hog, Option.bind_some, Array.getElem?_eq_getElem htl, hv]
              simp
        simp only [wpOp, ho, hw, if_true]
        refine .inl (hst.2 _ (fun v W' hE hR => ?_) (fun hdn W' hE hR => ?_))
        · refine ih _ _ _ ⟨hsz', fun k hk hk2 => ?_, hg.ext.trans hE, ?_, ?_, fun t ht => ?_, hcl, fun j dj hdj hj => ?_⟩ (by omega)
          · rw [getD_set_ne true (by omega)]; exact hg.last k hk hk2
          · cases d <;> exact hg.defers
          · cases d <;> simp [Act.put, hg.tsize]
          · have h2 : (a.put d v).tmps[t]? = a.tmps[t]? := by
              cases d with
              | none => rfl
              | some d =>
                have htd : t ≠ d := fun e => by
                  refine ht i ?_ (by rw [e]; exact hdd)
                  simp [show i < listed.size by have := hg.size; omega]
                simp [Act.put, Array.getElem?_setIfInBounds_ne (Ne.symm htd)]
            rw [h2]
            refine hg.rest t fun j hj => ht j ?_
            by_cases hij : i = j
            · subst hij; simp [show i < listed.size by have := hg.size; omega]
            · rw [getD_set_ne false hij]; exact hj
          · by_cases hij : i = j
            · subst hij
              obtain rfl : d = dj := Option.some.inj (hdd.symm.trans hdj)
              cases d with
              | none => exact ⟨W', XT.refl _ _, hnone i v W' hdd hR⟩
              | some d =>
                refine ⟨W', XT.refl _ _, ?_⟩
                have hdl : d < a.tmps.size := by rw [hg.tsize]; exact hdin _ _ hdd
                have : valOf (a.put (some d) v) (some d) = v := by simp [valOf, Act.put, hdl]
                rw [this]; exact hR
            · rw [getD_set_ne false hij] at hj
              obtain ⟨Wj, h3, h4⟩ := hg.done j dj hdj hj
              refine ⟨Wj, h3.trans hE, ?_⟩
              have : valOf (a.put d v) dj = valOf a dj := by
                cases dj with
                | none => rfl
                | some dj =>
                  cases d with
                  | none => rfl
                  | some d =>
                    have hne : d ≠ dj := fun e => hij (hnd' i j d hdd (by rw [hdj, e]))
                    simp [valOf, Act.put, Array.getElem?_setIfInBounds_ne hne]
              rw [this]; exact h4
        · subst hdn
          refine ih _ _ _ ⟨hsz', fun k hk hk2 => ?_, hg.ext.trans hE, hg.defers, hg.tsize, fun t ht => ?_, hcl, fun j dj hdj hj => ?_⟩ (by omega)
          · rw [getD_set_ne true (by omega)]; exact hg.last k hk hk2
          · refine hg.rest t fun j hj => ht j ?_
            by_cases hij : i = j
            · subst hij; simp [show i < listed.size by have := hg.size; omega]
            · rw [getD_set_ne false hij]; exact hj
          · by_cases hij : i = j
            · subst hij
              obtain rfl : none = dj := Option.some.inj (hdd.symm.trans hdj)
              exact ⟨W', XT.refl _ _, hR⟩
            · rw [getD_set_ne false hij] at hj
              obtain ⟨Wj, h3, h4⟩ := hg.done j dj hdj hj
              exact ⟨Wj, h3.trans hE, h4⟩
      · obtain rfl : i = ds.length := by
          rcases Nat.eq_or_lt_of_le hil with h | h
          · exact h.symm
          · have := hdone ds.length (hwait' i ds.length hil (Nat.le_refl _) h hlt)
            rw [← getD_false_of (by have := hg.size; omega) true, hg.last _ (Nat.le_refl _) hm] at this
            simp at this
        have hall : ∀ j, j < ds.length → listed.getD j true = true := fun j hj => by
          rw [getD_false_of (by have := hg.size; omega)]
          have h1 := hreach j hj
          have key : ∀ (n k : Nat), (∀ m, waitsFor ops k m = true → listed.getD m false = true) → reaches ops n k j = true → listed.getD j false = true := by
            intro n
            induction n with
            | zero => intro k hk h; simp [reaches] at h
            | succ n ihn =>
              intro k hk h
              simp only [reaches, Bool.or_eq_true, List.any_eq_true, List.mem_range, Bool.and_eq_true] at h
              rcases h with h | ⟨m, _, h2, h3⟩
              · exact hk j h
              · exact ihn m (fun q hq => hg.closed m q (hk m h2) hq) h3
          exact key _ _ hdone h1
        have ha : puts (fun t => a.tmps[t]?.getD undef) (ds.filterMap id) a0 = a := by
          obtain ⟨p1, p2, p3⟩ := puts_spec (fun t => a.tmps[t]?.getD undef) (ds.filterMap id) a0
          have e1 : (puts (fun t => a.tmps[t]?.getD undef) (ds.filterMap id) a0).tmps = a.tmps := by
            apply Array.ext_getElem?
            intro t
            by_cases ht : t < a0.tmps.size
            · rw [p3 t ht]
              by_cases hmm : t ∈ ds.filterMap id
              · rw [if_pos hmm, Array.getElem?_eq_getElem (by rw [hg.tsize]; exact ht)]
                simp
              · rw [if_neg hmm]
                exact (hg.rest t fun j _ e => hmm (List.mem_filterMap.2 ⟨some t, List.mem_of_getElem? e, rfl⟩)).symm
            · rw [Array.getElem?_eq_none (by omega), Array.getElem?_eq_none (by rw [hg.tsize]; omega)]
          have e2 : (puts (fun t => a.tmps[t]?.getD undef) (ds.filterMap id) a0).defers = a.defers := by rw [p1, hg.defers]
          cases hp : puts (fun t => a.tmps[t]?.getD undef) (ds.filterMap id) a0 with
          | mk x y =>
            cases a with
            | mk x' y' =>
              rw [hp] at e1 e2
              simp only at e1 e2
              rw [e1, e2]
        have hl' := last (fun t => a.tmps[t]?.getD undef) w hg.ext (fun j d hd => by
          obtain ⟨Wj, h1, h2⟩ := hg.done j d hd (by rw [← getD_false_of (by have := hg.size; have := (List.getElem?_eq_some_iff.1 hd).1; omega) true]; exact hall j (List.getElem?_eq_some_iff.1 hd).1)
          exact ⟨Wj, h1, by cases d <;> exact h2⟩)
        rw [ha] at hl'
        have hch := wpAny_chainR (P := P) (Q := Q) (ops := ops) (ops.size - ds.length) (fuel + 1) ds.length listed a w (by omega) hg.size hall hg.last hwait' hback' (by
          have : ∀ (r i : Nat) (listed : Array Bool), i + r = ops.size → listed.size = ops.size → (∀ j, i ≤ j → j < ops.size → listed.getD j true = false) → r ≤ left ops.size listed := by
            intro r
            induction r with
            | zero => intro _ _ _ _ _; omega
            | succ r ihr =>
              intro i listed h1 h2 h3
              have h4 := left_set (show i < ops.size by omega) h2 (h3 i (Nat.le_refl _) (by omega))
              have h5 := ihr (i + 1) (listed.setIfInBounds i true) (by omega) (by simpa using h2) (fun j hj hj2 => by rw [getD_set_ne true (by omega)]; exact h3 j (by omega) hj2)
              omega
          exact Nat.le_trans (this _ ds.length listed (by omega) hg.size hg.last) hl) hl'
        exact hch.2 _ hi'
theorem any_drawsR {a0 : Act} {w0 : World} {os : List Oper} (fin : List (Nat × Array Value)) (ds : List (Option Tmp)) (hs : Region.shapedR os.toArray ds a0.tmps.size = true) (R : Nat → Value → World → Prop)
    (step : stepsX P os.toArray Q fin ds a0 w0.drew R 0 os ds) : wpAny P .any os.toArray Q os.toArray.size (Array.replicate os.toArray.size false) a0 w0.drew := by
  have hlt : ds.length < os.length := by
    simp only [Region.shapedR, Bool.and_eq_true, decide_eq_true_eq] at hs
    simpa using hs.1.1.1.1.1.1.1
  refine (wpAny_drawsR fin ds (fun j v W => if ds[j]? = some none then R j undef W else R j v W) a0 w0.drew hs (fun k o d b W ho hd hE hb hdep => ?_) (fun f W hE hR => ?_) (fun j v W hj hR => by rw [if_pos hj] at hR ⊢; exact hR) _ _ _ _ ⟨by simp, fun k _ hk => by simp at hk; simp [Array.getElem?_replicate, hk], XT.refl _ _, rfl, rfl, fun _ _ => rfl, fun k j hk _ => ?_, fun j d hd hj => ?_⟩ ?_)
  · have h := stepsX_get (ops := os.toArray) os ds 0 k step o d (by simpa using ho) hd
    have hdep' : ∀ j dj, waitsFor os.toArray (0 + k) j = true → ds[j]? = some dj → ∃ Wj, XT fin Wj W ∧ R j (valOf b dj) Wj := by
      intro j dj h1 h2
      obtain ⟨Wj, h3, h4⟩ := hdep j dj (by simpa using h1) h2
      refine ⟨Wj, h3, ?_⟩
      by_cases hn : ds[j]? = some none
      · rw [if_pos hn] at h4
        rw [h2] at hn
        obtain rfl : dj = none := Option.some.inj hn
        exact h4
      · rw [if_neg hn] at h4; exact h4
    refine ⟨fun g hg v W' hR => ?_, fun K hK hK2 => h.2 b W hE hb hdep' K (fun v W' hn e r => hK v W' e ?_) (fun hn W' e r => hK2 hn W' e ?_)⟩
    · by_cases hn : ds[g.1]? = some none
      · exfalso
        simp only [Region.shapedR, Bool.and_eq_true, List.all_eq_true, List.mem_range] at hs
        have h1 := hs.2 k (List.getElem?_eq_some_iff.1 hd).1
        rw [ho] at h1
        simp [hg, hn] at h1
      · rw [if_neg hn] at hR
        exact h.1 g hg v W' hR
    · rw [if_neg (by rw [hd]; simpa using hn)]; simpa using r
    · rw [if_pos (by rw [hd, hn])]; simpa using r
  · have := stepsX_last (ops := os.toArray) os ds 0 step hlt f W hE (fun j d hd => by
      obtain ⟨Wj, h3, h4⟩ := hR j d hd
      refine ⟨Wj, h3, ?_⟩
      by_cases hn : ds[j]? = some none
      · rw [if_pos hn] at h4
        rw [hd] at hn
        obtain rfl : d = none := Option.some.inj hn
        exact h4
      · rw [if_neg hn] at h4; exact h4)
    simpa using this
  · exfalso
    rw [Array.getD_eq_getD_getElem?, Array.getElem?_replicate] at hk
    split at hk <;> simp at hk
  · exfalso
    rw [Array.getD_eq_getD_getElem?, Array.getElem?_replicate] at hj
    split at hj <;> simp at hj
  · exact Nat.le_trans List.countP_le_length (by simp)
theorem wp_drawsR {id : Nat} {a0 : Act} {w0 : World} {os : List Oper} (hm : P.follows .mixedOrders = true) (fin : List (Nat × Array Value)) (ds : List (Option Tmp)) (hs : Region.shapedR os.toArray ds a0.tmps.size = true) (R : Nat → Value → World → Prop)
    (step : stepsX P os.toArray Q fin ds a0 w0.drew R 0 os ds) : (Code.region id os.toArray true).wp P Q a0 w0 := wp_region_any hm (any_drawsR fin ds hs R step)

/-- v is a slice of so many from the head of a block from 'base' on that holds a row. -/
structure SN (v : Value) (n : Nat) (row : Array Value) (base : Nat) (W : World) : Prop where
  eq : v = .slice (some ⟨blk v, 0, none⟩) n n
  row : rowOf W (blk v) = some row
  base : base ≤ blk v
theorem snX {W : World} {v : Value} {n : Nat} {row : Array Value} {base : Nat} (h : ∃ Wj, XT [] Wj W ∧ SN v n row base Wj) : SN v n row base W := let ⟨_, e, h⟩ := h; ⟨h.1, e.row h.2 (by simp), h.3⟩
end
end Go.Proofs.Ytafdcbdbllpcnaa
/- Contract of package camel's Cost: what it returns, for every breed and day. -/
namespace Go.Proofs.Ytafdcbdbllpcnaa
open Go.RowKit
open Go.Proofs

attribute [local go_sem ↓] exec36l exec112l exec36s exec112s exec31s run_min2 run_max2
attribute [local go_sem] load36 load112 store36 store112 store31 build112 rowOf_alloc rowOf_drew setRow_alloc one_int one_bool run_min4

theorem marches1 {w : World} {g : Nat} {m : Mr} (h : rowOf w g = some #[.int .i64 m.hours, .int .i64 m.load, .int .i64 m.heat.1, .int .i64 m.heat.2, .int .i64 m.grass.1, .int .i64 m.grass.2, .int .i64 m.drinks.1, .int .i64 m.drinks.2]) : MarchesAt w g 0 [m] := by
  obtain ⟨c, -, -⟩ := cell_of_rowOf h
  intro k hk
  obtain rfl : k = 0 := by simp at hk; omega
  exact ⟨c 0, c 1, c 2, c 3, c 4, c 5, c 6, c 7⟩
theorem checkMarch1 (m : Mr) (x : Bool) (hx : okM m = x) (w : World) (g cap : Nat) (h : rowOf w g = some #[.int .i64 m.hours, .int .i64 m.load, .int .i64 m.heat.1, .int .i64 m.heat.2, .int .i64 m.grass.1, .int .i64 m.grass.2, .int .i64 m.drinks.1, .int .i64 m.drinks.2]) (hb : g < w.heap.size) :
    Calls Try.prog 63 #[.slice (some ⟨g, 0, none⟩) 1 cap] w fun e w' => e = .returned (.int .i64 (if x = true then 0 else 12)) ∧ Below w.heap.size w w' := by
  subst hx
  have := checkMarches_any g 0 cap [m] w (marches1 h) hb (by simp)
  simpa using this
theorem CheckBreed_x (b : Br) (x : Bool) (hx : okB b = x) (w : World) :
    Calls Try.prog 31 #[.agg #[.int .i64 b.full, .int .i64 b.fed, .int .i64 b.rest.1, .int .i64 b.rest.2, .int .i64 b.heat.1, .int .i64 b.heat.2, .int .i64 b.toil.1, .int .i64 b.toil.2, .int .i64 b.burn.1, .int .i64 b.burn.2, .int .i64 b.rub.1, .int .i64 b.rub.2, .int .i64 b.milk.1, .int .i64 b.milk.2, .int .i64 b.heal, .int .i64 b.strong.1, .int .i64 b.strong.2]] w fun e w' => e = .returned (.int .i64 (if x = true then 0 else 10)) ∧ Below w.heap.size w w' := by
  subst hx; exact CheckBreed_any b w

theorem Cost_bad (b : Br) (k : Bool) (m : Mr) (w : World) (hb : okB b = false) :
    Calls Try.prog 24 #[.agg #[.int .i64 b.full, .int .i64 b.fed, .int .i64 b.rest.1, .int .i64 b.rest.2, .int .i64 b.heat.1, .int .i64 b.heat.2, .int .i64 b.toil.1, .int .i64 b.toil.2, .int .i64 b.burn.1, .int .i64 b.burn.2, .int .i64 b.rub.1, .int .i64 b.rub.2, .int .i64 b.milk.1, .int .i64 b.milk.2, .int .i64 b.heal, .int .i64 b.strong.1, .int .i64 b.strong.2], .bool k, .agg #[.int .i64 m.hours, .int .i64 m.load, .int .i64 m.heat.1, .int .i64 m.heat.2, .int .i64 m.grass.1, .int .i64 m.grass.2, .int .i64 m.drinks.1, .int .i64 m.drinks.2]] w fun e w' => e = .returned (.tuple #[.agg #[.int .i64 0, .int .i64 0], .agg #[.int .i64 0, .int .i64 0], .int .i64 10]) ∧ Below w.heap.size w w' := by
  have H := Lib.hid hb
  clear hb
  go_enter Try.func24, Try.ntmps24
  go_wp2_with fail
  refine (CheckBreed_x b _ H.out _).mono ?_
  rintro e W1 ⟨rfl, hB⟩
  have hW1 : Below w.heap.size w W1 := Below.trans (by go_grown) (hB.mono (by simp; try omega))
  have zW1 := hW1.size
  obtain ⟨raW1, caW1, gaW1, zaW1⟩ := keep_row hB (g := w.heap.size) (by repeat (first | with_reducible assumption | with_reducible apply row_here0 | with_reducible apply row_here1 | with_reducible apply row_here2 | with_reducible apply row_here3 | with_reducible apply rowSkip))
  obtain ⟨rcW1, ccW1, gcW1, zcW1⟩ := keep_row hB (g := w.heap.size + 1 + 1) (by repeat (first | with_reducible assumption | with_reducible apply row_here0 | with_reducible apply row_here1 | with_reducible apply row_here2 | with_reducible apply row_here3 | with_reducible apply rowSkip))
  obtain ⟨rdW1, cdW1, gdW1, zdW1⟩ := keep_row hB (g := w.heap.size + 1 + 1 + 1) (by repeat (first | with_reducible assumption | with_reducible apply row_here0 | with_reducible apply row_here1 | with_reducible apply row_here2 | with_reducible apply row_here3 | with_reducible apply rowSkip))
  clear hB
  have hq := fun vs g => rowOf_setRow rcW1 vs g
  go_wp2
  exact bodyPost_ret (results_rows3 Try.results24 Try.underlying31 rfl Try.underlying31 rfl rfl rfl (g := w.heap.size + 1 + 1) (g' := w.heap.size + 1 + 1 + 1) (cs := #[.int .i64 0, .int .i64 0]) (cs' := #[.int .i64 0, .int .i64 0]) (by rw [(stored_setRow (hq _ _ |>.trans (if_neg (by simp)) |>.trans rdW1) _).other _ (by simp), hq, if_pos rfl]) (stored_setRow (hq _ _ |>.trans (if_neg (by simp)) |>.trans rdW1) _).row (by kernel_rfl) (by kernel_rfl) (v := .int .i64 10) rfl) rfl ⟨rfl, Below_setRow (Below_setRow hW1 (by omega) _) (by omega) _⟩

theorem Cost_march (b : Br) (k : Bool) (m : Mr) (w : World) (hb : okB b = true) (hm : okM m = false) :
    Calls Try.prog 24 #[.agg #[.int .i64 b.full, .int .i64 b.fed, .int .i64 b.rest.1, .int .i64 b.rest.2, .int .i64 b.heat.1, .int .i64 b.heat.2, .int .i64 b.toil.1, .int .i64 b.toil.2, .int .i64 b.burn.1, .int .i64 b.burn.2, .int .i64 b.rub.1, .int .i64 b.rub.2, .int .i64 b.milk.1, .int .i64 b.milk.2, .int .i64 b.heal, .int .i64 b.strong.1, .int .i64 b.strong.2], .bool k, .agg #[.int .i64 m.hours, .int .i64 m.load, .int .i64 m.heat.1, .int .i64 m.heat.2, .int .i64 m.grass.1, .int .i64 m.grass.2, .int .i64 m.drinks.1, .int .i64 m.drinks.2]] w fun e w' => e = .returned (.tuple #[.agg #[.int .i64 0, .int .i64 0], .agg #[.int .i64 0, .int .i64 0], .int .i64 12]) ∧ Below w.heap.size w w' := by
  have H := Lib.hid hb
  have H2 := Lib.hid hm
  clear hb hm
  go_enter Try.func24, Try.ntmps24
  go_wp2_with fail
  refine (CheckBreed_x b _ H.out _).mono ?_
  rintro e W0 ⟨rfl, hB⟩
  have hW0 : Below w.heap.size w W0 := Below.trans (by go_grown) (hB.mono (by simp; try omega))
  have zW0 := hW0.size
  obtain ⟨raW0, caW0, gaW0, zaW0⟩ := keep_row hB (g := w.heap.size) (by repeat (first | with_reducible assumption | with_reducible apply row_here0 | with_reducible apply row_here1 | with_reducible apply row_here2 | with_reducible apply row_here3 | with_reducible apply rowSkip))
  obtain ⟨rbW0, cbW0, gbW0, zbW0⟩ := keep_row hB (g := w.heap.size + 1) (by repeat (first | with_reducible assumption | with_reducible apply row_here0 | with_reducible apply row_here1 | with_reducible apply row_here2 | with_reducible apply row_here3 | with_reducible apply rowSkip))
  obtain ⟨rcW0, ccW0, gcW0, zcW0⟩ := keep_row hB (g := w.heap.size + 1 + 1) (by repeat (first | with_reducible assumption | with_reducible apply row_here0 | with_reducible apply row_here1 | with_reducible apply row_here2 | with_reducible apply row_here3 | with_reducible apply rowSkip))
  obtain ⟨rdW0, cdW0, gdW0, zdW0⟩ := keep_row hB (g := w.heap.size + 1 + 1 + 1) (by repeat (first | with_reducible assumption | with_reducible apply row_here0 | with_reducible apply row_here1 | with_reducible apply row_here2 | with_reducible apply row_here3 | with_reducible apply rowSkip))
  clear hB
  go_wp2_with fail
  refine (checkMarch1 m _ H2.out _ _ _ (row_here0 _ _ _) (by simp)).mono ?_
  rintro e W1 ⟨rfl, hB⟩
  have hW1 : Below w.heap.size w W1 := hW0.trans (Below.trans (by have := hW0.size; go_grown) (hB.mono (by have := hW0.size; simp; try omega)))
  have zW1 := hW1.size
  obtain ⟨rcW1, ccW1, gcW1, zcW1⟩ := keep_row hB (g := w.heap.size + 1 + 1) (by repeat (first | with_reducible assumption | with_reducible apply row_here0 | with_reducible apply row_here1 | with_reducible apply row_here2 | with_reducible apply row_here3 | with_reducible apply rowSkip))
  obtain ⟨rdW1, cdW1, gdW1, zdW1⟩ := keep_row hB (g := w.heap.size + 1 + 1 + 1) (by repeat (first | with_reducible assumption | with_reducible apply row_here0 | with_reducible apply row_here1 | with_reducible apply row_here2 | with_reducible apply row_here3 | with_reducible apply rowSkip))
  clear hB
  have hq := fun vs g => rowOf_setRow rcW1 vs g
  go_wp2
  exact bodyPost_ret (results_rows3 Try.results24 Try.underlying31 rfl Try.underlying31 rfl rfl rfl (g := w.heap.size + 1 + 1) (g' := w.heap.size + 1 + 1 + 1) (cs := #[.int .i64 0, .int .i64 0]) (cs' := #[.int .i64 0, .int .i64 0]) (by rw [(stored_setRow (hq _ _ |>.trans (if_neg (by simp)) |>.trans rdW1) _).other _ (by simp), hq, if_pos rfl]) (stored_setRow (hq _ _ |>.trans (if_neg (by simp)) |>.trans rdW1) _).row (by kernel_rfl) (by kernel_rfl) (v := .int .i64 12) rfl) rfl ⟨rfl, Below_setRow (Below_setRow hW1 (by omega) _) (by omega) _⟩

set_option maxHeartbeats 4000000 in
theorem Cost_ok (b : Br) (k : Bool) (m : Mr) (w : World) (hb : okB b = true) (hm : okM m = true) :
    Calls Try.prog 24 #[.agg #[.int .i64 b.full, .int .i64 b.fed, .int .i64 b.rest.1, .int .i64 b.rest.2, .int .i64 b.heat.1, .int .i64 b.heat.2, .int .i64 b.toil.1, .int .i64 b.toil.2, .int .i64 b.burn.1, .int .i64 b.burn.2, .int .i64 b.rub.1, .int .i64 b.rub.2, .int .i64 b.milk.1, .int .i64 b.milk.2, .int .i64 b.heal, .int .i64 b.strong.1, .int .i64 b.strong.2], .bool k, .agg #[.int .i64 m.hours, .int .i64 m.load, .int .i64 m.heat.1, .int .i64 m.heat.2, .int .i64 m.grass.1, .int .i64 m.grass.2, .int .i64 m.drinks.1, .int .i64 m.drinks.2]] w fun e w' => e = .returned (.tuple #[.agg #[.int .i64 (waS b k m).1, .int .i64 (waS b k m).2], .agg #[.int .i64 (faS b m).1, .int .i64 (faS b m).2], .int .i64 0]) ∧ Below w.heap.size w w' := by
  have H := Lib.hid hb
  have H2 := Lib.hid hm
  clear hb hm
  go_enter Try.func24, Try.ntmps24
  go_wp2_with fail
  refine (CheckBreed_x b _ H.out _).mono ?_
  rintro e W0 ⟨rfl, hB⟩
  have hW0 : Below w.heap.size w W0 := Below.trans (by go_grown) (hB.mono (by simp; try omega))
  have zW0 := hW0.size
  obtain ⟨raW0, caW0, gaW0, zaW0⟩ := keep_row hB (g := w.heap.size) (by repeat (first | with_reducible assumption | with_reducible apply row_here0 | with_reducible apply row_here1 | with_reducible apply row_here2 | with_reducible apply row_here3 | with_reducible apply rowSkip))
  obtain ⟨rbW0, cbW0, gbW0, zbW0⟩ := keep_row hB (g := w.heap.size + 1) (by repeat (first | with_reducible assumption | with_reducible apply row_here0 | with_reducible apply row_here1 | with_reducible apply row_here2 | with_reducible apply row_here3 | with_reducible apply rowSkip))
  obtain ⟨rcW0, ccW0, gcW0, zcW0⟩ := keep_row hB (g := w.heap.size + 1 + 1) (by repeat (first | with_reducible assumption | with_reducible apply row_here0 | with_reducible apply row_here1 | with_reducible apply row_here2 | with_reducible apply row_here3 | with_reducible apply rowSkip))
  obtain ⟨rdW0, cdW0, gdW0, zdW0⟩ := keep_row hB (g := w.heap.size + 1 + 1 + 1) (by repeat (first | with_reducible assumption | with_reducible apply row_here0 | with_reducible apply row_here1 | with_reducible apply row_here2 | with_reducible apply row_here3 | with_reducible apply rowSkip))
  clear hB
  go_wp2_with fail
  refine (checkMarch1 m _ H2.out _ _ _ (row_here0 _ _ _) (by simp)).mono ?_
  rintro e W1 ⟨rfl, hB⟩
  have hW1 : Below w.heap.size w W1 := hW0.trans (Below.trans (by have := hW0.size; go_grown) (hB.mono (by have := hW0.size; simp; try omega)))
  have zW1 := hW1.size
  obtain ⟨raW1, caW1, gaW1, zaW1⟩ := keep_row hB (g := w.heap.size) (by repeat (first | with_reducible assumption | with_reducible apply row_here0 | with_reducible apply row_here1 | with_reducible apply row_here2 | with_reducible apply row_here3 | with_reducible apply rowSkip))
  obtain ⟨rbW1, cbW1, gbW1, zbW1⟩ := keep_row hB (g := w.heap.size + 1) (by repeat (first | with_reducible assumption | with_reducible apply row_here0 | with_reducible apply row_here1 | with_reducible apply row_here2 | with_reducible apply row_here3 | with_reducible apply rowSkip))
  obtain ⟨rcW1, ccW1, gcW1, zcW1⟩ := keep_row hB (g := w.heap.size + 1 + 1) (by repeat (first | with_reducible assumption | with_reducible apply row_here0 | with_reducible apply row_here1 | with_reducible apply row_here2 | with_reducible apply row_here3 | with_reducible apply rowSkip))
  obtain ⟨rdW1, cdW1, gdW1, zdW1⟩ := keep_row hB (g := w.heap.size + 1 + 1 + 1) (by repeat (first | with_reducible assumption | with_reducible apply row_here0 | with_reducible apply row_here1 | with_reducible apply row_here2 | with_reducible apply row_here3 | with_reducible apply rowSkip))
  clear hB
  go_wp2_with fail
  clear raW0 caW0 gaW0 rbW0 cbW0 gbW0 rcW0 ccW0 gcW0 rdW0 cdW0 gdW0
  refine wp_drawn_list (by kernel_rfl) [27, 28, 29, 30, 31, 32, 11] (by kernel_rfl) rfl (fun ix v W => match ix with
    | 0 => v = .agg #[.int .i64 b.full, .int .i64 b.fed, .int .i64 b.rest.1, .int .i64 b.rest.2, .int .i64 b.heat.1, .int .i64 b.heat.2, .int .i64 b.toil.1, .int .i64 b.toil.2, .int .i64 b.burn.1, .int .i64 b.burn.2, .int .i64 b.rub.1, .int .i64 b.rub.2, .int .i64 b.milk.1, .int .i64 b.milk.2, .int .i64 b.heal, .int .i64 b.strong.1, .int .i64 b.strong.2]
    | 1 => v = .bool k
    | 2 => v = .agg #[.int .i64 (zc k).water.1, .int .i64 (zc k).water.2, .int .i64 (zc k).fat.1, .int .i64 (zc k).fat.2, .int .i64 (zc k).sore.1, .int .i64 (zc k).sore.2, .bool (zc k).milks]
    | 3 => v = .agg #[.int .i64 b.full, .int .i64 b.fed, .int .i64 b.rest.1, .int .i64 b.rest.2, .int .i64 b.heat.1, .int .i64 b.heat.2, .int .i64 b.toil.1, .int .i64 b.toil.2, .int .i64 b.burn.1, .int .i64 b.burn.2, .int .i64 b.rub.1, .int .i64 b.rub.2, .int .i64 b.milk.1, .int .i64 b.milk.2, .int .i64 b.heal, .int .i64 b.strong.1, .int .i64 b.strong.2, .int .i64 (zc k).water.1, .int .i64 (zc k).water.2, .int .i64 (zc k).fat.1, .int .i64 (zc k).fat.2, .int .i64 (zc k).sore.1, .int .i64 (zc k).sore.2, .bool (zc k).milks]
    | 4 => v = .agg #[.int .i64 m.hours, .int .i64 m.load, .int .i64 m.heat.1, .int .i64 m.heat.2, .int .i64 m.grass.1, .int .i64 m.grass.2, .int .i64 m.drinks.1, .int .i64 m.drinks.2]
    | 5 => v = .agg #[.int .i64 (waS b k m).1, .int .i64 (waS b k m).2, .int .i64 (faS b m).1, .int .i64 (faS b m).2, .int .i64 (soS b m).1, .int .i64 (soS b m).2]
    | 6 => PT v #[.int .i64 0, .int .i64 0, .int .i64 0, .int .i64 0, .int .i64 0, .int .i64 0] (W1.heap.size) W
    | _ => True) ⟨?_, ?_, ?_, ?_, ?_, ?_, ?_, ?_⟩
  · intro b' W hE hb hdep K hK
    have e3 : b'.tmps[3]?.getD undef = .pointer (some ⟨w.heap.size, 0, none⟩) := hb 3 (by decide)
    clear hdep hb
    obtain ⟨_, _, -, _⟩ := keep_row hE ((raW1 : rowOf _ _ = _))
    obtain ⟨_, _, -, _⟩ := keep_row hE ((rbW1 : rowOf _ _ = _))
    go_wp2
    exact hK _ _ (Ext.refl _) rfl
  · intro b' W hE hb hdep K hK
    have e1 : b'.tmps[1]?.getD undef = .bool k := hb 1 (by decide)
    clear hdep hb
    go_wp2
    exact hK _ _ (Ext.refl _) rfl
  · intro b' W hE hb hdep K hK
    have e28 : b'.tmps[28]?.getD undef = .bool k := pureR (hdep 1 28 (by kernel_rfl) rfl)
    clear hdep hb
    go_wp2
    exact hK _ _ (Ext.refl _) rfl
  · intro b' W hE hb hdep K hK
    have e27 : b'.tmps[27]?.getD undef = .agg #[.int .i64 b.full, .int .i64 b.fed, .int .i64 b.rest.1, .int .i64 b.rest.2, .int .i64 b.heat.1, .int .i64 b.heat.2, .int .i64 b.toil.1, .int .i64 b.toil.2, .int .i64 b.burn.1, .int .i64 b.burn.2, .int .i64 b.rub.1, .int .i64 b.rub.2, .int .i64 b.milk.1, .int .i64 b.milk.2, .int .i64 b.heal, .int .i64 b.strong.1, .int .i64 b.strong.2] := pureR (hdep 0 27 (by kernel_rfl) rfl)
    have e29 : b'.tmps[29]?.getD undef = .agg #[.int .i64 (zc k).water.1, .int .i64 (zc k).water.2, .int .i64 (zc k).fat.1, .int .i64 (zc k).fat.2, .int .i64 (zc k).sore.1, .int .i64 (zc k).sore.2, .bool (zc k).milks] := pureR (hdep 2 29 (by kernel_rfl) rfl)
    clear hdep hb
    go_wp2_with fail
    refine (atWork_any b (zc k) _).mono ?_
    rintro e W' ⟨rfl, hB⟩
    exact hK _ _ hB rfl
  · intro b' W hE hb hdep K hK
    have e5 : b'.tmps[5]?.getD undef = .pointer (some ⟨w.heap.size + 1, 0, none⟩) := hb 5 (by decide)
    clear hdep hb
    obtain ⟨_, _, -, _⟩ := keep_row hE ((raW1 : rowOf _ _ = _))
    obtain ⟨_, _, -, _⟩ := keep_row hE ((rbW1 : rowOf _ _ = _))
    go_wp2
    exact hK _ _ (Ext.refl _) rfl
  · intro b' W hE hb hdep K hK
    have e30 : b'.tmps[30]?.getD undef = .agg #[.int .i64 b.full, .int .i64 b.fed, .int .i64 b.rest.1, .int .i64 b.rest.2, .int .i64 b.heat.1, .int .i64 b.heat.2, .int .i64 b.toil.1, .int .i64 b.toil.2, .int .i64 b.burn.1, .int .i64 b.burn.2, .int .i64 b.rub.1, .int .i64 b.rub.2, .int .i64 b.milk.1, .int .i64 b.milk.2, .int .i64 b.heal, .int .i64 b.strong.1, .int .i64 b.strong.2, .int .i64 (zc k).water.1, .int .i64 (zc k).water.2, .int .i64 (zc k).fat.1, .int .i64 (zc k).fat.2, .int .i64 (zc k).sore.1, .int .i64 (zc k).sore.2, .bool (zc k).milks] := pureR (hdep 3 30 (by kernel_rfl) rfl)
    have e31 : b'.tmps[31]?.getD undef = .agg #[.int .i64 m.hours, .int .i64 m.load, .int .i64 m.heat.1, .int .i64 m.heat.2, .int .i64 m.grass.1, .int .i64 m.grass.2, .int .i64 m.drinks.1, .int .i64 m.drinks.2] := pureR (hdep 4 31 (by kernel_rfl) rfl)
    clear hdep hb
    go_wp2_with fail
    refine (cost_any b (zc k) m _ (okB_bd H.out) (okM_bd H2.out)).mono ?_
    rintro e W' ⟨rfl, hB⟩
    exact hK _ _ hB rfl
  · intro b' W hE hb hdep K hK
    clear hdep hb
    go_wp2
    exact hK _ _ (ext_alloc _ _) ⟨rfl, row_here0 _ _ _, by have := hE.size; simp at this; simp [blk]; omega⟩
  intro f W hE hR
  have e27 : f 27 = .agg #[.int .i64 b.full, .int .i64 b.fed, .int .i64 b.rest.1, .int .i64 b.rest.2, .int .i64 b.heat.1, .int .i64 b.heat.2, .int .i64 b.toil.1, .int .i64 b.toil.2, .int .i64 b.burn.1, .int .i64 b.burn.2, .int .i64 b.rub.1, .int .i64 b.rub.2, .int .i64 b.milk.1, .int .i64 b.milk.2, .int .i64 b.heal, .int .i64 b.strong.1, .int .i64 b.strong.2] := pureR (hR 0 27 rfl)
  have e28 : f 28 = .bool k := pureR (hR 1 28 rfl)
  have e29 : f 29 = .agg #[.int .i64 (zc k).water.1, .int .i64 (zc k).water.2, .int .i64 (zc k).fat.1, .int .i64 (zc k).fat.2, .int .i64 (zc k).sore.1, .int .i64 (zc k).sore.2, .bool (zc k).milks] := pureR (hR 2 29 rfl)
  have e30 : f 30 = .agg #[.int .i64 b.full, .int .i64 b.fed, .int .i64 b.rest.1, .int .i64 b.rest.2, .int .i64 b.heat.1, .int .i64 b.heat.2, .int .i64 b.toil.1, .int .i64 b.toil.2, .int .i64 b.burn.1, .int .i64 b.burn.2, .int .i64 b.rub.1, .int .i64 b.rub.2, .int .i64 b.milk.1, .int .i64 b.milk.2, .int .i64 b.heal, .int .i64 b.strong.1, .int .i64 b.strong.2, .int .i64 (zc k).water.1, .int .i64 (zc k).water.2, .int .i64 (zc k).fat.1, .int .i64 (zc k).fat.2, .int .i64 (zc k).sore.1, .int .i64 (zc k).sore.2, .bool (zc k).milks] := pureR (hR 3 30 rfl)
  have e31 : f 31 = .agg #[.int .i64 m.hours, .int .i64 m.load, .int .i64 m.heat.1, .int .i64 m.heat.2, .int .i64 m.grass.1, .int .i64 m.grass.2, .int .i64 m.drinks.1, .int .i64 m.drinks.2] := pureR (hR 4 31 rfl)
  have e32 : f 32 = .agg #[.int .i64 (waS b k m).1, .int .i64 (waS b k m).2, .int .i64 (faS b m).1, .int .i64 (faS b m).2, .int .i64 (soS b m).1, .int .i64 (soS b m).2] := pureR (hR 5 32 rfl)
  have hp : PT (f 11) #[.int .i64 0, .int .i64 0, .int .i64 0, .int .i64 0, .int .i64 0, .int .i64 0] (W1.heap.size) W := pointR (hR 6 11 rfl)
  clear hR
  refine wpL_store_pt rfl 110 (.tmp 11) (.tmp 32) rfl (vs := #[.int .i64 (waS b k m).1, .int .i64 (waS b k m).2, .int .i64 (faS b m).1, .int .i64 (faS b m).2, .int .i64 (soS b m).1, .int .i64 (soS b m).2]) ((puts_eval (by decide) rfl).trans e32) (puts_eval (by decide) rfl) hp (by kernel_rfl) rfl (by simp [one_int, one_bool]) ?_
  intro h W2 hbase e11 hlt hS
  clear hp
  simp only [puts, Act.put, List.setIfInBounds_toArray, List.set_cons_succ, List.set_cons_zero, e27, e28, e29, e30, e31, e32, e11]
  have zE := hE.size
  simp only [World.size_alloc, World.size_drew] at zE
  obtain ⟨rcW2, ccW2, gcW2, zcW2⟩ := row_facts (hS.keeps (g := w.heap.size + 1 + 1) (by omega) (hE.row ((rowOf_drew _ _).trans (by repeat (first | with_reducible assumption | with_reducible apply row_here0 | with_reducible apply row_here1 | with_reducible apply row_here2 | with_reducible apply row_here3 | with_reducible apply rowSkip)))))
  obtain ⟨rdW2, cdW2, gdW2, zdW2⟩ := row_facts (hS.keeps (g := w.heap.size + 1 + 1 + 1) (by omega) (hE.row ((rowOf_drew _ _).trans (by repeat (first | with_reducible assumption | with_reducible apply row_here0 | with_reducible apply row_here1 | with_reducible apply row_here2 | with_reducible apply row_here3 | with_reducible apply rowSkip)))))
  obtain ⟨rhW2, chW2, ghW2, zhW2⟩ := row_facts hS.row
  have hW2 : Below w.heap.size w W2 := ((drew_ext hE).below (by have := hW1.size; go_grown) (by have := hW1.size; simp; try omega)).trans (hS.below _ (by omega))
  have zW2 := hW2.size
  clear hS hE zE
  clear raW1 caW1 gaW1 rbW1 cbW1 gbW1 rcW1 ccW1 gcW1 rdW1 cdW1 gdW1
  go_wp2_with fail
  refine wp_draws (by kernel_rfl) [(w.heap.size + 1 + 1, #[.int .i64 (waS b k m).1, .int .i64 (waS b k m).2]), (w.heap.size + 1 + 1 + 1, #[.int .i64 (faS b m).1, .int .i64 (faS b m).2])] [some 33, some 34, some 35, some 36, none, none] (by kernel_rfl) (fun ix v W => match ix with
    | 0 => v = .pointer (some ⟨h, 0, none⟩)
    | 1 => v = .agg #[.int .i64 (waS b k m).1, .int .i64 (waS b k m).2]
    | 2 => v = .pointer (some ⟨h, 2, none⟩)
    | 3 => v = .agg #[.int .i64 (faS b m).1, .int .i64 (faS b m).2]
    | 4 => rowOf W (w.heap.size + 1 + 1) = some #[.int .i64 (waS b k m).1, .int .i64 (waS b k m).2]
    | 5 => rowOf W (w.heap.size + 1 + 1 + 1) = some #[.int .i64 (faS b m).1, .int .i64 (faS b m).2]
    | _ => True) ⟨⟨?_, ?_⟩, ⟨?_, ?_⟩, ⟨?_, ?_⟩, ⟨?_, ?_⟩, ⟨?_, ?_⟩, ⟨?_, ?_⟩, ?_⟩
  · intro g h; cases h
  · intro b' W hE hb hdep K hK
    have e11 : b'.tmps[11]?.getD undef = .pointer (some ⟨h, 0, none⟩) := hb 11 (by decide)
    clear hdep hb
    go_wp2
    exact hK _ _ (XT.refl _ _) rfl
  · intro g h; cases h
  · intro b' W hE hb hdep K hK
    have e33 : b'.tmps[33]?.getD undef = .pointer (some ⟨h, 0, none⟩) := pureX (hdep 0 (some 33) (by kernel_rfl) rfl)
    clear hdep hb
    obtain ⟨_, _, -, _⟩ := row_facts (hE.row ((rowOf_drew _ _).trans rhW2) (by first | (simp; done) | (simp; omega)))
    go_wp2
    exact hK _ _ (XT.refl _ _) rfl
  · intro g h; cases h
  · intro b' W hE hb hdep K hK
    have e11 : b'.tmps[11]?.getD undef = .pointer (some ⟨h, 0, none⟩) := hb 11 (by decide)
    clear hdep hb
    go_wp2
    exact hK _ _ (XT.refl _ _) rfl
  · intro g h; cases h
  · intro b' W hE hb hdep K hK
    have e35 : b'.tmps[35]?.getD undef = .pointer (some ⟨h, 2, none⟩) := pureX (hdep 2 (some 35) (by kernel_rfl) rfl)
    clear hdep hb
    obtain ⟨_, _, -, _⟩ := row_facts (hE.row ((rowOf_drew _ _).trans rhW2) (by first | (simp; done) | (simp; omega)))
    go_wp2
    exact hK _ _ (XT.refl _ _) rfl
  · intro g h; cases h
  · intro b' W hE hb hdep K hK
    have e6 : b'.tmps[6]?.getD undef = .pointer (some ⟨w.heap.size + 1 + 1, 0, none⟩) := hb 6 (by decide)
    have e34 : b'.tmps[34]?.getD undef = .agg #[.int .i64 (waS b k m).1, .int .i64 (waS b k m).2] := pureX (hdep 1 (some 34) (by kernel_rfl) rfl)
    clear hdep hb
    exact wp_store_fin 31 (.tmp 6) (.tmp 34) rfl rfl ((eval_tmp _ _).trans e6) ((eval_tmp _ _).trans e34) (hE.keep (w.heap.size + 1 + 1, #[.int .i64 (waS b k m).1, .int .i64 (waS b k m).2]) (by simp) ⟨_, (rowOf_drew _ _).trans rcW2, rfl⟩) (by kernel_rfl) (by simp [one_int, one_bool]) (by simp) (by simp <;> omega) (fun W' h1 h2 => hK W' h1 h2)
  · intro g h; cases h
  · intro b' W hE hb hdep K hK
    have e7 : b'.tmps[7]?.getD undef = .pointer (some ⟨w.heap.size + 1 + 1 + 1, 0, none⟩) := hb 7 (by decide)
    have e36 : b'.tmps[36]?.getD undef = .agg #[.int .i64 (faS b m).1, .int .i64 (faS b m).2] := pureX (hdep 3 (some 36) (by kernel_rfl) rfl)
    clear hdep hb
    exact wp_store_fin 31 (.tmp 7) (.tmp 36) rfl rfl ((eval_tmp _ _).trans e7) ((eval_tmp _ _).trans e36) (hE.keep (w.heap.size + 1 + 1 + 1, #[.int .i64 (faS b m).1, .int .i64 (faS b m).2]) (by simp) ⟨_, (rowOf_drew _ _).trans rdW2, rfl⟩) (by kernel_rfl) (by simp [one_int, one_bool]) (by simp) (by simp <;> omega) (fun W' h1 h2 => hK W' h1 h2)
  intro f W hE hR
  have e33 : f 33 = .pointer (some ⟨h, 0, none⟩) := pureX (hR 0 (some 33) rfl)
  have e34 : f 34 = .agg #[.int .i64 (waS b k m).1, .int .i64 (waS b k m).2] := pureX (hR 1 (some 34) rfl)
  have e35 : f 35 = .pointer (some ⟨h, 2, none⟩) := pureX (hR 2 (some 35) rfl)
  have e36 : f 36 = .agg #[.int .i64 (faS b m).1, .int .i64 (faS b m).2] := pureX (hR 3 (some 36) rfl)
  have l4 : rowOf W (w.heap.size + 1 + 1) = some #[.int .i64 (waS b k m).1, .int .i64 (waS b k m).2] := lastX (by simp) (hR 4 none rfl)
  have l5 : rowOf W (w.heap.size + 1 + 1 + 1) = some #[.int .i64 (faS b m).1, .int .i64 (faS b m).2] := lastX (by simp) (hR 5 none rfl)
  clear hR
  simp only [List.filterMap_cons, List.filterMap_nil, id, puts, Act.put, List.setIfInBounds_toArray, List.set_cons_succ, List.set_cons_zero, e33, e34, e35, e36]
  have hw : Below w.heap.size w W := hE.below hW2.drew zW2 (by simp <;> omega)
  clear hE
  go_wp2
  exact bodyPost_ret (results_rows3 Try.results24 Try.underlying31 rfl Try.underlying31 rfl rfl rfl l4 l5 (by kernel_rfl) (by kernel_rfl) (v := .int .i64 0) rfl) rfl ⟨rfl, hw⟩

theorem Cost_any (b : Br) (k : Bool) (m : Mr) (w : World) :
    Calls Try.prog 24 #[.agg #[.int .i64 b.full, .int .i64 b.fed, .int .i64 b.rest.1, .int .i64 b.rest.2, .int .i64 b.heat.1, .int .i64 b.heat.2, .int .i64 b.toil.1, .int .i64 b.toil.2, .int .i64 b.burn.1, .int .i64 b.burn.2, .int .i64 b.rub.1, .int .i64 b.rub.2, .int .i64 b.milk.1, .int .i64 b.milk.2, .int .i64 b.heal, .int .i64 b.strong.1, .int .i64 b.strong.2], .bool k, .agg #[.int .i64 m.hours, .int .i64 m.load, .int .i64 m.heat.1, .int .i64 m.heat.2, .int .i64 m.grass.1, .int .i64 m.grass.2, .int .i64 m.drinks.1, .int .i64 m.drinks.2]] w fun e w' => e = .returned (.tuple #[.agg #[.int .i64 (coW b k m).1, .int .i64 (coW b k m).2], .agg #[.int .i64 (coF b m).1, .int .i64 (coF b m).2], .int .i64 (chkM b m)]) ∧ Below w.heap.size w w' := by
  cases hb : okB b with
  | false =>
    have h : chkM b m = 10 := by simp [chkM, hb]
    have h1 : coW b k m = (0, 0) := by simp [coW, h]
    have h2 : coF b m = (0, 0) := by simp [coF, h]
    rw [h, h1, h2]
    exact Cost_bad b k m w hb
  | true =>
    cases hm : okM m with
    | false =>
      have h : chkM b m = 12 := by simp [chkM, hb, hm]
      have h1 : coW b k m = (0, 0) := by simp [coW, h]
      have h2 : coF b m = (0, 0) := by simp [coF, h]
      rw [h, h1, h2]
      exact Cost_march b k m w hb hm
    | true =>
      have h : chkM b m = 0 := by simp [chkM, hb, hm]
      have h1 : coW b k m = waS b k m := by simp [coW, h]
      have h2 : coF b m = faS b m := by simp [coF, h]
      rw [h, h1, h2]
      exact Cost_ok b k m w hb hm
end Go.Proofs.Ytafdcbdbllpcnaa
