/- A law for a region that draws its order, wider: guarded operations whose guards are known, stores into blocks made before, and a chain of last operations. Over every program. -/
import Derived.Test.YtkodjegpdkfjkaaDrawn
set_option linter.unusedVariables false
set_option linter.unusedSimpArgs false
namespace Go.Proofs.Ytkodjegpdkfjkaa
open Go.RowKit

/-- W' is W with more memory, and each block of 'fin' may have got its last row. -/
structure XT (fin : List (Nat × Array Value)) (W W' : World) : Prop where
  os : W'.os = W.os
  tape : W'.tape = W.tape
  output : W'.output = W.output
  size : W.heap.size ≤ W'.heap.size
  block : ∀ k, k < W.heap.size → (∀ p ∈ fin, p.1 ≠ k) → W'.heap[k]? = W.heap[k]?
  last : ∀ p ∈ fin, rowOf W p.1 = some p.2 → rowOf W' p.1 = some p.2
  keep : ∀ p ∈ fin, (∃ cs, rowOf W p.1 = some cs ∧ cs.size = p.2.size) → ∃ cs, rowOf W' p.1 = some cs ∧ cs.size = p.2.size

theorem XT.refl (fin : List (Nat × Array Value)) (W : World) : XT fin W W := ⟨rfl, rfl, rfl, Nat.le_refl _, fun _ _ _ => rfl, fun _ _ h => h, fun _ _ h => h⟩
theorem XT.trans {fin : List (Nat × Array Value)} {a b c : World} (h : XT fin a b) (k : XT fin b c) : XT fin a c :=
  ⟨k.os.trans h.os, k.tape.trans h.tape, k.output.trans h.output, Nat.le_trans h.size k.size, fun i hi hp => (k.block i (Nat.lt_of_lt_of_le hi h.size) hp).trans (h.block i hi hp), fun p hp e => k.last p hp (h.last p hp e), fun p hp e => k.keep p hp (h.keep p hp e)⟩
theorem Ext.xt {fin : List (Nat × Array Value)} {W W' : World} (h : Ext W W') : XT fin W W' :=
  ⟨h.os, h.tape, h.output, h.size, fun k hk _ => h.block k hk, fun _ _ e => (keep_row h e).1, fun _ _ ⟨cs, e, hs⟩ => ⟨cs, (keep_row h e).1, hs⟩⟩
theorem XT.row {fin : List (Nat × Array Value)} {W W' : World} (h : XT fin W W') {g : Nat} {cs : Array Value} (hr : rowOf W g = some cs) (hg : ∀ p ∈ fin, p.1 ≠ g) : rowOf W' g = some cs := by
  have := (cell_of_rowOf hr).2.2
  unfold rowOf at hr ⊢
  rw [h.block g this hg]; exact hr
theorem XT.below {fin : List (Nat × Array Value)} {B : Nat} {w W W' : World} (h : XT fin W W') (hw : Below B w W) (hB : B ≤ W.heap.size) (hf : ∀ p ∈ fin, B ≤ p.1) : Below B w W' :=
  hw.trans ⟨h.os, h.tape, h.output, h.size, fun k hk => h.block k (by omega) fun p hp => by have := hf p hp; omega⟩
theorem xt_setRow {fin : List (Nat × Array Value)} {W : World} {g : Nat} {cs vs : Array Value} (hr : rowOf W g = some cs) (hm : (g, vs) ∈ fin) (hu : ∀ p ∈ fin, p.1 = g → p.2 = vs) : XT fin W (W.setRow g vs) := by
  have hS := stored_setRow hr vs
  refine ⟨rfl, rfl, rfl, by simp, fun k _ hp => setRow_other W g k vs (hp _ hm).symm, fun p hp e => ?_, fun p hp ⟨c, e, hs⟩ => ?_⟩
  · by_cases h : p.1 = g
    · rw [h, hS.row, hu p hp h]
    · rw [hS.other _ h]; exact e
  · by_cases h : p.1 = g
    · exact ⟨vs, by rw [h]; exact hS.row, by rw [hu p hp h]⟩
    · exact ⟨c, by rw [hS.other _ h]; exact e, hs⟩

theorem rowOf_setRow {W : World} {h : Nat} {cs : Array Value} (hr : rowOf W h = some cs) (vs : Array Value) (g : Nat) : rowOf (W.setRow h vs) g = if g = h then some vs else rowOf W g := by
  have hS := stored_setRow hr vs
  by_cases hg : g = h
  · subst hg; rw [if_pos rfl]; exact hS.row
  · rw [if_neg hg]; exact hS.other g hg
theorem stored_two {W : World} {h : Nat} {a b : Value} (hr : rowOf W h = some #[a, b]) (x y : Value) : Stored h #[x, y] W ((W.setCell ⟨h, 0, none⟩ x).setCell ⟨h, 1, none⟩ y) := by
  obtain ⟨t, hg⟩ := rowOf_some hr
  rw [setCell_eq_setRow W h 0 #[a, b] t (0, 0) x hg, setCell_eq_setRow _ h 1 (#[a, b].setIfInBounds 0 x) t (0, 0) y (setRow_heap W h #[a, b] _ t _ hg), setRow_setRow]
  exact stored_setRow hr #[x, y]

section
variable {P : Program}
/-- Results: two rows in blocks, and a number; two rows. -/
theorem results_rows3 {fn : Func} {p p' q : Tmp} {t t' : TypeId} (h : fn.results = #[.cell p t, .cell p' t', .tmp q]) {d d' : TypeDesc} (hu : P.underlying t = some d) (hd : (match d with | .struct _ | .array _ _ => true | _ => false) = true)
    (hu' : P.underlying t' = some d') (hd' : (match d' with | .struct _ | .array _ _ => true | _ => false) = true) {tmps : Array Value} {w : World} {g g' : Nat} {cs cs' : Array Value} (hp : tmps.getD p undef = .pointer (some ⟨g, 0, none⟩)) (hp' : tmps.getD p' undef = .pointer (some ⟨g', 0, none⟩)) (hg : rowOf w g = some cs) (hg' : rowOf w g' = some cs')
    (hi : (P.info? t).map (·.size) = some cs.size) (hi' : (P.info? t').map (·.size) = some cs'.size) {v : Value} (hq : tmps.getD q undef = v) : (results fn tmps).run P w = .ok (.tuple #[.agg cs, .agg cs', v]) w := by
  obtain ⟨u, hg⟩ := rowOf_some hg
  obtain ⟨u', hg'⟩ := rowOf_some hg'
  have e1 : tmps[p]?.getD undef = .pointer (some ⟨g, 0, none⟩) := by simpa using hp
  have e2 : tmps[p']?.getD undef = .pointer (some ⟨g', 0, none⟩) := by simpa using hp'
  have e3 : tmps[q]?.getD undef = v := by simpa using hq
  have l1 := run_loadVar_row (P := P) w g u t cs (0, 0) d hg hu hd hi
  have l2 := run_loadVar_row (P := P) w g' u' t' cs' (0, 0) d' hg' hu' hd' hi'
  simp [results, h, e1, e2, e3, asAddr, l1, l2]
theorem results_rows2 {fn : Func} {p p' : Tmp} {t t' : TypeId} (h : fn.results = #[.cell p t, .cell p' t']) {d d' : TypeDesc} (hu : P.underlying t = some d) (hd : (match d with | .struct _ | .array _ _ => true | _ => false) = true)
    (hu' : P.underlying t' = some d') (hd' : (match d' with | .struct _ | .array _ _ => true | _ => false) = true) {tmps : Array Value} {w : World} {g g' : Nat} {cs cs' : Array Value} (hp : tmps.getD p undef = .pointer (some ⟨g, 0, none⟩)) (hp' : tmps.getD p' undef = .pointer (some ⟨g', 0, none⟩)) (hg : rowOf w g = some cs) (hg' : rowOf w g' = some cs')
    (hi : (P.info? t).map (·.size) = some cs.size) (hi' : (P.info? t').map (·.size) = some cs'.size) : (results fn tmps).run P w = .ok (.tuple #[.agg cs, .agg cs']) w := by
  obtain ⟨u, hg⟩ := rowOf_some hg
  obtain ⟨u', hg'⟩ := rowOf_some hg'
  have e1 : tmps[p]?.getD undef = .pointer (some ⟨g, 0, none⟩) := by simpa using hp
  have e2 : tmps[p']?.getD undef = .pointer (some ⟨g', 0, none⟩) := by simpa using hp'
  have l1 := run_loadVar_row (P := P) w g u t cs (0, 0) d hg hu hd hi
  have l2 := run_loadVar_row (P := P) w g' u' t' cs' (0, 0) d' hg' hu' hd' hi'
  simp [results, h, e1, e2, asAddr, l1, l2]
end

def valOf (a : Act) : Option Tmp → Value
  | some d => a.tmps[d]?.getD undef
  | none => undef
def valF (f : Tmp → Value) : Option Tmp → Value
  | some d => f d
  | none => undef

def Region.shaped (ops : Array Oper) (ds : List (Option Tmp)) (size : Nat) : Bool :=
  decide (ds.length < ops.size) &&
  (List.range ds.length).all (fun i => (List.range ds.length).all fun j => i == j || ds[i]? != ds[j]? || ds[i]? == some none) &&
  (List.range ds.length).all (fun j => ((ops[j]?).map fun o => some o.dst == ds[j]?).getD false) &&
  (List.range ds.length).all (fun j => ((ds[j]?).map fun d => (d.map fun t => decide (t < size)).getD true).getD false) &&
  (List.range ops.size).all (fun k => ((ops[k]?).map fun o => o.after.all fun e => !Region.binds .any e || decide (e.on < k)).getD false) &&
  (List.range ops.size).all (fun k => decide (k < ds.length) || (List.range k).all fun j => waitsFor ops k j) &&
  (List.range ds.length).all (fun k => ((ops[k]?).map fun o => (o.guard.map fun g => waitsFor ops k g.1 && decide (g.1 < ds.length) && ((ds[g.1]?).map fun d => d.isSome).getD false).getD true).getD false)

section
variable {P : Program} {ops : Array Oper} {Q : Exit → Act → World → Prop}

/-- The last operations, in their one order. -/
theorem wpAny_chain : ∀ (r fuel i : Nat) (listed : Array Bool) (a : Act) (w : World), i + r = ops.size → listed.size = ops.size → (∀ j, j < i → listed.getD j true = true) → (∀ j, i ≤ j → j < ops.size → listed.getD j true = false) →
    (∀ k j, i ≤ k → j < k → k < ops.size → waitsFor ops k j = true) → (∀ (k : Nat) (o : Oper), ops[k]? = some o → ∀ e ∈ o.after, Region.binds .any e = true → Edge.on e < k) → r ≤ fuel → wpList P ops Q (ops.toList.drop i) a w → wpAny P .any ops Q fuel listed a w
  | 0, fuel, i, listed, a, w, hi, hs, h1, _, _, _, _, h => by
    rw [List.drop_of_length_le (by simp; omega)] at h
    exact wpAny_end hs (fun j hj => h1 j (by omega)) fuel h
  | r + 1, 0, _, _, _, _, _, _, _, _, _, _, hf, _ => by omega
  | r + 1, fuel + 1, i, listed, a, w, hi, hs, h1, h2, hw, hb, hf, h => by
    have hlt : i < ops.size := by omega
    have hready : ∀ k, k ∈ Region.ready .any ops listed ↔ k = i := by
      intro k
      rw [mem_ready]
      constructor
      · rintro ⟨hk, o, ho, hed⟩
        have hk2 : k < ops.size := (Array.getElem?_eq_some_iff.1 ho).1
        rcases Nat.lt_trichotomy k i with hki | hki | hki
        · rw [h1 k hki] at hk; simp at hk
        · exact hki
        · have := hw k i (by omega) hki hk2
          simp only [waitsFor, ho, Option.map_some, Option.getD_some, List.any_eq_true, Bool.and_eq_true, beq_iff_eq] at this
          obtain ⟨e, he, e1, e2⟩ := this
          have h3 := hed e (by simpa using he) e2
          rw [e1, ← getD_false_of (by omega) true, h2 i (Nat.le_refl _) hlt] at h3
          simp at h3
      · rintro rfl
        refine ⟨h2 k (Nat.le_refl _) hlt, ops[k], Array.getElem?_eq_getElem hlt, fun e he hbd => ?_⟩
        have := hb k _ (Array.getElem?_eq_getElem hlt) e he hbd
        rw [← getD_false_of (by omega) true]
        exact h1 _ this
    have hdrop : ops.toList.drop i = ops[i] :: ops.toList.drop (i + 1) := by
      rw [List.drop_eq_getElem_cons (by simpa using hlt)]; simp
    rw [hdrop] at h
    have hnext : ∀ a' w', wpList P ops Q (ops.toList.drop (i + 1)) a' w' → wpAny P .any ops Q fuel (listed.setIfInBounds i true) a' w' := fun a' w' h' =>
      wpAny_chain r fuel (i + 1) _ a' w' (by omega) (by simpa using hs) (fun j hj => by
        by_cases hij : i = j
        · subst hij; simp [show i < listed.size by omega]
        · rw [getD_set_ne true hij]; exact h1 j (by omega)) (fun j hj hj2 => by rw [getD_set_ne true (by omega)]; exact h2 j (by omega) hj2) (fun k j hk => hw k j (by omega)) hb (by omega) h'
    refine ⟨fun hr => ?_, fun k hk => ?_⟩
    · have := (hready i).2 rfl
      rw [hr] at this; simp at this
    · obtain rfl := (hready k).1 hk
      unfold wpList at h
      simp only [wpOp, Array.getElem?_eq_getElem hlt]
      split at h
      · rename_i hwn; rw [if_pos hwn]; exact h.imp (Oper.wp_mono hnext) id
      · rename_i hwn; rw [if_neg hwn]; exact hnext _ _ h

structure GoodX (fin : List (Nat × Array Value)) (ds : List (Option Tmp)) (R : Nat → Value → World → Prop) (a0 : Act) (w0 : World) (listed : Array Bool) (a : Act) (w : World) (n : Nat) : Prop where
  size : listed.size = n
  last : ∀ k, ds.length ≤ k → k < n → listed.getD k true = false
  ext : XT fin w0 w
  defers : a.defers = a0.defers
  tsize : a.tmps.size = a0.tmps.size
  rest : ∀ t, (∀ j, listed.getD j false = true → ds[j]? ≠ some (some t)) → a.tmps[t]? = a0.tmps[t]?
  done : ∀ j d, ds[j]? = some d → listed.getD j false = true → ∃ W, XT fin W w ∧ R j (valOf a d) W

theorem wpAny_draws (fin : List (Nat × Array Value)) (ds : List (Option Tmp)) (R : Nat → Value → World → Prop) (a0 : Act) (w0 : World) (hs : Region.shaped ops ds a0.tmps.size = true)
    (step : ∀ (k : Nat) (o : Oper) (d : Option Tmp) (b : Act) (W : World), ops[k]? = some o → ds[k]? = some d → XT fin w0 W → (∀ t, some t ∉ ds → b.tmps[t]?.getD undef = a0.tmps[t]?.getD undef) →
      (∀ j dj, waitsFor ops k j = true → ds[j]? = some dj → ∃ Wj, XT fin Wj W ∧ R j (valOf b dj) Wj) →
      (∀ g, o.guard = some g → ∀ v W, R g.1 v W → v = .bool g.2) ∧
      ∀ K : Act → World → Prop, (∀ v W', XT fin W W' → R k v W' → K (b.put d v) W') → (d = none → ∀ W', XT fin W W' → R k undef W' → K b W') → o.wp P b W K Q)
    (last : ∀ (f : Tmp → Value) (W : World), XT fin w0 W → (∀ j d, ds[j]? = some d → ∃ Wj, XT fin Wj W ∧ R j (valF f d) Wj) →
      wpList P ops Q (ops.toList.drop ds.length) (puts f (ds.filterMap id) a0) W)
    (hnone : ∀ (j : Nat) (v : Value) (W : World), ds[j]? = some none → R j v W → R j undef W) :
    ∀ (fuel : Nat) (listed : Array Bool) (a : Act) (w : World), GoodX fin ds R a0 w0 listed a w ops.size → left ops.size listed ≤ fuel → wpAny P .any ops Q fuel listed a w := by
  simp only [Region.shaped, Bool.and_eq_true, decide_eq_true_eq, List.all_eq_true, List.mem_range] at hs
  obtain ⟨⟨⟨⟨⟨⟨hm, hnd⟩, hdst⟩, hin⟩, hback⟩, hwait⟩, hgd⟩ := hs
  have hback' : ∀ (k : Nat) (o : Oper), ops[k]? = some o → ∀ e ∈ o.after, Region.binds .any e = true → Edge.on e < k := by
    intro k o ho e he hbd
    have h1 := hback k (Array.getElem?_eq_some_iff.1 ho).1
    rw [ho] at h1
    simp only [Option.map_some, Option.getD_some, Array.all_eq_true_iff_forall_mem, Bool.or_eq_true, Bool.not_eq_true', decide_eq_true_eq] at h1
    exact (h1 e he).resolve_left (by rw [hbd]; simp)
  have hwait' : ∀ k j, ds.length ≤ k → j < k → k < ops.size → waitsFor ops k j = true := by
    intro k j hk hj hk2
    have h1 := hwait k hk2
    rw [Bool.or_eq_true, decide_eq_true_eq] at h1
    have h2 := h1.resolve_left (by omega)
    rw [List.all_eq_true] at h2
    exact h2 j (List.mem_range.2 hj)
  have hdin : ∀ (j : Nat) (d : Tmp), ds[j]? = some (some d) → d < a0.tmps.size := by
    intro j d hj
    have h1 := hin j (List.getElem?_eq_some_iff.1 hj).1
    rw [hj] at h1
    simpa using h1
  have hnd' : ∀ (i j : Nat) (d : Tmp), ds[i]? = some (some d) → ds[j]? = some (some d) → i = j := by
    intro i j d hi hj
    have h1 := hnd i (List.getElem?_eq_some_iff.1 hi).1 j (List.getElem?_eq_some_iff.1 hj).1
    rw [hi, hj] at h1
    simpa using h1
  intro fuel
  induction fuel with
  | zero =>
    intro listed a w hg hl
    exfalso
    have := left_set (listed := listed) hm hg.size (hg.last _ (Nat.le_refl _) hm)
    omega
  | succ fuel ih =>
    intro listed a w hg hl
    refine ⟨fun hr => ?_, fun i hi => ?_⟩
    · exfalso
      have hex : ∃ i, i < ops.size ∧ listed.getD i true = false ∧ ∀ j, j < i → listed.getD j true = true := by
        have : ∀ n, (∃ i, i < n ∧ listed.getD i true = false) → ∃ i, i < n ∧ listed.getD i true = false ∧ ∀ j, j < i → listed.getD j true = true := by
          intro n
          induction n with
          | zero => rintro ⟨i, hi, _⟩; omega
          | succ n ihn =>
            rintro ⟨i, hi, hf⟩
            by_cases hx : ∃ i, i < n ∧ listed.getD i true = false
            · obtain ⟨i, h1, h2⟩ := ihn hx
              exact ⟨i, by omega, h2⟩
            · have hin : i = n := by
                rcases Nat.lt_or_ge i n with h | h
                · exact absurd ⟨i, h, hf⟩ hx
                · omega
              subst hin
              refine ⟨i, hi, hf, fun j hj => ?_⟩
              cases hjj : listed.getD j true with
              | true => rfl
              | false => exact absurd ⟨j, hj, hjj⟩ hx
        exact this _ ⟨ds.length, hm, hg.last _ (Nat.le_refl _) hm⟩
      obtain ⟨i, hi, hf, hb⟩ := hex
      have : i ∈ Region.ready .any ops listed := by
        rw [mem_ready]
        refine ⟨hf, ops[i], Array.getElem?_eq_getElem hi, fun e he hbd => ?_⟩
        have h2 := hback' i _ (Array.getElem?_eq_getElem hi) e he hbd
        rw [← getD_false_of (by have := hg.size; omega) true]
        exact hb _ h2
      rw [hr] at this
      simp at this
    · have hi' := hi
      rw [mem_ready] at hi
      obtain ⟨hf, o, ho, hed⟩ := hi
      have hlt : i < ops.size := (Array.getElem?_eq_some_iff.1 ho).1
      have hcnt := left_set hlt hg.size hf
      have hsz' : (listed.setIfInBounds i true).size = ops.size := by simp [hg.size]
      have hdone : ∀ j, waitsFor ops i j = true → listed.getD j false = true := by
        intro j hj
        simp only [waitsFor, ho, Option.map_some, Option.getD_some, List.any_eq_true, Bool.and_eq_true, beq_iff_eq] at hj
        obtain ⟨e, he, h1, h2⟩ := hj
        rw [← h1]
        exact hed e (by simpa using he) h2
      rcases Nat.lt_or_ge i ds.length with hil | hil
      · obtain ⟨d, hdd⟩ : ∃ d, ds[i]? = some d := ⟨ds[i], List.getElem?_eq_getElem hil⟩
        have hd : o.dst = d := by
          have h1 := hdst i hil
          rw [ho, hdd] at h1
          simpa using h1
        have hst := step i o d a w ho hdd hg.ext (fun t ht => by rw [hg.rest t (fun j _ e => ht (List.mem_of_getElem? e))]) (fun j dj hj hdj => hg.done j dj hdj (hdone j hj))
        have hw : Region.wanted o (yielded ops a.tmps) = true := by
          cases hgo : o.guard with
          | none => simp [Region.wanted, hgo]
          | some g =>
            have h1 := hgd i hil
            rw [ho] at h1
            simp only [Option.map_some, Option.getD_some, hgo, Bool.and_eq_true, decide_eq_true_eq] at h1
            obtain ⟨⟨h2, h3⟩, h4⟩ := h1
            obtain ⟨dg, hdg⟩ : ∃ dg, ds[g.1]? = some dg := ⟨ds[g.1], List.getElem?_eq_getElem h3⟩
            rw [hdg] at h4
            cases dg with
            | none => simp at h4
            | some t =>
              obtain ⟨Wg, _, hR⟩ := hg.done g.1 _ hdg (hdone _ h2)
              have hv := hst.1 g hgo _ _ hR
              simp only [valOf] at hv
              have htl : t < a.tmps.size := by rw [hg.tsize]; exact hdin _ _ hdg
              have hog : ((ops[g.1]?).bind (·.dst)) = some t := by
                have h5 := hdst g.1 h3
                rw [hdg] at h5
                cases hop : ops[g.1]? with
                | none => simp [hop] at h5
                | some og => simp only [hop, Option.map_some, Option.getD_some, beq_iff_eq, Option.some.injEq] at h5; simp [h5]
              obtain ⟨gj, gw⟩ := g
              rw [Array.getElem?_eq_getElem htl, Option.getD_some] at hv
              simp only at hog hv
              simp only [Region.wanted, hgo, yielded, hog, Option.bind_some, Array.getElem?_eq_getElem htl, hv]
              simp
        simp only [wpOp, ho, hw, if_true]
        refine .inl (hst.2 _ (fun v W' hE hR => ?_) (fun hdn W' hE hR => ?_))
        · refine ih _ _ _ ⟨hsz', fun k hk hk2 => ?_, hg.ext.trans hE, ?_, ?_, fun t ht => ?_, fun j dj hdj hj => ?_⟩ (by omega)
          · rw [getD_set_ne true (by omega)]; exact hg.last k hk hk2
          · cases d <;> exact hg.defers
          · cases d <;> simp [Act.put, hg.tsize]
          · have h2 : (a.put d v).tmps[t]? = a.tmps[t]? := by
              cases d with
              | none => rfl
              | some d =>
                have htd : t ≠ d := fun e => by
                  refine ht i ?_ (by rw [e]; exact hdd)
                  simp [show i < listed.size by have := hg.size; omega]
                simp [Act.put, Array.getElem?_setIfInBounds_ne (Ne.symm htd)]
            rw [h2]
            refine hg.rest t fun j hj => ht j ?_
            by_cases hij : i = j
            · subst hij; simp [show i < listed.size by have := hg.size; omega]
            · rw [getD_set_ne false hij]; exact hj
          · by_cases hij : i = j
            · subst hij
              obtain rfl : d = dj := Option.some.inj (hdd.symm.trans hdj)
              cases d with
              | none => exact ⟨W', XT.refl _ _, hnone i v W' hdd hR⟩
              | some d =>
                refine ⟨W', XT.refl _ _, ?_⟩
                have hdl : d < a.tmps.size := by rw [hg.tsize]; exact hdin _ _ hdd
                have : valOf (a.put (some d) v) (some d) = v := by simp [valOf, Act.put, hdl]
                rw [this]; exact hR
            · rw [getD_set_ne false hij] at hj
              obtain ⟨Wj, h3, h4⟩ := hg.done j dj hdj hj
              refine ⟨Wj, h3.trans hE, ?_⟩
              have : valOf (a.put d v) dj = valOf a dj := by
                cases dj with
                | none => rfl
                | some dj =>
                  cases d with
                  | none => rfl
                  | some d =>
                    have hne : d ≠ dj := fun e => hij (hnd' i j d hdd (by rw [hdj, e]))
                    simp [valOf, Act.put, Array.getElem?_setIfInBounds_ne hne]
              rw [this]; exact h4
        · subst hdn
          refine ih _ _ _ ⟨hsz', fun k hk hk2 => ?_, hg.ext.trans hE, hg.defers, hg.tsize, fun t ht => ?_, fun j dj hdj hj => ?_⟩ (by omega)
          · rw [getD_set_ne true (by omega)]; exact hg.last k hk hk2
          · refine hg.rest t fun j hj => ht j ?_
            by_cases hij : i = j
            · subst hij; simp [show i < listed.size by have := hg.size; omega]
            · rw [getD_set_ne false hij]; exact hj
          · by_cases hij : i = j
            · subst hij
              obtain rfl : none = dj := Option.some.inj (hdd.symm.trans hdj)
              exact ⟨W', XT.refl _ _, hR⟩
            · rw [getD_set_ne false hij] at hj
              obtain ⟨Wj, h3, h4⟩ := hg.done j dj hdj hj
              exact ⟨Wj, h3.trans hE, h4⟩
      · have hall : ∀ j, j < i → listed.getD j true = true := fun j hj => by
          rw [getD_false_of (by have := hg.size; omega)]
          exact hdone j (hwait' i j hil hj hlt)
        obtain rfl : i = ds.length := by
          rcases Nat.eq_or_lt_of_le hil with h | h
          · exact h.symm
          · have := hall ds.length h
            rw [hg.last _ (Nat.le_refl _) hm] at this
            simp at this
        have ha : puts (fun t => a.tmps[t]?.getD undef) (ds.filterMap id) a0 = a := by
          obtain ⟨p1, p2, p3⟩ := puts_spec (fun t => a.tmps[t]?.getD undef) (ds.filterMap id) a0
          have e1 : (puts (fun t => a.tmps[t]?.getD undef) (ds.filterMap id) a0).tmps = a.tmps := by
            apply Array.ext_getElem?
            intro t
            by_cases ht : t < a0.tmps.size
            · rw [p3 t ht]
              by_cases hmm : t ∈ ds.filterMap id
              · rw [if_pos hmm, Array.getElem?_eq_getElem (by rw [hg.tsize]; exact ht)]
                simp
              · rw [if_neg hmm]
                exact (hg.rest t fun j _ e => hmm (List.mem_filterMap.2 ⟨some t, List.mem_of_getElem? e, rfl⟩)).symm
            · rw [Array.getElem?_eq_none (by omega), Array.getElem?_eq_none (by rw [hg.tsize]; omega)]
          have e2 : (puts (fun t => a.tmps[t]?.getD undef) (ds.filterMap id) a0).defers = a.defers := by rw [p1, hg.defers]
          cases hp : puts (fun t => a.tmps[t]?.getD undef) (ds.filterMap id) a0 with
          | mk x y =>
            cases a with
            | mk x' y' =>
              rw [hp] at e1 e2
              simp only at e1 e2
              rw [e1, e2]
        have hl' := last (fun t => a.tmps[t]?.getD undef) w hg.ext (fun j d hd => by
          obtain ⟨Wj, h1, h2⟩ := hg.done j d hd (by rw [← getD_false_of (by have := hg.size; have := (List.getElem?_eq_some_iff.1 hd).1; omega) true]; exact hall j (List.getElem?_eq_some_iff.1 hd).1)
          exact ⟨Wj, h1, by cases d <;> exact h2⟩)
        rw [ha] at hl'
        have hch := wpAny_chain (P := P) (Q := Q) (ops := ops) (ops.size - ds.length) (fuel + 1) ds.length listed a w (by omega) hg.size hall hg.last hwait' hback' (by
          have : ∀ (r i : Nat) (listed : Array Bool), i + r = ops.size → listed.size = ops.size → (∀ j, i ≤ j → j < ops.size → listed.getD j true = false) → r ≤ left ops.size listed := by
            intro r
            induction r with
            | zero => intro _ _ _ _ _; omega
            | succ r ihr =>
              intro i listed h1 h2 h3
              have h4 := left_set (show i < ops.size by omega) h2 (h3 i (Nat.le_refl _) (by omega))
              have h5 := ihr (i + 1) (listed.setIfInBounds i true) (by omega) (by simpa using h2) (fun j hj hj2 => by rw [getD_set_ne true (by omega)]; exact h3 j (by omega) hj2)
              omega
          exact Nat.le_trans (this _ ds.length listed (by omega) hg.size hg.last) hl) hl'
        exact hch.2 _ hi'
/-- An obligation an operation, in the text's order; then the last operations. -/
def stepsX (P : Program) (ops : Array Oper) (Q : Exit → Act → World → Prop) (fin : List (Nat × Array Value)) (ds0 : List (Option Tmp)) (a0 : Act) (w1 : World) (R : Nat → Value → World → Prop) : Nat → List Oper → List (Option Tmp) → Prop
  | k, o :: os, some d :: ds => ((∀ g, o.guard = some g → ∀ v W, R g.1 v W → v = .bool g.2) ∧ ∀ (b : Act) (W : World), XT fin w1 W → (∀ t, some t ∉ ds0 → b.tmps[t]?.getD undef = a0.tmps[t]?.getD undef) →
      (∀ j dj, waitsFor ops k j = true → ds0[j]? = some dj → ∃ Wj, XT fin Wj W ∧ R j (valOf b dj) Wj) →
      ∀ K : Act → World → Prop, (∀ v W', XT fin W W' → R k v W' → K (b.put (some d) v) W') → o.wp P b W K Q) ∧ stepsX P ops Q fin ds0 a0 w1 R (k + 1) os ds
  | k, o :: os, none :: ds => ((∀ g, o.guard = some g → ∀ v W, R g.1 v W → v = .bool g.2) ∧ ∀ (b : Act) (W : World), XT fin w1 W → (∀ t, some t ∉ ds0 → b.tmps[t]?.getD undef = a0.tmps[t]?.getD undef) →
      (∀ j dj, waitsFor ops k j = true → ds0[j]? = some dj → ∃ Wj, XT fin Wj W ∧ R j (valOf b dj) Wj) →
      ∀ K : Act → World → Prop, (∀ W', XT fin W W' → R k undef W' → K b W') → o.wp P b W K Q) ∧ stepsX P ops Q fin ds0 a0 w1 R (k + 1) os ds
  | _, os, [] => ∀ (f : Tmp → Value) (W : World), XT fin w1 W → (∀ j d, ds0[j]? = some d → ∃ Wj, XT fin Wj W ∧ R j (valF f d) Wj) → wpList P ops Q os (puts f (ds0.filterMap id) a0) W
  | _, [], _ :: _ => True

theorem stepsX_get {fin : List (Nat × Array Value)} {ds0 : List (Option Tmp)} {a0 : Act} {w1 : World} {R : Nat → Value → World → Prop} : ∀ (os : List Oper) (ds : List (Option Tmp)) (k i : Nat), stepsX P ops Q fin ds0 a0 w1 R k os ds → ∀ (o : Oper) (d : Option Tmp), os[i]? = some o → ds[i]? = some d →
    (∀ g, o.guard = some g → ∀ v W, R g.1 v W → v = .bool g.2) ∧ (∀ (b : Act) (W : World), XT fin w1 W → (∀ t, some t ∉ ds0 → b.tmps[t]?.getD undef = a0.tmps[t]?.getD undef) →
      (∀ j dj, waitsFor ops (k + i) j = true → ds0[j]? = some dj → ∃ Wj, XT fin Wj W ∧ R j (valOf b dj) Wj) →
      ∀ K : Act → World → Prop, (∀ v W', d ≠ none → XT fin W W' → R (k + i) v W' → K (b.put d v) W') → (d = none → ∀ W', XT fin W W' → R (k + i) undef W' → K b W') → o.wp P b W K Q)
  | [], _, _, _, _, _, _, h, _ => by simp at h
  | _ :: _, [], _, _, _, _, _, _, h => by simp at h
  | o' :: os, some d' :: ds, k, 0, h, o, d, ho, hd => by
    simp at ho hd; subst ho; subst hd
    exact ⟨h.1.1, fun b W h1 h2 h3 K hK _ => h.1.2 b W h1 h2 h3 K (fun v W' e r => hK v W' (by simp) e r)⟩
  | o' :: os, none :: ds, k, 0, h, o, d, ho, hd => by
    simp at ho hd; subst ho; subst hd
    exact ⟨h.1.1, fun b W h1 h2 h3 K _ hK => h.1.2 b W h1 h2 h3 K (fun W' e r => hK rfl W' e r)⟩
  | o' :: os, some d' :: ds, k, i + 1, h, o, d, ho, hd => by
    have := stepsX_get os ds (k + 1) i h.2 o d (by simpa using ho) (by simpa using hd)
    rw [show k + 1 + i = k + (i + 1) by omega] at this
    exact this
  | o' :: os, none :: ds, k, i + 1, h, o, d, ho, hd => by
    have := stepsX_get os ds (k + 1) i h.2 o d (by simpa using ho) (by simpa using hd)
    rw [show k + 1 + i = k + (i + 1) by omega] at this
    exact this

theorem stepsX_last {fin : List (Nat × Array Value)} {ds0 : List (Option Tmp)} {a0 : Act} {w1 : World} {R : Nat → Value → World → Prop} : ∀ (os : List Oper) (ds : List (Option Tmp)) (k : Nat), stepsX P ops Q fin ds0 a0 w1 R k os ds → ds.length < os.length →
    ∀ (f : Tmp → Value) (W : World), XT fin w1 W → (∀ j d, ds0[j]? = some d → ∃ Wj, XT fin Wj W ∧ R j (valF f d) Wj) → wpList P ops Q (os.drop ds.length) (puts f (ds0.filterMap id) a0) W
  | [], _, _, _, hl => by simp at hl
  | _ :: _, [], _, h, _ => h
  | _ :: os, some _ :: ds, k, h, hl => stepsX_last os ds (k + 1) h.2 (by simpa using hl)
  | _ :: os, none :: ds, k, h, hl => stepsX_last os ds (k + 1) h.2 (by simpa using hl)

/-- THE LAW, WIDER. -/
theorem any_draws {a0 : Act} {w0 : World} {os : List Oper} (fin : List (Nat × Array Value)) (ds : List (Option Tmp)) (hs : Region.shaped os.toArray ds a0.tmps.size = true) (R : Nat → Value → World → Prop)
    (step : stepsX P os.toArray Q fin ds a0 w0.drew R 0 os ds) : wpAny P .any os.toArray Q os.toArray.size (Array.replicate os.toArray.size false) a0 w0.drew := by
  have hlt : ds.length < os.length := by
    simp only [Region.shaped, Bool.and_eq_true, decide_eq_true_eq] at hs
    simpa using hs.1.1.1.1.1.1
  refine (wpAny_draws fin ds (fun j v W => if ds[j]? = some none then R j undef W else R j v W) a0 w0.drew hs (fun k o d b W ho hd hE hb hdep => ?_) (fun f W hE hR => ?_) (fun j v W hj hR => by rw [if_pos hj] at hR ⊢; exact hR) _ _ _ _ ⟨by simp, fun k _ hk => by simp at hk; simp [Array.getElem?_replicate, hk], XT.refl _ _, rfl, rfl, fun _ _ => rfl, fun j d hd hj => ?_⟩ ?_)
  · have h := stepsX_get (ops := os.toArray) os ds 0 k step o d (by simpa using ho) hd
    have hdep' : ∀ j dj, waitsFor os.toArray (0 + k) j = true → ds[j]? = some dj → ∃ Wj, XT fin Wj W ∧ R j (valOf b dj) Wj := by
      intro j dj h1 h2
      obtain ⟨Wj, h3, h4⟩ := hdep j dj (by simpa using h1) h2
      refine ⟨Wj, h3, ?_⟩
      by_cases hn : ds[j]? = some none
      · rw [if_pos hn] at h4
        rw [h2] at hn
        obtain rfl : dj = none := Option.some.inj hn
        exact h4
      · rw [if_neg hn] at h4; exact h4
    refine ⟨fun g hg v W' hR => ?_, fun K hK hK2 => h.2 b W hE hb hdep' K (fun v W' hn e r => hK v W' e ?_) (fun hn W' e r => hK2 hn W' e ?_)⟩
    · by_cases hn : ds[g.1]? = some none
      · exfalso
        simp only [Region.shaped, Bool.and_eq_true, List.all_eq_true, List.mem_range] at hs
        have h1 := hs.2 k (List.getElem?_eq_some_iff.1 hd).1
        rw [ho] at h1
        simp [hg, hn] at h1
      · rw [if_neg hn] at hR
        exact h.1 g hg v W' hR
    · rw [if_neg (by rw [hd]; simpa using hn)]; simpa using r
    · rw [if_pos (by rw [hd, hn])]; simpa using r
  · have := stepsX_last (ops := os.toArray) os ds 0 step hlt f W hE (fun j d hd => by
      obtain ⟨Wj, h3, h4⟩ := hR j d hd
      refine ⟨Wj, h3, ?_⟩
      by_cases hn : ds[j]? = some none
      · rw [if_pos hn] at h4
        rw [hd] at hn
        obtain rfl : d = none := Option.some.inj hn
        exact h4
      · rw [if_neg hn] at h4; exact h4)
    simpa using this
  · exfalso
    rw [Array.getD_eq_getD_getElem?, Array.getElem?_replicate] at hj
    split at hj <;> simp at hj
  · exact Nat.le_trans List.countP_le_length (by simp)
theorem wp_draws {id : Nat} {a0 : Act} {w0 : World} {os : List Oper} (hm : P.follows .mixedOrders = true) (fin : List (Nat × Array Value)) (ds : List (Option Tmp)) (hs : Region.shaped os.toArray ds a0.tmps.size = true) (R : Nat → Value → World → Prop)
    (step : stepsX P os.toArray Q fin ds a0 w0.drew R 0 os ds) : (Code.region id os.toArray true).wp P Q a0 w0 := wp_region_any hm (any_draws fin ds hs R step)

theorem eval_tmp (a : Act) (t : Tmp) : a.eval (.tmp t) = a.tmps[t]?.getD undef := by simp [Act.eval]
theorem wp_store_fin {fin : List (Nat × Array Value)} {o : Oper} {a : Act} {W : World} {K : Act → World → Prop} (ty : TypeId) (x y : Operand) (ho : o.op = .store ty x y) (hd : o.dst = none) {g : Nat} {vs : Array Value} (hx : a.eval x = .pointer (some ⟨g, 0, none⟩)) (hy : a.eval y = .agg vs)
    (hr : ∃ cs, rowOf W g = some cs ∧ cs.size = vs.size) (hi : (P.info? ty).map (·.size) = some vs.size) (h1 : vs.all (·.oneCell') = true) (hm : (g, vs) ∈ fin) (hu : ∀ p ∈ fin, p.1 = g → p.2 = vs)
    (hk : ∀ W', XT fin W W' → rowOf W' g = some vs → K a W') : o.wp P a W K Q := by
  obtain ⟨cs, hr, hs⟩ := hr
  obtain ⟨t, hg⟩ := rowOf_some hr
  refine wp_store_row ty x y ho g vs hx hy t cs hg hi hs h1 ?_
  rw [hd]
  exact hk _ (xt_setRow hr hm hu) (stored_setRow hr vs).row
theorem sliceX {fin : List (Nat × Array Value)} {W : World} {v : Value} {n : Nat} {row : Array Value} (hf : ∀ p ∈ fin, p.1 ≠ blk v) (h : ∃ Wj, XT fin Wj W ∧ SL v n row Wj) : SL v n row W := let ⟨_, e, h⟩ := h; ⟨h.1, e.row h.2 hf⟩
theorem pureX {fin : List (Nat × Array Value)} {W : World} {p : Prop} (h : ∃ Wj, XT fin Wj W ∧ p) : p := let ⟨_, _, h⟩ := h; h
theorem lastX {fin : List (Nat × Array Value)} {W : World} {g : Nat} {vs : Array Value} (hm : (g, vs) ∈ fin) (h : ∃ Wj, XT fin Wj W ∧ rowOf Wj g = some vs) : rowOf W g = some vs := let ⟨_, e, h⟩ := h; e.last _ hm h
end
end Go.Proofs.Ytkodjegpdkfjkaa
