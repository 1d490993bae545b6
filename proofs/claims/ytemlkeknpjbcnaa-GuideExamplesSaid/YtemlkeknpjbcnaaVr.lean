/- Soundness: regions that draw their order. -/
import Derived.Test.YtemlkeknpjbcnaaVq
set_option linter.unusedVariables false
set_option linter.unusedSimpArgs false
namespace Go.V
open Go.RowKit
variable {P : Program}

/-! What comes before what -/
theorem edges_fold {acc : Array Nat} {j : Nat} : ∀ (es : List Edge) (s : Nat), (es.foldl (fun s e => if Region.binds .any e then s ||| 2 ^ e.on ||| acc.getD e.on 0 else s) s).testBit j = true → s.testBit j = true ∨ ∃ e ∈ es, Region.binds .any e = true ∧ (e.on = j ∨ (acc.getD e.on 0).testBit j = true)
  | [], s, h => .inl h
  | e :: es, s, h => by
    simp only [List.foldl_cons] at h
    rcases edges_fold es _ h with h1 | ⟨e', h1, h2⟩
    · split at h1
      · rename_i hb
        simp only [Nat.testBit_or, Bool.or_eq_true, Nat.testBit_two_pow, decide_eq_true_eq] at h1
        rcases h1 with (h1 | h1) | h1
        · exact .inl h1
        · exact .inr ⟨e, by simp, hb, .inl h1⟩
        · exact .inr ⟨e, by simp, hb, .inr h1⟩
      · exact .inl h1
    · exact .inr ⟨e', by simp [h1], h2⟩
theorem before_fold : ∀ (l : List Oper) (acc : Array Nat), (l.foldl (fun acc o => acc.push (o.after.foldl (fun s e => if Region.binds .any e then s ||| 2 ^ e.on ||| acc.getD e.on 0 else s) 0)) acc).size = acc.size + l.length ∧
    (∀ k, k < acc.size → (l.foldl (fun acc o => acc.push (o.after.foldl (fun s e => if Region.binds .any e then s ||| 2 ^ e.on ||| acc.getD e.on 0 else s) 0)) acc).getD k 0 = acc.getD k 0) ∧
    ∀ (k : Nat) o, l[k]? = some o → ∀ j, ((l.foldl (fun acc o => acc.push (o.after.foldl (fun s e => if Region.binds .any e then s ||| 2 ^ e.on ||| acc.getD e.on 0 else s) 0)) acc).getD (acc.size + k) 0).testBit j = true →
      ∃ e ∈ o.after, Region.binds .any e = true ∧ (e.on = j ∨ (e.on < acc.size + k ∧ ((l.foldl (fun acc o => acc.push (o.after.foldl (fun s e => if Region.binds .any e then s ||| 2 ^ e.on ||| acc.getD e.on 0 else s) 0)) acc).getD e.on 0).testBit j = true))
  | [], acc => ⟨by simp, fun _ _ => rfl, by simp⟩
  | o :: l, acc => by
    obtain ⟨h1, h2, h3⟩ := before_fold l (acc.push (o.after.foldl (fun s e => if Region.binds .any e then s ||| 2 ^ e.on ||| acc.getD e.on 0 else s) 0))
    simp only [List.foldl_cons]
    refine ⟨by rw [h1]; simp; omega, fun k hk => ?_, fun k o' hk j hj => ?_⟩
    · rw [h2 k (by simp; omega)]
      simp only [Array.getD_eq_getD_getElem?]
      rw [Array.getElem?_push, if_neg (by omega)]
    · cases k with
      | zero =>
        simp at hk; subst hk
        rw [Nat.add_zero, h2 acc.size (by simp)] at hj
        have : (acc.push (o.after.foldl (fun s e => if Region.binds .any e then s ||| 2 ^ e.on ||| acc.getD e.on 0 else s) 0)).getD acc.size 0 = o.after.foldl (fun s e => if Region.binds .any e then s ||| 2 ^ e.on ||| acc.getD e.on 0 else s) 0 := by
          simp only [Array.getD_eq_getD_getElem?]; rw [Array.getElem?_push, if_pos rfl]; rfl
        rw [this, ← Array.foldl_toList] at hj
        rcases edges_fold _ _ hj with h | ⟨e, q1, q2, q3⟩
        · simp at h
        · refine ⟨e, by simpa using q1, q2, ?_⟩
          rcases q3 with q3 | q3
          · exact .inl q3
          · right
            have hlt : e.on < acc.size := by
              rcases Nat.lt_or_ge e.on acc.size with h' | h'
              · exact h'
              · simp only [Array.getD_eq_getD_getElem?] at q3
                rw [Array.getElem?_eq_none h'] at q3; simp at q3
            refine ⟨by omega, ?_⟩
            rw [h2 e.on (by simp; omega)]
            simp only [Array.getD_eq_getD_getElem?] at q3 ⊢
            rw [Array.getElem?_push, if_neg (by omega)]; exact q3
      | succ k =>
        simp at hk
        have hs : (acc.push (o.after.foldl (fun s e => if Region.binds .any e then s ||| 2 ^ e.on ||| acc.getD e.on 0 else s) 0)).size + k = acc.size + (k + 1) := by simp; omega
        obtain ⟨e, q1, q2, q3⟩ := h3 k o' hk j (by rw [hs]; exact hj)
        rw [hs] at q3
        exact ⟨e, q1, q2, q3⟩
theorem before_spec {ops : Array Oper} {i : Nat} {o : Oper} (ho : ops[i]? = some o) {j : Nat} (h : ((Region.before ops).getD i 0).testBit j = true) : ∃ e ∈ o.after, Region.binds .any e = true ∧ (e.on = j ∨ (e.on < i ∧ ((Region.before ops).getD e.on 0).testBit j = true)) := by
  have := (before_fold ops.toList #[]).2.2 i o (by simpa using ho) j
  unfold Region.before at h ⊢
  simp only [← Array.foldl_toList] at h ⊢
  simp only [← Array.foldl_toList] at this
  simpa using this (by simpa using h)
/-- Who has all that comes just before has all that comes before. -/
theorem closed_before {ops : Array Oper} {listed : Array Bool} (hcl : ∀ i o, listed.getD i false = true → ops[i]? = some o → ∀ e ∈ o.after, Region.binds .any e = true → listed.getD e.on false = true) :
    ∀ (i : Nat) o, ops[i]? = some o → (∀ e ∈ o.after, Region.binds .any e = true → listed.getD e.on false = true) → ∀ j, ((Region.before ops).getD i 0).testBit j = true → listed.getD j false = true := by
  intro i
  induction i using Nat.strongRecOn with
  | _ i ih =>
    intro o ho hall j hj
    obtain ⟨e, q1, q2, q3⟩ := before_spec ho hj
    rcases q3 with q3 | ⟨q3, q4⟩
    · exact q3 ▸ hall e q1 q2
    · have hl := hall e q1 q2
      cases he : ops[e.on]? with
      | none =>
        -- a number without an operation: nothing comes before it
        have : (Region.before ops).getD e.on 0 = 0 := by
          have hs := (before_fold ops.toList #[]).1
          simp only [Array.getD_eq_getD_getElem?]
          rw [Array.getElem?_eq_none]
          · rfl
          · have h1 : (Region.before ops).size = ops.size := by unfold Region.before; rw [← Array.foldl_toList]; simpa using hs
            rw [h1]; exact Array.getElem?_eq_none_iff.1 he
        rw [this] at q4; simp at q4
      | some o' => exact ih e.on q3 o' he (hcl e.on o' hl he) j q4

/-! Reading the code -/
theorem cOpers_get {P : Program} {ops : Array Oper} : ∀ {l : List Oper} {k : Nat} {ios : List IOp}, cOpers P ops l k = some ios → ios.length = l.length ∧ ∀ (i : Nat) o io, l[i]? = some o → ios[i]? = some io → cOper P ops ((Region.before ops).getD (k + i) 0) o = some io
  | [], k, ios, h => by cases h; exact ⟨rfl, by simp⟩
  | o :: l, k, ios, h => by
    simp only [cOpers] at h
    split at h
    · rename_i a as h1 h2
      cases h
      obtain ⟨g1, g2⟩ := cOpers_get h2
      refine ⟨by simp [g1], fun i o' io hi hio => ?_⟩
      cases i with
      | zero => simp at hi hio; subst hi hio; exact h1
      | succ i =>
        simp at hi hio
        have := g2 i o' io hi hio
        rwa [show k + 1 + i = k + (i + 1) by omega] at this
    · cases h
theorem slots_spec {ops : Array Oper} (h : slotsOK ops = true) : (∀ (i j : Nat) oi oj, i < j → ops[i]? = some oi → ops[j]? = some oj → ((Region.before ops).getD j 0).testBit i = true ∨ oi.apart ops oj = true) ∧ ∀ (i : Nat) o, ops[i]? = some o → ∀ e ∈ o.after, Region.binds .any e = true → e.on < i := by
  unfold slotsOK at h
  simp only [Bool.and_eq_true, List.all_eq_true] at h
  obtain ⟨h1, h2⟩ := h
  have mem : ∀ (i : Nat) o, ops[i]? = some o → (o, i) ∈ ops.toList.zipIdx := fun i o ho => by
    rw [List.mem_zipIdx_iff_getElem?]; simpa using ho
  refine ⟨fun i j oi oj hij hi hj => ?_, fun i o ho e he hb => ?_⟩
  · have := h1 (oj, j) (mem j oj hj) (oi, i) (mem i oi hi)
    simp only [hij, decide_true, Bool.not_true, Bool.false_or, Bool.or_eq_true] at this
    exact this
  · have := h2 (o, i) (mem i o ho) e (by simpa using he)
    simpa [hb] using this
theorem uses_spec {ops : Array Oper} : ∀ {os : List Oper} {ios : List IOp}, usesOK ops os ios = true → ∀ (i : Nat) o io, os[i]? = some o → ios[i]? = some io → ∀ n, Arg.t n ∈ io.op.args → n ∈ o.looksAt ops
  | [], ios, h, i, o, io, hi, hio, n, hn => by simp at hi
  | o' :: os, [], h, i, o, io, hi, hio, n, hn => by simp at hio
  | o' :: os, io' :: ios, h, i, o, io, hi, hio, n, hn => by
    simp only [usesOK, Bool.and_eq_true, List.all_eq_true] at h
    cases i with
    | zero =>
      simp at hi hio; subst hi hio
      have := h.1 _ hn
      simpa using this
    | succ i => simp at hi hio; exact uses_spec h.2 i o io hi hio n hn
theorem apart_dst {ops : Array Oper} {x y : Oper} (h : x.apart ops y = true) : (∀ d, x.dst = some d → d ∉ y.looksAt ops) ∧ (∀ d, x.dst = some d → y.dst ≠ some d) ∧ (∀ d, y.dst = some d → d ∉ x.looksAt ops) := Oper.apart_spec h
theorem clash_false {a b : Foot} (h : clash a b = false) : (∀ id ∈ a.wr, id ∉ b.rd ∧ id ∉ b.wr) ∧ ∀ id ∈ b.wr, id ∉ a.rd := by
  simp only [clash, Bool.or_eq_false_iff, List.any_eq_false, Bool.or_eq_true, not_or, List.contains_iff_mem, Bool.not_eq_true] at h
  refine ⟨fun id hid => ?_, fun id hid => ?_⟩
  · have := h.1 id hid
    simpa using this
  · have := h.2 id hid
    simpa using this
/-- How many are left. -/
def leftN (n : Nat) (listed : Array Bool) : Nat := ((List.range n).filter fun i => !listed.getD i true).length
theorem filter_set {l : List Nat} {i : Nat} {p p' : Nat → Bool} (hp : p i = true) (hp' : p' i = false) (he : ∀ j, j ≠ i → p' j = p j) (hnd : l.Nodup) : (i ∈ l → (l.filter p').length + 1 = (l.filter p).length) ∧ (i ∉ l → (l.filter p').length = (l.filter p).length) := by
  induction l with
  | nil => simp
  | cons x l ih =>
    have hnd' := List.nodup_cons.1 hnd
    obtain ⟨ih1, ih2⟩ := ih hnd'.2
    refine ⟨fun hm => ?_, fun hm => ?_⟩
    · simp only [List.mem_cons] at hm
      by_cases hx : x = i
      · subst hx
        rw [List.filter_cons_of_pos hp, List.filter_cons_of_neg (by simp [hp'])]
        rw [ih2 hnd'.1]; rfl
      · have hm' := hm.resolve_left (Ne.symm hx)
        have := ih1 hm'
        by_cases hpx : p x = true
        · rw [List.filter_cons_of_pos hpx, List.filter_cons_of_pos (by rw [he x hx]; exact hpx)]; simp; omega
        · rw [List.filter_cons_of_neg hpx, List.filter_cons_of_neg (by rw [he x hx]; exact hpx)]; exact this
    · simp only [List.mem_cons, not_or] at hm
      have := ih2 hm.2
      by_cases hpx : p x = true
      · rw [List.filter_cons_of_pos hpx, List.filter_cons_of_pos (by rw [he x (Ne.symm hm.1)]; exact hpx)]; simp [this]
      · rw [List.filter_cons_of_neg hpx, List.filter_cons_of_neg (by rw [he x (Ne.symm hm.1)]; exact hpx)]; exact this
theorem leftN_set {n i : Nat} {listed : Array Bool} (hi : i < n) (hs : listed.size = n) (h : listed.getD i true = false) : leftN n (listed.setIfInBounds i true) + 1 = leftN n listed := by
  refine (filter_set (i := i) (by simp [h]) ?_ (fun j hj => ?_) List.nodup_range).1 (by simpa using hi)
  · simp only [Array.getD_eq_getD_getElem?]
    rw [Array.getElem?_setIfInBounds_self_of_lt (by omega)]; rfl
  · simp only [Array.getD_eq_getD_getElem?]
    rw [Array.getElem?_setIfInBounds_ne (Ne.symm hj)]
end Go.V
