/- A drawn region with a store into each of two blocks that nothing else in it reads. -/
import Derived.Test.YtafdcbdbllpcnaaDraws3
import Derived.Test.YtafdcbdbllpcnaaSickT
set_option linter.unusedVariables false
set_option linter.unusedSimpArgs false
namespace Go.Proofs.Ytafdcbdbllpcnaa
open Go.RowKit
open Go.Proofs

/-- Memory grows; the blocks g1 and g2 hold what they held, or the rows r1 and r2. -/
structure XQ (g1 g2 : Nat) (r1 r2 : Array Value) (W W' : World) : Prop where
  os : W'.os = W.os
  tape : W'.tape = W.tape
  output : W'.output = W.output
  size : W.heap.size ≤ W'.heap.size
  block : ∀ k, k < W.heap.size → k ≠ g1 → k ≠ g2 → W'.heap[k]? = W.heap[k]?
  one : g1 < W.heap.size → rowOf W' g1 = rowOf W g1 ∨ rowOf W' g1 = some r1
  two : g2 < W.heap.size → rowOf W' g2 = rowOf W g2 ∨ rowOf W' g2 = some r2
section
variable {g1 g2 : Nat} {r1 r2 : Array Value} {W W' : World}
theorem XQ.refl (W : World) : XQ g1 g2 r1 r2 W W := ⟨rfl, rfl, rfl, Nat.le_refl _, fun _ _ _ _ => rfl, fun _ => .inl rfl, fun _ => .inl rfl⟩
theorem XQ.trans {a b c : World} (h : XQ g1 g2 r1 r2 a b) (k : XQ g1 g2 r1 r2 b c) : XQ g1 g2 r1 r2 a c :=
  ⟨k.os.trans h.os, k.tape.trans h.tape, k.output.trans h.output, Nat.le_trans h.size k.size, fun i hi h1 h2 => (k.block i (Nat.lt_of_lt_of_le hi h.size) h1 h2).trans (h.block i hi h1 h2),
    fun hg => by
      rcases k.one (Nat.lt_of_lt_of_le hg h.size) with e | e
      · rw [e]; exact h.one hg
      · exact .inr e,
    fun hg => by
      rcases k.two (Nat.lt_of_lt_of_le hg h.size) with e | e
      · rw [e]; exact h.two hg
      · exact .inr e⟩
theorem rowOf_heapE {g : Nat} (h : W'.heap[g]? = W.heap[g]?) : rowOf W' g = rowOf W g := by simp only [rowOf, h]
theorem Ext.xq (h : Ext W W') : XQ g1 g2 r1 r2 W W' := ⟨h.os, h.tape, h.output, h.size, fun k hk _ _ => h.block k hk, fun hg => .inl (rowOf_heapE (h.block _ hg)), fun hg => .inl (rowOf_heapE (h.block _ hg))⟩
theorem XQ.row (h : XQ g1 g2 r1 r2 W W') {g : Nat} {cs : Array Value} (hr : rowOf W g = some cs) (h1 : g ≠ g1) (h2 : g ≠ g2) : rowOf W' g = some cs := by
  rw [rowOf_heapE (h.block g (cell_of_rowOf hr).2.2 h1 h2)]; exact hr
theorem XQ.one0 (h : XQ g1 g2 r1 r2 W W') {cs : Array Value} (hr : rowOf W g1 = some cs) : rowOf W' g1 = some cs ∨ rowOf W' g1 = some r1 := by
  rcases h.one (cell_of_rowOf hr).2.2 with e | e
  · exact .inl (e.trans hr)
  · exact .inr e
theorem XQ.two0 (h : XQ g1 g2 r1 r2 W W') {cs : Array Value} (hr : rowOf W g2 = some cs) : rowOf W' g2 = some cs ∨ rowOf W' g2 = some r2 := by
  rcases h.two (cell_of_rowOf hr).2.2 with e | e
  · exact .inl (e.trans hr)
  · exact .inr e
theorem XQ.below (h : XQ g1 g2 r1 r2 W W') {B : Nat} (hB : B ≤ W.heap.size) (h1 : B ≤ g1) (h2 : B ≤ g2) : Below B W W' :=
  ⟨h.os, h.tape, h.output, h.size, fun k hk => h.block k (by omega) (by omega) (by omega)⟩
theorem pureQ {p : Prop} (h : ∃ Wj, XQ g1 g2 r1 r2 Wj W ∧ p) : p := let ⟨_, _, h⟩ := h; h
theorem oneQ (h : ∃ Wj, XQ g1 g2 r1 r2 Wj W ∧ rowOf Wj g1 = some r1) : rowOf W g1 = some r1 := by
  obtain ⟨Wj, e, h⟩ := h
  rcases e.one0 h with h | h <;> exact h
theorem twoQ (h : ∃ Wj, XQ g1 g2 r1 r2 Wj W ∧ rowOf Wj g2 = some r2) : rowOf W g2 = some r2 := by
  obtain ⟨Wj, e, h⟩ := h
  rcases e.two0 h with h | h <;> exact h
theorem xq_set1 {k : Nat} {v : Value} (hne : g1 ≠ g2) (h : rowOf (W.setCell ⟨g1, k, none⟩ v) g1 = some r1) : XQ g1 g2 r1 r2 W (W.setCell ⟨g1, k, none⟩ v) := by
  have hG := grown_setCell W ⟨g1, k, none⟩ v
  exact ⟨hG.os, hG.tape, hG.output, hG.size, fun i hi h1 _ => hG.block i hi (by simp only; exact fun e => h1 (Option.some.inj e)), fun _ => .inr h, fun hg => .inl (rowOf_heapE (hG.block _ hg (by simp only; exact fun e => hne (Option.some.inj e).symm)))⟩
theorem xq_set2 {k : Nat} {v : Value} (hne : g1 ≠ g2) (h : rowOf (W.setCell ⟨g2, k, none⟩ v) g2 = some r2) : XQ g1 g2 r1 r2 W (W.setCell ⟨g2, k, none⟩ v) := by
  have hG := grown_setCell W ⟨g2, k, none⟩ v
  exact ⟨hG.os, hG.tape, hG.output, hG.size, fun i hi _ h2 => hG.block i hi (by simp only; exact fun e => h2 (Option.some.inj e)), fun hg => .inl (rowOf_heapE (hG.block _ hg (by simp only; exact fun e => hne (Option.some.inj e)))), fun _ => .inr h⟩
/-- The row is as at first, or as at last: the store leads to the last. -/
theorem set_either {g k : Nat} {cur : Array Value} {v : Value} (hk : k < cur.size) (h : rowOf W g = some cur ∨ rowOf W g = some (cur.setIfInBounds k v)) :
    (∃ x, W.cell? ⟨g, k, none⟩ = some x) ∧ W.frozen? ⟨g, k, none⟩ = false ∧ g < W.heap.size ∧ rowOf (W.setCell ⟨g, k, none⟩ v) g = some (cur.setIfInBounds k v) := by
  rcases h with h | h
  · obtain ⟨c, f, z⟩ := cell_of_rowOf h
    exact ⟨⟨cur[k], by rw [c]; simp [hk]⟩, f k, z, rowOf_setCell_o h v⟩
  · obtain ⟨c, f, z⟩ := cell_of_rowOf h
    refine ⟨⟨(cur.setIfInBounds k v)[k]'(by simpa using hk), by rw [c]; simp [hk]⟩, f k, z, ?_⟩
    have e := rowOf_setCell_o h (off := k) v
    rw [e, Array.setIfInBounds_setIfInBounds]
theorem out_row {W : World} {g k : Nat} {cur : Array Value} {xs : List Int} {v : Int} (h2 : ∀ k, k < xs.length → cur[k]? = some (.int .i64 (xs.getD k 0))) (hk : k < xs.length) (h : rowOf W g = some (cur.setIfInBounds k (.int .i64 v))) : OutAt W g (xs.set k v) := by
  refine ⟨_, h, fun j hj => ?_⟩
  have hj' : j < xs.length := by simpa using hj
  have hkc : k < cur.size := (Array.getElem?_eq_some_iff.1 (h2 k hk)).1
  rw [Array.getElem?_setIfInBounds]
  by_cases e : k = j
  · subst e; simp [hkc, hk]
  · rw [if_neg e, h2 j hj']; simp [List.getD, List.getElem?_set_ne e]
theorem bo_row {W : World} {g k : Nat} {cur : Array Value} {xs : List Bool} {v : Bool} (h2 : ∀ k, k < xs.length → cur[k]? = some (.bool (xs.getD k false))) (hk : k < xs.length) (h : rowOf W g = some (cur.setIfInBounds k (.bool v))) : BoAt W g (xs.set k v) := by
  refine ⟨_, h, fun j hj => ?_⟩
  have hj' : j < xs.length := by simpa using hj
  have hkc : k < cur.size := (Array.getElem?_eq_some_iff.1 (h2 k hk)).1
  rw [Array.getElem?_setIfInBounds]
  by_cases e : k = j
  · subst e; simp [hkc, hk]
  · rw [if_neg e, h2 j hj']; simp [List.getD, List.getElem?_set_ne e]
end
end Go.Proofs.Ytafdcbdbllpcnaa
