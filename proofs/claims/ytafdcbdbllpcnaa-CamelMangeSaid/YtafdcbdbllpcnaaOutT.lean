/- A list of numbers in a block of one's own that is written into. -/
import Derived.Test.YtafdcbdbllpcnaaMeetT
import Derived.Test.YtafdcbdbllpcnaaMangS
import Derived.Laws.OwnMore
namespace Go.Proofs.Ytafdcbdbllpcnaa
open Go.RowKit
open Go.Proofs

def OutAt (W : World) (g : Nat) (xs : List Int) : Prop := ∃ cur : Array Value, rowOf W g = some cur ∧ ∀ k, k < xs.length → cur[k]? = some (.int .i64 (xs.getD k 0))
theorem OutAt.get {W : World} {g : Nat} {xs : List Int} (h : OutAt W g xs) {k : Nat} (hk : k < xs.length) : W.cell? ⟨g, k, none⟩ = some (.int .i64 (xs.getD k 0)) ∧ W.frozen? ⟨g, k, none⟩ = false ∧ g < W.heap.size := by
  obtain ⟨cur, h1, h2⟩ := h
  obtain ⟨c, f, z⟩ := cell_of_rowOf h1
  exact ⟨by rw [c]; exact h2 k hk, f k, z⟩
theorem OutAt.lt {W : World} {g : Nat} {xs : List Int} (h : OutAt W g xs) : g < W.heap.size := by
  obtain ⟨cur, h1, -⟩ := h
  exact (cell_of_rowOf h1).2.2
theorem rowOf_setCell_o {w : World} {g off : Nat} {cs : Array Value} (h : rowOf w g = some cs) (v : Value) : rowOf (w.setCell ⟨g, off, none⟩ v) g = some (cs.setIfInBounds off v) := by
  obtain ⟨t, hg⟩ := rowOf_some h
  rw [setCell_eq_setRow w g off cs t (0, 0) v hg]
  exact (stored_setRow h _).row
theorem OutAt.set {W : World} {g : Nat} {xs : List Int} (h : OutAt W g xs) {k : Nat} (hk : k < xs.length) (v : Int) : OutAt (W.setCell ⟨g, k, none⟩ (.int .i64 v)) g (xs.set k v) := by
  obtain ⟨cur, h1, h2⟩ := h
  refine ⟨_, rowOf_setCell_o h1 _, fun j hj => ?_⟩
  have hj' : j < xs.length := by simpa using hj
  have hkc : k < cur.size := (Array.getElem?_eq_some_iff.1 (h2 k hk)).1
  rw [Array.getElem?_setIfInBounds]
  by_cases e : k = j
  · subst e
    simp [hkc, hk]
  · rw [if_neg e, h2 j hj']
    simp [List.getD, List.getElem?_set_ne e]
theorem OutAt.keep {B : Nat} {W W' : World} {g : Nat} {xs : List Int} (h : OutAt W g xs) (hB : Below B W W') (hg : g < B) : OutAt W' g xs := by
  obtain ⟨cur, h1, h2⟩ := h
  exact ⟨cur, by rw [← h1]; simp only [rowOf, hB.block g hg], h2⟩
theorem OutAt.alloc {W : World} {g : Nat} {xs : List Int} (h : OutAt W g xs) (o : Obj) : OutAt (W.alloc o) g xs := h.keep (ext_alloc _ _) h.lt
theorem OutAt.drewN {W : World} {g : Nat} {xs : List Int} (h : OutAt W g xs) (n : Nat) : OutAt (W.drewN n) g xs := h
theorem OutAt.ints {W : World} {g cap : Nat} {xs : List Int} (h : OutAt W g xs) : IntsIn W (some ⟨g, 0, none⟩) cap xs :=
  .inr ⟨g, 0, rfl, fun k hk => by rw [Nat.zero_add, (h.get hk).1]; simp [hk], h.lt⟩
theorem row_heap {W : World} {g : Nat} {cs : Array Value} {t : TypeId} (h : W.heap[g]? = some (.cells cs t (0, 0))) : rowOf W g = some cs := by unfold rowOf; rw [h]; rfl
theorem out_owns {W : World} {base n : Nat} {v : Value} {xs : List Int} (hn : n = xs.length) (h0 : 0 < n) (h : W.ownsRow base 3 1 v n (xs.map (.int .i64 ·))) : ∃ g cap, v = .slice (some ⟨g, 0, none⟩) n cap ∧ base ≤ g ∧ OutAt W g xs := by
  have hk := h
  obtain ⟨-, h⟩ := h
  rcases h with ⟨-, h⟩ | ⟨g, cap, cur, rfl, h2, h3, -⟩
  · omega
  · refine ⟨g, cap, rfl, h2, cur, row_heap h3, fun k hkl => ?_⟩
    have hc := hk.cellAt k (by omega)
    rw [(cell_of_rowOf (row_heap h3)).1] at hc
    rw [hc]
    simp [hkl]
def worldSum (W : World) (g n : Nat) : Nat := ((List.range n).map fun k => (intOf ((W.cell? ⟨g, k, none⟩).getD undef)).toNat).sum
theorem worldSum_out {W : World} {g n : Nat} {xs : List Int} (h : OutAt W g xs) (hn : n = xs.length) : worldSum W g n = sumN xs := by
  subst hn
  unfold worldSum sumN
  congr 1
  apply List.ext_getElem
  · simp
  · intro k h1 h2
    have hk : k < xs.length := by simpa using h1
    simp only [List.getElem_map, List.getElem_range]
    rw [(h.get hk).1]
    simp [intOf, hk]
end Go.Proofs.Ytafdcbdbllpcnaa
