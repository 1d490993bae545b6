/- A relation of worlds for a drawn region that makes a block and stores a row into it, while other operations may still wait. Over every program. -/
import Derived.Test.YtafdcbdbllpcnaaDraws
import Derived.Test.YtafdcbdbllpcnaaPart
namespace Go.Proofs.Ytafdcbdbllpcnaa
open Go.RowKit

/-- W' is W with more memory; a block from B on whose row is z may have got the row r. -/
structure XN (B : Nat) (z r : Array Value) (W W' : World) : Prop where
  os : W'.os = W.os
  tape : W'.tape = W.tape
  output : W'.output = W.output
  size : W.heap.size ≤ W'.heap.size
  block : ∀ k, k < W.heap.size → (k < B ∨ rowOf W k ≠ some z) → W'.heap[k]? = W.heap[k]?
  fresh : ∀ k, rowOf W k = some z → rowOf W' k = some z ∨ rowOf W' k = some r

theorem rowOf_heap {W W' : World} {k : Nat} (h : W'.heap[k]? = W.heap[k]?) : rowOf W' k = rowOf W k := by unfold rowOf; rw [h]
section
variable {B : Nat} {z r : Array Value}
theorem XN.refl (W : World) : XN B z r W W := ⟨rfl, rfl, rfl, Nat.le_refl _, fun _ _ _ => rfl, fun _ h => .inl h⟩
theorem XN.lt {a : World} {k : Nat} {cs : Array Value} (h : rowOf a k = some cs) : k < a.heap.size := (cell_of_rowOf h).2.2
theorem XN.last {b c : World} (q : XN B z r b c) {k : Nat} (h : rowOf b k = some r) : rowOf c k = some r := by
  by_cases e : z = r
  · subst e
    rcases q.fresh k h with h | h <;> exact h
  · rw [rowOf_heap (q.block k (XN.lt h) (.inr (by rw [h]; intro x; exact e (Option.some.inj x).symm)))]; exact h
theorem XN.trans {a b c : World} (p : XN B z r a b) (q : XN B z r b c) : XN B z r a c := by
  refine ⟨q.os.trans p.os, q.tape.trans p.tape, q.output.trans p.output, Nat.le_trans p.size q.size, fun k hk h => ?_, fun k h => ?_⟩
  · have h1 := p.block k hk h
    rw [← h1]
    refine q.block k (Nat.lt_of_lt_of_le hk p.size) ?_
    rcases h with h | h
    · exact .inl h
    · exact .inr (by rw [rowOf_heap h1]; exact h)
  · rcases p.fresh k h with h1 | h1
    · exact q.fresh k h1
    · exact .inr (q.last h1)
theorem Ext.xn {W W' : World} (h : Ext W W') : XN B z r W W' := ⟨h.os, h.tape, h.output, h.size, fun k hk _ => h.block k hk, fun k e => .inl (keep_row h e).1⟩
theorem XN.row {W W' : World} (h : XN B z r W W') {g : Nat} {cs : Array Value} (hr : rowOf W g = some cs) (hg : g < B) : rowOf W' g = some cs := by
  rw [rowOf_heap (h.block g (XN.lt hr) (.inl hg))]; exact hr
theorem XN.rowz {W W' : World} (h : XN B z r W W') {g : Nat} {cs : Array Value} (hr : rowOf W g = some cs) (hz : cs.size ≠ z.size) : rowOf W' g = some cs := by
  rw [rowOf_heap (h.block g (XN.lt hr) (.inr (by rw [hr]; intro x; exact hz (by rw [Option.some.inj x]))))]; exact hr
theorem XN.below {B0 : Nat} {w W W' : World} (h : XN B z r W W') (hw : Below B0 w W) (hB : B0 ≤ W.heap.size) (hf : B0 ≤ B) : Below B0 w W' :=
  hw.trans ⟨h.os, h.tape, h.output, h.size, fun k hk => h.block k (by omega) (.inl (by omega))⟩
theorem xn_setRow {W : World} {g : Nat} (hr : rowOf W g = some z) (hg : B ≤ g) : XN B z r W (W.setRow g r) := by
  have hS := stored_setRow hr r
  refine ⟨rfl, rfl, rfl, by simp, fun k _ hk => ?_, fun k h => ?_⟩
  · refine setRow_other W g k r ?_
    rintro rfl
    rcases hk with hk | hk
    · omega
    · exact hk hr
  · by_cases e : k = g
    · subst e; exact .inr hS.row
    · exact .inl ((hS.other k e).trans h)
theorem xn_setRow_same {W : World} {g : Nat} (hr : rowOf W g = some r) : XN B z r W (W.setRow g r) := by
  obtain ⟨t, hg⟩ := rowOf_some hr
  rw [setRow_same W g r t (0, 0) hg]
  exact XN.refl _

/-- A pointer to a new block, before the store or behind it; behind it. -/
structure NB (B : Nat) (z r : Array Value) (v : Value) (W : World) : Prop where
  eq : v = .pointer (some ⟨blk v, 0, none⟩)
  base : B ≤ blk v
  row : rowOf W (blk v) = some z ∨ rowOf W (blk v) = some r
structure SB (r : Array Value) (v : Value) (W : World) : Prop where
  eq : v = .pointer (some ⟨blk v, 0, none⟩)
  row : rowOf W (blk v) = some r
theorem nbR {v : Value} {W : World} (h : ∃ Wj, XN B z r Wj W ∧ NB B z r v Wj) : NB B z r v W := let ⟨_, e, h⟩ := h; ⟨h.1, h.2, h.3.elim (fun k => e.fresh _ k) fun k => .inr (e.last k)⟩
theorem sbR {v : Value} {W : World} (h : ∃ Wj, XN B z r Wj W ∧ SB r v Wj) : SB r v W := let ⟨_, e, h⟩ := h; ⟨h.1, e.last h.2⟩
theorem pureN {W : World} {p : Prop} (h : ∃ Wj, XN B z r Wj W ∧ p) : p := let ⟨_, _, h⟩ := h; h
theorem sliceN {W : World} {v : Value} {n : Nat} {row : Array Value} (hz : row.size ≠ z.size) (h : ∃ Wj, XN B z r Wj W ∧ SL v n row Wj) : SL v n row W := let ⟨_, e, h⟩ := h; ⟨h.1, e.rowz h.2 hz⟩
theorem wp_store_nb {P : Program} {Q : Exit → Act → World → Prop} {o : Oper} {a : Act} {W : World} {K : Act → World → Prop} (ty : TypeId) (x : Tmp) (y : Operand) (ho : o.op = .store ty (.tmp x) y) (hd : o.dst = none) (hn : NB B z r (a.tmps[x]?.getD undef) W) (hy : a.eval y = .agg r)
    (hi : (P.info? ty).map (·.size) = some r.size) (hz : z.size = r.size) (h1 : r.all (·.oneCell') = true)
    (hk : ∀ W', XN B z r W W' → SB r (a.tmps[x]?.getD undef) W' → K a W') : o.wp P a W K Q := by
  obtain ⟨e, hb, hr⟩ := hn
  have hx : a.eval (.tmp x) = .pointer (some ⟨blk (a.tmps[x]?.getD undef), 0, none⟩) := (eval_tmp a x).trans e
  rcases hr with hr | hr
  · obtain ⟨t, hg⟩ := rowOf_some hr
    refine wp_store_row ty (.tmp x) y ho _ r hx hy t z hg hi hz h1 ?_
    rw [hd]
    exact hk _ (xn_setRow hr hb) ⟨e, (stored_setRow hr r).row⟩
  · obtain ⟨t, hg⟩ := rowOf_some hr
    refine wp_store_row ty (.tmp x) y ho _ r hx hy t r hg hi rfl h1 ?_
    rw [hd]
    exact hk _ (xn_setRow_same hr) ⟨e, (stored_setRow hr r).row⟩
end
end Go.Proofs.Ytafdcbdbllpcnaa
