/- A law for a store into a part of a row; a zero worker. Over every program. -/
import Derived.Test.YtafdcbdbllpcnaaDraws
namespace Go.Proofs.Ytafdcbdbllpcnaa
open Go.RowKit

/-- Cells put into a row, from a place on. -/
def setMany : List Value → Nat → Array Value → Array Value
  | [], _, cur => cur
  | v :: vs, k, cur => setMany vs (k + 1) (cur.setIfInBounds k v)

theorem setRow_same (w : World) (g : Nat) (cs : Array Value) (t : TypeId) (fr : Nat × Nat) (hg : w.heap[g]? = some (.cells cs t fr)) : w.setRow g cs = w := by
  have hlt : g < w.heap.size := (Array.getElem?_eq_some_iff.1 hg).1
  have hv : w.heap[g] = .cells cs t fr := (Array.getElem?_eq_some_iff.1 hg).2
  unfold World.setRow
  cases w with
  | mk heap tape drawn os output =>
    congr 1
    apply Array.ext
    · simp
    · intro k h1 h2
      simp only [Array.getElem_modify]
      split
      · rename_i hk; subst hk; simp at hv; simp [hv]
      · rfl
section
variable {P : Program}
theorem run_storeCells_part (g o : Nat) (t : TypeId) : ∀ (vs : List Value) (i : Nat) (cur : Array Value) (w : World), w.heap[g]? = some (.cells cur t (0, 0)) → o + i + vs.length ≤ cur.size → (∀ v ∈ vs, v.oneCell' = true) →
    (storeCells ⟨g, o, none⟩ vs i).run P w = .ok () (w.setRow g (setMany vs (o + i) cur))
  | [], i, cur, w, hg, _, _ => by
    simp only [storeCells, setMany, setRow_same w g cur t (0, 0) hg]
    rfl
  | v :: rest, i, cur, w, hg, hl, h1 => by
    have hi : o + i < cur.size := by simp at hl; omega
    have hadd : (⟨g, o, none⟩ : Addr).add i = ⟨g, o + i, none⟩ := by unfold Addr.add; split <;> simp_all
    have hcell : w.cell? ⟨g, o + i, none⟩ = some cur[o + i] := by simp [World.cell?, hg, hi]
    have hfro : w.frozen? ⟨g, o + i, none⟩ = false := by simp [World.frozen?, hg]
    have hst : (store ((⟨g, o, none⟩ : Addr).add i) v).run P w = .ok () (w.setRow g (cur.setIfInBounds (o + i) v)) := by
      rw [hadd, run_store P w _ v _ (h1 v (by simp)), hcell]
      simp [hfro, setCell_eq_setRow w g (o + i) cur t (0, 0) v hg]
    have ih := run_storeCells_part g o t rest (i + 1) (cur.setIfInBounds (o + i) v) (w.setRow g (cur.setIfInBounds (o + i) v)) (setRow_heap w g cur _ t _ hg) (by simp at hl ⊢; omega) (fun x hx => h1 x (by simp [hx]))
    simp only [storeCells, Sem.run_bind, hst, Result.andThen_ok, ih, setRow_setRow, setMany]
    rw [Nat.add_assoc]
theorem wp_store_part {o : Oper} {a : Act} {w : World} {K : Act → World → Prop} {Q : Exit → Act → World → Prop} (ty : TypeId) (x y : Operand) (ho : o.op = .store ty x y) {g off : Nat} {cs vs : Array Value} (hx : a.eval x = .pointer (some ⟨g, off, none⟩)) (hy : a.eval y = .agg vs)
    (hr : rowOf w g = some cs) (hi : (P.info? ty).map (·.size) = some vs.size) (hs : off + vs.size ≤ cs.size) (h1 : vs.all (·.oneCell') = true)
    (hk : ∀ W', Stored g (setMany vs.toList off cs) w W' → K (a.put o.dst undef) W') : o.wp P a w K Q := by
  obtain ⟨t, hg⟩ := rowOf_some hr
  have h2 := run_storeCells_part (P := P) g off t vs.toList 0 cs w hg (by simpa using hs) (fun v hv => (Array.all_eq_true_iff_forall_mem.1 h1) v (by simpa using hv))
  have h3 : (storeVar ty ⟨g, off, none⟩ (.agg vs)).run P w = .ok () (w.setRow g (setMany vs.toList off cs)) := by
    cases hq : P.info? ty with
    | none => simp [hq] at hi
    | some i =>
      have hs : vs.size = i.size := by simp [hq] at hi; omega
      simp [storeVar, sizeOf, typeInfo, hq, Value.cells, hs, h2]
  unfold Oper.wp execOp
  simp only [ho, hx, hy, Instr.storeAt, Instr.sureAddr, Sem.run_bind, Sem.run_pure, Result.andThen_ok, h3]
  exact hk _ (stored_setRow hr _)
theorem wpL_store_part {ops : Array Oper} {Q : Exit → Act → World → Prop} {o : Oper} {rest : List Oper} {a : Act} {W : World} (hg : o.guard = none) (ty : TypeId) (x y : Operand) (ho : o.op = .store ty x y) {cs vs : Array Value} {h off : Nat} (hy : a.eval y = .agg vs)
    (hx : a.eval x = .pointer (some ⟨h, off, none⟩)) (hr : rowOf W h = some cs) (hi : (P.info? ty).map (·.size) = some vs.size) (hs : off + vs.size ≤ cs.size) (h1 : vs.all (·.oneCell') = true)
    (hk : ∀ W', Stored h (setMany vs.toList off cs) W W' → wpList P ops Q rest (a.put o.dst undef) W') : wpList P ops Q (o :: rest) a W :=
  wpList_plain hg fun _ hK => wp_store_part ty x y ho hx hy hr hi hs h1 (fun W' hS => hK _ _ (hk W' hS))
theorem pointX {fin : List (Nat × Array Value)} {W : World} {v : Value} {row : Array Value} {base : Nat} (hf : ∀ p ∈ fin, p.1 < base) (h : ∃ Wj, XT fin Wj W ∧ PT v row base Wj) : PT v row base W := let ⟨_, e, h⟩ := h; ⟨h.1, e.row h.2 (fun p hp => by have := hf p hp; have := h.3; omega), h.3⟩
end
end Go.Proofs.Ytafdcbdbllpcnaa
