/- A law for a store into a part of a row; a zero worker. Over every program. -/
import Derived.Test.YtafdcbdbllpcnaaDraws
import Derived.Test.YtafdcbdbllpcnaaBigT
import Derived.Test.YtafdcbdbllpcnaaSpec
namespace Go.Proofs.Ytafdcbdbllpcnaa
open Go.RowKit

/-- Cells put into a row, from a place on. -/
def setMany : List Value → Nat → Array Value → Array Value
  | [], _, cur => cur
  | v :: vs, k, cur => setMany vs (k + 1) (cur.setIfInBounds k v)

theorem setRow_same (w : World) (g : Nat) (cs : Array Value) (t : TypeId) (fr : Nat × Nat) (hg : w.heap[g]? = some (.cells cs t fr)) : w.setRow g cs = w := by
  have hlt : g < w.heap.size := (Array.getElem?_eq_some_iff.1 hg).1
  have hv : w.heap[g] = .cells cs t fr := (Array.getElem?_eq_some_iff.1 hg).2
  unfold World.setRow
  cases w with
  | mk heap tape drawn os output =>
    congr 1
    apply Array.ext
    · simp
    · intro k h1 h2
      simp only [Array.getElem_modify]
      split
      · rename_i hk; subst hk; simp at hv; simp [hv]
      · rfl
section
variable {P : Program}
theorem run_storeCells_part (g o : Nat) (t : TypeId) : ∀ (vs : List Value) (i : Nat) (cur : Array Value) (w : World), w.heap[g]? = some (.cells cur t (0, 0)) → o + i + vs.length ≤ cur.size → (∀ v ∈ vs, v.oneCell' = true) →
    (storeCells ⟨g, o, none⟩ vs i).run P w = .ok () (w.setRow g (setMany vs (o + i) cur))
  | [], i, cur, w, hg, _, _ => by
    simp only [storeCells, setMany, setRow_same w g cur t (0, 0) hg]
    rfl
  | v :: rest, i, cur, w, hg, hl, h1 => by
    have hi : o + i < cur.size := by simp at hl; omega
    have hadd : (⟨g, o, none⟩ : Addr).add i = ⟨g, o + i, none⟩ := by unfold Addr.add; split <;> simp_all
    have hcell : w.cell? ⟨g, o + i, none⟩ = some cur[o + i] := by simp [World.cell?, hg, hi]
    have hfro : w.frozen? ⟨g, o + i, none⟩ = false := by simp [World.frozen?, hg]
    have hst : (store ((⟨g, o, none⟩ : Addr).add i) v).run P w = .ok () (w.setRow g (cur.setIfInBounds (o + i) v)) := by
      rw [hadd, run_store P w _ v _ (h1 v (by simp)), hcell]
      simp [hfro, setCell_eq_setRow w g (o + i) cur t (0, 0) v hg]
    have ih := run_storeCells_part g o t rest (i + 1) (cur.setIfInBounds (o + i) v) (w.setRow g (cur.setIfInBounds (o + i) v)) (setRow_heap w g cur _ t _ hg) (by simp at hl ⊢; omega) (fun x hx => h1 x (by simp [hx]))
    simp only [storeCells, Sem.run_bind, hst, Result.andThen_ok, ih, setRow_setRow, setMany]
    rw [Nat.add_assoc]
theorem wp_store_part {o : Oper} {a : Act} {w : World} {K : Act → World → Prop} {Q : Exit → Act → World → Prop} (ty : TypeId) (x y : Operand) (ho : o.op = .store ty x y) {g off : Nat} {cs vs : Array Value} (hx : a.eval x = .pointer (some ⟨g, off, none⟩)) (hy : a.eval y = .agg vs)
    (hr : rowOf w g = some cs) (hi : (P.info? ty).map (·.size) = some vs.size) (hs : off + vs.size ≤ cs.size) (h1 : vs.all (·.oneCell') = true)
    (hk : ∀ W', Stored g (setMany vs.toList off cs) w W' → K (a.put o.dst undef) W') : o.wp P a w K Q := by
  obtain ⟨t, hg⟩ := rowOf_some hr
  have h2 := run_storeCells_part (P := P) g off t vs.toList 0 cs w hg (by simpa using hs) (fun v hv => (Array.all_eq_true_iff_forall_mem.1 h1) v (by simpa using hv))
  have h3 : (storeVar ty ⟨g, off, none⟩ (.agg vs)).run P w = .ok () (w.setRow g (setMany vs.toList off cs)) := by
    cases hq : P.info? ty with
    | none => simp [hq] at hi
    | some i =>
      have hs : vs.size = i.size := by simp [hq] at hi; omega
      simp [storeVar, sizeOf, typeInfo, hq, Value.cells, hs, h2]
  unfold Oper.wp execOp
  simp only [ho, hx, hy, Instr.storeAt, Instr.sureAddr, Sem.run_bind, Sem.run_pure, Result.andThen_ok, h3]
  exact hk _ (stored_setRow hr _)
theorem wpL_store_part {ops : Array Oper} {Q : Exit → Act → World → Prop} {o : Oper} {rest : List Oper} {a : Act} {W : World} (hg : o.guard = none) (ty : TypeId) (x y : Operand) (ho : o.op = .store ty x y) {cs vs : Array Value} {h off : Nat} (hy : a.eval y = .agg vs)
    (hx : a.eval x = .pointer (some ⟨h, off, none⟩)) (hr : rowOf W h = some cs) (hi : (P.info? ty).map (·.size) = some vs.size) (hs : off + vs.size ≤ cs.size) (h1 : vs.all (·.oneCell') = true)
    (hk : ∀ W', Stored h (setMany vs.toList off cs) W W' → wpList P ops Q rest (a.put o.dst undef) W') : wpList P ops Q (o :: rest) a W :=
  wpList_plain hg fun _ hK => wp_store_part ty x y ho hx hy hr hi hs h1 (fun W' hS => hK _ _ (hk W' hS))
theorem pointX {fin : List (Nat × Array Value)} {W : World} {v : Value} {row : Array Value} {base : Nat} (hf : ∀ p ∈ fin, p.1 < base) (h : ∃ Wj, XT fin Wj W ∧ PT v row base Wj) : PT v row base W := let ⟨_, e, h⟩ := h; ⟨h.1, e.row h.2 (fun p hp => by have := hf p hp; have := h.3; omega), h.3⟩
end
end Go.Proofs.Ytafdcbdbllpcnaa
/- The struct of an animal: stored and built whole; results that hold one. -/
namespace Go.Proofs.Ytafdcbdbllpcnaa
open Go.RowKit
open Go.Proofs

theorem exec39s : ∀ ρ dst x y ty pos after guard, execOp ρ { dst, op := .store 39 x y, type := ty, pos, after, guard } = wideStore 39 (ρ x) (ρ y) := execOp_wideStore 39
theorem info39 : (Try.prog.info? 39).map (·.size) = some 7 := by kernel_rfl
theorem store39 (g : Nat) (vs : Array Value) (w : World) : (wideStore 39 (.pointer (some ⟨g, 0, none⟩)) (.agg vs)).run Try.prog w = match rowOf w g with
      | some cs => if cs.size = 7 ∧ vs.size = 7 ∧ vs.all (·.oneCell') = true then .ok .skip (w.setRow g vs) else wideStoreElse Try.prog 39 g (.agg vs) w
      | none => wideStoreElse Try.prog 39 g (.agg vs) w := run_wideStore (P := Try.prog) 7 info39 g vs w
theorem exec39l : ∀ ρ dst x ty pos after guard, execOp ρ { dst, op := .load 39 x, type := ty, pos, after, guard } = wideLoad 39 (ρ x) := execOp_wideLoad 39
theorem load39 (g : Nat) (w : World) : (wideLoad 39 (.pointer (some ⟨g, 0, none⟩))).run Try.prog w = match rowOf w g with
      | some cs => if cs.size = 7 then .ok (.value (.agg cs)) w else wideLoadElse Try.prog 39 g w
      | none => wideLoadElse Try.prog 39 g w := run_wideLoad (P := Try.prog) 7 Try.underlying39 rfl info39 g w
theorem build39z (w : World) : (Instr.build 39 #[]).run Try.prog w = .ok (.agg #[.int .i64 0, .int .i64 0, .int .i64 0, .int .i64 0, .int .i64 0, .int .i64 0, .bool false]) w := by kernel_rfl
theorem build39_4 (a b c d e f : Value) (k : Bool) (w : World) : (Instr.build 39 #[(0, .agg #[a, b]), (1, .agg #[c, d]), (2, .agg #[e, f]), (3, .bool k)]).run Try.prog w = .ok (.agg #[a, b, c, d, e, f, .bool k]) w := by kernel_rfl
theorem build39_1 (k : Bool) (w : World) : (Instr.build 39 #[(3, .bool k)]).run Try.prog w = .ok (.agg #[.int .i64 0, .int .i64 0, .int .i64 0, .int .i64 0, .int .i64 0, .int .i64 0, .bool k]) w := by kernel_rfl
theorem res39 {fn : Func} {p : Tmp} (h : fn.results = #[.cell p 39]) {tmps : Array Value} {w : World} {g : Nat} (hp : tmps.getD p undef = .pointer (some ⟨g, 0, none⟩)) {cs : Array Value} (hg : rowOf w g = some cs) (hs : cs.size = 7) : (results fn tmps).run Try.prog w = .ok (.agg cs) w :=
  results_row h 7 Try.underlying39 rfl info39 hp hg hs
theorem results39_2 {fn : Func} {p q : Tmp} (h : fn.results = #[.cell p 39, .tmp q]) {tmps : Array Value} {w : World} {g : Nat} (hp : tmps.getD p undef = .pointer (some ⟨g, 0, none⟩)) {cs : Array Value} (hg : rowOf w g = some cs) (hs : cs.size = 7) {v : Value} (hq : tmps.getD q undef = v) :
    (results fn tmps).run Try.prog w = .ok (.tuple #[.agg cs, v]) w := by
  obtain ⟨t', hg'⟩ := rowOf_some hg
  have hp' : tmps[p]?.getD undef = .pointer (some ⟨g, 0, none⟩) := by simpa using hp
  have hq' : tmps[q]?.getD undef = v := by simpa using hq
  have hl := run_loadVar_row (P := Try.prog) w g t' 39 cs (0, 0) _ hg' Try.underlying39 rfl (by rw [hs]; exact info39)
  simp [results, h, hp', hq', asAddr, hl]
theorem results39_3 {fn : Func} {p q r : Tmp} (h : fn.results = #[.cell p 39, .tmp q, .tmp r]) {tmps : Array Value} {w : World} {g : Nat} (hp : tmps.getD p undef = .pointer (some ⟨g, 0, none⟩)) {cs : Array Value} (hg : rowOf w g = some cs) (hs : cs.size = 7) {v v' : Value} (hq : tmps.getD q undef = v) (hr : tmps.getD r undef = v') :
    (results fn tmps).run Try.prog w = .ok (.tuple #[.agg cs, v, v']) w := by
  obtain ⟨t', hg'⟩ := rowOf_some hg
  have hp' : tmps[p]?.getD undef = .pointer (some ⟨g, 0, none⟩) := by simpa using hp
  have hq' : tmps[q]?.getD undef = v := by simpa using hq
  have hr' : tmps[r]?.getD undef = v' := by simpa using hr
  have hl := run_loadVar_row (P := Try.prog) w g t' 39 cs (0, 0) _ hg' Try.underlying39 rfl (by rw [hs]; exact info39)
  simp [results, h, hp', hq', hr', asAddr, hl]
end Go.Proofs.Ytafdcbdbllpcnaa
/- A span stored into a part of a row. -/
namespace Go.Proofs.Ytafdcbdbllpcnaa
open Go.RowKit
open Go.Proofs

noncomputable def span31Else (g off : Nat) (x y : Value) (w : World) : Result Next := (wideStore 31 (.pointer (some ⟨g, off, none⟩)) (.agg #[x, y])).run Try.prog w
theorem store31at (g off : Nat) (x y : Value) (w : World) : (wideStore 31 (.pointer (some ⟨g, off, none⟩)) (.agg #[x, y])).run Try.prog w = match rowOf w g with
      | some cs => if off + 2 ≤ cs.size ∧ x.oneCell' = true ∧ y.oneCell' = true then .ok .skip (w.setRow g ((cs.setIfInBounds off x).setIfInBounds (off + 1) y)) else span31Else g off x y w
      | none => span31Else g off x y w := by
  cases h : rowOf w g with
  | none => rfl
  | some cs =>
    obtain ⟨t, hg⟩ := rowOf_some h
    by_cases hs : off + 2 ≤ cs.size ∧ x.oneCell' = true ∧ y.oneCell' = true
    · show _ = if off + 2 ≤ cs.size ∧ x.oneCell' = true ∧ y.oneCell' = true then Result.ok Next.skip (w.setRow g ((cs.setIfInBounds off x).setIfInBounds (off + 1) y)) else _
      rw [if_pos hs]
      obtain ⟨h1, h2, h3⟩ := hs
      have h4 := run_storeCells_part (P := Try.prog) g off t [x, y] 0 cs w hg (by simpa using h1) (by simp [h2, h3])
      have h5 : (storeVar 31 ⟨g, off, none⟩ (.agg #[x, y])).run Try.prog w = .ok () (w.setRow g (setMany [x, y] off cs)) := by
        have hq := info31
        cases hq' : Try.prog.info? 31 with
        | none => simp [hq'] at hq
        | some i =>
          have hs : 2 = i.size := by simp [hq'] at hq; omega
          simp [storeVar, sizeOf, typeInfo, hq', Value.cells, ← hs, h4]
      simp only [wideStore, Instr.storeAt, Instr.sureAddr, Sem.run_bind, Sem.run_pure, Result.andThen_ok, h5]
      rfl
    · show _ = if off + 2 ≤ cs.size ∧ x.oneCell' = true ∧ y.oneCell' = true then Result.ok Next.skip (w.setRow g ((cs.setIfInBounds off x).setIfInBounds (off + 1) y)) else _
      rw [if_neg hs]
      rfl
end Go.Proofs.Ytafdcbdbllpcnaa
