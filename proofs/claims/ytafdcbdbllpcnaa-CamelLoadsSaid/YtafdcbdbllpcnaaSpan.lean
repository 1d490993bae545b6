/- A span stored into a part of a row. -/
import Derived.Test.YtafdcbdbllpcnaaRows39
namespace Go.Proofs.Ytafdcbdbllpcnaa
open Go.RowKit
open Go.Proofs

noncomputable def span31Else (g off : Nat) (x y : Value) (w : World) : Result Next := (wideStore 31 (.pointer (some ⟨g, off, none⟩)) (.agg #[x, y])).run Try.prog w
theorem store31at (g off : Nat) (x y : Value) (w : World) : (wideStore 31 (.pointer (some ⟨g, off, none⟩)) (.agg #[x, y])).run Try.prog w = match rowOf w g with
      | some cs => if off + 2 ≤ cs.size ∧ x.oneCell' = true ∧ y.oneCell' = true then .ok .skip (w.setRow g ((cs.setIfInBounds off x).setIfInBounds (off + 1) y)) else span31Else g off x y w
      | none => span31Else g off x y w := by
  cases h : rowOf w g with
  | none => rfl
  | some cs =>
    obtain ⟨t, hg⟩ := rowOf_some h
    by_cases hs : off + 2 ≤ cs.size ∧ x.oneCell' = true ∧ y.oneCell' = true
    · show _ = if off + 2 ≤ cs.size ∧ x.oneCell' = true ∧ y.oneCell' = true then Result.ok Next.skip (w.setRow g ((cs.setIfInBounds off x).setIfInBounds (off + 1) y)) else _
      rw [if_pos hs]
      obtain ⟨h1, h2, h3⟩ := hs
      have h4 := run_storeCells_part (P := Try.prog) g off t [x, y] 0 cs w hg (by simpa using h1) (by simp [h2, h3])
      have h5 : (storeVar 31 ⟨g, off, none⟩ (.agg #[x, y])).run Try.prog w = .ok () (w.setRow g (setMany [x, y] off cs)) := by
        have hq := info31
        cases hq' : Try.prog.info? 31 with
        | none => simp [hq'] at hq
        | some i =>
          have hs : 2 = i.size := by simp [hq'] at hq; omega
          simp [storeVar, sizeOf, typeInfo, hq', Value.cells, ← hs, h4]
      simp only [wideStore, Instr.storeAt, Instr.sureAddr, Sem.run_bind, Sem.run_pure, Result.andThen_ok, h5]
      rfl
    · show _ = if off + 2 ≤ cs.size ∧ x.oneCell' = true ∧ y.oneCell' = true then Result.ok Next.skip (w.setRow g ((cs.setIfInBounds off x).setIfInBounds (off + 1) y)) else _
      rw [if_neg hs]
      rfl
end Go.Proofs.Ytafdcbdbllpcnaa
