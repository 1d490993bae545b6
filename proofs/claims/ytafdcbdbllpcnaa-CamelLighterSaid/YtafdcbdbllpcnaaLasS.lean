/- How many days like one an animal lasts, plain; a store into a cell. -/
import Derived.Test.YtafdcbdbllpcnaaMtCl
import Derived.Test.YtafdcbdbllpcnaaRefA
set_option linter.unusedVariables false
set_option linter.unusedSimpArgs false
namespace Go.Proofs.Ytafdcbdbllpcnaa
open Go.RowKit
open Go.Proofs

theorem rowOf_setCell_other (w : World) (a : Addr) (v : Value) (g : Nat) (h : g ≠ a.block) : rowOf (w.setCell a v) g = rowOf w g := by
  unfold rowOf; rw [heap_setCell_other w a g v h]
theorem rowOf_setCell_same {w : World} {g off : Nat} {cs : Array Value} (h : rowOf w g = some cs) (v : Value) : rowOf (w.setCell ⟨g, off, none⟩ v) g = some (cs.setIfInBounds off v) := by
  obtain ⟨t, hg⟩ := rowOf_some h
  rw [setCell_eq_setRow w g off cs t (0, 0) v hg]
  exact (stored_setRow h _).row
theorem setCell_below {B : Nat} {a w : World} (h : Below B a w) {g off : Nat} (hg : B ≤ g) (v : Value) : Below B a (w.setCell ⟨g, off, none⟩ v) := h.setCell (p := ⟨g, off, none⟩) hg v

/-- How many days like one an animal lasts, or nothing. -/
def lasR (b : Br) (c : Cm) (m : Mr) : Int × Int := if chkT b c [m] = 0 then lastsGo b m 60 0 c 60 else (0, 0)

theorem chkT1 {b : Br} {c : Cm} {m : Mr} (h : chkT b c [m] = 0) : BdB b ∧ BdC b c ∧ BdM m := by
  unfold chkT at h
  by_cases h0 : chkC b c = 0
  · simp only [h0, if_true] at h
    cases hm : okM m with
    | false => simp [hm] at h
    | true => exact ⟨(chkC_ok h0).1, (chkC_ok h0).2, okM_bd hm⟩
  · simp only [h0, if_false] at h
end Go.Proofs.Ytafdcbdbllpcnaa
