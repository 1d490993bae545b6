/- Way: what stays in wells. -/
import Derived.Test.YtecgohommehdpaaWc4
import Derived.Test.YtecgohommehdpaaWsh
set_option linter.unusedVariables false
set_option linter.unusedSimpArgs false
namespace Go.Q
open Go.V
theorem u32_bd (x : Int) : 0 ≤ IntKind.u32.wrap x ∧ IntKind.u32.wrap x ≤ 4294967295 := by
  have h : IntKind.u32.wrap x = x % 4294967296 := by
    simp [IntKind.wrap, IntKind.signed]
    rw [show (2 : Int) ^ IntKind.u32.bits = 4294967296 from by decide]
  rw [h]
  omega
theorem e45 (a b v : Int) (ha : 0 ≤ a) (hab : a ≤ b) (hb : b ≤ 100000) (hv : 0 ≤ v ∧ v ≤ 4294967295) : ∃ m, evL FN 45 [.node [I a, I b], U32 v] = some (I m) ∧ a ≤ m ∧ m ≤ b := by
  refine ⟨a + v.tmod (b - a + 1), evL_of (F := F45) rfl ?_, ?_⟩
  · have w1 : IntKind.i64.wrap v = v := wI (by omega)
    have w2 : IntKind.i64.wrap (b - a) = b - a := wI (by omega)
    have w3 : IntKind.i64.wrap (b - a + 1) = b - a + 1 := wI (by omega)
    have n0 : ¬ (b - a + 1 = 0) := by omega
    have t1 : 0 ≤ v.tmod (b - a + 1) := Int.tmod_nonneg _ hv.1
    have t2 : v.tmod (b - a + 1) < b - a + 1 := Int.tmod_lt_of_pos _ (by omega)
    have w4 : IntKind.i64.wrap (v.tmod (b - a + 1)) = v.tmod (b - a + 1) := wI (by omega)
    have w5 : IntKind.i64.wrap (a + v.tmod (b - a + 1)) = a + v.tmod (b - a + 1) := wI (by omega)
    simp [F45, Fn.denV, fits, T.denV, denL, E.den, D.cells, D.den1, binD, w1, w2, w3, w4, w5, n0]
  · have t1 : 0 ≤ v.tmod (b - a + 1) := Int.tmod_nonneg _ hv.1
    have t2 : v.tmod (b - a + 1) < b - a + 1 := Int.tmod_lt_of_pos _ (by omega)
    omega
theorem e38 : evL FN 38 [] = some (.bool true) := by
  refine evL_of (F := F38) rfl ?_
  simp [F38, Fn.denV, fits, T.denV, E.den]
/-- What comes on more days is no less. -/
theorem wlo_le {w : Wl} (h : WlOK w) {a b : Int} (hx : 0 ≤ a ∧ a ≤ b) (x : Int) : wlo w x a ≤ wlo w x b := by
  unfold wlo
  have := Int.mul_le_mul_of_nonneg_right hx.2 h.y0
  omega
theorem whi_le {w : Wl} (h : WlOK w) {a b : Int} (hx : 0 ≤ a ∧ a ≤ b) (x : Int) : whi w x a ≤ whi w x b := by
  unfold whi
  have := Int.mul_le_mul_of_nonneg_right hx.2 (show 0 ≤ w.yh by have := h.y0; have := h.y1; omega)
  omega
theorem wlo_whi {w : Wl} (h : WlOK w) {a : Int} (hx : 0 ≤ a) : wlo w w.hl a ≤ whi w w.hh a := by
  unfold wlo whi
  have := Int.mul_le_mul_of_nonneg_left h.y1 hx
  have := h.h1
  omega
end Go.Q
