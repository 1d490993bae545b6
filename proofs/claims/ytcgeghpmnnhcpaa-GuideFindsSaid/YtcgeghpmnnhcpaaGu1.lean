/- Guide: numbers that say how it goes. -/
import Derived.Test.YtcgeghpmnnhcpaaGg6
import Derived.Test.YtcgeghpmnnhcpaaGg7
set_option linter.unusedVariables false
set_option linter.unusedSimpArgs false
namespace Go.Q
open Go.V
def atS (ws : List Wd) (i : Nat) : Wd := if ws.length = 0 then ⟨0, by omega, by omega⟩ else ws.getD (i % ws.length) ⟨0, by omega, by omega⟩
theorem e44 (ws : List Wd) (i : Nat) : evL FN 44 [wds ws, I i] = some (U32 (atS ws i).n) := by
  refine evL_of (F := F44) rfl ?_
  unfold atS
  by_cases h : ws.length = 0
  · have h' : ws = [] := List.eq_nil_of_length_eq_zero h
    subst h'
    simp [F44, Fn.denV, fits, T.denV, denVK, denL, E.den, D.cells, D.den1, binD, wds]
  · have h0 : ¬ ws = [] := fun e => h (by rw [e]; rfl)
    have hz : ¬ (ws.length : Int) = 0 := by omega
    have hm : ((i : Int).tmod ws.length) = ((i % ws.length : Nat) : Int) := rfl
    have hlt : i % ws.length < ws.length := Nat.mod_lt _ (by omega)
    have hidx := idx_nat hlt
    simp only [I] at hidx
    simp [h, h0, hz, hm, F44, Fn.denV, fits, T.denV, denVK, denL, E.den, D.cells, D.den1, binD, wds, partD]
    have he : (i : Int) % (ws.length : Int) = ((i % ws.length : Nat) : Int) := by simp
    rw [he, hidx]
    simp [hlt, E.den]
/-- A number of a span. -/
def pickS (lo hi : Int) (w : Wd) : Int := lo + w.n.tmod (hi - lo + 1)
theorem pick_in {lo hi : Int} (w : Wd) (h : lo ≤ hi) : lo ≤ pickS lo hi w ∧ pickS lo hi w ≤ hi := by
  unfold pickS
  have h1 := Int.tmod_nonneg (hi - lo + 1) w.h0
  have h2 := Int.tmod_lt_of_pos w.n (show 0 < hi - lo + 1 by omega)
  omega
theorem e46 {lo hi : Int} (w : Wd) (h : lo ≤ hi) (hl : -1000000000 ≤ lo) (hh : hi ≤ 1000000000) : evL FN 46 [.node [I lo, I hi], U32 w.n] = some (I (pickS lo hi w)) := by
  refine evL_of (F := F46) rfl ?_
  have w0 := w.h0
  have w1 := w.h1
  have hp := pick_in w h
  have v1 := wrapI (x := w.n) (by omega)
  have v2 := wrapI (x := hi - lo) (by omega)
  have v3 := wrapI (x := hi - lo + 1) (by omega)
  have v4 := wrapI (x := pickS lo hi w) (by omega)
  have hz : ¬ hi - lo + 1 = 0 := by omega
  unfold pickS at v4 ⊢
  simp [F46, Fn.denV, fits, T.denV, denVK, denL, E.den, D.cells, D.den1, binD, v1, v2, v3, v4, hz]
theorem marchS_of {hs : List Hf} {t : Tk} (h1 : okA hs = true) (h2 : t.ok = true) (h3 : hasPl hs = true) : marchS hs t = if (hs.map (Hf.mv t)).all Hf.ok then (hs.map (Hf.mv t), 0) else ([], 9) := by
  unfold marchS
  rw [h1, h2, h3]
  cases (hs.map (Hf.mv t)).all Hf.ok <;> simp
end Go.Q
