/- Ported: numbers that say what is so -/
import Derived.Test.YtimbhebamjnfmaaMa5
import Derived.Test.YtimbhebamjnfmaaMsh
set_option linter.unusedVariables false
set_option linter.unusedSimpArgs false
set_option maxRecDepth 100000
namespace Go.Q
open Go.V
/-- Words: numbers below 2^32. -/
structure Wd where
  n : Int
  h0 : 0 ≤ n
  h1 : n ≤ 4294967295
def wds (ws : List Wd) : D := .list (ws.map fun w => [U32 w.n])
theorem conf_words {d : D} (h : Conf (.list [.int .u32]) d) : ∃ ws : List Wd, d = wds ws ∧ ws.length ≤ 9223372036854775807 := conf_list h fun x hx => by
  obtain ⟨d0, t0, rfl, h0, h1⟩ := hx
  rw [show t0 = [] from h1]
  obtain ⟨n, rfl, g0, g1⟩ := conf_u32 h0
  exact ⟨⟨n, g0, g1⟩, rfl⟩
def atS (ws : List Wd) (i : Nat) : Wd := if ws.length = 0 then ⟨0, by omega, by omega⟩ else ws.getD (i % ws.length) ⟨0, by omega, by omega⟩
theorem e19 (ws : List Wd) (i : Nat) : evL FN 19 [wds ws, I i] = some (U32 (atS ws i).n) := by
  refine evL_of (F := F19) rfl ?_
  unfold atS
  by_cases h : ws.length = 0
  · have h' : ws = [] := List.eq_nil_of_length_eq_zero h
    subst h'
    simp [F19, Fn.denV, fits, T.denV, denVK, denL, E.den, D.cells, D.den1, binD, wds]
  · have h0 : ¬ ws = [] := fun e => h (by rw [e]; rfl)
    have hz : ¬ (ws.length : Int) = 0 := by omega
    have hm : ((i : Int).tmod ws.length) = ((i % ws.length : Nat) : Int) := rfl
    have hlt : i % ws.length < ws.length := Nat.mod_lt _ (by omega)
    have hidx := idx_nat hlt
    simp only [I] at hidx
    simp [h, h0, hz, hm, F19, Fn.denV, fits, T.denV, denVK, denL, E.den, D.cells, D.den1, binD, wds, partD]
    have he : (i : Int) % (ws.length : Int) = ((i % ws.length : Nat) : Int) := by simp
    rw [he, hidx]
    simp [hlt, E.den]
/-- A number of a span. -/
def pickS (lo hi : Int) (w : Wd) : Int := lo + w.n.tmod (hi - lo + 1)
theorem pick_in {lo hi : Int} (w : Wd) (h : lo ≤ hi) : lo ≤ pickS lo hi w ∧ pickS lo hi w ≤ hi := by
  unfold pickS
  have h1 := Int.tmod_nonneg (hi - lo + 1) w.h0
  have h2 := Int.tmod_lt_of_pos w.n (show 0 < hi - lo + 1 by omega)
  omega
theorem e18 {lo hi : Int} (w : Wd) (h : lo ≤ hi) (hl : -1000000000 ≤ lo) (hh : hi ≤ 1000000000) : evL FN 18 [.node [I lo, I hi], U32 w.n] = some (I (pickS lo hi w)) := by
  refine evL_of (F := F18) rfl ?_
  have w0 := w.h0
  have w1 := w.h1
  have hp := pick_in w h
  have v1 := wI (x := w.n) (by omega)
  have v2 := wI (x := hi - lo) (by omega)
  have v3 := wI (x := hi - lo + 1) (by omega)
  have v4 := wI (x := pickS lo hi w) (by omega)
  have hz : ¬ hi - lo + 1 = 0 := by omega
  unfold pickS at v4 ⊢
  simp [F18, Fn.denV, fits, T.denV, denVK, denL, E.den, D.cells, D.den1, binD, v1, v2, v3, v4, hz]
end Go.Q
