/- Ported: guide (Gc4, Gd0, Gd1, Gg2, Gg5) -/
import Derived.Test.YtimbhebamjnfmaaPg3
set_option linter.unusedVariables false
set_option linter.unusedSimpArgs false
set_option maxRecDepth 100000
namespace Go.Q.G
open Go.V
theorem e32 (hs : List Hf) : evL FN 32 [.node [hfs hs]] = some (.bool (decide (60 < hs.length))) := by
  refine evL_of (F := F32) rfl ?_
  have : decide ((hs.length : Int) > 60) = decide (60 < hs.length) := by rw [decide_eq_decide]; omega
  simp [F32, Fn.denV, fits, T.denV, denVK, denL, E.den, D.cells, hfs, D.den1, binD, unD, this]
def foldI {σ α ε : Type} (step : Nat → σ → α → Except ε σ) : Nat → σ → List α → Except ε σ
  | _, s, [] => .ok s
  | i, s, x :: xs => match step i s x with
    | .ok s' => foldI step (i + 1) s' xs
    | .error e => .error e
end Go.Q.G
