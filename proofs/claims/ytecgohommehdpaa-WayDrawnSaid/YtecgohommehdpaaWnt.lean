/- Water: the tables are right. -/
import Derived.Test.YtecgohommehdpaaWnc0
import Derived.Test.YtecgohommehdpaaWnc1
import Derived.Test.YtecgohommehdpaaWnc2
import Derived.Test.YtecgohommehdpaaWv4
import Derived.Test.YtecgohommehdpaaJL
set_option linter.unusedVariables false
set_option linter.unusedSimpArgs false
set_option maxRecDepth 100000
namespace Go.Q
open Go.V
open Go.Proofs.Try (prog)
theorem fnS_T {TT : Tab} {Sh : Shp} {d : Nat} {ps : List (Option Nat)} {f : FuncId} {F : Fn} (h : fnS TT Sh d ps f = some F) : ∃ fn, TT f = some fn := by
  unfold fnS at h
  split at h
  · cases h
  · rename_i fn e; exact ⟨fn, e⟩
theorem tab_of {f : FuncId} {F : Fn} (hr : isRef f = false) (h : fnS TP (shOf FN) 40 F.ps f = some F) : (∃ fn, TP f = some fn ∧ fn.byref = false) ∧ ((∃ d, fnS TP (shOf FN) d F.ps f = some F) ∨ ∀ m n ds d args, F.den m (ev FN m n) ds = some d → F2 RD ds args → ∃ t, PuOK prog f args t ∧ RR F.rs d t) := by
  obtain ⟨fn, hfn⟩ := fnS_T h
  exact ⟨⟨fn, hfn, by rw [(cFn_ref hfn).1]; exact hr⟩, .inl ⟨40, h⟩⟩
/-- A call without arguments that is known. -/
theorem yes_tab {f : FuncId} {F : Fn} (h : PuOK prog f [] (.bool true)) (hf : ∃ fn, TP f = some fn ∧ fn.byref = false) (hF : F = ⟨[], .leaf 0, [.c (.bool true)], .e⟩) : (∃ fn, TP f = some fn ∧ fn.byref = false) ∧ ((∃ d, fnS TP (shOf FN) d F.ps f = some F) ∨ ∀ m n ds d args, F.den m (ev FN m n) ds = some d → F2 RD ds args → ∃ t, PuOK prog f args t ∧ RR F.rs d t) := by
  refine ⟨hf, .inr fun m n ds d args hd ha => ?_⟩
  subst hF
  cases ds with
  | cons x xs => simp [Fn.den, fits] at hd
  | nil =>
    have := F2.inv_nil ha
    subst this
    simp [Fn.den, fits, T.den, E.den] at hd
    subst hd
    exact ⟨_, h, .bool, rfl⟩
theorem y24 : ∃ fn, TP 24 = some fn ∧ fn.byref = false := by
  have h : (match TP 24 with | some fn => fn.byref == false | none => false) = true := by kernel_rfl
  cases e : TP 24 with
  | none => rw [e] at h; cases h
  | some fn => rw [e] at h; exact ⟨fn, rfl, by simpa using h⟩
theorem tabs : Tabs prog TP FN := ⟨TP_ok, mixed, fun f F h => by
  unfold FN at h
  split at h
  · cases h; exact tab_of rfl is7
  · cases h; exact tab_of rfl is8
  · cases h; exact tab_of rfl is15
  · cases h; exact tab_of rfl is21
  · cases h; exact tab_of rfl is22
  · cases h; exact yes_tab Go.V.ok23 y24 rfl
  · cases h; exact tab_of rfl is31
  · cases h; exact tab_of rfl is32
  · cases h; exact tab_of rfl is34
  · cases h; exact tab_of rfl is35
  · cases h; exact tab_of rfl is36
  · cases h; exact tab_of rfl is37
  · cases h; exact tab_of rfl is70
  · cases h; exact tab_of rfl is72
  · cases h; exact tab_of rfl is77
  · cases h; exact tab_of rfl is78
  · cases h; exact tab_of rfl is94
  · cases h; exact tab_of rfl is95
  · cases h; exact tab_of rfl is96
  · cases h; exact tab_of rfl is97
  · cases h; exact tab_of rfl is98
  · cases h; exact tab_of rfl is115
  · cases h; exact tab_of rfl is117
  · cases h; exact tab_of rfl is118
  · cases h; exact tab_of rfl is119
  · cases h; exact tab_of rfl is130
  · cases h⟩
end Go.Q
