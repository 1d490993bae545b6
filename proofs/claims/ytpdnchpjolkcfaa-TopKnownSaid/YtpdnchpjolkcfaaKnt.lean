/- Wells are landmarks: the tables are right. -/
import Derived.Test.YtpdnchpjolkcfaaKnc0
import Derived.Test.YtpdnchpjolkcfaaKnc1
import Derived.Test.YtpdnchpjolkcfaaKnc2
import Derived.Test.YtpdnchpjolkcfaaKnc3
import Derived.Test.YtpdnchpjolkcfaaWk5
import Derived.Test.YtpdnchpjolkcfaaJL
set_option linter.unusedVariables false
set_option linter.unusedSimpArgs false
set_option maxRecDepth 100000
namespace Go.Q
open Go.V
open Go.Proofs.Try (prog)
theorem fnS_T {TT : Tab} {Sh : Shp} {d : Nat} {ps : List (Option Nat)} {f : FuncId} {F : Fn} (h : fnS TT Sh d ps f = some F) : ∃ fn, TT f = some fn := by
  unfold fnS at h
  split at h
  · cases h
  · rename_i fn e; exact ⟨fn, e⟩
theorem tab_of {f : FuncId} {F : Fn} (hr : isRef f = false) (h : fnS TP (shOf FN) 40 F.ps f = some F) : (∃ fn, TP f = some fn ∧ fn.byref = false) ∧ ((∃ d, fnS TP (shOf FN) d F.ps f = some F) ∨ ∀ m n ds d args, F.den m (ev FN m n) ds = some d → F2 RD ds args → ∃ t, PuOK prog f args t ∧ RR F.rs d t) := by
  obtain ⟨fn, hfn⟩ := fnS_T h
  exact ⟨⟨fn, hfn, by rw [(cFn_ref hfn).1]; exact hr⟩, .inl ⟨40, h⟩⟩
/-- A call without arguments that is known. -/
theorem yes_tab {f : FuncId} {F : Fn} (h : PuOK prog f [] (.bool true)) (hf : ∃ fn, TP f = some fn ∧ fn.byref = false) (hF : F = ⟨[], .leaf 0, [.c (.bool true)], .e⟩) : (∃ fn, TP f = some fn ∧ fn.byref = false) ∧ ((∃ d, fnS TP (shOf FN) d F.ps f = some F) ∨ ∀ m n ds d args, F.den m (ev FN m n) ds = some d → F2 RD ds args → ∃ t, PuOK prog f args t ∧ RR F.rs d t) := by
  refine ⟨hf, .inr fun m n ds d args hd ha => ?_⟩
  subst hF
  cases ds with
  | cons x xs => simp [Fn.den, fits] at hd
  | nil =>
    have := F2.inv_nil ha
    subst this
    simp [Fn.den, fits, T.den, E.den] at hd
    subst hd
    exact ⟨_, h, .bool, rfl⟩
theorem y18 : ∃ fn, TP 18 = some fn ∧ fn.byref = false := by
  have h : (match TP 18 with | some fn => fn.byref == false | none => false) = true := by kernel_rfl
  cases e : TP 18 with
  | none => rw [e] at h; cases h
  | some fn => rw [e] at h; exact ⟨fn, rfl, by simpa using h⟩
theorem tabs : Tabs prog TP FN := ⟨TP_ok, mixed, fun f F h => by
  unfold FN at h
  split at h
  · cases h; exact tab_of rfl is4
  · cases h; exact yes_tab Go.V.ok54 y18 rfl
  · cases h; exact tab_of rfl is19
  · cases h; exact tab_of rfl is20
  · cases h; exact tab_of rfl is21
  · cases h; exact tab_of rfl is22
  · cases h; exact tab_of rfl is23
  · cases h; exact tab_of rfl is24
  · cases h; exact tab_of rfl is25
  · cases h; exact tab_of rfl is26
  · cases h; exact tab_of rfl is27
  · cases h; exact tab_of rfl is57
  · cases h; exact tab_of rfl is58
  · cases h; exact tab_of rfl is59
  · cases h; exact tab_of rfl is60
  · cases h; exact tab_of rfl is61
  · cases h; exact tab_of rfl is62
  · cases h; exact tab_of rfl is63
  · cases h; exact tab_of rfl is64
  · cases h; exact tab_of rfl is66
  · cases h; exact tab_of rfl is67
  · cases h; exact tab_of rfl is68
  · cases h; exact tab_of rfl is69
  · cases h; exact tab_of rfl is87
  · cases h; exact tab_of rfl is88
  · cases h; exact tab_of rfl is93
  · cases h; exact tab_of rfl is94
  · cases h; exact tab_of rfl is95
  · cases h; exact tab_of rfl is96
  · cases h; exact tab_of rfl is97
  · cases h; exact tab_of rfl is98
  · cases h; exact tab_of rfl is99
  · cases h; exact tab_of rfl is101
  · cases h; exact tab_of rfl is102
  · cases h; exact tab_of rfl is103
  · cases h; exact tab_of rfl is105
  · cases h; exact tab_of rfl is106
  · cases h; exact tab_of rfl is107
  · cases h; exact tab_of rfl is108
  · cases h⟩
end Go.Q
