/- Way: the tables are right. -/
import Derived.Test.YtecgohommehdpaaWrc0
import Derived.Test.YtecgohommehdpaaWrc1
import Derived.Test.YtecgohommehdpaaWrc2
import Derived.Test.YtecgohommehdpaaWa3
import Derived.Test.YtecgohommehdpaaWr0
import Derived.Test.YtecgohommehdpaaJL
set_option linter.unusedVariables false
set_option linter.unusedSimpArgs false
set_option maxRecDepth 100000
namespace Go.Q
open Go.V
open Go.Proofs.Try (prog)
theorem fnS_T {TT : Tab} {Sh : Shp} {d : Nat} {ps : List (Option Nat)} {f : FuncId} {F : Fn} (h : fnS TT Sh d ps f = some F) : ∃ fn, TT f = some fn := by
  unfold fnS at h
  split at h
  · cases h
  · rename_i fn e; exact ⟨fn, e⟩
theorem tab_of {f : FuncId} {F : Fn} (hr : isRef f = false) (h : fnS TP (shOf FN) 40 F.ps f = some F) : (∃ fn, TP f = some fn ∧ fn.byref = false) ∧ ((∃ d, fnS TP (shOf FN) d F.ps f = some F) ∨ ∀ m n ds d args, F.den m (ev FN m n) ds = some d → F2 RD ds args → ∃ t, PuOK prog f args t ∧ RR F.rs d t) := by
  obtain ⟨fn, hfn⟩ := fnS_T h
  exact ⟨⟨fn, hfn, by rw [(cFn_ref hfn).1]; exact hr⟩, .inl ⟨40, h⟩⟩
/-- A call without arguments that is known. -/
theorem yes_tab {f : FuncId} {F : Fn} (h : PuOK prog f [] (.bool true)) (hf : ∃ fn, TP f = some fn ∧ fn.byref = false) (hF : F = ⟨[], .leaf 0, [.c (.bool true)], .e⟩) : (∃ fn, TP f = some fn ∧ fn.byref = false) ∧ ((∃ d, fnS TP (shOf FN) d F.ps f = some F) ∨ ∀ m n ds d args, F.den m (ev FN m n) ds = some d → F2 RD ds args → ∃ t, PuOK prog f args t ∧ RR F.rs d t) := by
  refine ⟨hf, .inr fun m n ds d args hd ha => ?_⟩
  subst hF
  cases ds with
  | cons x xs => simp [Fn.den, fits] at hd
  | nil =>
    have := F2.inv_nil ha
    subst this
    simp [Fn.den, fits, T.den, E.den] at hd
    subst hd
    exact ⟨_, h, .bool, rfl⟩
theorem y38 : ∃ fn, TP 38 = some fn ∧ fn.byref = false := by
  have h : (match TP 38 with | some fn => fn.byref == false | none => false) = true := by kernel_rfl
  cases e : TP 38 with
  | none => rw [e] at h; cases h
  | some fn => rw [e] at h; exact ⟨fn, rfl, by simpa using h⟩
theorem y109 : ∃ fn, TP 109 = some fn ∧ fn.byref = false := by
  have h : (match TP 109 with | some fn => fn.byref == false | none => false) = true := by kernel_rfl
  cases e : TP 109 with
  | none => rw [e] at h; cases h
  | some fn => rw [e] at h; exact ⟨fn, rfl, by simpa using h⟩
theorem tabs : Tabs prog TP FN := ⟨TP_ok, mixed, fun f F h => by
  unfold FN at h
  split at h
  · cases h; exact tab_of rfl is9
  · cases h; exact tab_of rfl is15
  · cases h; exact tab_of rfl is17
  · cases h; exact tab_of rfl is21
  · cases h; exact tab_of rfl is28
  · cases h; exact yes_tab Go.V.ok16 y38 rfl
  · cases h; exact tab_of rfl is39
  · cases h; exact tab_of rfl is40
  · cases h; exact tab_of rfl is41
  · cases h; exact tab_of rfl is42
  · cases h; exact tab_of rfl is43
  · cases h; exact tab_of rfl is65
  · cases h; exact tab_of rfl is66
  · cases h; exact tab_of rfl is67
  · cases h; exact tab_of rfl is68
  · cases h; exact tab_of rfl is72
  · cases h; exact tab_of rfl is73
  · cases h; exact tab_of rfl is74
  · cases h; exact tab_of rfl is77
  · cases h; exact tab_of rfl is89
  · cases h; exact tab_of rfl is90
  · cases h; exact tab_of rfl is91
  · cases h; exact tab_of rfl is92
  · cases h; exact tab_of rfl is93
  · cases h; exact tab_of rfl is94
  · cases h; exact tab_of rfl is97
  · cases h; exact tab_of rfl is98
  · cases h; exact tab_of rfl is101
  · cases h; exact tab_of rfl is102
  · cases h; exact tab_of rfl is103
  · cases h; exact tab_of rfl is104
  · cases h; exact tab_of rfl is105
  · cases h; exact tab_of rfl is106
  · cases h; exact tab_of rfl is107
  · cases h; exact ⟨y109, .inr rep_ok⟩
  · cases h; exact tab_of rfl is110
  · cases h; exact tab_of rfl is111
  · cases h; exact tab_of rfl is112
  · cases h; exact tab_of rfl is115
  · cases h; exact tab_of rfl is116
  · cases h; exact tab_of rfl is117
  · cases h; exact tab_of rfl is118
  · cases h; exact tab_of rfl is122
  · cases h; exact tab_of rfl is123
  · cases h; exact tab_of rfl is124
  · cases h; exact tab_of rfl is125
  · cases h; exact tab_of rfl is127
  · cases h; exact tab_of rfl is129
  · cases h; exact tab_of rfl is130
  · cases h; exact tab_of rfl is138
  · cases h; exact tab_of rfl is139
  · cases h; exact tab_of rfl is140
  · cases h; exact tab_of rfl is141
  · cases h; exact tab_of rfl is142
  · cases h; exact tab_of rfl is147
  · cases h⟩
end Go.Q
