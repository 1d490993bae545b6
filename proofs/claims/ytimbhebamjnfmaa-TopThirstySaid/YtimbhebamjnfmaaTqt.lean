/- The tables are right. -/
import Derived.Test.YtimbhebamjnfmaaTqc0
import Derived.Test.YtimbhebamjnfmaaTqc1
import Derived.Test.YtimbhebamjnfmaaTqc2
import Derived.Test.YtimbhebamjnfmaaTqc3
import Derived.Test.YtimbhebamjnfmaaAt4
import Derived.Test.YtimbhebamjnfmaaTqr
import Derived.Test.YtimbhebamjnfmaaJL
set_option linter.unusedVariables false
set_option linter.unusedSimpArgs false
set_option maxRecDepth 100000
namespace Go.Q
open Go.V
open Go.Proofs.Try (prog)
theorem fnS_T {TT : Tab} {Sh : Shp} {d : Nat} {ps : List (Option Nat)} {f : FuncId} {F : Fn} (h : fnS TT Sh d ps f = some F) : ∃ fn, TT f = some fn := by
  unfold fnS at h
  split at h
  · cases h
  · rename_i fn e; exact ⟨fn, e⟩
theorem tab_of {f : FuncId} {F : Fn} (hr : isRef f = false) (h : fnS TP (shOf FN) 40 F.ps f = some F) : (∃ fn, TP f = some fn ∧ fn.byref = false) ∧ ((∃ d, fnS TP (shOf FN) d F.ps f = some F) ∨ ∀ m n ds d args, F.den m (ev FN m n) ds = some d → F2 RD ds args → ∃ t, PuOK prog f args t ∧ RR F.rs d t) := by
  obtain ⟨fn, hfn⟩ := fnS_T h
  exact ⟨⟨fn, hfn, by rw [(cFn_ref hfn).1]; exact hr⟩, .inl ⟨40, h⟩⟩
theorem yes_tab {f : FuncId} {F : Fn} (h : PuOK prog f [] (.bool true)) (hf : ∃ fn, TP f = some fn ∧ fn.byref = false) (hF : F = ⟨[], .leaf 0, [.c (.bool true)], .e⟩) : (∃ fn, TP f = some fn ∧ fn.byref = false) ∧ ((∃ d, fnS TP (shOf FN) d F.ps f = some F) ∨ ∀ m n ds d args, F.den m (ev FN m n) ds = some d → F2 RD ds args → ∃ t, PuOK prog f args t ∧ RR F.rs d t) := by
  refine ⟨hf, .inr fun m n ds d args hd ha => ?_⟩
  subst hF
  cases ds with
  | cons x xs => simp [Fn.den, fits] at hd
  | nil =>
    have := F2.inv_nil ha
    subst this
    simp [Fn.den, fits, T.den, E.den] at hd
    subst hd
    exact ⟨_, h, .bool, rfl⟩
theorem y31 : ∃ fn, TP 31 = some fn ∧ fn.byref = false := by
  have h : (match TP 31 with | some fn => fn.byref == false | none => false) = true := by kernel_rfl
  cases e : TP 31 with
  | none => rw [e] at h; cases h
  | some fn => rw [e] at h; exact ⟨fn, rfl, by simpa using h⟩
theorem y127 : ∃ fn, TP 127 = some fn ∧ fn.byref = false := by
  have h : (match TP 127 with | some fn => fn.byref == false | none => false) = true := by kernel_rfl
  cases e : TP 127 with
  | none => rw [e] at h; cases h
  | some fn => rw [e] at h; exact ⟨fn, rfl, by simpa using h⟩
theorem tabs : Tabs prog TP FN := ⟨TP_ok, mixed, fun f F h => by
  unfold FN at h
  split at h
  · cases h; exact tab_of rfl is7
  · cases h; exact tab_of rfl is8
  · cases h; exact tab_of rfl is26
  · cases h; exact yes_tab Go.V.ok54 y31 rfl
  · cases h; exact tab_of rfl is32
  · cases h; exact tab_of rfl is33
  · cases h; exact tab_of rfl is34
  · cases h; exact tab_of rfl is35
  · cases h; exact tab_of rfl is36
  · cases h; exact tab_of rfl is37
  · cases h; exact tab_of rfl is38
  · cases h; exact tab_of rfl is39
  · cases h; exact tab_of rfl is40
  · cases h; exact tab_of rfl is41
  · cases h; exact tab_of rfl is95
  · cases h; exact tab_of rfl is96
  · cases h; exact tab_of rfl is100
  · cases h; exact tab_of rfl is101
  · cases h; exact tab_of rfl is103
  · cases h; exact tab_of rfl is106
  · cases h; exact tab_of rfl is107
  · cases h; exact tab_of rfl is108
  · cases h; exact tab_of rfl is112
  · cases h; exact tab_of rfl is115
  · cases h; exact tab_of rfl is116
  · cases h; exact tab_of rfl is117
  · cases h; exact tab_of rfl is118
  · cases h; exact tab_of rfl is119
  · cases h; exact tab_of rfl is120
  · cases h; exact tab_of rfl is121
  · cases h; exact tab_of rfl is123
  · cases h; exact tab_of rfl is124
  · cases h; exact tab_of rfl is125
  · cases h; exact ⟨y127, .inr rep_ok⟩
  · cases h; exact tab_of rfl is145
  · cases h; exact tab_of rfl is146
  · cases h; exact tab_of rfl is147
  · cases h; exact tab_of rfl is148
  · cases h; exact tab_of rfl is149
  · cases h; exact tab_of rfl is150
  · cases h; exact tab_of rfl is151
  · cases h; exact tab_of rfl is152
  · cases h; exact tab_of rfl is153
  · cases h; exact tab_of rfl is154
  · cases h; exact tab_of rfl is155
  · cases h; exact tab_of rfl is156
  · cases h; exact tab_of rfl is162
  · cases h; exact tab_of rfl is163
  · cases h; exact tab_of rfl is164
  · cases h; exact tab_of rfl is166
  · cases h; exact tab_of rfl is167
  · cases h; exact tab_of rfl is168
  · cases h; exact tab_of rfl is169
  · cases h; exact tab_of rfl is173
  · cases h; exact tab_of rfl is174
  · cases h; exact tab_of rfl is176
  · cases h; exact tab_of rfl is187
  · cases h; exact tab_of rfl is190
  · cases h; exact tab_of rfl is191
  · cases h; exact tab_of rfl is192
  · cases h; exact tab_of rfl is193
  · cases h; exact tab_of rfl is194
  · cases h; exact tab_of rfl is195
  · cases h; exact tab_of rfl is196
  · cases h; exact tab_of rfl is203
  · cases h⟩
end Go.Q
