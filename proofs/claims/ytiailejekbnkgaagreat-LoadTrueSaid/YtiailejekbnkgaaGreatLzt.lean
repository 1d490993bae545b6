/- The tables are right. -/
import Derived.Test.YtiailejekbnkgaaGreatLzc0
import Derived.Test.YtiailejekbnkgaaGreatLzc1
import Derived.Test.YtiailejekbnkgaaGreatAl6
set_option linter.unusedVariables false
set_option linter.unusedSimpArgs false
set_option maxRecDepth 100000
namespace Go.Q
open Go.V
open Go.Proofs.Tryz (prog)
theorem fnS_T {TT : Tab} {Sh : Shp} {d : Nat} {ps : List (Option Nat)} {f : FuncId} {F : Fn} (h : fnS TT Sh d ps f = some F) : ∃ fn, TT f = some fn := by
  unfold fnS at h
  split at h
  · cases h
  · rename_i fn e; exact ⟨fn, e⟩
theorem tab_of {f : FuncId} {F : Fn} (hr : isRef f = false) (h : fnS TP (shOf FN) 40 F.ps f = some F) : (∃ fn, TP f = some fn ∧ fn.byref = false) ∧ ((∃ d, fnS TP (shOf FN) d F.ps f = some F) ∨ ∀ m n ds d args, F.den m (ev FN m n) ds = some d → F2 RD ds args → ∃ t, PuOK prog f args t ∧ RR F.rs d t) := by
  obtain ⟨fn, hfn⟩ := fnS_T h
  exact ⟨⟨fn, hfn, by rw [(cFn_ref hfn).1]; exact hr⟩, .inl ⟨40, h⟩⟩
theorem yes_tab {f : FuncId} {F : Fn} (h : PuOK prog f [] (.bool true)) (hf : ∃ fn, TP f = some fn ∧ fn.byref = false) (hF : F = ⟨[], .leaf 0, [.c (.bool true)], .e⟩) : (∃ fn, TP f = some fn ∧ fn.byref = false) ∧ ((∃ d, fnS TP (shOf FN) d F.ps f = some F) ∨ ∀ m n ds d args, F.den m (ev FN m n) ds = some d → F2 RD ds args → ∃ t, PuOK prog f args t ∧ RR F.rs d t) := by
  refine ⟨hf, .inr fun m n ds d args hd ha => ?_⟩
  subst hF
  cases ds with
  | cons x xs => simp [Fn.den, fits] at hd
  | nil =>
    have := F2.inv_nil ha
    subst this
    simp [Fn.den, fits, T.den, E.den] at hd
    subst hd
    exact ⟨_, h, .bool, rfl⟩
theorem y9 : ∃ fn, TP 9 = some fn ∧ fn.byref = false := by
  have h : (match TP 9 with | some fn => fn.byref == false | none => false) = true := by kernel_rfl
  cases e : TP 9 with
  | none => rw [e] at h; cases h
  | some fn => rw [e] at h; exact ⟨fn, rfl, by simpa using h⟩
theorem y98 : ∃ fn, TP 98 = some fn ∧ fn.byref = false := by
  have h : (match TP 98 with | some fn => fn.byref == false | none => false) = true := by kernel_rfl
  cases e : TP 98 with
  | none => rw [e] at h; cases h
  | some fn => rw [e] at h; exact ⟨fn, rfl, by simpa using h⟩
theorem km98 : ∀ m n ds d args, F98.den m (ev FN m n) ds = some d → F2 RD ds args → ∃ t, PuOK prog 98 args t ∧ RR F98.rs d t := fun m n ds d args hd ha => by
  cases ds with
  | cons x xs => simp [Fn.den, fits, F98] at hd
  | nil =>
    have := F2.inv_nil ha
    subst this
    simp [Fn.den, fits, T.den, E.den, F98] at hd
    subst hd
    exact ⟨_, (callFn_ok TP_ok mixed 400 (L := .nil) trivial 40).pu 98 [] noH _ noH (by kernel_rfl), rfl, rfl⟩
theorem tabs : Tabs prog TP FN := ⟨TP_ok, mixed, fun f F h => by
  unfold FN at h
  split at h
  · cases h; exact tab_of rfl is3
  · cases h; exact yes_tab ok65 y9 rfl
  · cases h; exact tab_of rfl is10
  · cases h; exact tab_of rfl is11
  · cases h; exact tab_of rfl is12
  · cases h; exact tab_of rfl is13
  · cases h; exact tab_of rfl is14
  · cases h; exact tab_of rfl is39
  · cases h; exact tab_of rfl is40
  · cases h; exact tab_of rfl is41
  · cases h; exact tab_of rfl is42
  · cases h; exact tab_of rfl is43
  · cases h; exact tab_of rfl is51
  · cases h; exact ⟨y98, .inr km98⟩
  · cases h; exact tab_of rfl is99
  · cases h; exact tab_of rfl is141
  · cases h; exact tab_of rfl is142
  · cases h; exact tab_of rfl is143
  · cases h; exact tab_of rfl is144
  · cases h; exact tab_of rfl is145
  · cases h; exact tab_of rfl is146
  · cases h⟩
end Go.Q
