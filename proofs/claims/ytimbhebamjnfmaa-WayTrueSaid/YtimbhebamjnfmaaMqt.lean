/- The tables are right. -/
import Derived.Test.YtimbhebamjnfmaaMqc0
import Derived.Test.YtimbhebamjnfmaaMqc1
import Derived.Test.YtimbhebamjnfmaaMqc2
import Derived.Test.YtimbhebamjnfmaaAw3
import Derived.Test.YtimbhebamjnfmaaJL
set_option linter.unusedVariables false
set_option linter.unusedSimpArgs false
set_option maxRecDepth 100000
namespace Go.Q
open Go.V
open Go.Proofs.Try (prog)
theorem fnS_T {TT : Tab} {Sh : Shp} {d : Nat} {ps : List (Option Nat)} {f : FuncId} {F : Fn} (h : fnS TT Sh d ps f = some F) : ∃ fn, TT f = some fn := by
  unfold fnS at h
  split at h
  · cases h
  · rename_i fn e; exact ⟨fn, e⟩
theorem tab_of {f : FuncId} {F : Fn} (hr : isRef f = false) (h : fnS TP (shOf FN) 40 F.ps f = some F) : (∃ fn, TP f = some fn ∧ fn.byref = false) ∧ ((∃ d, fnS TP (shOf FN) d F.ps f = some F) ∨ ∀ m n ds d args, F.den m (ev FN m n) ds = some d → F2 RD ds args → ∃ t, PuOK prog f args t ∧ RR F.rs d t) := by
  obtain ⟨fn, hfn⟩ := fnS_T h
  exact ⟨⟨fn, hfn, by rw [(cFn_ref hfn).1]; exact hr⟩, .inl ⟨40, h⟩⟩
theorem yes_tab {f : FuncId} {F : Fn} (h : PuOK prog f [] (.bool true)) (hf : ∃ fn, TP f = some fn ∧ fn.byref = false) (hF : F = ⟨[], .leaf 0, [.c (.bool true)], .e⟩) : (∃ fn, TP f = some fn ∧ fn.byref = false) ∧ ((∃ d, fnS TP (shOf FN) d F.ps f = some F) ∨ ∀ m n ds d args, F.den m (ev FN m n) ds = some d → F2 RD ds args → ∃ t, PuOK prog f args t ∧ RR F.rs d t) := by
  refine ⟨hf, .inr fun m n ds d args hd ha => ?_⟩
  subst hF
  cases ds with
  | cons x xs => simp [Fn.den, fits] at hd
  | nil =>
    have := F2.inv_nil ha
    subst this
    simp [Fn.den, fits, T.den, E.den] at hd
    subst hd
    exact ⟨_, h, .bool, rfl⟩
theorem y13 : ∃ fn, TP 13 = some fn ∧ fn.byref = false := by
  have h : (match TP 13 with | some fn => fn.byref == false | none => false) = true := by kernel_rfl
  cases e : TP 13 with
  | none => rw [e] at h; cases h
  | some fn => rw [e] at h; exact ⟨fn, rfl, by simpa using h⟩
theorem tabs : Tabs prog TP FN := ⟨TP_ok, mixed, fun f F h => by
  unfold FN at h
  split at h
  · cases h; exact tab_of rfl is4
  · cases h; exact yes_tab Go.V.ok14 y13 rfl
  · cases h; exact tab_of rfl is14
  · cases h; exact tab_of rfl is15
  · cases h; exact tab_of rfl is17
  · cases h; exact tab_of rfl is18
  · cases h; exact tab_of rfl is19
  · cases h; exact tab_of rfl is20
  · cases h; exact tab_of rfl is68
  · cases h; exact tab_of rfl is73
  · cases h; exact tab_of rfl is74
  · cases h; exact tab_of rfl is75
  · cases h; exact tab_of rfl is76
  · cases h; exact tab_of rfl is77
  · cases h; exact tab_of rfl is78
  · cases h; exact tab_of rfl is79
  · cases h; exact tab_of rfl is80
  · cases h; exact tab_of rfl is82
  · cases h; exact tab_of rfl is83
  · cases h; exact tab_of rfl is84
  · cases h; exact tab_of rfl is85
  · cases h; exact tab_of rfl is86
  · cases h; exact tab_of rfl is87
  · cases h; exact tab_of rfl is88
  · cases h; exact tab_of rfl is131
  · cases h; exact tab_of rfl is133
  · cases h; exact tab_of rfl is136
  · cases h; exact tab_of rfl is137
  · cases h; exact tab_of rfl is138
  · cases h; exact tab_of rfl is139
  · cases h; exact tab_of rfl is140
  · cases h; exact tab_of rfl is141
  · cases h; exact tab_of rfl is142
  · cases h; exact tab_of rfl is143
  · cases h; exact tab_of rfl is144
  · cases h; exact tab_of rfl is184
  · cases h; exact tab_of rfl is185
  · cases h; exact tab_of rfl is201
  · cases h; exact tab_of rfl is202
  · cases h; exact tab_of rfl is205
  · cases h⟩
end Go.Q
