/- Way: the tables are right. -/
import Derived.Test.YtecgohommehdpaaWyc0
import Derived.Test.YtecgohommehdpaaWyc1
import Derived.Test.YtecgohommehdpaaJL
set_option linter.unusedVariables false
set_option linter.unusedSimpArgs false
set_option maxRecDepth 100000
namespace Go.Q
open Go.V
open Go.Proofs.Try (prog)
theorem fnS_T {TT : Tab} {Sh : Shp} {d : Nat} {ps : List (Option Nat)} {f : FuncId} {F : Fn} (h : fnS TT Sh d ps f = some F) : ∃ fn, TT f = some fn := by
  unfold fnS at h
  split at h
  · cases h
  · rename_i fn e; exact ⟨fn, e⟩
theorem tab_of {f : FuncId} {F : Fn} (hr : isRef f = false) (h : fnS TP (shOf FN) 40 F.ps f = some F) : (∃ fn, TP f = some fn ∧ fn.byref = false) ∧ ((∃ d, fnS TP (shOf FN) d F.ps f = some F) ∨ ∀ m n ds d args, F.den m (ev FN m n) ds = some d → F2 RD ds args → ∃ t, PuOK prog f args t ∧ RR F.rs d t) := by
  obtain ⟨fn, hfn⟩ := fnS_T h
  exact ⟨⟨fn, hfn, by rw [(cFn_ref hfn).1]; exact hr⟩, .inl ⟨40, h⟩⟩
theorem tabs : Tabs prog TP FN := ⟨TP_ok, mixed, fun f F h => by
  unfold FN at h
  split at h
  · cases h; exact tab_of rfl is4
  · cases h; exact tab_of rfl is15
  · cases h; exact tab_of rfl is17
  · cases h; exact tab_of rfl is18
  · cases h; exact tab_of rfl is19
  · cases h; exact tab_of rfl is20
  · cases h; exact tab_of rfl is21
  · cases h; exact tab_of rfl is22
  · cases h; exact tab_of rfl is23
  · cases h; exact tab_of rfl is65
  · cases h; exact tab_of rfl is66
  · cases h; exact tab_of rfl is67
  · cases h; exact tab_of rfl is68
  · cases h; exact tab_of rfl is69
  · cases h; exact tab_of rfl is70
  · cases h; exact tab_of rfl is71
  · cases h; exact tab_of rfl is72
  · cases h; exact tab_of rfl is73
  · cases h; exact tab_of rfl is74
  · cases h; exact tab_of rfl is75
  · cases h; exact tab_of rfl is76
  · cases h; exact tab_of rfl is77
  · cases h; exact tab_of rfl is78
  · cases h; exact tab_of rfl is88
  · cases h; exact tab_of rfl is94
  · cases h; exact tab_of rfl is97
  · cases h; exact tab_of rfl is98
  · cases h; exact tab_of rfl is115
  · cases h; exact tab_of rfl is116
  · cases h; exact tab_of rfl is117
  · cases h; exact tab_of rfl is118
  · cases h; exact tab_of rfl is119
  · cases h; exact tab_of rfl is130
  · cases h⟩
end Go.Q
