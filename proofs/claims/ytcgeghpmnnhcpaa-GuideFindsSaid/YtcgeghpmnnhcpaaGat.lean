/- Guide: the tables are right. -/
import Derived.Test.YtcgeghpmnnhcpaaGac0
import Derived.Test.YtcgeghpmnnhcpaaGac1
import Derived.Test.YtcgeghpmnnhcpaaGac2
import Derived.Test.YtcgeghpmnnhcpaaGac3
import Derived.Test.YtcgeghpmnnhcpaaGac4
import Derived.Test.YtcgeghpmnnhcpaaGac5
import Derived.Test.YtcgeghpmnnhcpaaJL
set_option linter.unusedVariables false
set_option linter.unusedSimpArgs false
set_option maxRecDepth 100000
namespace Go.Q
open Go.V
open Go.Proofs.Try (prog)
theorem fnS_T {TT : Tab} {Sh : Shp} {d : Nat} {ps : List (Option Nat)} {f : FuncId} {F : Fn} (h : fnS TT Sh d ps f = some F) : ∃ fn, TT f = some fn := by
  unfold fnS at h
  split at h
  · cases h
  · rename_i fn e; exact ⟨fn, e⟩
theorem tab_of {f : FuncId} {F : Fn} (hr : isRef f = false) (h : fnS TP (shOf FN) 40 F.ps f = some F) : (∃ fn, TP f = some fn ∧ fn.byref = false) ∧ ((∃ d, fnS TP (shOf FN) d F.ps f = some F) ∨ ∀ m n ds d args, F.den m (ev FN m n) ds = some d → F2 RD ds args → ∃ t, PuOK prog f args t ∧ RR F.rs d t) := by
  obtain ⟨fn, hfn⟩ := fnS_T h
  exact ⟨⟨fn, hfn, by rw [(cFn_ref hfn).1]; exact hr⟩, .inl ⟨40, h⟩⟩
theorem cl98 : TP 98 = some (cloneIR 3 24 [.int .i64 0, .int .i64 0, .int .i64 0]) := by kernel_rfl
theorem cl100 : TP 100 = some (cloneIR 1 8 [.int .i64 0]) := by kernel_rfl
theorem tabs : Tabs prog TP FN := ⟨TP_ok, mixed, fun f F h => by
  unfold FN at h
  split at h
  · cases h; exact tab_of rfl is8
  · cases h; exact tab_of rfl is9
  · cases h; exact tab_of rfl is11
  · cases h; exact tab_of rfl is12
  · cases h; exact tab_of rfl is13
  · cases h; exact tab_of rfl is14
  · cases h; exact tab_of rfl is15
  · cases h; exact tab_of rfl is16
  · cases h; exact tab_of rfl is17
  · cases h; exact tab_of rfl is18
  · cases h; exact tab_of rfl is19
  · cases h; exact tab_of rfl is20
  · cases h; exact tab_of rfl is21
  · cases h; exact tab_of rfl is22
  · cases h; exact tab_of rfl is23
  · cases h; exact tab_of rfl is24
  · cases h; exact tab_of rfl is25
  · cases h; exact tab_of rfl is26
  · cases h; exact tab_of rfl is27
  · cases h; exact tab_of rfl is28
  · cases h; exact tab_of rfl is29
  · cases h; exact tab_of rfl is30
  · cases h; exact tab_of rfl is31
  · cases h; exact tab_of rfl is32
  · cases h; exact tab_of rfl is33
  · cases h; exact tab_of rfl is34
  · cases h; exact tab_of rfl is37
  · cases h; exact tab_of rfl is38
  · cases h; exact tab_of rfl is40
  · cases h; exact tab_of rfl is41
  · cases h; exact tab_of rfl is42
  · cases h; exact tab_of rfl is44
  · cases h; exact tab_of rfl is45
  · cases h; exact tab_of rfl is46
  · cases h; exact tab_of rfl is47
  · cases h; exact tab_of rfl is49
  · cases h; exact tab_of rfl is50
  · cases h; exact tab_of rfl is51
  · cases h; exact tab_of rfl is52
  · cases h; exact tab_of rfl is53
  · cases h; exact tab_of rfl is54
  · cases h; exact tab_of rfl is56
  · cases h; exact tab_of rfl is57
  · cases h; exact tab_of rfl is58
  · cases h; exact tab_of rfl is59
  · cases h; exact tab_of rfl is60
  · cases h; exact tab_of rfl is61
  · cases h; exact tab_of rfl is63
  · cases h; exact tab_of rfl is64
  · cases h; exact tab_of rfl is65
  · cases h; exact tab_of rfl is66
  · cases h; exact tab_of rfl is67
  · cases h; exact tab_of rfl is68
  · cases h; exact tab_of rfl is69
  · cases h; exact tab_of rfl is70
  · cases h; exact tab_of rfl is71
  · cases h; exact tab_of rfl is72
  · cases h; exact tab_of rfl is73
  · cases h; exact tab_of rfl is74
  · cases h; exact tab_of rfl is75
  · cases h; exact tab_of rfl is76
  · cases h; exact tab_of rfl is77
  · cases h; exact tab_of rfl is78
  · cases h; exact tab_of rfl is81
  · cases h; exact tab_of rfl is82
  · cases h; exact tab_of rfl is83
  · cases h; exact tab_of rfl is84
  · cases h; exact tab_of rfl is85
  · cases h; exact tab_of rfl is86
  · cases h; exact tab_of rfl is87
  · cases h; exact tab_of rfl is89
  · cases h; exact tab_of rfl is90
  · cases h; exact tab_of rfl is91
  · cases h; exact tab_of rfl is93
  · cases h; exact tab_of rfl is94
  · cases h; exact tab_of rfl is95
  · cases h; exact tab_of rfl is96
  · cases h; exact tab_of rfl is97
  · cases h; exact ⟨⟨_, cl98, rfl⟩, .inr (clone_ok TP_ok mixed cl98 rfl rfl (by decide))⟩
  · cases h; exact ⟨⟨_, cl100, rfl⟩, .inr (clone_ok TP_ok mixed cl100 rfl rfl (by decide))⟩
  · cases h; exact tab_of rfl is102
  · cases h; exact tab_of rfl is103
  · cases h⟩
end Go.Q
