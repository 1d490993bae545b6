/- Calls, evaluated. -/
import Derived.Test.YtemlkeknpjbcnaaGe0
set_option linter.unusedVariables false
set_option maxRecDepth 100000
namespace Go.V
open Go.Proofs.Try (prog)
theorem ok0 : PuOK prog k0.f k0.args k0.t := known (L := []) memos_nil (by kernel_rfl)
theorem ok1 : PuOK prog k1.f k1.args k1.t := known (L := []) memos_nil (by kernel_rfl)
theorem ok2 : PuOK prog k2.f k2.args k2.t := known (L := [k1]) (memos_cons ok1 memos_nil) (by kernel_rfl)
theorem ok3 : PuOK prog k3.f k3.args k3.t := known (L := [k0, k2]) (memos_cons ok0 (memos_cons ok2 memos_nil)) (by kernel_rfl)
theorem ok4 : PuOK prog k4.f k4.args k4.t := known (L := []) memos_nil (by kernel_rfl)
theorem ok5 : PuOK prog k5.f k5.args k5.t := known (L := []) memos_nil (by kernel_rfl)
theorem ok6 : PuOK prog k6.f k6.args k6.t := known (L := [k5]) (memos_cons ok5 memos_nil) (by kernel_rfl)
theorem ok7 : PuOK prog k7.f k7.args k7.t := known (L := [k4, k6]) (memos_cons ok4 (memos_cons ok6 memos_nil)) (by kernel_rfl)
theorem ok8 : PuOK prog k8.f k8.args k8.t := known (L := []) memos_nil (by kernel_rfl)
theorem ok9 : PuOK prog k9.f k9.args k9.t := known (L := []) memos_nil (by kernel_rfl)
theorem ok10 : PuOK prog k10.f k10.args k10.t := known (L := []) memos_nil (by kernel_rfl)
theorem ok11 : PuOK prog k11.f k11.args k11.t := known (L := []) memos_nil (by kernel_rfl)
theorem ok12 : PuOK prog k12.f k12.args k12.t := known (L := []) memos_nil (by kernel_rfl)
theorem ok13 : PuOK prog k13.f k13.args k13.t := known (L := []) memos_nil (by kernel_rfl)
theorem ok14 : PuOK prog k14.f k14.args k14.t := known (L := []) memos_nil (by kernel_rfl)
theorem ok15 : PuOK prog k15.f k15.args k15.t := known (L := []) memos_nil (by kernel_rfl)
theorem ok16 : PuOK prog k16.f k16.args k16.t := known (L := []) memos_nil (by kernel_rfl)
theorem ok17 : PuOK prog k17.f k17.args k17.t := known (L := []) memos_nil (by kernel_rfl)
theorem ok18 : PuOK prog k18.f k18.args k18.t := known (L := []) memos_nil (by kernel_rfl)
theorem ok19 : PuOK prog k19.f k19.args k19.t := known (L := [k5, k8, k9, k10, k11, k12, k13, k14, k15, k16, k17, k18]) (memos_cons ok5 (memos_cons ok8 (memos_cons ok9 (memos_cons ok10 (memos_cons ok11 (memos_cons ok12 (memos_cons ok13 (memos_cons ok14 (memos_cons ok15 (memos_cons ok16 (memos_cons ok17 (memos_cons ok18 memos_nil)))))))))))) (by kernel_rfl)
end Go.V
