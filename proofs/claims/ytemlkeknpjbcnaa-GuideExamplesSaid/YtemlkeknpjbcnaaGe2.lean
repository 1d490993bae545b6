/- Calls, evaluated. -/
import Derived.Test.YtemlkeknpjbcnaaGe0
import Derived.Test.YtemlkeknpjbcnaaGe1
set_option linter.unusedVariables false
set_option maxRecDepth 100000
namespace Go.V
open Go.Proofs.Try (prog)
theorem ok20 : PuOK prog k20.f k20.args k20.t := known (L := []) memos_nil (by kernel_rfl)
theorem ok21 : PuOK prog k21.f k21.args k21.t := known (L := [k20]) (memos_cons ok20 memos_nil) (by kernel_rfl)
theorem ok22 : PuOK prog k22.f k22.args k22.t := known (L := [k0, k21]) (memos_cons ok0 (memos_cons ok21 memos_nil)) (by kernel_rfl)
theorem ok23 : PuOK prog k23.f k23.args k23.t := known (L := []) memos_nil (by kernel_rfl)
theorem ok24 : PuOK prog k24.f k24.args k24.t := known (L := []) memos_nil (by kernel_rfl)
theorem ok25 : PuOK prog k25.f k25.args k25.t := known (L := []) memos_nil (by kernel_rfl)
theorem ok26 : PuOK prog k26.f k26.args k26.t := known (L := [k21, k23, k24, k25]) (memos_cons ok21 (memos_cons ok23 (memos_cons ok24 (memos_cons ok25 memos_nil)))) (by kernel_rfl)
theorem ok27 : PuOK prog k27.f k27.args k27.t := known (L := []) memos_nil (by kernel_rfl)
theorem ok28 : PuOK prog k28.f k28.args k28.t := known (L := []) memos_nil (by kernel_rfl)
theorem ok29 : PuOK prog k29.f k29.args k29.t := known (L := []) memos_nil (by kernel_rfl)
theorem ok30 : PuOK prog k30.f k30.args k30.t := known (L := []) memos_nil (by kernel_rfl)
theorem ok31 : PuOK prog k31.f k31.args k31.t := known (L := []) memos_nil (by kernel_rfl)
theorem ok32 : PuOK prog k32.f k32.args k32.t := known (L := []) memos_nil (by kernel_rfl)
theorem ok33 : PuOK prog k33.f k33.args k33.t := known (L := []) memos_nil (by kernel_rfl)
theorem ok34 : PuOK prog k34.f k34.args k34.t := known (L := []) memos_nil (by kernel_rfl)
theorem ok35 : PuOK prog k35.f k35.args k35.t := known (L := [k25, k27, k28, k29, k30, k31, k32, k33, k34]) (memos_cons ok25 (memos_cons ok27 (memos_cons ok28 (memos_cons ok29 (memos_cons ok30 (memos_cons ok31 (memos_cons ok32 (memos_cons ok33 (memos_cons ok34 memos_nil))))))))) (by kernel_rfl)
theorem ok36 : PuOK prog k36.f k36.args k36.t := known (L := []) memos_nil (by kernel_rfl)
theorem ok37 : PuOK prog k37.f k37.args k37.t := known (L := []) memos_nil (by kernel_rfl)
theorem ok38 : PuOK prog k38.f k38.args k38.t := known (L := []) memos_nil (by kernel_rfl)
theorem ok39 : PuOK prog k39.f k39.args k39.t := known (L := []) memos_nil (by kernel_rfl)
theorem ok40 : PuOK prog k40.f k40.args k40.t := known (L := []) memos_nil (by kernel_rfl)
theorem ok41 : PuOK prog k41.f k41.args k41.t := known (L := []) memos_nil (by kernel_rfl)
theorem ok42 : PuOK prog k42.f k42.args k42.t := known (L := []) memos_nil (by kernel_rfl)
theorem ok43 : PuOK prog k43.f k43.args k43.t := known (L := [k37, k38, k39, k40, k41, k42]) (memos_cons ok37 (memos_cons ok38 (memos_cons ok39 (memos_cons ok40 (memos_cons ok41 (memos_cons ok42 memos_nil)))))) (by kernel_rfl)
end Go.V
