/- Calls, evaluated. -/
import Derived.Test.YtemlkeknpjbcnaaGe0
import Derived.Test.YtemlkeknpjbcnaaGe1
import Derived.Test.YtemlkeknpjbcnaaGe2
set_option linter.unusedVariables false
set_option maxRecDepth 100000
namespace Go.V
open Go.Proofs.Try (prog)
theorem ok44 : PuOK prog k44.f k44.args k44.t := known (L := []) memos_nil (by kernel_rfl)
theorem ok45 : PuOK prog k45.f k45.args k45.t := known (L := []) memos_nil (by kernel_rfl)
theorem ok46 : PuOK prog k46.f k46.args k46.t := known (L := [k44, k45]) (memos_cons ok44 (memos_cons ok45 memos_nil)) (by kernel_rfl)
theorem ok47 : PuOK prog k47.f k47.args k47.t := known (L := []) memos_nil (by kernel_rfl)
theorem ok48 : PuOK prog k48.f k48.args k48.t := known (L := []) memos_nil (by kernel_rfl)
theorem ok49 : PuOK prog k49.f k49.args k49.t := known (L := []) memos_nil (by kernel_rfl)
theorem ok50 : PuOK prog k50.f k50.args k50.t := known (L := []) memos_nil (by kernel_rfl)
theorem ok51 : PuOK prog k51.f k51.args k51.t := known (L := [k47, k48, k49, k50]) (memos_cons ok47 (memos_cons ok48 (memos_cons ok49 (memos_cons ok50 memos_nil)))) (by kernel_rfl)
theorem ok52 : PuOK prog k52.f k52.args k52.t := known (L := []) memos_nil (by kernel_rfl)
theorem ok53 : PuOK prog k53.f k53.args k53.t := known (L := [k52]) (memos_cons ok52 memos_nil) (by kernel_rfl)
theorem ok54 : PuOK prog k54.f k54.args k54.t := known (L := [k0, k36, k43, k46, k51, k53]) (memos_cons ok0 (memos_cons ok36 (memos_cons ok43 (memos_cons ok46 (memos_cons ok51 (memos_cons ok53 memos_nil)))))) (by kernel_rfl)
theorem ok55 : PuOK prog k55.f k55.args k55.t := known (L := []) memos_nil (by kernel_rfl)
theorem ok56 : PuOK prog k56.f k56.args k56.t := known (L := []) memos_nil (by kernel_rfl)
theorem ok57 : PuOK prog k57.f k57.args k57.t := known (L := []) memos_nil (by kernel_rfl)
theorem ok58 : PuOK prog k58.f k58.args k58.t := known (L := []) memos_nil (by kernel_rfl)
theorem ok59 : PuOK prog k59.f k59.args k59.t := known (L := []) memos_nil (by kernel_rfl)
theorem ok60 : PuOK prog k60.f k60.args k60.t := known (L := []) memos_nil (by kernel_rfl)
theorem ok61 : PuOK prog k61.f k61.args k61.t := known (L := []) memos_nil (by kernel_rfl)
theorem ok62 : PuOK prog k62.f k62.args k62.t := known (L := []) memos_nil (by kernel_rfl)
theorem ok63 : PuOK prog k63.f k63.args k63.t := known (L := []) memos_nil (by kernel_rfl)
theorem ok64 : PuOK prog k64.f k64.args k64.t := known (L := [k56, k57, k58, k59, k60, k61, k62, k63]) (memos_cons ok56 (memos_cons ok57 (memos_cons ok58 (memos_cons ok59 (memos_cons ok60 (memos_cons ok61 (memos_cons ok62 (memos_cons ok63 memos_nil)))))))) (by kernel_rfl)
end Go.V
