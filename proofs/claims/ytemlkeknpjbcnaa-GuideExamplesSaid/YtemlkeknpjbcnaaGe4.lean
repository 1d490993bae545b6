/- Calls, evaluated. -/
import Derived.Test.YtemlkeknpjbcnaaGe0
import Derived.Test.YtemlkeknpjbcnaaGe1
import Derived.Test.YtemlkeknpjbcnaaGe3
set_option linter.unusedVariables false
set_option maxRecDepth 100000
namespace Go.V
open Go.Proofs.Try (prog)
theorem ok65 : PuOK prog k65.f k65.args k65.t := known (L := [k64]) (memos_cons ok64 memos_nil) (by kernel_rfl)
theorem ok66 : PuOK prog k66.f k66.args k66.t := known (L := [k0, k55, k65]) (memos_cons ok0 (memos_cons ok55 (memos_cons ok65 memos_nil))) (by kernel_rfl)
theorem ok67 : PuOK prog k67.f k67.args k67.t := known (L := []) memos_nil (by kernel_rfl)
theorem ok68 : PuOK prog k68.f k68.args k68.t := known (L := [k67]) (memos_cons ok67 memos_nil) (by kernel_rfl)
theorem ok69 : PuOK prog k69.f k69.args k69.t := known (L := [k68]) (memos_cons ok68 memos_nil) (by kernel_rfl)
theorem ok70 : PuOK prog k70.f k70.args k70.t := known (L := [k0, k55, k69]) (memos_cons ok0 (memos_cons ok55 (memos_cons ok69 memos_nil))) (by kernel_rfl)
theorem ok71 : PuOK prog k71.f k71.args k71.t := known (L := []) memos_nil (by kernel_rfl)
theorem ok72 : PuOK prog k72.f k72.args k72.t := known (L := []) memos_nil (by kernel_rfl)
theorem ok73 : PuOK prog k73.f k73.args k73.t := known (L := []) memos_nil (by kernel_rfl)
theorem ok74 : PuOK prog k74.f k74.args k74.t := known (L := [k0, k55, k72, k73]) (memos_cons ok0 (memos_cons ok55 (memos_cons ok72 (memos_cons ok73 memos_nil)))) (by kernel_rfl)
theorem ok75 : PuOK prog k75.f k75.args k75.t := known (L := []) memos_nil (by kernel_rfl)
theorem ok76 : PuOK prog k76.f k76.args k76.t := known (L := []) memos_nil (by kernel_rfl)
theorem ok77 : PuOK prog k77.f k77.args k77.t := known (L := [k76]) (memos_cons ok76 memos_nil) (by kernel_rfl)
theorem ok78 : PuOK prog k78.f k78.args k78.t := known (L := [k77]) (memos_cons ok77 memos_nil) (by kernel_rfl)
theorem ok79 : PuOK prog k79.f k79.args k79.t := known (L := [k73, k75, k78]) (memos_cons ok73 (memos_cons ok75 (memos_cons ok78 memos_nil))) (by kernel_rfl)
theorem ok80 : PuOK prog k80.f k80.args k80.t := known (L := []) memos_nil (by kernel_rfl)
theorem ok81 : PuOK prog k81.f k81.args k81.t := known (L := []) memos_nil (by kernel_rfl)
theorem ok82 : PuOK prog k82.f k82.args k82.t := known (L := [k73, k75, k80, k81]) (memos_cons ok73 (memos_cons ok75 (memos_cons ok80 (memos_cons ok81 memos_nil)))) (by kernel_rfl)
theorem ok83 : PuOK prog k83.f k83.args k83.t := known (L := []) memos_nil (by kernel_rfl)
theorem ok84 : PuOK prog k84.f k84.args k84.t := known (L := []) memos_nil (by kernel_rfl)
theorem ok85 : PuOK prog k85.f k85.args k85.t := known (L := [k84]) (memos_cons ok84 memos_nil) (by kernel_rfl)
theorem ok86 : PuOK prog k86.f k86.args k86.t := known (L := [k85]) (memos_cons ok85 memos_nil) (by kernel_rfl)
theorem ok87 : PuOK prog k87.f k87.args k87.t := known (L := [k81, k83, k86]) (memos_cons ok81 (memos_cons ok83 (memos_cons ok86 memos_nil))) (by kernel_rfl)
theorem ok88 : PuOK prog k88.f k88.args k88.t := known (L := []) memos_nil (by kernel_rfl)
end Go.V
