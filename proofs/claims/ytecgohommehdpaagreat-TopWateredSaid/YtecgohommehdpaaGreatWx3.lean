/- Calls, evaluated. -/
import Derived.Test.YtecgohommehdpaaGreatWx0
import Derived.Test.YtecgohommehdpaaGreatWx1
import Derived.Test.YtecgohommehdpaaGreatWx2
set_option linter.unusedVariables false
set_option maxRecDepth 100000
namespace Go.V
open Go.Proofs.Tryz (prog)
def k9 : Memo := ⟨32, [.lst 5 [[.int .i64 (1), .int .i64 (-1), .int .i64 (0), .int .i64 (0), .nilS], [.int .i64 (2), .int .i64 (1), .int .i64 (1400), .int .i64 (2000), .nilS], [.int .i64 (3), .int .i64 (2), .int .i64 (3000), .int .i64 (4000), .nilS], [.int .i64 (9), .int .i64 (-1), .int .i64 (0), .int .i64 (0), .nilS]], .int .i64 (3), .int .i64 (1)], .tup [.int .i64 (2), .int .i64 (0), .int .i64 (0)]⟩
def k10 : Memo := ⟨118, [.int .i64 (2), .lst 1 [[.int .i64 (0)]], .lst 4 [[.int .i64 (0), .int .i64 (1), .int .i64 (5), .bool true]], .agg [.int .i64 (3), .int .i64 (4)], .int .i64 (9)], .fresh 2 [[.int .i64 (0), .int .i64 (0)], [.int .i64 (8), .int .i64 (9)]]⟩
def k11 : Memo := ⟨86, [.int .i64 (2), .lst 1 [[.int .i64 (0)]], .lst 4 [[.int .i64 (0), .int .i64 (1), .int .i64 (5), .bool true]], .agg [.int .i64 (3), .int .i64 (4)], .int .i64 (9)], .tup [.fresh 1 [[.int .u8 (2)], [.int .u8 (2)]], .int .i64 (0)]⟩
def k12 : Memo := ⟨13, [], .bool true⟩
theorem ok9 : PuOK prog k9.f k9.args k9.t := known (L := (.oneF k8 .nil)) (mF ok8 mN) (by kernel_rfl)
theorem ok10 : PuOK prog k10.f k10.args k10.t := known (L := .nil) mN (by kernel_rfl)
theorem ok11 : PuOK prog k11.f k11.args k11.t := known (L := (.one k10 .nil)) (mO ok10 mN) (by kernel_rfl)
theorem ok12 : PuOK prog k12.f k12.args k12.t := known (L := (.node 20973 (.node 5546 (.one k6 .nil) (.one k1 .nil)) (.node 32962 (.one k4 .nil) (.node 41435 (.one k11 .nil) (.one k9 .nil))))) (mT (mT (mO ok6 mN) (mO ok1 mN)) (mT (mO ok4 mN) (mT (mO ok11 mN) (mO ok9 mN)))) (by kernel_rfl)
end Go.V
