/- Calls, evaluated. -/
import Derived.Test.YtpdnchpjolkcfaaWe0
import Derived.Test.YtpdnchpjolkcfaaNu
import Derived.Test.YtpdnchpjolkcfaaWe1
import Derived.Test.YtpdnchpjolkcfaaWe3
import Derived.Test.YtpdnchpjolkcfaaWe4
set_option linter.unusedVariables false
set_option maxRecDepth 100000
namespace Go.V
open Go.Proofs.Try (prog)
def k24 : Memo := ⟨51, [.agg [.lst 9 [[.int .i64 (0), .int .i64 (0), .int .i64 (0), .int .i64 (0), .int .i64 (0), .int .i64 (0), .int .i64 (0), .int .i64 (0), .int .i64 (0)], [.int .i64 (90000), .int .i64 (0), .int .i64 (20), .int .i64 (1000), .int .i64 (2000), .int .i64 (10000), .int .i64 (3000), .int .i64 (5000), .int .i64 (0)], [.int .i64 (140000), .int .i64 (0), .int .i64 (0), .int .i64 (0), .int .i64 (0), .int .i64 (0), .int .i64 (0), .int .i64 (0), .int .i64 (0)]], .lst 5 [[.int .i64 (0), .int .i64 (0), .int .i64 (90000), .int .i64 (100000), .lst 4 [[.int .i64 (5), .int .i64 (7), .int .i64 (20), .int .i64 (30)]]], [.int .i64 (1), .int .i64 (2), .int .i64 (50000), .int .i64 (50000), .lst 4 [[.int .i64 (0), .int .i64 (0), .int .i64 (12), .int .i64 (13)], [.int .i64 (18), .int .i64 (18), .int .i64 (40), .int .i64 (50)]]], [.int .i64 (0), .int .i64 (2), .int .i64 (200000), .int .i64 (240000), .lst 4 [[.int .i64 (0), .int .i64 (0), .int .i64 (99), .int .i64 (99)]]]]]], .bool false⟩
def k25 : Memo := ⟨3, [], .bool true⟩
theorem ok24 : PuOK prog k24.f k24.args k24.t := known (L := .nil) mN (by kernel_rfl)
theorem ok25 : PuOK prog k25.f k25.args k25.t := known (L := (.node 1584 (.node 5 (.one k14 .nil) (.one k0 (.one k19 (.one k24 .nil)))) (.node 10669 (.oneF k15 .nil) (.node 28531 (.one k18 .nil) (.one k23 .nil))))) (mT (mT (mO ok14 mN) (mO ok0 (mO ok19 (mO ok24 mN)))) (mT (mF ok15 mN) (mT (mO ok18 mN) (mO ok23 mN)))) (by kernel_rfl)
end Go.V
