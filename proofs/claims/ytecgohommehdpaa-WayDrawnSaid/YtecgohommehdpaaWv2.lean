/- Calls, evaluated. -/
import Derived.Test.YtecgohommehdpaaWv0
import Derived.Test.YtecgohommehdpaaNs
import Derived.Test.YtecgohommehdpaaWv1
set_option linter.unusedVariables false
set_option maxRecDepth 100000
namespace Go.V
open Go.Proofs.Try (prog)
def k6 : Memo := ⟨91, [.agg [.lst 9 [[.int .i64 (0), .int .i64 (0), .int .i64 (0), .int .i64 (0), .int .i64 (0), .int .i64 (0), .int .i64 (0), .int .i64 (0), .int .i64 (0)], [.int .i64 (90000), .int .i64 (0), .int .i64 (20), .int .i64 (1000), .int .i64 (2000), .int .i64 (10000), .int .i64 (3000), .int .i64 (5000), .int .i64 (0)], [.int .i64 (140000), .int .i64 (0), .int .i64 (0), .int .i64 (0), .int .i64 (0), .int .i64 (0), .int .i64 (0), .int .i64 (0), .int .i64 (0)]], .lst 5 [[.int .i64 (0), .int .i64 (1), .int .i64 (90000), .int .i64 (100000), .lst 4 [[.int .i64 (5), .int .i64 (7), .int .i64 (20), .int .i64 (30)]]], [.int .i64 (1), .int .i64 (2), .int .i64 (50000), .int .i64 (50000), .lst 4 [[.int .i64 (0), .int .i64 (0), .int .i64 (12), .int .i64 (13)], [.int .i64 (18), .int .i64 (18), .int .i64 (40), .int .i64 (50)]]], [.int .i64 (0), .int .i64 (2), .int .i64 (200000), .int .i64 (240000), .lst 4 [[.int .i64 (0), .int .i64 (0), .int .i64 (99), .int .i64 (99)]]]], .int .i64 (20000), .int .i64 (30000), .int .i64 (1), .int .i64 (9), .int .i64 (12)], .int .i64 (1)], .tup [.agg [.int .i64 (1), .int .i64 (2), .int .i64 (9), .int .i64 (18), .int .i64 (11), .int .i64 (21)], .bool true]⟩
def k7 : Memo := ⟨28, [g0, .int .i64 (0), .int .i64 (6), .agg [.int .i64 (20000), .int .i64 (30000)], .lst 1 [[.int .i64 (0)], [.int .i64 (1)]]], .tup [.fresh 6 [[.int .i64 (0), .int .i64 (1), .int .i64 (6), .int .i64 (7), .int .i64 (9), .int .i64 (12)], [.int .i64 (1), .int .i64 (2), .int .i64 (9), .int .i64 (18), .int .i64 (11), .int .i64 (21)]], .int .i64 (0), .int .i64 (0)]⟩
def k8 : Memo := ⟨131, [.mapL [.int .i64 (0), .int .i64 (1), .int .i64 (2)] [.int .i64 (6), .int .i64 (100001), .int .i64 (100001)]], .int .i64 (0)⟩
def k9 : Memo := ⟨73, [g1, .int .i64 (2), .agg [.int .i64 (6), .int .i64 (6)]], .agg [.int .i64 (6), .int .i64 (6)]⟩
def k10 : Memo := ⟨131, [.mapL [.int .i64 (1), .int .i64 (2)] [.int .i64 (9), .int .i64 (13)]], .int .i64 (1)⟩
def k11 : Memo := ⟨73, [g1, .int .i64 (1), .agg [.int .i64 (9), .int .i64 (9)]], .agg [.int .i64 (9), .int .i64 (9)]⟩
def k12 : Memo := ⟨131, [.mapL [.int .i64 (2)] [.int .i64 (11)]], .int .i64 (2)⟩
def k13 : Memo := ⟨120, [g1, .int .i64 (0)], .fresh 1 [[.int .i64 (6)], [.int .i64 (9)], [.int .i64 (11)]]⟩
theorem ok6 : PuOK prog k6.f k6.args k6.t := known (L := (.one k5 .nil)) (mO ok5 mN) (by kernel_rfl)
theorem ok7 : PuOK prog k7.f k7.args k7.t := known (L := (.node 2390 (.one k1 .nil) (.node 22023 (.one k4 .nil) (.one k6 .nil)))) (mT (mO ok1 mN) (mT (mO ok4 mN) (mO ok6 mN))) (by kernel_rfl)
theorem ok8 : PuOK prog k8.f k8.args k8.t := Go.Proofs.Ytecgohommehdpaa.near_pu (by kernel_rfl)
theorem ok9 : PuOK prog k9.f k9.args k9.t := known (L := .nil) mN (by kernel_rfl)
theorem ok10 : PuOK prog k10.f k10.args k10.t := Go.Proofs.Ytecgohommehdpaa.near_pu (by kernel_rfl)
theorem ok11 : PuOK prog k11.f k11.args k11.t := known (L := .nil) mN (by kernel_rfl)
theorem ok12 : PuOK prog k12.f k12.args k12.t := Go.Proofs.Ytecgohommehdpaa.near_pu (by kernel_rfl)
theorem ok13 : PuOK prog k13.f k13.args k13.t := known (L := (.node 4064 (.one k8 (.one k10 (.one k12 .nil))) (.node 15436 (.one k3 .nil) (.node 15467 (.one k11 .nil) (.one k9 .nil))))) (mT (mO ok8 (mO ok10 (mO ok12 mN))) (mT (mO ok3 mN) (mT (mO ok11 mN) (mO ok9 mN)))) (by kernel_rfl)
end Go.V
