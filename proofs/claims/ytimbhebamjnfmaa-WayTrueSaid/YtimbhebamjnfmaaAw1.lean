/- Calls, evaluated. -/
import Derived.Test.YtimbhebamjnfmaaAw0
import Derived.Test.YtimbhebamjnfmaaNz
set_option linter.unusedVariables false
set_option maxRecDepth 100000
namespace Go.V
open Go.Proofs.Try (prog)
def k0 : Memo := ⟨184, [g0], .bool true⟩
def k1 : Memo := ⟨78, [g1, .int .i64 (0)], .tup [.agg [.int .i64 (0), .int .i64 (1), .int .i64 (6), .int .i64 (7), .int .i64 (9), .int .i64 (12)], .bool true]⟩
def k2 : Memo := ⟨78, [.agg [.lst 9 [[.int .i64 (0), .int .i64 (0), .int .i64 (0), .int .i64 (0), .int .i64 (0), .int .i64 (0), .int .i64 (0), .int .i64 (0), .int .i64 (0)], [.int .i64 (90000), .int .i64 (0), .int .i64 (20), .int .i64 (1000), .int .i64 (2000), .int .i64 (10000), .int .i64 (3000), .int .i64 (5000), .int .i64 (0)], [.int .i64 (140000), .int .i64 (0), .int .i64 (0), .int .i64 (0), .int .i64 (0), .int .i64 (0), .int .i64 (0), .int .i64 (0), .int .i64 (0)]], .lst 5 [[.int .i64 (0), .int .i64 (1), .int .i64 (90000), .int .i64 (100000), .lst 4 [[.int .i64 (5), .int .i64 (7), .int .i64 (20), .int .i64 (30)]]], [.int .i64 (1), .int .i64 (2), .int .i64 (50000), .int .i64 (50000), .lst 4 [[.int .i64 (0), .int .i64 (0), .int .i64 (12), .int .i64 (13)], [.int .i64 (18), .int .i64 (18), .int .i64 (40), .int .i64 (50)]]], [.int .i64 (0), .int .i64 (2), .int .i64 (200000), .int .i64 (240000), .lst 4 [[.int .i64 (0), .int .i64 (0), .int .i64 (99), .int .i64 (99)]]]], .int .i64 (20000), .int .i64 (30000), .int .i64 (1), .int .i64 (9), .int .i64 (12)], .int .i64 (1)], .tup [.agg [.int .i64 (1), .int .i64 (2), .int .i64 (9), .int .i64 (18), .int .i64 (11), .int .i64 (21)], .bool true]⟩
def k3 : Memo := ⟨15, [g0, .int .i64 (0), .int .i64 (6), .agg [.int .i64 (20000), .int .i64 (30000)], .lst 1 [[.int .i64 (0)], [.int .i64 (1)]]], .tup [.fresh 6 [[.int .i64 (0), .int .i64 (1), .int .i64 (6), .int .i64 (7), .int .i64 (9), .int .i64 (12)], [.int .i64 (1), .int .i64 (2), .int .i64 (9), .int .i64 (18), .int .i64 (11), .int .i64 (21)]], .int .i64 (0), .int .i64 (0)]⟩
def k4 : Memo := ⟨178, [.mapL [.int .i64 (0), .int .i64 (1), .int .i64 (2)] [.int .i64 (6), .int .i64 (100001), .int .i64 (100001)]], .int .i64 (0)⟩
def k5 : Memo := ⟨178, [.mapL [.int .i64 (1), .int .i64 (2)] [.int .i64 (9), .int .i64 (13)]], .int .i64 (1)⟩
def k6 : Memo := ⟨178, [.mapL [.int .i64 (2)] [.int .i64 (11)]], .int .i64 (2)⟩
def k7 : Memo := ⟨130, [g1, .int .i64 (0)], .fresh 1 [[.int .i64 (6)], [.int .i64 (9)], [.int .i64 (11)]]⟩
theorem ok0 : PuOK prog k0.f k0.args k0.t := known (L := .nil) mN (by kernel_rfl)
theorem ok1 : PuOK prog k1.f k1.args k1.t := known (L := .nil) mN (by kernel_rfl)
theorem ok2 : PuOK prog k2.f k2.args k2.t := known (L := .nil) mN (by kernel_rfl)
theorem ok3 : PuOK prog k3.f k3.args k3.t := known (L := (.node 5707 (.one k0 .nil) (.node 9530 (.one k1 .nil) (.one k2 .nil)))) (mT (mO ok0 mN) (mT (mO ok1 mN) (mO ok2 mN))) (by kernel_rfl)
theorem ok4 : PuOK prog k4.f k4.args k4.t := Go.Proofs.Ytimbhebamjnfmaa.near_pu (by kernel_rfl)
theorem ok5 : PuOK prog k5.f k5.args k5.t := Go.Proofs.Ytimbhebamjnfmaa.near_pu (by kernel_rfl)
theorem ok6 : PuOK prog k6.f k6.args k6.t := Go.Proofs.Ytimbhebamjnfmaa.near_pu (by kernel_rfl)
theorem ok7 : PuOK prog k7.f k7.args k7.t := known (L := (.one k4 (.one k5 (.one k6 .nil)))) (mO ok4 (mO ok5 (mO ok6 mN))) (by kernel_rfl)
end Go.V
