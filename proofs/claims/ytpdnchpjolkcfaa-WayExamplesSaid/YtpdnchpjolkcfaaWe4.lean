/- Calls, evaluated. -/
import Derived.Test.YtpdnchpjolkcfaaWe0
import Derived.Test.YtpdnchpjolkcfaaNu
import Derived.Test.YtpdnchpjolkcfaaWe1
import Derived.Test.YtpdnchpjolkcfaaWe3
set_option linter.unusedVariables false
set_option maxRecDepth 100000
namespace Go.V
open Go.Proofs.Try (prog)
def k17 : Memo := ⟨45, [.agg [.lst 9 [[.int .i64 (0), .int .i64 (0), .int .i64 (0), .int .i64 (0), .int .i64 (0), .int .i64 (0), .int .i64 (0), .int .i64 (0), .int .i64 (0)], [.int .i64 (90000), .int .i64 (0), .int .i64 (20), .int .i64 (1000), .int .i64 (2000), .int .i64 (10000), .int .i64 (3000), .int .i64 (5000), .int .i64 (0)], [.int .i64 (140000), .int .i64 (0), .int .i64 (0), .int .i64 (0), .int .i64 (0), .int .i64 (0), .int .i64 (0), .int .i64 (0), .int .i64 (0)]], .lst 5 [[.int .i64 (0), .int .i64 (1), .int .i64 (90000), .int .i64 (100000), .lst 4 [[.int .i64 (5), .int .i64 (7), .int .i64 (20), .int .i64 (30)]]], [.int .i64 (1), .int .i64 (2), .int .i64 (50000), .int .i64 (50000), .lst 4 [[.int .i64 (0), .int .i64 (0), .int .i64 (12), .int .i64 (13)], [.int .i64 (18), .int .i64 (18), .int .i64 (40), .int .i64 (50)]]], [.int .i64 (0), .int .i64 (2), .int .i64 (200000), .int .i64 (240000), .lst 4 [[.int .i64 (0), .int .i64 (0), .int .i64 (99), .int .i64 (99)]]]], .int .i64 (20000), .int .i64 (30000), .int .i64 (2), .int .i64 (24), .int .i64 (29)], .int .i64 (2)], .tup [.agg [.int .i64 (2), .int .i64 (0), .int .i64 (24), .int .i64 (29), .int .i64 (31), .int .i64 (41)], .bool true]⟩
def k18 : Memo := ⟨14, [g0, .int .i64 (0), .int .i64 (17), .agg [.int .i64 (20000), .int .i64 (30000)], .lst 1 [[.int .i64 (2)], [.int .i64 (2)], [.int .i64 (0)]]], .tup [.nilS, .int .i64 (2), .int .i64 (34)]⟩
def k19 : Memo := ⟨51, [.agg [.lst 9 [[.int .i64 (0), .int .i64 (0), .int .i64 (0), .int .i64 (0), .int .i64 (0), .int .i64 (0), .int .i64 (0), .int .i64 (0), .int .i64 (0)], [.int .i64 (90000), .int .i64 (0), .int .i64 (20), .int .i64 (1000), .int .i64 (2000), .int .i64 (10000), .int .i64 (3000), .int .i64 (5000), .int .i64 (0)], [.int .i64 (140000), .int .i64 (0), .int .i64 (0), .int .i64 (0), .int .i64 (0), .int .i64 (0), .int .i64 (0), .int .i64 (0), .int .i64 (0)]], .lst 5 [[.int .i64 (0), .int .i64 (1), .int .i64 (90000), .int .i64 (100000), .lst 4 [[.int .i64 (5), .int .i64 (7), .int .i64 (20), .int .i64 (30)]]], [.int .i64 (1), .int .i64 (2), .int .i64 (50000), .int .i64 (50000), .lst 4 [[.int .i64 (0), .int .i64 (0), .int .i64 (12), .int .i64 (13)], [.int .i64 (18), .int .i64 (18), .int .i64 (40), .int .i64 (50)]]]]]], .bool true⟩
def k20 : Memo := ⟨80, [.mapL [.int .i64 (0), .int .i64 (1), .int .i64 (2)] [.int .i64 (17), .int .i64 (100001), .int .i64 (100001)]], .int .i64 (0)⟩
def k21 : Memo := ⟨80, [.mapL [.int .i64 (1), .int .i64 (2)] [.int .i64 (100001), .int .i64 (100001)]], .int .i64 (1)⟩
def k22 : Memo := ⟨80, [.mapL [.int .i64 (2)] [.int .i64 (100001)]], .int .i64 (2)⟩
def k23 : Memo := ⟨48, [.agg [.lst 9 [[.int .i64 (0), .int .i64 (0), .int .i64 (0), .int .i64 (0), .int .i64 (0), .int .i64 (0), .int .i64 (0), .int .i64 (0), .int .i64 (0)], [.int .i64 (90000), .int .i64 (0), .int .i64 (20), .int .i64 (1000), .int .i64 (2000), .int .i64 (10000), .int .i64 (3000), .int .i64 (5000), .int .i64 (0)], [.int .i64 (140000), .int .i64 (0), .int .i64 (0), .int .i64 (0), .int .i64 (0), .int .i64 (0), .int .i64 (0), .int .i64 (0), .int .i64 (0)]], .lst 5 [[.int .i64 (0), .int .i64 (1), .int .i64 (90000), .int .i64 (100000), .lst 4 [[.int .i64 (5), .int .i64 (7), .int .i64 (20), .int .i64 (30)]]], [.int .i64 (1), .int .i64 (2), .int .i64 (50000), .int .i64 (50000), .lst 4 [[.int .i64 (0), .int .i64 (0), .int .i64 (12), .int .i64 (13)], [.int .i64 (18), .int .i64 (18), .int .i64 (40), .int .i64 (50)]]]], .int .i64 (20000), .int .i64 (30000), .int .i64 (0), .int .i64 (17), .int .i64 (17)], .int .i64 (1)], .fresh 1 [[.int .i64 (17)], [.int .i64 (100001)], [.int .i64 (100001)]]⟩
theorem ok17 : PuOK prog k17.f k17.args k17.t := known (L := .nil) mN (by kernel_rfl)
theorem ok18 : PuOK prog k18.f k18.args k18.t := known (L := (.node 1584 (.one k0 .nil) (.one k16 (.one k17 .nil)))) (mT (mO ok0 mN) (mO ok16 (mO ok17 mN))) (by kernel_rfl)
theorem ok19 : PuOK prog k19.f k19.args k19.t := known (L := .nil) mN (by kernel_rfl)
theorem ok20 : PuOK prog k20.f k20.args k20.t := Go.Proofs.Ytpdnchpjolkcfaa.near_pu (by kernel_rfl)
theorem ok21 : PuOK prog k21.f k21.args k21.t := Go.Proofs.Ytpdnchpjolkcfaa.near_pu (by kernel_rfl)
theorem ok22 : PuOK prog k22.f k22.args k22.t := Go.Proofs.Ytpdnchpjolkcfaa.near_pu (by kernel_rfl)
theorem ok23 : PuOK prog k23.f k23.args k23.t := known (L := (.one k20 (.one k21 (.one k22 .nil)))) (mO ok20 (mO ok21 (mO ok22 mN))) (by kernel_rfl)
end Go.V
