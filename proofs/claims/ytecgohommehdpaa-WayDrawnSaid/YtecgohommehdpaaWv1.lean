/- Calls, evaluated. -/
import Derived.Test.YtecgohommehdpaaWv0
import Derived.Test.YtecgohommehdpaaNs
set_option linter.unusedVariables false
set_option maxRecDepth 100000
namespace Go.V
open Go.Proofs.Try (prog)
def k0 : Memo := ⟨130, [.lst 4 [[.int .i64 (0), .int .i64 (0), .int .i64 (12), .int .i64 (13)], [.int .i64 (18), .int .i64 (18), .int .i64 (40), .int .i64 (50)]]], .bool true⟩
def k1 : Memo := ⟨77, [g0], .bool true⟩
def k2 : Memo := ⟨73, [.agg [.lst 9 [[.int .i64 (0), .int .i64 (0), .int .i64 (0), .int .i64 (0), .int .i64 (0), .int .i64 (0), .int .i64 (0), .int .i64 (0), .int .i64 (0)], [.int .i64 (90000), .int .i64 (0), .int .i64 (20), .int .i64 (1000), .int .i64 (2000), .int .i64 (10000), .int .i64 (3000), .int .i64 (5000), .int .i64 (0)], [.int .i64 (140000), .int .i64 (0), .int .i64 (0), .int .i64 (0), .int .i64 (0), .int .i64 (0), .int .i64 (0), .int .i64 (0), .int .i64 (0)]], .lst 5 [[.int .i64 (0), .int .i64 (1), .int .i64 (90000), .int .i64 (100000), .lst 4 [[.int .i64 (5), .int .i64 (7), .int .i64 (20), .int .i64 (30)]]], [.int .i64 (1), .int .i64 (2), .int .i64 (50000), .int .i64 (50000), .lst 4 [[.int .i64 (0), .int .i64 (0), .int .i64 (12), .int .i64 (13)], [.int .i64 (18), .int .i64 (18), .int .i64 (40), .int .i64 (50)]]], [.int .i64 (0), .int .i64 (2), .int .i64 (200000), .int .i64 (240000), .lst 4 [[.int .i64 (0), .int .i64 (0), .int .i64 (99), .int .i64 (99)]]]], .int .i64 (20000), .int .i64 (30000), .int .i64 (0), .int .i64 (0), .int .i64 (0)], .int .i64 (0), .agg [.int .i64 (6), .int .i64 (6)]], .agg [.int .i64 (6), .int .i64 (7)]⟩
def k3 : Memo := ⟨73, [g1, .int .i64 (0), .agg [.int .i64 (6), .int .i64 (6)]], .agg [.int .i64 (6), .int .i64 (7)]⟩
def k4 : Memo := ⟨91, [g1, .int .i64 (0)], .tup [.agg [.int .i64 (0), .int .i64 (1), .int .i64 (6), .int .i64 (7), .int .i64 (9), .int .i64 (12)], .bool true]⟩
def k5 : Memo := ⟨73, [.agg [.lst 9 [[.int .i64 (0), .int .i64 (0), .int .i64 (0), .int .i64 (0), .int .i64 (0), .int .i64 (0), .int .i64 (0), .int .i64 (0), .int .i64 (0)], [.int .i64 (90000), .int .i64 (0), .int .i64 (20), .int .i64 (1000), .int .i64 (2000), .int .i64 (10000), .int .i64 (3000), .int .i64 (5000), .int .i64 (0)], [.int .i64 (140000), .int .i64 (0), .int .i64 (0), .int .i64 (0), .int .i64 (0), .int .i64 (0), .int .i64 (0), .int .i64 (0), .int .i64 (0)]], .lst 5 [[.int .i64 (0), .int .i64 (1), .int .i64 (90000), .int .i64 (100000), .lst 4 [[.int .i64 (5), .int .i64 (7), .int .i64 (20), .int .i64 (30)]]], [.int .i64 (1), .int .i64 (2), .int .i64 (50000), .int .i64 (50000), .lst 4 [[.int .i64 (0), .int .i64 (0), .int .i64 (12), .int .i64 (13)], [.int .i64 (18), .int .i64 (18), .int .i64 (40), .int .i64 (50)]]], [.int .i64 (0), .int .i64 (2), .int .i64 (200000), .int .i64 (240000), .lst 4 [[.int .i64 (0), .int .i64 (0), .int .i64 (99), .int .i64 (99)]]]], .int .i64 (20000), .int .i64 (30000), .int .i64 (1), .int .i64 (9), .int .i64 (12)], .int .i64 (1), .agg [.int .i64 (9), .int .i64 (12)]], .agg [.int .i64 (9), .int .i64 (18)]⟩
theorem ok0 : PuOK prog k0.f k0.args k0.t := known (L := .nil) mN (by kernel_rfl)
theorem ok1 : PuOK prog k1.f k1.args k1.t := known (L := (.one k0 .nil)) (mO ok0 mN) (by kernel_rfl)
theorem ok2 : PuOK prog k2.f k2.args k2.t := known (L := .nil) mN (by kernel_rfl)
theorem ok3 : PuOK prog k3.f k3.args k3.t := known (L := .nil) mN (by kernel_rfl)
theorem ok4 : PuOK prog k4.f k4.args k4.t := known (L := (.one k3 .nil)) (mO ok3 mN) (by kernel_rfl)
theorem ok5 : PuOK prog k5.f k5.args k5.t := known (L := .nil) mN (by kernel_rfl)
end Go.V
