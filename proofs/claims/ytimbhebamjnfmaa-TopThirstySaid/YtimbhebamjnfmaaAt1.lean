/- Calls, evaluated. -/
import Derived.Test.YtimbhebamjnfmaaAt0
set_option linter.unusedVariables false
set_option maxRecDepth 100000
namespace Go.V
open Go.Proofs.Try (prog)
def k0 : Memo := ⟨152, [g0], .bool true⟩
def k1 : Memo := ⟨108, [.lst 3 [[.int .i64 (1), .int .i64 (0), .int .i64 (0)], [.int .i64 (-1), .int .i64 (0), .int .i64 (0)], [.int .i64 (0), .int .i64 (1), .int .i64 (0)], [.int .i64 (0), .int .i64 (-1), .int .i64 (0)], [.int .i64 (1), .int .i64 (0), .int .i64 (40)], [.int .i64 (-1), .int .i64 (0), .int .i64 (-20)], [.int .i64 (0), .int .i64 (1), .int .i64 (10)], [.int .i64 (0), .int .i64 (-1), .int .i64 (10)]]], .bool false⟩
def k2 : Memo := ⟨96, [g0, .int .i64 (30), .int .i64 (0), .int .i64 (10)], .tup [.int .u8 (0), .int .i64 (0)]⟩
def k3 : Memo := ⟨147, [.lst 3 [[.int .i64 (1), .int .i64 (0), .int .i64 (0)], [.int .i64 (-1), .int .i64 (0), .int .i64 (0)], [.int .i64 (0), .int .i64 (1), .int .i64 (0)], [.int .i64 (0), .int .i64 (-1), .int .i64 (0)]], g1], .fresh 3 [[.int .i64 (1), .int .i64 (0), .int .i64 (20)], [.int .i64 (-1), .int .i64 (0), .int .i64 (-10)], [.int .i64 (0), .int .i64 (1), .int .i64 (0)], [.int .i64 (0), .int .i64 (-1), .int .i64 (0)]]⟩
def k4 : Memo := ⟨95, [g0, g1], .tup [.agg [.fresh 3 [[.int .i64 (1), .int .i64 (0), .int .i64 (20)], [.int .i64 (-1), .int .i64 (0), .int .i64 (-10)], [.int .i64 (0), .int .i64 (1), .int .i64 (0)], [.int .i64 (0), .int .i64 (-1), .int .i64 (0)]]], .int .i64 (0)]⟩
def k5 : Memo := ⟨152, [g2], .bool true⟩
def k6 : Memo := ⟨108, [.lst 3 [[.int .i64 (1), .int .i64 (0), .int .i64 (20)], [.int .i64 (-1), .int .i64 (0), .int .i64 (-10)], [.int .i64 (0), .int .i64 (1), .int .i64 (0)], [.int .i64 (0), .int .i64 (-1), .int .i64 (0)], [.int .i64 (1), .int .i64 (0), .int .i64 (40)], [.int .i64 (-1), .int .i64 (0), .int .i64 (-20)], [.int .i64 (0), .int .i64 (1), .int .i64 (10)], [.int .i64 (0), .int .i64 (-1), .int .i64 (10)]]], .bool true⟩
def k7 : Memo := ⟨150, [.lst 3 [[.int .i64 (1), .int .i64 (0), .int .i64 (20)], [.int .i64 (-1), .int .i64 (0), .int .i64 (-10)], [.int .i64 (0), .int .i64 (1), .int .i64 (0)], [.int .i64 (0), .int .i64 (-1), .int .i64 (0)]], g3], .int .u8 (1)⟩
theorem ok0 : PuOK prog k0.f k0.args k0.t := known (L := .nil) mN (by kernel_rfl)
theorem ok1 : PuOK prog k1.f k1.args k1.t := known (L := .nil) mN (by kernel_rfl)
theorem ok2 : PuOK prog k2.f k2.args k2.t := known (L := (.node 4715 (.one k0 .nil) (.one k1 .nil))) (mT (mO ok0 mN) (mO ok1 mN)) (by kernel_rfl)
theorem ok3 : PuOK prog k3.f k3.args k3.t := known (L := .nil) mN (by kernel_rfl)
theorem ok4 : PuOK prog k4.f k4.args k4.t := known (L := (.node 4715 (.one k0 .nil) (.one k3 .nil))) (mT (mO ok0 mN) (mO ok3 mN)) (by kernel_rfl)
theorem ok5 : PuOK prog k5.f k5.args k5.t := known (L := .nil) mN (by kernel_rfl)
theorem ok6 : PuOK prog k6.f k6.args k6.t := known (L := .nil) mN (by kernel_rfl)
theorem ok7 : PuOK prog k7.f k7.args k7.t := known (L := (.one k6 .nil)) (mO ok6 mN) (by kernel_rfl)
end Go.V
