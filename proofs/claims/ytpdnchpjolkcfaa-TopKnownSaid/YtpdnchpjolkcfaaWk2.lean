/- Calls, evaluated. -/
import Derived.Test.YtpdnchpjolkcfaaWk0
set_option linter.unusedVariables false
set_option maxRecDepth 100000
namespace Go.V
open Go.Proofs.Try (prog)
def k5 : Memo := ⟨95, [g2], .bool true⟩
def k6 : Memo := ⟨64, [.lst 3 [[.int .i64 (1), .int .i64 (0), .int .i64 (20)], [.int .i64 (-1), .int .i64 (0), .int .i64 (-10)], [.int .i64 (0), .int .i64 (1), .int .i64 (0)], [.int .i64 (0), .int .i64 (-1), .int .i64 (0)], [.int .i64 (1), .int .i64 (0), .int .i64 (40)], [.int .i64 (-1), .int .i64 (0), .int .i64 (-20)], [.int .i64 (0), .int .i64 (1), .int .i64 (10)], [.int .i64 (0), .int .i64 (-1), .int .i64 (10)]]], .bool true⟩
def k7 : Memo := ⟨69, [.lst 3 [[.int .i64 (1), .int .i64 (0), .int .i64 (20)], [.int .i64 (-1), .int .i64 (0), .int .i64 (-10)], [.int .i64 (0), .int .i64 (1), .int .i64 (0)], [.int .i64 (0), .int .i64 (-1), .int .i64 (0)]], g3], .int .u8 (1)⟩
def k8 : Memo := ⟨27, [g2, .int .i64 (30), .int .i64 (0), .int .i64 (10)], .tup [.int .u8 (1), .int .i64 (0)]⟩
def k9 : Memo := ⟨86, [.lst 3 [[.int .i64 (1), .int .i64 (0), .int .i64 (20)], [.int .i64 (-1), .int .i64 (0), .int .i64 (-10)], [.int .i64 (0), .int .i64 (1), .int .i64 (0)], [.int .i64 (0), .int .i64 (-1), .int .i64 (0)]], g1], .fresh 3 [[.int .i64 (1), .int .i64 (0), .int .i64 (40)], [.int .i64 (-1), .int .i64 (0), .int .i64 (-20)], [.int .i64 (0), .int .i64 (1), .int .i64 (0)], [.int .i64 (0), .int .i64 (-1), .int .i64 (0)]]⟩
def k10 : Memo := ⟨54, [g2, g1], .tup [.agg [.fresh 3 [[.int .i64 (1), .int .i64 (0), .int .i64 (40)], [.int .i64 (-1), .int .i64 (0), .int .i64 (-20)], [.int .i64 (0), .int .i64 (1), .int .i64 (0)], [.int .i64 (0), .int .i64 (-1), .int .i64 (0)]]], .int .i64 (0)]⟩
def k11 : Memo := ⟨95, [g4], .bool true⟩
def k12 : Memo := ⟨64, [.lst 3 [[.int .i64 (1), .int .i64 (0), .int .i64 (40)], [.int .i64 (-1), .int .i64 (0), .int .i64 (-20)], [.int .i64 (0), .int .i64 (1), .int .i64 (0)], [.int .i64 (0), .int .i64 (-1), .int .i64 (0)], [.int .i64 (1), .int .i64 (0), .int .i64 (40)], [.int .i64 (-1), .int .i64 (0), .int .i64 (-20)], [.int .i64 (0), .int .i64 (1), .int .i64 (10)], [.int .i64 (0), .int .i64 (-1), .int .i64 (10)]]], .bool true⟩
def k13 : Memo := ⟨69, [.lst 3 [[.int .i64 (1), .int .i64 (0), .int .i64 (40)], [.int .i64 (-1), .int .i64 (0), .int .i64 (-20)], [.int .i64 (0), .int .i64 (1), .int .i64 (0)], [.int .i64 (0), .int .i64 (-1), .int .i64 (0)]], g3], .int .u8 (2)⟩
theorem ok5 : PuOK prog k5.f k5.args k5.t := known (L := .nil) mN (by kernel_rfl)
theorem ok6 : PuOK prog k6.f k6.args k6.t := known (L := .nil) mN (by kernel_rfl)
theorem ok7 : PuOK prog k7.f k7.args k7.t := known (L := (.one k6 .nil)) (mO ok6 mN) (by kernel_rfl)
theorem ok8 : PuOK prog k8.f k8.args k8.t := known (L := (.node 2948 (.one k5 .nil) (.one k7 .nil))) (mT (mO ok5 mN) (mO ok7 mN)) (by kernel_rfl)
theorem ok9 : PuOK prog k9.f k9.args k9.t := known (L := .nil) mN (by kernel_rfl)
theorem ok10 : PuOK prog k10.f k10.args k10.t := known (L := (.node 313 (.one k9 .nil) (.one k5 .nil))) (mT (mO ok9 mN) (mO ok5 mN)) (by kernel_rfl)
theorem ok11 : PuOK prog k11.f k11.args k11.t := known (L := .nil) mN (by kernel_rfl)
theorem ok12 : PuOK prog k12.f k12.args k12.t := known (L := .nil) mN (by kernel_rfl)
theorem ok13 : PuOK prog k13.f k13.args k13.t := known (L := (.one k12 .nil)) (mO ok12 mN) (by kernel_rfl)
end Go.V
