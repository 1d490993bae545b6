/- Calls, evaluated. -/
import Derived.Test.YtimbhebamjnfmaaAt0
import Derived.Test.YtimbhebamjnfmaaAt1
set_option linter.unusedVariables false
set_option maxRecDepth 100000
namespace Go.V
open Go.Proofs.Try (prog)
def k8 : Memo := ⟨96, [g2, .int .i64 (30), .int .i64 (0), .int .i64 (10)], .tup [.int .u8 (1), .int .i64 (0)]⟩
def k9 : Memo := ⟨147, [.lst 3 [[.int .i64 (1), .int .i64 (0), .int .i64 (20)], [.int .i64 (-1), .int .i64 (0), .int .i64 (-10)], [.int .i64 (0), .int .i64 (1), .int .i64 (0)], [.int .i64 (0), .int .i64 (-1), .int .i64 (0)]], g1], .fresh 3 [[.int .i64 (1), .int .i64 (0), .int .i64 (40)], [.int .i64 (-1), .int .i64 (0), .int .i64 (-20)], [.int .i64 (0), .int .i64 (1), .int .i64 (0)], [.int .i64 (0), .int .i64 (-1), .int .i64 (0)]]⟩
def k10 : Memo := ⟨95, [g2, g1], .tup [.agg [.fresh 3 [[.int .i64 (1), .int .i64 (0), .int .i64 (40)], [.int .i64 (-1), .int .i64 (0), .int .i64 (-20)], [.int .i64 (0), .int .i64 (1), .int .i64 (0)], [.int .i64 (0), .int .i64 (-1), .int .i64 (0)]]], .int .i64 (0)]⟩
def k11 : Memo := ⟨152, [g4], .bool true⟩
def k12 : Memo := ⟨108, [.lst 3 [[.int .i64 (1), .int .i64 (0), .int .i64 (40)], [.int .i64 (-1), .int .i64 (0), .int .i64 (-20)], [.int .i64 (0), .int .i64 (1), .int .i64 (0)], [.int .i64 (0), .int .i64 (-1), .int .i64 (0)], [.int .i64 (1), .int .i64 (0), .int .i64 (40)], [.int .i64 (-1), .int .i64 (0), .int .i64 (-20)], [.int .i64 (0), .int .i64 (1), .int .i64 (10)], [.int .i64 (0), .int .i64 (-1), .int .i64 (10)]]], .bool true⟩
def k13 : Memo := ⟨150, [.lst 3 [[.int .i64 (1), .int .i64 (0), .int .i64 (40)], [.int .i64 (-1), .int .i64 (0), .int .i64 (-20)], [.int .i64 (0), .int .i64 (1), .int .i64 (0)], [.int .i64 (0), .int .i64 (-1), .int .i64 (0)]], g3], .int .u8 (2)⟩
def k14 : Memo := ⟨96, [g4, .int .i64 (30), .int .i64 (0), .int .i64 (10)], .tup [.int .u8 (2), .int .i64 (0)]⟩
def k15 : Memo := ⟨147, [.lst 3 [[.int .i64 (1), .int .i64 (0), .int .i64 (40)], [.int .i64 (-1), .int .i64 (0), .int .i64 (-20)], [.int .i64 (0), .int .i64 (1), .int .i64 (0)], [.int .i64 (0), .int .i64 (-1), .int .i64 (0)]], g1], .fresh 3 [[.int .i64 (1), .int .i64 (0), .int .i64 (60)], [.int .i64 (-1), .int .i64 (0), .int .i64 (-30)], [.int .i64 (0), .int .i64 (1), .int .i64 (0)], [.int .i64 (0), .int .i64 (-1), .int .i64 (0)]]⟩
def k16 : Memo := ⟨95, [g4, g1], .tup [.agg [.fresh 3 [[.int .i64 (1), .int .i64 (0), .int .i64 (60)], [.int .i64 (-1), .int .i64 (0), .int .i64 (-30)], [.int .i64 (0), .int .i64 (1), .int .i64 (0)], [.int .i64 (0), .int .i64 (-1), .int .i64 (0)]]], .int .i64 (0)]⟩
def k17 : Memo := ⟨152, [.agg [.lst 3 [[.int .i64 (1), .int .i64 (0), .int .i64 (60)], [.int .i64 (-1), .int .i64 (0), .int .i64 (-30)], [.int .i64 (0), .int .i64 (1), .int .i64 (0)], [.int .i64 (0), .int .i64 (-1), .int .i64 (0)]]]], .bool true⟩
def k18 : Memo := ⟨108, [.lst 3 [[.int .i64 (1), .int .i64 (0), .int .i64 (60)], [.int .i64 (-1), .int .i64 (0), .int .i64 (-30)], [.int .i64 (0), .int .i64 (1), .int .i64 (0)], [.int .i64 (0), .int .i64 (-1), .int .i64 (0)], [.int .i64 (1), .int .i64 (0), .int .i64 (40)], [.int .i64 (-1), .int .i64 (0), .int .i64 (-20)], [.int .i64 (0), .int .i64 (1), .int .i64 (10)], [.int .i64 (0), .int .i64 (-1), .int .i64 (10)]]], .bool true⟩
theorem ok8 : PuOK prog k8.f k8.args k8.t := known (L := (.node 4715 (.one k5 .nil) (.one k7 .nil))) (mT (mO ok5 mN) (mO ok7 mN)) (by kernel_rfl)
theorem ok9 : PuOK prog k9.f k9.args k9.t := known (L := .nil) mN (by kernel_rfl)
theorem ok10 : PuOK prog k10.f k10.args k10.t := known (L := (.node 4715 (.one k5 .nil) (.one k9 .nil))) (mT (mO ok5 mN) (mO ok9 mN)) (by kernel_rfl)
theorem ok11 : PuOK prog k11.f k11.args k11.t := known (L := .nil) mN (by kernel_rfl)
theorem ok12 : PuOK prog k12.f k12.args k12.t := known (L := .nil) mN (by kernel_rfl)
theorem ok13 : PuOK prog k13.f k13.args k13.t := known (L := (.one k12 .nil)) (mO ok12 mN) (by kernel_rfl)
theorem ok14 : PuOK prog k14.f k14.args k14.t := known (L := (.node 4715 (.one k11 .nil) (.one k13 .nil))) (mT (mO ok11 mN) (mO ok13 mN)) (by kernel_rfl)
theorem ok15 : PuOK prog k15.f k15.args k15.t := known (L := .nil) mN (by kernel_rfl)
theorem ok16 : PuOK prog k16.f k16.args k16.t := known (L := (.node 4715 (.one k11 .nil) (.one k15 .nil))) (mT (mO ok11 mN) (mO ok15 mN)) (by kernel_rfl)
theorem ok17 : PuOK prog k17.f k17.args k17.t := known (L := .nil) mN (by kernel_rfl)
theorem ok18 : PuOK prog k18.f k18.args k18.t := known (L := .nil) mN (by kernel_rfl)
end Go.V
