/- Calls, evaluated. -/
import Derived.Test.YtpdnchpjolkcfaaWk0
import Derived.Test.YtpdnchpjolkcfaaWk1
import Derived.Test.YtpdnchpjolkcfaaWk2
set_option linter.unusedVariables false
set_option maxRecDepth 100000
namespace Go.V
open Go.Proofs.Try (prog)
def k14 : Memo := ⟨27, [g4, .int .i64 (30), .int .i64 (0), .int .i64 (10)], .tup [.int .u8 (2), .int .i64 (0)]⟩
def k15 : Memo := ⟨86, [.lst 3 [[.int .i64 (1), .int .i64 (0), .int .i64 (40)], [.int .i64 (-1), .int .i64 (0), .int .i64 (-20)], [.int .i64 (0), .int .i64 (1), .int .i64 (0)], [.int .i64 (0), .int .i64 (-1), .int .i64 (0)]], g1], .fresh 3 [[.int .i64 (1), .int .i64 (0), .int .i64 (60)], [.int .i64 (-1), .int .i64 (0), .int .i64 (-30)], [.int .i64 (0), .int .i64 (1), .int .i64 (0)], [.int .i64 (0), .int .i64 (-1), .int .i64 (0)]]⟩
def k16 : Memo := ⟨54, [g4, g1], .tup [.agg [.fresh 3 [[.int .i64 (1), .int .i64 (0), .int .i64 (60)], [.int .i64 (-1), .int .i64 (0), .int .i64 (-30)], [.int .i64 (0), .int .i64 (1), .int .i64 (0)], [.int .i64 (0), .int .i64 (-1), .int .i64 (0)]]], .int .i64 (0)]⟩
def k17 : Memo := ⟨95, [.agg [.lst 3 [[.int .i64 (1), .int .i64 (0), .int .i64 (60)], [.int .i64 (-1), .int .i64 (0), .int .i64 (-30)], [.int .i64 (0), .int .i64 (1), .int .i64 (0)], [.int .i64 (0), .int .i64 (-1), .int .i64 (0)]]]], .bool true⟩
def k18 : Memo := ⟨64, [.lst 3 [[.int .i64 (1), .int .i64 (0), .int .i64 (60)], [.int .i64 (-1), .int .i64 (0), .int .i64 (-30)], [.int .i64 (0), .int .i64 (1), .int .i64 (0)], [.int .i64 (0), .int .i64 (-1), .int .i64 (0)], [.int .i64 (1), .int .i64 (0), .int .i64 (40)], [.int .i64 (-1), .int .i64 (0), .int .i64 (-20)], [.int .i64 (0), .int .i64 (1), .int .i64 (10)], [.int .i64 (0), .int .i64 (-1), .int .i64 (10)]]], .bool true⟩
def k19 : Memo := ⟨69, [.lst 3 [[.int .i64 (1), .int .i64 (0), .int .i64 (60)], [.int .i64 (-1), .int .i64 (0), .int .i64 (-30)], [.int .i64 (0), .int .i64 (1), .int .i64 (0)], [.int .i64 (0), .int .i64 (-1), .int .i64 (0)]], g3], .int .u8 (1)⟩
def k20 : Memo := ⟨27, [.agg [.lst 3 [[.int .i64 (1), .int .i64 (0), .int .i64 (60)], [.int .i64 (-1), .int .i64 (0), .int .i64 (-30)], [.int .i64 (0), .int .i64 (1), .int .i64 (0)], [.int .i64 (0), .int .i64 (-1), .int .i64 (0)]]], .int .i64 (30), .int .i64 (0), .int .i64 (10)], .tup [.int .u8 (1), .int .i64 (0)]⟩
def k21 : Memo := ⟨52, [g0, .lst 6 [[.int .i64 (1), .int .i64 (1), .int .i64 (10), .int .i64 (20), .int .i64 (0), .int .i64 (0)], [.int .i64 (1), .int .i64 (1), .int .i64 (10), .int .i64 (20), .int .i64 (0), .int .i64 (0)], [.int .i64 (1), .int .i64 (1), .int .i64 (10), .int .i64 (20), .int .i64 (0), .int .i64 (0)]], .int .i64 (30), .int .i64 (0), .int .i64 (10)], .tup [.int .i64 (1), .int .i64 (2), .int .i64 (0)]⟩
def k22 : Memo := ⟨51, [.agg [.lst 9 [[.int .i64 (0), .int .i64 (0), .int .i64 (0), .int .i64 (0), .int .i64 (0), .int .i64 (0), .int .i64 (0), .int .i64 (0), .int .i64 (0)], [.int .i64 (30), .int .i64 (0), .int .i64 (0), .int .i64 (5), .int .i64 (5), .int .i64 (100), .int .i64 (0), .int .i64 (0), .int .i64 (0)]], .lst 5 [[.int .i64 (0), .int .i64 (1), .int .i64 (20), .int .i64 (30), .lst 4 [[.int .i64 (0), .int .i64 (0), .int .i64 (99), .int .i64 (99)]]]]]], .bool true⟩
def k23 : Memo := ⟨114, [g5, g6, .lst 8 [[.int .i64 (1), .int .i64 (0), .int .i64 (0), .int .i64 (0), .int .i64 (0), .int .i64 (0), .int .i64 (0), .int .i64 (0)]]], .int .i64 (0)⟩
def k24 : Memo := ⟨128, [g7, g8], g9⟩
def k25 : Memo := ⟨124, [g7, g8], .tup [.agg [.int .i64 (100), .int .i64 (10), .int .i64 (10), .int .i64 (10), .int .i64 (0), .int .i64 (0), .int .i64 (0), .int .i64 (0), .int .i64 (0), .int .i64 (0), .int .i64 (0), .int .i64 (0), .int .i64 (0), .int .i64 (0), .int .i64 (0), .int .i64 (50), .int .i64 (50), .int .i64 (90), .int .i64 (90), .int .i64 (10), .int .i64 (10), .int .i64 (0), .int .i64 (0), .bool false], .int .u8 (0)]⟩
theorem ok14 : PuOK prog k14.f k14.args k14.t := known (L := (.node 2948 (.one k11 .nil) (.one k13 .nil))) (mT (mO ok11 mN) (mO ok13 mN)) (by kernel_rfl)
theorem ok15 : PuOK prog k15.f k15.args k15.t := known (L := .nil) mN (by kernel_rfl)
theorem ok16 : PuOK prog k16.f k16.args k16.t := known (L := (.node 2948 (.one k11 .nil) (.one k15 .nil))) (mT (mO ok11 mN) (mO ok15 mN)) (by kernel_rfl)
theorem ok17 : PuOK prog k17.f k17.args k17.t := known (L := .nil) mN (by kernel_rfl)
theorem ok18 : PuOK prog k18.f k18.args k18.t := known (L := .nil) mN (by kernel_rfl)
theorem ok19 : PuOK prog k19.f k19.args k19.t := known (L := (.one k18 .nil)) (mO ok18 mN) (by kernel_rfl)
theorem ok20 : PuOK prog k20.f k20.args k20.t := known (L := (.node 2948 (.one k17 .nil) (.one k19 .nil))) (mT (mO ok17 mN) (mO ok19 mN)) (by kernel_rfl)
theorem ok21 : PuOK prog k21.f k21.args k21.t := known (L := (.node 24258 (.one k2 (.one k8 (.one k14 (.one k20 .nil)))) (.one k4 (.one k10 (.one k16 .nil))))) (mT (mO ok2 (mO ok8 (mO ok14 (mO ok20 mN)))) (mO ok4 (mO ok10 (mO ok16 mN)))) (by kernel_rfl)
theorem ok22 : PuOK prog k22.f k22.args k22.t := known (L := .nil) mN (by kernel_rfl)
theorem ok23 : PuOK prog k23.f k23.args k23.t := known (L := .nil) mN (by kernel_rfl)
theorem ok24 : PuOK prog k24.f k24.args k24.t := known (L := .nil) mN (by kernel_rfl)
theorem ok25 : PuOK prog k25.f k25.args k25.t := known (L := (.one k24 .nil)) (mO ok24 mN) (by kernel_rfl)
end Go.V
