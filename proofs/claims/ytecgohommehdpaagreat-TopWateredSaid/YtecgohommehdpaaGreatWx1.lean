/- Calls, evaluated. -/
import Derived.Test.YtecgohommehdpaaGreatWx0
set_option linter.unusedVariables false
set_option maxRecDepth 100000
namespace Go.V
open Go.Proofs.Tryz (prog)
def k0 : Memo := ⟨58, [g0], .int .i64 (0)⟩
def k1 : Memo := ⟨20, [g0, .lst 7 [[.int .i64 (600), .int .i64 (700), .int .i64 (5), .int .i64 (5), .int .i64 (0), .int .i64 (0), .bool false]]], .tup [.agg [.int .i64 (300), .int .i64 (400)], .int .i64 (0)]⟩
def k2 : Memo := ⟨62, [.agg [.int .i64 (1000), .int .i64 (1000), .int .i64 (0), .int .i64 (0), .int .i64 (0), .int .i64 (0), .int .i64 (0), .int .i64 (0), .int .i64 (0), .int .i64 (0), .int .i64 (0), .int .i64 (0), .int .i64 (0), .int .i64 (0), .int .i64 (0), .int .i64 (0), .int .i64 (0), .int .i64 (600), .int .i64 (700), .int .i64 (5), .int .i64 (5), .int .i64 (0), .int .i64 (0), .bool false], g1], .agg [.int .i64 (0), .int .i64 (0), .int .i64 (0), .int .i64 (0), .int .i64 (0), .int .i64 (0)]⟩
def k3 : Memo := ⟨63, [.agg [.int .i64 (1000), .int .i64 (1000), .int .i64 (0), .int .i64 (0), .int .i64 (0), .int .i64 (0), .int .i64 (0), .int .i64 (0), .int .i64 (0), .int .i64 (0), .int .i64 (0), .int .i64 (0), .int .i64 (0), .int .i64 (0), .int .i64 (0), .int .i64 (0), .int .i64 (0), .int .i64 (600), .int .i64 (700), .int .i64 (5), .int .i64 (5), .int .i64 (0), .int .i64 (0), .bool false], g1], .tup [.agg [.int .i64 (1000), .int .i64 (1000), .int .i64 (0), .int .i64 (0), .int .i64 (0), .int .i64 (0), .int .i64 (0), .int .i64 (0), .int .i64 (0), .int .i64 (0), .int .i64 (0), .int .i64 (0), .int .i64 (0), .int .i64 (0), .int .i64 (0), .int .i64 (0), .int .i64 (0), .int .i64 (1000), .int .i64 (1000), .int .i64 (5), .int .i64 (5), .int .i64 (0), .int .i64 (0), .bool false], .int .u8 (0)]⟩
def k4 : Memo := ⟨23, [g0, .agg [.int .i64 (600), .int .i64 (700), .int .i64 (5), .int .i64 (5), .int .i64 (0), .int .i64 (0), .bool false], g1], .tup [.agg [.int .i64 (1000), .int .i64 (1000), .int .i64 (5), .int .i64 (5), .int .i64 (0), .int .i64 (0), .bool false], .int .u8 (0), .int .i64 (0)]⟩
def k5 : Memo := ⟨95, [.agg [.lst 9 [[.int .i64 (0), .int .i64 (0), .int .i64 (0), .int .i64 (10), .int .i64 (20), .int .i64 (1000), .int .i64 (500), .int .i64 (900), .int .i64 (0)]], .nilS]], .bool true⟩
theorem ok0 : PuOK prog k0.f k0.args k0.t := known (L := .nil) mN (by kernel_rfl)
theorem ok1 : PuOK prog k1.f k1.args k1.t := known (L := (.one k0 .nil)) (mO ok0 mN) (by kernel_rfl)
theorem ok2 : PuOK prog k2.f k2.args k2.t := known (L := .nil) mN (by kernel_rfl)
theorem ok3 : PuOK prog k3.f k3.args k3.t := known (L := (.one k2 .nil)) (mO ok2 mN) (by kernel_rfl)
theorem ok4 : PuOK prog k4.f k4.args k4.t := known (L := (.node 1801 (.one k0 .nil) (.one k3 .nil))) (mT (mO ok0 mN) (mO ok3 mN)) (by kernel_rfl)
theorem ok5 : PuOK prog k5.f k5.args k5.t := known (L := .nil) mN (by kernel_rfl)
end Go.V
