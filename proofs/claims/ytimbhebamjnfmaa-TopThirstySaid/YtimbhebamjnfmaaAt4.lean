/- Calls, evaluated. -/
import Derived.Test.YtimbhebamjnfmaaAt0
import Derived.Test.YtimbhebamjnfmaaAt1
import Derived.Test.YtimbhebamjnfmaaAt3
set_option linter.unusedVariables false
set_option maxRecDepth 100000
namespace Go.V
open Go.Proofs.Try (prog)
def k38 : Memo := ⟨192, [.agg [.int .i64 (100), .int .i64 (10), .int .i64 (10), .int .i64 (10), .int .i64 (0), .int .i64 (0), .int .i64 (0), .int .i64 (0), .int .i64 (0), .int .i64 (0), .int .i64 (0), .int .i64 (0), .int .i64 (0), .int .i64 (0), .int .i64 (0), .int .i64 (50), .int .i64 (50), .int .i64 (30), .int .i64 (30), .int .i64 (10), .int .i64 (10), .int .i64 (0), .int .i64 (0), .bool false], g8], g9⟩
def k39 : Memo := ⟨176, [.agg [.int .i64 (100), .int .i64 (10), .int .i64 (10), .int .i64 (10), .int .i64 (0), .int .i64 (0), .int .i64 (0), .int .i64 (0), .int .i64 (0), .int .i64 (0), .int .i64 (0), .int .i64 (0), .int .i64 (0), .int .i64 (0), .int .i64 (0), .int .i64 (50), .int .i64 (50), .int .i64 (30), .int .i64 (30), .int .i64 (10), .int .i64 (10), .int .i64 (0), .int .i64 (0), .bool false], g8], .tup [.agg [.int .i64 (100), .int .i64 (10), .int .i64 (10), .int .i64 (10), .int .i64 (0), .int .i64 (0), .int .i64 (0), .int .i64 (0), .int .i64 (0), .int .i64 (0), .int .i64 (0), .int .i64 (0), .int .i64 (0), .int .i64 (0), .int .i64 (0), .int .i64 (50), .int .i64 (50), .int .i64 (20), .int .i64 (20), .int .i64 (10), .int .i64 (10), .int .i64 (0), .int .i64 (0), .bool false], .int .u8 (0)]⟩
def k40 : Memo := ⟨192, [.agg [.int .i64 (100), .int .i64 (10), .int .i64 (10), .int .i64 (10), .int .i64 (0), .int .i64 (0), .int .i64 (0), .int .i64 (0), .int .i64 (0), .int .i64 (0), .int .i64 (0), .int .i64 (0), .int .i64 (0), .int .i64 (0), .int .i64 (0), .int .i64 (50), .int .i64 (50), .int .i64 (20), .int .i64 (20), .int .i64 (10), .int .i64 (10), .int .i64 (0), .int .i64 (0), .bool false], g8], g9⟩
def k41 : Memo := ⟨176, [.agg [.int .i64 (100), .int .i64 (10), .int .i64 (10), .int .i64 (10), .int .i64 (0), .int .i64 (0), .int .i64 (0), .int .i64 (0), .int .i64 (0), .int .i64 (0), .int .i64 (0), .int .i64 (0), .int .i64 (0), .int .i64 (0), .int .i64 (0), .int .i64 (50), .int .i64 (50), .int .i64 (20), .int .i64 (20), .int .i64 (10), .int .i64 (10), .int .i64 (0), .int .i64 (0), .bool false], g8], .tup [.agg [.int .i64 (100), .int .i64 (10), .int .i64 (10), .int .i64 (10), .int .i64 (0), .int .i64 (0), .int .i64 (0), .int .i64 (0), .int .i64 (0), .int .i64 (0), .int .i64 (0), .int .i64 (0), .int .i64 (0), .int .i64 (0), .int .i64 (0), .int .i64 (50), .int .i64 (50), .int .i64 (10), .int .i64 (10), .int .i64 (10), .int .i64 (10), .int .i64 (0), .int .i64 (0), .bool false], .int .u8 (0)]⟩
def k42 : Memo := ⟨192, [.agg [.int .i64 (100), .int .i64 (10), .int .i64 (10), .int .i64 (10), .int .i64 (0), .int .i64 (0), .int .i64 (0), .int .i64 (0), .int .i64 (0), .int .i64 (0), .int .i64 (0), .int .i64 (0), .int .i64 (0), .int .i64 (0), .int .i64 (0), .int .i64 (50), .int .i64 (50), .int .i64 (10), .int .i64 (10), .int .i64 (10), .int .i64 (10), .int .i64 (0), .int .i64 (0), .bool false], g8], g9⟩
def k43 : Memo := ⟨176, [.agg [.int .i64 (100), .int .i64 (10), .int .i64 (10), .int .i64 (10), .int .i64 (0), .int .i64 (0), .int .i64 (0), .int .i64 (0), .int .i64 (0), .int .i64 (0), .int .i64 (0), .int .i64 (0), .int .i64 (0), .int .i64 (0), .int .i64 (0), .int .i64 (50), .int .i64 (50), .int .i64 (10), .int .i64 (10), .int .i64 (10), .int .i64 (10), .int .i64 (0), .int .i64 (0), .bool false], g8], .tup [.agg [.int .i64 (100), .int .i64 (10), .int .i64 (10), .int .i64 (10), .int .i64 (0), .int .i64 (0), .int .i64 (0), .int .i64 (0), .int .i64 (0), .int .i64 (0), .int .i64 (0), .int .i64 (0), .int .i64 (0), .int .i64 (0), .int .i64 (0), .int .i64 (50), .int .i64 (50), .int .i64 (0), .int .i64 (0), .int .i64 (10), .int .i64 (10), .int .i64 (0), .int .i64 (0), .bool false], .int .u8 (0)]⟩
def k44 : Memo := ⟨192, [.agg [.int .i64 (100), .int .i64 (10), .int .i64 (10), .int .i64 (10), .int .i64 (0), .int .i64 (0), .int .i64 (0), .int .i64 (0), .int .i64 (0), .int .i64 (0), .int .i64 (0), .int .i64 (0), .int .i64 (0), .int .i64 (0), .int .i64 (0), .int .i64 (50), .int .i64 (50), .int .i64 (0), .int .i64 (0), .int .i64 (10), .int .i64 (10), .int .i64 (0), .int .i64 (0), .bool false], g8], g9⟩
def k45 : Memo := ⟨39, [g5, g6, g8], .tup [.agg [.int .i64 (10), .int .i64 (10)], .int .i64 (0)]⟩
def k46 : Memo := ⟨123, [g5, g6, .lst 8 [[.int .i64 (0), .int .i64 (0), .int .i64 (0), .int .i64 (0), .int .i64 (0), .int .i64 (0), .int .i64 (0), .int .i64 (0)], [.int .i64 (0), .int .i64 (0), .int .i64 (0), .int .i64 (0), .int .i64 (0), .int .i64 (0), .int .i64 (0), .int .i64 (0)], [.int .i64 (0), .int .i64 (0), .int .i64 (0), .int .i64 (0), .int .i64 (0), .int .i64 (0), .int .i64 (0), .int .i64 (0)]]], .int .i64 (0)⟩
def k47 : Memo := ⟨192, [g7, g12], g9⟩
def k48 : Memo := ⟨176, [g7, g12], .tup [.agg [.int .i64 (100), .int .i64 (10), .int .i64 (10), .int .i64 (10), .int .i64 (0), .int .i64 (0), .int .i64 (0), .int .i64 (0), .int .i64 (0), .int .i64 (0), .int .i64 (0), .int .i64 (0), .int .i64 (0), .int .i64 (0), .int .i64 (0), .int .i64 (50), .int .i64 (50), .int .i64 (90), .int .i64 (90), .int .i64 (10), .int .i64 (10), .int .i64 (0), .int .i64 (0), .bool false], .int .u8 (0)]⟩
def k49 : Memo := ⟨192, [g10, g12], g9⟩
def k50 : Memo := ⟨176, [g10, g12], .tup [.agg [.int .i64 (100), .int .i64 (10), .int .i64 (10), .int .i64 (10), .int .i64 (0), .int .i64 (0), .int .i64 (0), .int .i64 (0), .int .i64 (0), .int .i64 (0), .int .i64 (0), .int .i64 (0), .int .i64 (0), .int .i64 (0), .int .i64 (0), .int .i64 (50), .int .i64 (50), .int .i64 (80), .int .i64 (80), .int .i64 (10), .int .i64 (10), .int .i64 (0), .int .i64 (0), .bool false], .int .u8 (0)]⟩
def k51 : Memo := ⟨192, [g11, g12], g9⟩
def k52 : Memo := ⟨176, [g11, g12], .tup [.agg [.int .i64 (100), .int .i64 (10), .int .i64 (10), .int .i64 (10), .int .i64 (0), .int .i64 (0), .int .i64 (0), .int .i64 (0), .int .i64 (0), .int .i64 (0), .int .i64 (0), .int .i64 (0), .int .i64 (0), .int .i64 (0), .int .i64 (0), .int .i64 (50), .int .i64 (50), .int .i64 (70), .int .i64 (70), .int .i64 (10), .int .i64 (10), .int .i64 (0), .int .i64 (0), .bool false], .int .u8 (0)]⟩
def k53 : Memo := ⟨114, [], .bool true⟩
def k54 : Memo := ⟨31, [], .bool true⟩
theorem ok38 : PuOK prog k38.f k38.args k38.t := known (L := .nil) mN (by kernel_rfl)
theorem ok39 : PuOK prog k39.f k39.args k39.t := known (L := (.one k38 .nil)) (mO ok38 mN) (by kernel_rfl)
theorem ok40 : PuOK prog k40.f k40.args k40.t := known (L := .nil) mN (by kernel_rfl)
theorem ok41 : PuOK prog k41.f k41.args k41.t := known (L := (.one k40 .nil)) (mO ok40 mN) (by kernel_rfl)
theorem ok42 : PuOK prog k42.f k42.args k42.t := known (L := .nil) mN (by kernel_rfl)
theorem ok43 : PuOK prog k43.f k43.args k43.t := known (L := (.one k42 .nil)) (mO ok42 mN) (by kernel_rfl)
theorem ok44 : PuOK prog k44.f k44.args k44.t := known (L := .nil) mN (by kernel_rfl)
theorem ok45 : PuOK prog k45.f k45.args k45.t := known (L := (.node 38190 (.node 36443 (.one k23 .nil) (.one k25 (.one k27 (.one k29 (.one k31 (.one k33 (.one k35 (.one k37 (.one k39 (.one k41 (.one k43 .nil))))))))))) (.one k44 .nil))) (mT (mT (mO ok23 mN) (mO ok25 (mO ok27 (mO ok29 (mO ok31 (mO ok33 (mO ok35 (mO ok37 (mO ok39 (mO ok41 (mO ok43 mN))))))))))) (mO ok44 mN)) (by kernel_rfl)
theorem ok46 : PuOK prog k46.f k46.args k46.t := known (L := .nil) mN (by kernel_rfl)
theorem ok47 : PuOK prog k47.f k47.args k47.t := known (L := .nil) mN (by kernel_rfl)
theorem ok48 : PuOK prog k48.f k48.args k48.t := known (L := (.one k47 .nil)) (mO ok47 mN) (by kernel_rfl)
theorem ok49 : PuOK prog k49.f k49.args k49.t := known (L := .nil) mN (by kernel_rfl)
theorem ok50 : PuOK prog k50.f k50.args k50.t := known (L := (.one k49 .nil)) (mO ok49 mN) (by kernel_rfl)
theorem ok51 : PuOK prog k51.f k51.args k51.t := known (L := .nil) mN (by kernel_rfl)
theorem ok52 : PuOK prog k52.f k52.args k52.t := known (L := (.one k51 .nil)) (mO ok51 mN) (by kernel_rfl)
theorem ok53 : PuOK prog k53.f k53.args k53.t := known (L := (.node 38190 (.node 5707 (.one k22 .nil) (.one k48 (.one k50 (.one k52 .nil)))) (.node 46992 (.one k46 .nil) (.one k45 .nil)))) (mT (mT (mO ok22 mN) (mO ok48 (mO ok50 (mO ok52 mN)))) (mT (mO ok46 mN) (mO ok45 mN))) (by kernel_rfl)
theorem ok54 : PuOK prog k54.f k54.args k54.t := known (L := (.node 114 (.one k53 .nil) (.node 3496 (.one k21 .nil) (.one k4 .nil)))) (mT (mO ok53 mN) (mT (mO ok21 mN) (mO ok4 mN))) (by kernel_rfl)
end Go.V
