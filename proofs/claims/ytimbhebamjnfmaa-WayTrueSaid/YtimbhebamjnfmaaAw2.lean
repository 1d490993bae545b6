/- Calls, evaluated. -/
import Derived.Test.YtimbhebamjnfmaaAw0
import Derived.Test.YtimbhebamjnfmaaNz
import Derived.Test.YtimbhebamjnfmaaAw1
set_option linter.unusedVariables false
set_option maxRecDepth 100000
namespace Go.V
open Go.Proofs.Try (prog)
def k8 : Memo := ⟨178, [.mapL [.int .i64 (1), .int .i64 (2)] [.int .i64 (12), .int .i64 (18)]], .int .i64 (1)⟩
def k9 : Memo := ⟨178, [.mapL [.int .i64 (2)] [.int .i64 (18)]], .int .i64 (2)⟩
def k10 : Memo := ⟨130, [g1, .int .i64 (1)], .fresh 1 [[.int .i64 (6)], [.int .i64 (12)], [.int .i64 (18)]]⟩
def k11 : Memo := ⟨78, [g1, .int .i64 (2)], .tup [.agg [.int .i64 (2), .int .i64 (2), .int .i64 (6), .int .i64 (6), .int .i64 (13), .int .i64 (18)], .bool true]⟩
def k12 : Memo := ⟨65, [g0, .int .i64 (0), .int .i64 (2), .int .i64 (6), .agg [.int .i64 (20000), .int .i64 (30000)]], .tup [.fresh 1 [[.int .i64 (2)]], .int .i64 (0)]⟩
theorem ok8 : PuOK prog k8.f k8.args k8.t := Go.Proofs.Ytimbhebamjnfmaa.near_pu (by kernel_rfl)
theorem ok9 : PuOK prog k9.f k9.args k9.t := Go.Proofs.Ytimbhebamjnfmaa.near_pu (by kernel_rfl)
theorem ok10 : PuOK prog k10.f k10.args k10.t := known (L := (.one k4 (.one k8 (.one k9 .nil)))) (mO ok4 (mO ok8 (mO ok9 mN))) (by kernel_rfl)
theorem ok11 : PuOK prog k11.f k11.args k11.t := known (L := .nil) mN (by kernel_rfl)
theorem ok12 : PuOK prog k12.f k12.args k12.t := known (L := (.node 9530 (.node 5707 (.one k0 .nil) (.one k1 .nil)) (.node 9531 (.one k2 .nil) (.node 9532 (.one k11 .nil) (.one k10 .nil))))) (mT (mT (mO ok0 mN) (mO ok1 mN)) (mT (mO ok2 mN) (mT (mO ok11 mN) (mO ok10 mN)))) (by kernel_rfl)
end Go.V
