/- Calls, evaluated. -/
import Derived.Test.YtppfkmmlojpcfaaGreatLx0
set_option linter.unusedVariables false
set_option maxRecDepth 100000
namespace Go.V
open Go.Proofs.Tryz (prog)
def k0 : Memo := ⟨229, [g0], .bool true⟩
def k1 : Memo := ⟨81, [g0], .bool true⟩
def k2 : Memo := ⟨230, [g0, .int .i64 (40000)], .agg [.int .i64 (0), .int .i64 (4000)]⟩
def k3 : Memo := ⟨230, [g0, .int .i64 (41000)], .agg [.int .i64 (0), .int .i64 (4100)]⟩
def k4 : Memo := ⟨82, [g0], .tup [.agg [.int .i64 (36000), .int .i64 (41000)], .agg [.int .i64 (0), .int .i64 (4100)]]⟩
def k5 : Memo := ⟨21, [g0], .tup [.agg [.int .i64 (36000), .int .i64 (41000)], .agg [.int .i64 (0), .int .i64 (4100)], .int .u8 (1), .int .i64 (0)]⟩
def k6 : Memo := ⟨233, [g1], .bool true⟩
def k7 : Memo := ⟨81, [g1], .bool true⟩
def k8 : Memo := ⟨82, [g1], .tup [.agg [.int .i64 (0), .int .i64 (2500)], .agg [.int .i64 (27500), .int .i64 (30000)]]⟩
def k9 : Memo := ⟨21, [g1], .tup [.agg [.int .i64 (0), .int .i64 (2500)], .agg [.int .i64 (27500), .int .i64 (30000)], .int .u8 (0), .int .i64 (0)]⟩
def k10 : Memo := ⟨25, [], .fresh 11 [[.int .u8 (2), .int .i64 (10), .int .i64 (10), .int .i64 (0), .int .i64 (0), .int .i64 (0), .int .i64 (0), .int .i64 (0), .int .i64 (0), .int .i64 (0), .int .i64 (0)], [.int .u8 (2), .int .i64 (20), .int .i64 (20), .int .i64 (0), .int .i64 (0), .int .i64 (0), .int .i64 (0), .int .i64 (0), .int .i64 (0), .int .i64 (0), .int .i64 (0)], [.int .u8 (2), .int .i64 (30), .int .i64 (30), .int .i64 (0), .int .i64 (0), .int .i64 (0), .int .i64 (0), .int .i64 (0), .int .i64 (0), .int .i64 (0), .int .i64 (0)], [.int .u8 (2), .int .i64 (45), .int .i64 (45), .int .i64 (0), .int .i64 (0), .int .i64 (0), .int .i64 (0), .int .i64 (0), .int .i64 (0), .int .i64 (0), .int .i64 (0)]]⟩
def k11 : Memo := ⟨81, [.agg [.int .u8 (2), .int .i64 (10), .int .i64 (10), .int .i64 (0), .int .i64 (0), .int .i64 (0), .int .i64 (0), .int .i64 (0), .int .i64 (0), .int .i64 (0), .int .i64 (0)]], .bool true⟩
def k12 : Memo := ⟨81, [.agg [.int .u8 (2), .int .i64 (20), .int .i64 (20), .int .i64 (0), .int .i64 (0), .int .i64 (0), .int .i64 (0), .int .i64 (0), .int .i64 (0), .int .i64 (0), .int .i64 (0)]], .bool true⟩
def k13 : Memo := ⟨81, [.agg [.int .u8 (2), .int .i64 (30), .int .i64 (30), .int .i64 (0), .int .i64 (0), .int .i64 (0), .int .i64 (0), .int .i64 (0), .int .i64 (0), .int .i64 (0), .int .i64 (0)]], .bool true⟩
def k14 : Memo := ⟨81, [.agg [.int .u8 (2), .int .i64 (45), .int .i64 (45), .int .i64 (0), .int .i64 (0), .int .i64 (0), .int .i64 (0), .int .i64 (0), .int .i64 (0), .int .i64 (0), .int .i64 (0)]], .bool true⟩
def k15 : Memo := ⟨105, [g2, .fn 81 [] []], .bool true⟩
def k16 : Memo := ⟨175, [.int .i64 (4), .lst 3 [[.lst 1 [[.int .i64 (0)], [.int .i64 (1)]], .lst 1 [[.int .i64 (3)]], .nilS]]], .bool true⟩
def k17 : Memo := ⟨82, [.agg [.int .u8 (2), .int .i64 (10), .int .i64 (10), .int .i64 (0), .int .i64 (0), .int .i64 (0), .int .i64 (0), .int .i64 (0), .int .i64 (0), .int .i64 (0), .int .i64 (0)]], .tup [.agg [.int .i64 (10), .int .i64 (10)], .agg [.int .i64 (0), .int .i64 (0)]]⟩
def k18 : Memo := ⟨82, [.agg [.int .u8 (2), .int .i64 (20), .int .i64 (20), .int .i64 (0), .int .i64 (0), .int .i64 (0), .int .i64 (0), .int .i64 (0), .int .i64 (0), .int .i64 (0), .int .i64 (0)]], .tup [.agg [.int .i64 (20), .int .i64 (20)], .agg [.int .i64 (0), .int .i64 (0)]]⟩
def k19 : Memo := ⟨82, [.agg [.int .u8 (2), .int .i64 (30), .int .i64 (30), .int .i64 (0), .int .i64 (0), .int .i64 (0), .int .i64 (0), .int .i64 (0), .int .i64 (0), .int .i64 (0), .int .i64 (0)]], .tup [.agg [.int .i64 (30), .int .i64 (30)], .agg [.int .i64 (0), .int .i64 (0)]]⟩
def k20 : Memo := ⟨82, [.agg [.int .u8 (2), .int .i64 (45), .int .i64 (45), .int .i64 (0), .int .i64 (0), .int .i64 (0), .int .i64 (0), .int .i64 (0), .int .i64 (0), .int .i64 (0), .int .i64 (0)]], .tup [.agg [.int .i64 (45), .int .i64 (45)], .agg [.int .i64 (0), .int .i64 (0)]]⟩
def k21 : Memo := ⟨113, [g2], .fresh 2 [[.int .i64 (10), .int .i64 (10)], [.int .i64 (20), .int .i64 (20)], [.int .i64 (30), .int .i64 (30)], [.int .i64 (45), .int .i64 (45)]]⟩
def k22 : Memo := ⟨96, [.lst 2 [[.int .i64 (0), .int .i64 (0)], [.int .i64 (10), .int .i64 (10)]]], .agg [.int .i64 (10), .int .i64 (10)]⟩
def k23 : Memo := ⟨96, [.lst 2 [[.int .i64 (10), .int .i64 (10)], [.int .i64 (20), .int .i64 (20)]]], .agg [.int .i64 (30), .int .i64 (30)]⟩
def k24 : Memo := ⟨96, [.lst 2 [[.int .i64 (0), .int .i64 (0)], [.int .i64 (45), .int .i64 (45)]]], .agg [.int .i64 (45), .int .i64 (45)]⟩
def k25 : Memo := ⟨95, [g3], .agg [.int .i64 (30), .int .i64 (30), .int .i64 (45), .int .i64 (45), .int .i64 (0), .int .i64 (0)]⟩
def k26 : Memo := ⟨89, [g3, .int .i64 (15)], .int .u8 (2)⟩
def k27 : Memo := ⟨24, [g2, .agg [.lst 1 [[.int .i64 (0)], [.int .i64 (1)]], .lst 1 [[.int .i64 (3)]], .nilS], .int .i64 (15)], .tup [.int .u8 (2), .int .i64 (0)]⟩
def k28 : Memo := ⟨175, [.int .i64 (4), .lst 3 [[.lst 1 [[.int .i64 (0)], [.int .i64 (1)], [.int .i64 (2)], [.int .i64 (3)]], .nilS, .nilS]]], .bool true⟩
def k29 : Memo := ⟨169, [.lst 1 [[.lst 1 [[.int .i64 (0)], [.int .i64 (1)], [.int .i64 (2)], [.int .i64 (3)]]], [.nilS]]], .fresh 1 [[.int .i64 (0)], [.int .i64 (1)], [.int .i64 (2)], [.int .i64 (3)]]⟩
def k30 : MemoF := ⟨145, [.own 13 0 4], ⟨[some (.row 1 [[.lst 11 [[.int .u8 (2), .int .i64 (10), .int .i64 (10), .int .i64 (0), .int .i64 (0), .int .i64 (0), .int .i64 (0), .int .i64 (0), .int .i64 (0), .int .i64 (0), .int .i64 (0)], [.int .u8 (2), .int .i64 (20), .int .i64 (20), .int .i64 (0), .int .i64 (0), .int .i64 (0), .int .i64 (0), .int .i64 (0), .int .i64 (0), .int .i64 (0), .int .i64 (0)], [.int .u8 (2), .int .i64 (30), .int .i64 (30), .int .i64 (0), .int .i64 (0), .int .i64 (0), .int .i64 (0), .int .i64 (0), .int .i64 (0), .int .i64 (0), .int .i64 (0)], [.int .u8 (2), .int .i64 (45), .int .i64 (45), .int .i64 (0), .int .i64 (0), .int .i64 (0), .int .i64 (0), .int .i64 (0), .int .i64 (0), .int .i64 (0), .int .i64 (0)]]]]), some (.row 3 [[.lst 1 [[.int .i64 (0)], [.int .i64 (1)], [.int .i64 (2)], [.int .i64 (3)]], .nilS, .nilS]]), some (.row 1 [[.int .i64 (5)]]), some (.row 1 [[.int .i64 (0)]]), some (.row 3 [[.lst 1 [[.int .i64 (0)], [.int .i64 (1)], [.int .i64 (2)], [.int .i64 (3)]], .nilS, .nilS]]), some (.row 4 [[.lst 1 [[.int .i64 (0)], [.int .i64 (1)], [.int .i64 (2)], [.int .i64 (3)]], .nilS, .nilS, .own 7 0 4]]), some (.row 3 [[.lst 1 [[.int .i64 (0)], [.int .i64 (1)], [.int .i64 (2)], [.int .i64 (3)]], .nilS, .nilS]]), some (.row 2 [[.int .i64 (10), .int .i64 (10)], [.int .i64 (20), .int .i64 (20)], [.int .i64 (30), .int .i64 (30)], [.int .i64 (45), .int .i64 (45)]]), some (.row 4 [[.lst 1 [[.int .i64 (0)], [.int .i64 (1)], [.int .i64 (2)], [.int .i64 (3)]], .nilS, .nilS, .own 7 0 4]]), some (.row 4 [[.lst 1 [[.int .i64 (0)], [.int .i64 (1)], [.int .i64 (2)], [.int .i64 (3)]], .nilS, .nilS, .own 7 0 4]]), some (.row 1 [[.int .i64 (5)]]), some (.row 1 [[.nilS]]), some (.row 1 [[.lst 1 [[.int .i64 (0)], [.int .i64 (1)], [.int .i64 (2)], [.int .i64 (3)]]], [.nilS]]), some (.row 1 [[.int .i64 (0)], [.int .i64 (1)], [.int .i64 (2)], [.int .i64 (3)]])], 14⟩, .tup [], ⟨[some (.row 1 [[.lst 11 [[.int .u8 (2), .int .i64 (10), .int .i64 (10), .int .i64 (0), .int .i64 (0), .int .i64 (0), .int .i64 (0), .int .i64 (0), .int .i64 (0), .int .i64 (0), .int .i64 (0)], [.int .u8 (2), .int .i64 (20), .int .i64 (20), .int .i64 (0), .int .i64 (0), .int .i64 (0), .int .i64 (0), .int .i64 (0), .int .i64 (0), .int .i64 (0), .int .i64 (0)], [.int .u8 (2), .int .i64 (30), .int .i64 (30), .int .i64 (0), .int .i64 (0), .int .i64 (0), .int .i64 (0), .int .i64 (0), .int .i64 (0), .int .i64 (0), .int .i64 (0)], [.int .u8 (2), .int .i64 (45), .int .i64 (45), .int .i64 (0), .int .i64 (0), .int .i64 (0), .int .i64 (0), .int .i64 (0), .int .i64 (0), .int .i64 (0), .int .i64 (0)]]]]), some (.row 3 [[.lst 1 [[.int .i64 (0)], [.int .i64 (1)], [.int .i64 (2)], [.int .i64 (3)]], .nilS, .nilS]]), some (.row 1 [[.int .i64 (5)]]), some (.row 1 [[.int .i64 (0)]]), some (.row 3 [[.lst 1 [[.int .i64 (0)], [.int .i64 (1)], [.int .i64 (2)], [.int .i64 (3)]], .nilS, .nilS]]), some (.row 4 [[.lst 1 [[.int .i64 (0)], [.int .i64 (1)], [.int .i64 (2)], [.int .i64 (3)]], .nilS, .nilS, .own 7 0 4]]), some (.row 3 [[.lst 1 [[.int .i64 (0)], [.int .i64 (1)], [.int .i64 (2)], [.int .i64 (3)]], .nilS, .nilS]]), some (.row 2 [[.int .i64 (10), .int .i64 (10)], [.int .i64 (20), .int .i64 (20)], [.int .i64 (30), .int .i64 (30)], [.int .i64 (45), .int .i64 (45)]]), some (.row 4 [[.lst 1 [[.int .i64 (0)], [.int .i64 (1)], [.int .i64 (2)], [.int .i64 (3)]], .nilS, .nilS, .own 7 0 4]]), some (.row 4 [[.lst 1 [[.int .i64 (0)], [.int .i64 (1)], [.int .i64 (2)], [.int .i64 (3)]], .nilS, .nilS, .own 7 0 4]]), some (.row 1 [[.int .i64 (5)]]), some (.row 1 [[.nilS]]), some (.row 1 [[.lst 1 [[.int .i64 (0)], [.int .i64 (1)], [.int .i64 (2)], [.int .i64 (3)]]], [.nilS]]), some (.row 1 [[.int .i64 (0)], [.int .i64 (1)], [.int .i64 (2)], [.int .i64 (3)]])], 14⟩⟩
def k31 : Memo := ⟨295, [.int .u64 (0)], .int .i64 (0)⟩
def k32 : Memo := ⟨295, [.int .u64 (1)], .int .i64 (1)⟩
def k33 : Memo := ⟨295, [.int .u64 (2)], .int .i64 (1)⟩
def k34 : Memo := ⟨295, [.int .u64 (3)], .int .i64 (2)⟩
def k35 : Memo := ⟨295, [.int .u64 (4)], .int .i64 (1)⟩
def k36 : Memo := ⟨295, [.int .u64 (5)], .int .i64 (2)⟩
def k37 : Memo := ⟨295, [.int .u64 (6)], .int .i64 (2)⟩
def k38 : Memo := ⟨295, [.int .u64 (7)], .int .i64 (3)⟩
def k39 : Memo := ⟨295, [.int .u64 (8)], .int .i64 (1)⟩
def k40 : Memo := ⟨295, [.int .u64 (9)], .int .i64 (2)⟩
def k41 : Memo := ⟨295, [.int .u64 (10)], .int .i64 (2)⟩
def k42 : Memo := ⟨295, [.int .u64 (11)], .int .i64 (3)⟩
def k43 : Memo := ⟨295, [.int .u64 (12)], .int .i64 (2)⟩
def k44 : Memo := ⟨295, [.int .u64 (13)], .int .i64 (3)⟩
def k45 : Memo := ⟨295, [.int .u64 (14)], .int .i64 (3)⟩
def k46 : Memo := ⟨295, [.int .u64 (15)], .int .i64 (4)⟩
def k47 : Memo := ⟨238, [.lst 1 [[.int .i64 (0)], [.int .i64 (1)], [.int .i64 (2)], [.int .i64 (3)]], .int .i64 (15)], .nilS⟩
def k48 : MemoF := ⟨145, [.own 7 0 4], ⟨[some (.row 1 [[.int .i64 (0)]]), none, some (.row 1 [[.int .i64 (1)]]), none, some (.row 1 [[.int .i64 (2)]]), none, some (.row 1 [[.int .i64 (3)]]), some (.row 1 [[.int .i64 (0)], [.int .i64 (1)], [.int .i64 (2)], [.int .i64 (3)]])], 8⟩, .tup [], ⟨[some (.row 1 [[.int .i64 (0)]]), none, some (.row 1 [[.int .i64 (1)]]), none, some (.row 1 [[.int .i64 (2)]]), none, some (.row 1 [[.int .i64 (3)]]), some (.row 1 [[.int .i64 (0)], [.int .i64 (1)], [.int .i64 (2)], [.int .i64 (3)]])], 8⟩⟩
def k49 : Memo := ⟨181, [.lst 1 [[.int .i64 (0)], [.int .i64 (1)], [.int .i64 (2)], [.int .i64 (3)]], .nilS, .nilS], .fresh 1 [[.int .i64 (0)], [.int .i64 (1)], [.int .i64 (2)], [.int .i64 (3)]]⟩
def k50 : Memo := ⟨181, [.nilS, .nilS, .nilS], .nilS⟩
def k51 : Memo := ⟨96, [.lst 2 [[.int .i64 (30), .int .i64 (30)], [.int .i64 (30), .int .i64 (30)]]], .agg [.int .i64 (60), .int .i64 (60)]⟩
def k52 : Memo := ⟨96, [.lst 2 [[.int .i64 (60), .int .i64 (60)], [.int .i64 (45), .int .i64 (45)]]], .agg [.int .i64 (105), .int .i64 (105)]⟩
def k53 : Memo := ⟨95, [g4], .agg [.int .i64 (105), .int .i64 (105), .int .i64 (0), .int .i64 (0), .int .i64 (0), .int .i64 (0)]⟩
def k54 : Memo := ⟨89, [g4, .int .i64 (5)], .int .u8 (0)⟩
def k55 : Memo := ⟨238, [.lst 1 [[.int .i64 (0)], [.int .i64 (1)], [.int .i64 (2)], [.int .i64 (3)]], .int .i64 (7)], .fresh 1 [[.int .i64 (0)]]⟩
def k56 : Memo := ⟨239, [.lst 1 [[.int .i64 (0)]], .lst 1 [[.int .i64 (0)], [.int .i64 (1)], [.int .i64 (2)], [.int .i64 (3)]]], .fresh 1 [[.int .i64 (0)]]⟩
def k57 : Memo := ⟨181, [.lst 1 [[.int .i64 (0)], [.int .i64 (1)], [.int .i64 (2)], [.int .i64 (3)]], .lst 1 [[.int .i64 (0)]], .nilS], .fresh 1 [[.int .i64 (1)], [.int .i64 (2)], [.int .i64 (3)]]⟩
def k58 : Memo := ⟨181, [.nilS, .nilS, .lst 1 [[.int .i64 (0)]]], .fresh 1 [[.int .i64 (0)]]⟩
def k59 : Memo := ⟨96, [.lst 2 [[.int .i64 (0), .int .i64 (0)], [.int .i64 (20), .int .i64 (20)]]], .agg [.int .i64 (20), .int .i64 (20)]⟩
def k60 : Memo := ⟨96, [.lst 2 [[.int .i64 (20), .int .i64 (20)], [.int .i64 (30), .int .i64 (30)]]], .agg [.int .i64 (50), .int .i64 (50)]⟩
def k61 : Memo := ⟨96, [.lst 2 [[.int .i64 (50), .int .i64 (50)], [.int .i64 (45), .int .i64 (45)]]], .agg [.int .i64 (95), .int .i64 (95)]⟩
def k62 : Memo := ⟨95, [g5], .agg [.int .i64 (95), .int .i64 (95), .int .i64 (10), .int .i64 (10), .int .i64 (0), .int .i64 (0)]⟩
def k63 : Memo := ⟨89, [g5, .int .i64 (5)], .int .u8 (0)⟩
def k64 : Memo := ⟨238, [.lst 1 [[.int .i64 (0)], [.int .i64 (1)], [.int .i64 (2)], [.int .i64 (3)]], .int .i64 (11)], .fresh 1 [[.int .i64 (1)]]⟩
def k65 : Memo := ⟨239, [.lst 1 [[.int .i64 (1)]], .lst 1 [[.int .i64 (0)], [.int .i64 (1)], [.int .i64 (2)], [.int .i64 (3)]]], .fresh 1 [[.int .i64 (1)]]⟩
def k66 : Memo := ⟨181, [.lst 1 [[.int .i64 (0)], [.int .i64 (1)], [.int .i64 (2)], [.int .i64 (3)]], .lst 1 [[.int .i64 (1)]], .nilS], .fresh 1 [[.int .i64 (0)], [.int .i64 (2)], [.int .i64 (3)]]⟩
def k67 : Memo := ⟨181, [.nilS, .nilS, .lst 1 [[.int .i64 (1)]]], .fresh 1 [[.int .i64 (1)]]⟩
def k68 : Memo := ⟨96, [.lst 2 [[.int .i64 (10), .int .i64 (10)], [.int .i64 (30), .int .i64 (30)]]], .agg [.int .i64 (40), .int .i64 (40)]⟩
def k69 : Memo := ⟨96, [.lst 2 [[.int .i64 (40), .int .i64 (40)], [.int .i64 (45), .int .i64 (45)]]], .agg [.int .i64 (85), .int .i64 (85)]⟩
def k70 : Memo := ⟨95, [g6], .agg [.int .i64 (85), .int .i64 (85), .int .i64 (20), .int .i64 (20), .int .i64 (0), .int .i64 (0)]⟩
def k71 : Memo := ⟨89, [g6, .int .i64 (5)], .int .u8 (0)⟩
def k72 : Memo := ⟨238, [.lst 1 [[.int .i64 (0)], [.int .i64 (1)], [.int .i64 (2)], [.int .i64 (3)]], .int .i64 (13)], .fresh 1 [[.int .i64 (2)]]⟩
def k73 : Memo := ⟨158, [.lst 1 [[.int .i64 (0)], [.int .i64 (1)], [.int .i64 (2)], [.int .i64 (3)]], .int .i64 (2)], .bool true⟩
def k74 : Memo := ⟨181, [.lst 1 [[.int .i64 (0)], [.int .i64 (1)], [.int .i64 (2)], [.int .i64 (3)]], .lst 1 [[.int .i64 (2)]], .nilS], .fresh 1 [[.int .i64 (0)], [.int .i64 (1)], [.int .i64 (3)]]⟩
def k75 : Memo := ⟨181, [.nilS, .nilS, .lst 1 [[.int .i64 (2)]]], .fresh 1 [[.int .i64 (2)]]⟩
def k76 : Memo := ⟨96, [.lst 2 [[.int .i64 (30), .int .i64 (30)], [.int .i64 (45), .int .i64 (45)]]], .agg [.int .i64 (75), .int .i64 (75)]⟩
def k77 : Memo := ⟨96, [.lst 2 [[.int .i64 (0), .int .i64 (0)], [.int .i64 (30), .int .i64 (30)]]], .agg [.int .i64 (30), .int .i64 (30)]⟩
def k78 : Memo := ⟨95, [g7], .agg [.int .i64 (75), .int .i64 (75), .int .i64 (30), .int .i64 (30), .int .i64 (0), .int .i64 (0)]⟩
def k79 : Memo := ⟨89, [g7, .int .i64 (5)], .int .u8 (0)⟩
def k80 : Memo := ⟨238, [.lst 1 [[.int .i64 (0)], [.int .i64 (1)], [.int .i64 (2)], [.int .i64 (3)]], .int .i64 (14)], .fresh 1 [[.int .i64 (3)]]⟩
def k81 : Memo := ⟨65, [.lst 1 [[.int .i64 (0)], [.int .i64 (1)], [.int .i64 (2)], [.int .i64 (3)]], .int .i64 (3)], .int .i64 (3)⟩
def k82 : Memo := ⟨181, [.lst 1 [[.int .i64 (0)], [.int .i64 (1)], [.int .i64 (2)], [.int .i64 (3)]], .lst 1 [[.int .i64 (3)]], .nilS], .fresh 1 [[.int .i64 (0)], [.int .i64 (1)], [.int .i64 (2)]]⟩
def k83 : Memo := ⟨181, [.nilS, .nilS, .lst 1 [[.int .i64 (3)]]], .fresh 1 [[.int .i64 (3)]]⟩
def k84 : Memo := ⟨95, [g8], .agg [.int .i64 (60), .int .i64 (60), .int .i64 (45), .int .i64 (45), .int .i64 (0), .int .i64 (0)]⟩
def k85 : Memo := ⟨89, [g8, .int .i64 (5)], .int .u8 (0)⟩
def k86 : Memo := ⟨238, [.lst 1 [[.int .i64 (0)], [.int .i64 (1)], [.int .i64 (2)], [.int .i64 (3)]], .int .i64 (3)], .fresh 1 [[.int .i64 (0)], [.int .i64 (1)]]⟩
def k87 : Memo := ⟨239, [.lst 1 [[.int .i64 (0)], [.int .i64 (1)]], .lst 1 [[.int .i64 (0)], [.int .i64 (1)], [.int .i64 (2)], [.int .i64 (3)]]], .fresh 1 [[.int .i64 (0)], [.int .i64 (1)]]⟩
def k88 : Memo := ⟨239, [.lst 1 [[.int .i64 (0)], [.int .i64 (1)]], .nilS], .nilS⟩
def k89 : Memo := ⟨181, [.lst 1 [[.int .i64 (0)], [.int .i64 (1)], [.int .i64 (2)], [.int .i64 (3)]], .lst 1 [[.int .i64 (0)], [.int .i64 (1)]], .nilS], .fresh 1 [[.int .i64 (2)], [.int .i64 (3)]]⟩
def k90 : Memo := ⟨181, [.nilS, .nilS, .lst 1 [[.int .i64 (0)], [.int .i64 (1)]]], .fresh 1 [[.int .i64 (0)], [.int .i64 (1)]]⟩
def k91 : Memo := ⟨95, [g9], .agg [.int .i64 (75), .int .i64 (75), .int .i64 (30), .int .i64 (30), .int .i64 (0), .int .i64 (0)]⟩
def k92 : Memo := ⟨89, [g9, .int .i64 (5)], .int .u8 (0)⟩
def k93 : Memo := ⟨238, [.lst 1 [[.int .i64 (0)], [.int .i64 (1)], [.int .i64 (2)], [.int .i64 (3)]], .int .i64 (5)], .fresh 1 [[.int .i64 (0)], [.int .i64 (2)]]⟩
def k94 : Memo := ⟨239, [.lst 1 [[.int .i64 (0)], [.int .i64 (2)]], .lst 1 [[.int .i64 (0)], [.int .i64 (1)], [.int .i64 (2)], [.int .i64 (3)]]], .fresh 1 [[.int .i64 (0)], [.int .i64 (2)]]⟩
def k95 : Memo := ⟨239, [.lst 1 [[.int .i64 (0)], [.int .i64 (2)]], .nilS], .nilS⟩
theorem ok0 : PuOK prog k0.f k0.args k0.t := known (L := .nil) mN (by kernel_rfl)
theorem ok1 : PuOK prog k1.f k1.args k1.t := known (L := (.one k0 .nil)) (mO ok0 mN) (by kernel_rfl)
theorem ok2 : PuOK prog k2.f k2.args k2.t := known (L := .nil) mN (by kernel_rfl)
theorem ok3 : PuOK prog k3.f k3.args k3.t := known (L := .nil) mN (by kernel_rfl)
theorem ok4 : PuOK prog k4.f k4.args k4.t := known (L := (.node 39 (.one k3 .nil) (.one k2 .nil))) (mT (mO ok3 mN) (mO ok2 mN)) (by kernel_rfl)
theorem ok5 : PuOK prog k5.f k5.args k5.t := known (L := (.node 2514 (.one k1 .nil) (.one k4 .nil))) (mT (mO ok1 mN) (mO ok4 mN)) (by kernel_rfl)
theorem ok6 : PuOK prog k6.f k6.args k6.t := known (L := .nil) mN (by kernel_rfl)
theorem ok7 : PuOK prog k7.f k7.args k7.t := known (L := (.one k6 .nil)) (mO ok6 mN) (by kernel_rfl)
theorem ok8 : PuOK prog k8.f k8.args k8.t := known (L := .nil) mN (by kernel_rfl)
theorem ok9 : PuOK prog k9.f k9.args k9.t := known (L := (.node 2514 (.one k7 .nil) (.one k8 .nil))) (mT (mO ok7 mN) (mO ok8 mN)) (by kernel_rfl)
theorem ok10 : PuOK prog k10.f k10.args k10.t := known (L := .nil) mN (by kernel_rfl)
theorem ok11 : PuOK prog k11.f k11.args k11.t := known (L := .nil) mN (by kernel_rfl)
theorem ok12 : PuOK prog k12.f k12.args k12.t := known (L := .nil) mN (by kernel_rfl)
theorem ok13 : PuOK prog k13.f k13.args k13.t := known (L := .nil) mN (by kernel_rfl)
theorem ok14 : PuOK prog k14.f k14.args k14.t := known (L := .nil) mN (by kernel_rfl)
theorem ok15 : PuOK prog k15.f k15.args k15.t := known (L := (.one k11 (.one k12 (.one k13 (.one k14 .nil))))) (mO ok11 (mO ok12 (mO ok13 (mO ok14 mN)))) (by kernel_rfl)
theorem ok16 : PuOK prog k16.f k16.args k16.t := known (L := .nil) mN (by kernel_rfl)
theorem ok17 : PuOK prog k17.f k17.args k17.t := known (L := .nil) mN (by kernel_rfl)
theorem ok18 : PuOK prog k18.f k18.args k18.t := known (L := .nil) mN (by kernel_rfl)
theorem ok19 : PuOK prog k19.f k19.args k19.t := known (L := .nil) mN (by kernel_rfl)
theorem ok20 : PuOK prog k20.f k20.args k20.t := known (L := .nil) mN (by kernel_rfl)
theorem ok21 : PuOK prog k21.f k21.args k21.t := known (L := (.one k17 (.one k18 (.one k19 (.one k20 .nil))))) (mO ok17 (mO ok18 (mO ok19 (mO ok20 mN)))) (by kernel_rfl)
theorem ok22 : PuOK prog k22.f k22.args k22.t := known (L := .nil) mN (by kernel_rfl)
theorem ok23 : PuOK prog k23.f k23.args k23.t := known (L := .nil) mN (by kernel_rfl)
theorem ok24 : PuOK prog k24.f k24.args k24.t := known (L := .nil) mN (by kernel_rfl)
theorem ok25 : PuOK prog k25.f k25.args k25.t := known (L := (.node 14650 (.one k22 .nil) (.node 15770 (.one k24 .nil) (.one k23 .nil)))) (mT (mO ok22 mN) (mT (mO ok24 mN) (mO ok23 mN))) (by kernel_rfl)
theorem ok26 : PuOK prog k26.f k26.args k26.t := known (L := (.one k25 .nil)) (mO ok25 mN) (by kernel_rfl)
theorem ok27 : PuOK prog k27.f k27.args k27.t := known (L := (.node 34577 (.node 20116 (.one k26 .nil) (.one k21 .nil)) (.node 42790 (.one k15 .nil) (.one k16 .nil)))) (mT (mT (mO ok26 mN) (mO ok21 mN)) (mT (mO ok15 mN) (mO ok16 mN))) (by kernel_rfl)
theorem ok28 : PuOK prog k28.f k28.args k28.t := known (L := .nil) mN (by kernel_rfl)
theorem ok29 : PuOK prog k29.f k29.args k29.t := known (L := .nil) mN (by kernel_rfl)
theorem ok30 : FnOK prog k30 := knownF (L := .nil) mN (by kernel_rfl)
theorem ok31 : PuOK prog k31.f k31.args k31.t := known (L := .nil) mN (by kernel_rfl)
theorem ok32 : PuOK prog k32.f k32.args k32.t := known (L := .nil) mN (by kernel_rfl)
theorem ok33 : PuOK prog k33.f k33.args k33.t := known (L := .nil) mN (by kernel_rfl)
theorem ok34 : PuOK prog k34.f k34.args k34.t := known (L := .nil) mN (by kernel_rfl)
theorem ok35 : PuOK prog k35.f k35.args k35.t := known (L := .nil) mN (by kernel_rfl)
theorem ok36 : PuOK prog k36.f k36.args k36.t := known (L := .nil) mN (by kernel_rfl)
theorem ok37 : PuOK prog k37.f k37.args k37.t := known (L := .nil) mN (by kernel_rfl)
theorem ok38 : PuOK prog k38.f k38.args k38.t := known (L := .nil) mN (by kernel_rfl)
theorem ok39 : PuOK prog k39.f k39.args k39.t := known (L := .nil) mN (by kernel_rfl)
theorem ok40 : PuOK prog k40.f k40.args k40.t := known (L := .nil) mN (by kernel_rfl)
theorem ok41 : PuOK prog k41.f k41.args k41.t := known (L := .nil) mN (by kernel_rfl)
theorem ok42 : PuOK prog k42.f k42.args k42.t := known (L := .nil) mN (by kernel_rfl)
theorem ok43 : PuOK prog k43.f k43.args k43.t := known (L := .nil) mN (by kernel_rfl)
theorem ok44 : PuOK prog k44.f k44.args k44.t := known (L := .nil) mN (by kernel_rfl)
theorem ok45 : PuOK prog k45.f k45.args k45.t := known (L := .nil) mN (by kernel_rfl)
theorem ok46 : PuOK prog k46.f k46.args k46.t := known (L := .nil) mN (by kernel_rfl)
theorem ok47 : PuOK prog k47.f k47.args k47.t := known (L := .nil) mN (by kernel_rfl)
theorem ok48 : FnOK prog k48 := knownF (L := .nil) mN (by kernel_rfl)
theorem ok49 : PuOK prog k49.f k49.args k49.t := known (L := (.oneF k48 .nil)) (mF ok48 mN) (by kernel_rfl)
theorem ok50 : PuOK prog k50.f k50.args k50.t := known (L := .nil) mN (by kernel_rfl)
theorem ok51 : PuOK prog k51.f k51.args k51.t := known (L := .nil) mN (by kernel_rfl)
theorem ok52 : PuOK prog k52.f k52.args k52.t := known (L := .nil) mN (by kernel_rfl)
theorem ok53 : PuOK prog k53.f k53.args k53.t := known (L := (.node 20556 (.node 14650 (.one k22 .nil) (.one k51 .nil)) (.node 26302 (.one k52 .nil) (.one k23 .nil)))) (mT (mT (mO ok22 mN) (mO ok51 mN)) (mT (mO ok52 mN) (mO ok23 mN))) (by kernel_rfl)
theorem ok54 : PuOK prog k54.f k54.args k54.t := known (L := (.one k53 .nil)) (mO ok53 mN) (by kernel_rfl)
theorem ok55 : PuOK prog k55.f k55.args k55.t := known (L := .nil) mN (by kernel_rfl)
theorem ok56 : PuOK prog k56.f k56.args k56.t := known (L := .nil) mN (by kernel_rfl)
theorem ok57 : PuOK prog k57.f k57.args k57.t := known (L := .nil) mN (by kernel_rfl)
theorem ok58 : PuOK prog k58.f k58.args k58.t := known (L := .nil) mN (by kernel_rfl)
theorem ok59 : PuOK prog k59.f k59.args k59.t := known (L := .nil) mN (by kernel_rfl)
theorem ok60 : PuOK prog k60.f k60.args k60.t := known (L := .nil) mN (by kernel_rfl)
theorem ok61 : PuOK prog k61.f k61.args k61.t := known (L := .nil) mN (by kernel_rfl)
theorem ok62 : PuOK prog k62.f k62.args k62.t := known (L := (.node 14970 (.node 14650 (.one k22 .nil) (.one k59 .nil)) (.node 40641 (.one k60 .nil) (.one k61 .nil)))) (mT (mT (mO ok22 mN) (mO ok59 mN)) (mT (mO ok60 mN) (mO ok61 mN))) (by kernel_rfl)
theorem ok63 : PuOK prog k63.f k63.args k63.t := known (L := (.one k62 .nil)) (mO ok62 mN) (by kernel_rfl)
theorem ok64 : PuOK prog k64.f k64.args k64.t := known (L := .nil) mN (by kernel_rfl)
theorem ok65 : PuOK prog k65.f k65.args k65.t := known (L := .nil) mN (by kernel_rfl)
theorem ok66 : PuOK prog k66.f k66.args k66.t := known (L := .nil) mN (by kernel_rfl)
theorem ok67 : PuOK prog k67.f k67.args k67.t := known (L := .nil) mN (by kernel_rfl)
theorem ok68 : PuOK prog k68.f k68.args k68.t := known (L := .nil) mN (by kernel_rfl)
theorem ok69 : PuOK prog k69.f k69.args k69.t := known (L := .nil) mN (by kernel_rfl)
theorem ok70 : PuOK prog k70.f k70.args k70.t := known (L := (.node 14650 (.node 951 (.one k69 .nil) (.one k22 .nil)) (.node 14970 (.one k59 .nil) (.one k68 .nil)))) (mT (mT (mO ok69 mN) (mO ok22 mN)) (mT (mO ok59 mN) (mO ok68 mN))) (by kernel_rfl)
theorem ok71 : PuOK prog k71.f k71.args k71.t := known (L := (.one k70 .nil)) (mO ok70 mN) (by kernel_rfl)
theorem ok72 : PuOK prog k72.f k72.args k72.t := known (L := .nil) mN (by kernel_rfl)
theorem ok73 : PuOK prog k73.f k73.args k73.t := known (L := .nil) mN (by kernel_rfl)
theorem ok74 : PuOK prog k74.f k74.args k74.t := known (L := .nil) mN (by kernel_rfl)
theorem ok75 : PuOK prog k75.f k75.args k75.t := known (L := .nil) mN (by kernel_rfl)
theorem ok76 : PuOK prog k76.f k76.args k76.t := known (L := .nil) mN (by kernel_rfl)
theorem ok77 : PuOK prog k77.f k77.args k77.t := known (L := .nil) mN (by kernel_rfl)
theorem ok78 : PuOK prog k78.f k78.args k78.t := known (L := (.node 15290 (.node 14650 (.one k22 .nil) (.one k77 .nil)) (.node 21036 (.one k76 .nil) (.one k23 .nil)))) (mT (mT (mO ok22 mN) (mO ok77 mN)) (mT (mO ok76 mN) (mO ok23 mN))) (by kernel_rfl)
theorem ok79 : PuOK prog k79.f k79.args k79.t := known (L := (.one k78 .nil)) (mO ok78 mN) (by kernel_rfl)
theorem ok80 : PuOK prog k80.f k80.args k80.t := known (L := .nil) mN (by kernel_rfl)
theorem ok81 : PuOK prog k81.f k81.args k81.t := known (L := .nil) mN (by kernel_rfl)
theorem ok82 : PuOK prog k82.f k82.args k82.t := known (L := .nil) mN (by kernel_rfl)
theorem ok83 : PuOK prog k83.f k83.args k83.t := known (L := .nil) mN (by kernel_rfl)
theorem ok84 : PuOK prog k84.f k84.args k84.t := known (L := (.node 15770 (.node 14650 (.one k22 .nil) (.one k24 .nil)) (.node 20556 (.one k51 .nil) (.one k23 .nil)))) (mT (mT (mO ok22 mN) (mO ok24 mN)) (mT (mO ok51 mN) (mO ok23 mN))) (by kernel_rfl)
theorem ok85 : PuOK prog k85.f k85.args k85.t := known (L := (.one k84 .nil)) (mO ok84 mN) (by kernel_rfl)
theorem ok86 : PuOK prog k86.f k86.args k86.t := known (L := .nil) mN (by kernel_rfl)
theorem ok87 : PuOK prog k87.f k87.args k87.t := known (L := .nil) mN (by kernel_rfl)
theorem ok88 : PuOK prog k88.f k88.args k88.t := known (L := .nil) mN (by kernel_rfl)
theorem ok89 : PuOK prog k89.f k89.args k89.t := known (L := .nil) mN (by kernel_rfl)
theorem ok90 : PuOK prog k90.f k90.args k90.t := known (L := .nil) mN (by kernel_rfl)
theorem ok91 : PuOK prog k91.f k91.args k91.t := known (L := (.node 15290 (.node 14650 (.one k22 .nil) (.one k77 .nil)) (.node 21036 (.one k76 .nil) (.one k23 .nil)))) (mT (mT (mO ok22 mN) (mO ok77 mN)) (mT (mO ok76 mN) (mO ok23 mN))) (by kernel_rfl)
theorem ok92 : PuOK prog k92.f k92.args k92.t := known (L := (.one k91 .nil)) (mO ok91 mN) (by kernel_rfl)
theorem ok93 : PuOK prog k93.f k93.args k93.t := known (L := .nil) mN (by kernel_rfl)
theorem ok94 : PuOK prog k94.f k94.args k94.t := known (L := (.one k73 .nil)) (mO ok73 mN) (by kernel_rfl)
theorem ok95 : PuOK prog k95.f k95.args k95.t := known (L := .nil) mN (by kernel_rfl)
end Go.V
