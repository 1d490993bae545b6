/- Calls, evaluated. -/
import Derived.Test.YtppfkmmlojpcfaaGreatLx0
import Derived.Test.YtppfkmmlojpcfaaGreatLx1
import Derived.Test.YtppfkmmlojpcfaaGreatLx2
import Derived.Test.YtppfkmmlojpcfaaGreatLx3
set_option linter.unusedVariables false
set_option maxRecDepth 100000
namespace Go.V
open Go.Proofs.Tryz (prog)
def k216 : Memo := ⟨229, [g13], .bool true⟩
def k217 : Memo := ⟨81, [g13], .bool true⟩
def k218 : Memo := ⟨230, [g13, .int .i64 (40000)], .agg [.int .i64 (0), .int .i64 (0)]⟩
def k219 : Memo := ⟨230, [g13, .int .i64 (41000)], .agg [.int .i64 (0), .int .i64 (0)]⟩
def k220 : Memo := ⟨82, [g13], .tup [.agg [.int .i64 (40000), .int .i64 (41000)], .agg [.int .i64 (0), .int .i64 (0)]]⟩
def k221 : Memo := ⟨21, [g13], .tup [.agg [.int .i64 (40000), .int .i64 (41000)], .agg [.int .i64 (0), .int .i64 (0)], .int .u8 (0), .int .i64 (0)]⟩
def k222 : Memo := ⟨229, [g14], .bool true⟩
def k223 : Memo := ⟨81, [g14], .bool true⟩
def k224 : Memo := ⟨230, [g14, .int .i64 (40000)], .agg [.int .i64 (2000), .int .i64 (4000)]⟩
def k225 : Memo := ⟨230, [g14, .int .i64 (41000)], .agg [.int .i64 (2050), .int .i64 (4100)]⟩
def k226 : Memo := ⟨82, [g14], .tup [.agg [.int .i64 (36000), .int .i64 (38950)], .agg [.int .i64 (2000), .int .i64 (4100)]]⟩
def k227 : Memo := ⟨21, [g14], .tup [.agg [.int .i64 (36000), .int .i64 (38950)], .agg [.int .i64 (2000), .int .i64 (4100)], .int .u8 (2), .int .i64 (0)]⟩
def k228 : Memo := ⟨233, [g15], .bool true⟩
def k229 : Memo := ⟨81, [g15], .bool true⟩
def k230 : Memo := ⟨82, [g15], .tup [.agg [.int .i64 (24000), .int .i64 (25000)], .agg [.int .i64 (5000), .int .i64 (6000)]]⟩
def k231 : Memo := ⟨21, [g15], .tup [.agg [.int .i64 (24000), .int .i64 (25000)], .agg [.int .i64 (5000), .int .i64 (6000)], .int .u8 (0), .int .i64 (0)]⟩
def k232 : Memo := ⟨24, [g2, .agg [.lst 1 [[.int .i64 (0)], [.int .i64 (1)]], .lst 1 [[.int .i64 (2)]], .nilS], .int .i64 (0)], .tup [.int .u8 (2), .int .i64 (0)]⟩
def k233 : Memo := ⟨89, [g3, .int .i64 (14)], .int .u8 (0)⟩
def k234 : Memo := ⟨24, [g2, .agg [.lst 1 [[.int .i64 (0)], [.int .i64 (1)]], .lst 1 [[.int .i64 (3)]], .nilS], .int .i64 (14)], .tup [.int .u8 (0), .int .i64 (0)]⟩
def k235 : MemoF := ⟨145, [.own 13 0 4], ⟨[some (.row 1 [[.lst 11 [[.int .u8 (2), .int .i64 (10), .int .i64 (10), .int .i64 (0), .int .i64 (0), .int .i64 (0), .int .i64 (0), .int .i64 (0), .int .i64 (0), .int .i64 (0), .int .i64 (0)], [.int .u8 (2), .int .i64 (20), .int .i64 (20), .int .i64 (0), .int .i64 (0), .int .i64 (0), .int .i64 (0), .int .i64 (0), .int .i64 (0), .int .i64 (0), .int .i64 (0)], [.int .u8 (2), .int .i64 (30), .int .i64 (30), .int .i64 (0), .int .i64 (0), .int .i64 (0), .int .i64 (0), .int .i64 (0), .int .i64 (0), .int .i64 (0), .int .i64 (0)], [.int .u8 (2), .int .i64 (45), .int .i64 (45), .int .i64 (0), .int .i64 (0), .int .i64 (0), .int .i64 (0), .int .i64 (0), .int .i64 (0), .int .i64 (0), .int .i64 (0)]]]]), some (.row 3 [[.lst 1 [[.int .i64 (0)], [.int .i64 (1)], [.int .i64 (2)], [.int .i64 (3)]], .nilS, .nilS]]), some (.row 1 [[.int .i64 (4)]]), some (.row 1 [[.int .i64 (0)]]), some (.row 3 [[.lst 1 [[.int .i64 (0)], [.int .i64 (1)], [.int .i64 (2)], [.int .i64 (3)]], .nilS, .nilS]]), some (.row 4 [[.lst 1 [[.int .i64 (0)], [.int .i64 (1)], [.int .i64 (2)], [.int .i64 (3)]], .nilS, .nilS, .own 7 0 4]]), some (.row 3 [[.lst 1 [[.int .i64 (0)], [.int .i64 (1)], [.int .i64 (2)], [.int .i64 (3)]], .nilS, .nilS]]), some (.row 2 [[.int .i64 (10), .int .i64 (10)], [.int .i64 (20), .int .i64 (20)], [.int .i64 (30), .int .i64 (30)], [.int .i64 (45), .int .i64 (45)]]), some (.row 4 [[.lst 1 [[.int .i64 (0)], [.int .i64 (1)], [.int .i64 (2)], [.int .i64 (3)]], .nilS, .nilS, .own 7 0 4]]), some (.row 4 [[.lst 1 [[.int .i64 (0)], [.int .i64 (1)], [.int .i64 (2)], [.int .i64 (3)]], .nilS, .nilS, .own 7 0 4]]), some (.row 1 [[.int .i64 (4)]]), some (.row 1 [[.nilS]]), some (.row 1 [[.lst 1 [[.int .i64 (0)], [.int .i64 (1)], [.int .i64 (2)], [.int .i64 (3)]]], [.nilS]]), some (.row 1 [[.int .i64 (0)], [.int .i64 (1)], [.int .i64 (2)], [.int .i64 (3)]])], 14⟩, .tup [], ⟨[some (.row 1 [[.lst 11 [[.int .u8 (2), .int .i64 (10), .int .i64 (10), .int .i64 (0), .int .i64 (0), .int .i64 (0), .int .i64 (0), .int .i64 (0), .int .i64 (0), .int .i64 (0), .int .i64 (0)], [.int .u8 (2), .int .i64 (20), .int .i64 (20), .int .i64 (0), .int .i64 (0), .int .i64 (0), .int .i64 (0), .int .i64 (0), .int .i64 (0), .int .i64 (0), .int .i64 (0)], [.int .u8 (2), .int .i64 (30), .int .i64 (30), .int .i64 (0), .int .i64 (0), .int .i64 (0), .int .i64 (0), .int .i64 (0), .int .i64 (0), .int .i64 (0), .int .i64 (0)], [.int .u8 (2), .int .i64 (45), .int .i64 (45), .int .i64 (0), .int .i64 (0), .int .i64 (0), .int .i64 (0), .int .i64 (0), .int .i64 (0), .int .i64 (0), .int .i64 (0)]]]]), some (.row 3 [[.lst 1 [[.int .i64 (0)], [.int .i64 (1)], [.int .i64 (2)], [.int .i64 (3)]], .nilS, .nilS]]), some (.row 1 [[.int .i64 (4)]]), some (.row 1 [[.int .i64 (0)]]), some (.row 3 [[.lst 1 [[.int .i64 (0)], [.int .i64 (1)], [.int .i64 (2)], [.int .i64 (3)]], .nilS, .nilS]]), some (.row 4 [[.lst 1 [[.int .i64 (0)], [.int .i64 (1)], [.int .i64 (2)], [.int .i64 (3)]], .nilS, .nilS, .own 7 0 4]]), some (.row 3 [[.lst 1 [[.int .i64 (0)], [.int .i64 (1)], [.int .i64 (2)], [.int .i64 (3)]], .nilS, .nilS]]), some (.row 2 [[.int .i64 (10), .int .i64 (10)], [.int .i64 (20), .int .i64 (20)], [.int .i64 (30), .int .i64 (30)], [.int .i64 (45), .int .i64 (45)]]), some (.row 4 [[.lst 1 [[.int .i64 (0)], [.int .i64 (1)], [.int .i64 (2)], [.int .i64 (3)]], .nilS, .nilS, .own 7 0 4]]), some (.row 4 [[.lst 1 [[.int .i64 (0)], [.int .i64 (1)], [.int .i64 (2)], [.int .i64 (3)]], .nilS, .nilS, .own 7 0 4]]), some (.row 1 [[.int .i64 (4)]]), some (.row 1 [[.nilS]]), some (.row 1 [[.lst 1 [[.int .i64 (0)], [.int .i64 (1)], [.int .i64 (2)], [.int .i64 (3)]]], [.nilS]]), some (.row 1 [[.int .i64 (0)], [.int .i64 (1)], [.int .i64 (2)], [.int .i64 (3)]])], 14⟩⟩
def k236 : Memo := ⟨89, [g4, .int .i64 (4)], .int .u8 (0)⟩
def k237 : Memo := ⟨89, [g5, .int .i64 (4)], .int .u8 (0)⟩
def k238 : Memo := ⟨89, [g6, .int .i64 (4)], .int .u8 (0)⟩
def k239 : Memo := ⟨89, [g7, .int .i64 (4)], .int .u8 (0)⟩
def k240 : Memo := ⟨89, [g8, .int .i64 (4)], .int .u8 (0)⟩
def k241 : Memo := ⟨89, [g9, .int .i64 (4)], .int .u8 (0)⟩
def k242 : Memo := ⟨89, [g10, .int .i64 (4)], .int .u8 (0)⟩
def k243 : Memo := ⟨89, [g11, .int .i64 (4)], .int .u8 (0)⟩
def k244 : Memo := ⟨238, [.lst 1 [[.int .i64 (0)], [.int .i64 (1)], [.int .i64 (2)], [.int .i64 (3)]], .int .i64 (9)], .fresh 1 [[.int .i64 (1)], [.int .i64 (2)]]⟩
def k245 : Memo := ⟨239, [.lst 1 [[.int .i64 (1)], [.int .i64 (2)]], .lst 1 [[.int .i64 (0)], [.int .i64 (1)], [.int .i64 (2)], [.int .i64 (3)]]], .fresh 1 [[.int .i64 (1)], [.int .i64 (2)]]⟩
def k246 : Memo := ⟨239, [.lst 1 [[.int .i64 (1)], [.int .i64 (2)]], .nilS], .nilS⟩
def k247 : Memo := ⟨181, [.lst 1 [[.int .i64 (0)], [.int .i64 (1)], [.int .i64 (2)], [.int .i64 (3)]], .lst 1 [[.int .i64 (1)], [.int .i64 (2)]], .nilS], .fresh 1 [[.int .i64 (0)], [.int .i64 (3)]]⟩
def k248 : Memo := ⟨181, [.nilS, .nilS, .lst 1 [[.int .i64 (1)], [.int .i64 (2)]]], .fresh 1 [[.int .i64 (1)], [.int .i64 (2)]]⟩
def k249 : Memo := ⟨95, [.agg [.lst 1 [[.int .i64 (0)], [.int .i64 (3)]], .lst 1 [[.int .i64 (1)], [.int .i64 (2)]], .nilS, .lst 2 [[.int .i64 (10), .int .i64 (10)], [.int .i64 (20), .int .i64 (20)], [.int .i64 (30), .int .i64 (30)], [.int .i64 (45), .int .i64 (45)]]]], .agg [.int .i64 (55), .int .i64 (55), .int .i64 (50), .int .i64 (50), .int .i64 (0), .int .i64 (0)]⟩
def k250 : Memo := ⟨89, [.agg [.lst 1 [[.int .i64 (0)], [.int .i64 (3)]], .lst 1 [[.int .i64 (1)], [.int .i64 (2)]], .nilS, .lst 2 [[.int .i64 (10), .int .i64 (10)], [.int .i64 (20), .int .i64 (20)], [.int .i64 (30), .int .i64 (30)], [.int .i64 (45), .int .i64 (45)]]], .int .i64 (4)], .int .u8 (0)⟩
def k251 : Memo := ⟨238, [.lst 1 [[.int .i64 (0)], [.int .i64 (1)], [.int .i64 (2)], [.int .i64 (3)]], .int .i64 (10)], .fresh 1 [[.int .i64 (1)], [.int .i64 (3)]]⟩
def k252 : Memo := ⟨239, [.lst 1 [[.int .i64 (1)], [.int .i64 (3)]], .lst 1 [[.int .i64 (0)], [.int .i64 (1)], [.int .i64 (2)], [.int .i64 (3)]]], .fresh 1 [[.int .i64 (1)], [.int .i64 (3)]]⟩
def k253 : Memo := ⟨239, [.lst 1 [[.int .i64 (1)], [.int .i64 (3)]], .nilS], .nilS⟩
def k254 : Memo := ⟨181, [.lst 1 [[.int .i64 (0)], [.int .i64 (1)], [.int .i64 (2)], [.int .i64 (3)]], .lst 1 [[.int .i64 (1)], [.int .i64 (3)]], .nilS], .fresh 1 [[.int .i64 (0)], [.int .i64 (2)]]⟩
def k255 : Memo := ⟨181, [.nilS, .nilS, .lst 1 [[.int .i64 (1)], [.int .i64 (3)]]], .fresh 1 [[.int .i64 (1)], [.int .i64 (3)]]⟩
def k256 : Memo := ⟨95, [.agg [.lst 1 [[.int .i64 (0)], [.int .i64 (2)]], .lst 1 [[.int .i64 (1)], [.int .i64 (3)]], .nilS, .lst 2 [[.int .i64 (10), .int .i64 (10)], [.int .i64 (20), .int .i64 (20)], [.int .i64 (30), .int .i64 (30)], [.int .i64 (45), .int .i64 (45)]]]], .agg [.int .i64 (40), .int .i64 (40), .int .i64 (65), .int .i64 (65), .int .i64 (0), .int .i64 (0)]⟩
def k257 : Memo := ⟨89, [.agg [.lst 1 [[.int .i64 (0)], [.int .i64 (2)]], .lst 1 [[.int .i64 (1)], [.int .i64 (3)]], .nilS, .lst 2 [[.int .i64 (10), .int .i64 (10)], [.int .i64 (20), .int .i64 (20)], [.int .i64 (30), .int .i64 (30)], [.int .i64 (45), .int .i64 (45)]]], .int .i64 (4)], .int .u8 (0)⟩
def k258 : Memo := ⟨238, [.lst 1 [[.int .i64 (0)], [.int .i64 (1)], [.int .i64 (2)], [.int .i64 (3)]], .int .i64 (12)], .fresh 1 [[.int .i64 (2)], [.int .i64 (3)]]⟩
def k259 : Memo := ⟨239, [.lst 1 [[.int .i64 (2)], [.int .i64 (3)]], .lst 1 [[.int .i64 (0)], [.int .i64 (1)], [.int .i64 (2)], [.int .i64 (3)]]], .fresh 1 [[.int .i64 (2)], [.int .i64 (3)]]⟩
def k260 : Memo := ⟨239, [.lst 1 [[.int .i64 (2)], [.int .i64 (3)]], .nilS], .nilS⟩
def k261 : Memo := ⟨181, [.lst 1 [[.int .i64 (0)], [.int .i64 (1)], [.int .i64 (2)], [.int .i64 (3)]], .lst 1 [[.int .i64 (2)], [.int .i64 (3)]], .nilS], .fresh 1 [[.int .i64 (0)], [.int .i64 (1)]]⟩
def k262 : Memo := ⟨181, [.nilS, .nilS, .lst 1 [[.int .i64 (2)], [.int .i64 (3)]]], .fresh 1 [[.int .i64 (2)], [.int .i64 (3)]]⟩
def k263 : Memo := ⟨95, [.agg [.lst 1 [[.int .i64 (0)], [.int .i64 (1)]], .lst 1 [[.int .i64 (2)], [.int .i64 (3)]], .nilS, .lst 2 [[.int .i64 (10), .int .i64 (10)], [.int .i64 (20), .int .i64 (20)], [.int .i64 (30), .int .i64 (30)], [.int .i64 (45), .int .i64 (45)]]]], .agg [.int .i64 (30), .int .i64 (30), .int .i64 (75), .int .i64 (75), .int .i64 (0), .int .i64 (0)]⟩
def k264 : Memo := ⟨89, [.agg [.lst 1 [[.int .i64 (0)], [.int .i64 (1)]], .lst 1 [[.int .i64 (2)], [.int .i64 (3)]], .nilS, .lst 2 [[.int .i64 (10), .int .i64 (10)], [.int .i64 (20), .int .i64 (20)], [.int .i64 (30), .int .i64 (30)], [.int .i64 (45), .int .i64 (45)]]], .int .i64 (4)], .int .u8 (0)⟩
def k265 : Memo := ⟨238, [.lst 1 [[.int .i64 (0)], [.int .i64 (1)], [.int .i64 (2)], [.int .i64 (3)]], .int .i64 (1)], .fresh 1 [[.int .i64 (0)], [.int .i64 (1)], [.int .i64 (2)]]⟩
def k266 : Memo := ⟨239, [.lst 1 [[.int .i64 (0)], [.int .i64 (1)], [.int .i64 (2)]], .lst 1 [[.int .i64 (0)], [.int .i64 (1)], [.int .i64 (2)], [.int .i64 (3)]]], .fresh 1 [[.int .i64 (0)], [.int .i64 (1)], [.int .i64 (2)]]⟩
def k267 : Memo := ⟨239, [.lst 1 [[.int .i64 (0)], [.int .i64 (1)], [.int .i64 (2)]], .nilS], .nilS⟩
def k268 : Memo := ⟨158, [.lst 1 [[.int .i64 (0)], [.int .i64 (1)], [.int .i64 (2)]], .int .i64 (2)], .bool true⟩
def k269 : Memo := ⟨65, [.lst 1 [[.int .i64 (0)], [.int .i64 (1)], [.int .i64 (2)]], .int .i64 (3)], .int .i64 (-1)⟩
def k270 : Memo := ⟨181, [.lst 1 [[.int .i64 (0)], [.int .i64 (1)], [.int .i64 (2)], [.int .i64 (3)]], .lst 1 [[.int .i64 (0)], [.int .i64 (1)], [.int .i64 (2)]], .nilS], .fresh 1 [[.int .i64 (3)]]⟩
def k271 : Memo := ⟨181, [.nilS, .nilS, .lst 1 [[.int .i64 (0)], [.int .i64 (1)], [.int .i64 (2)]]], .fresh 1 [[.int .i64 (0)], [.int .i64 (1)], [.int .i64 (2)]]⟩
def k272 : Memo := ⟨95, [.agg [.lst 1 [[.int .i64 (3)]], .lst 1 [[.int .i64 (0)], [.int .i64 (1)], [.int .i64 (2)]], .nilS, .lst 2 [[.int .i64 (10), .int .i64 (10)], [.int .i64 (20), .int .i64 (20)], [.int .i64 (30), .int .i64 (30)], [.int .i64 (45), .int .i64 (45)]]]], .agg [.int .i64 (45), .int .i64 (45), .int .i64 (60), .int .i64 (60), .int .i64 (0), .int .i64 (0)]⟩
def k273 : Memo := ⟨89, [.agg [.lst 1 [[.int .i64 (3)]], .lst 1 [[.int .i64 (0)], [.int .i64 (1)], [.int .i64 (2)]], .nilS, .lst 2 [[.int .i64 (10), .int .i64 (10)], [.int .i64 (20), .int .i64 (20)], [.int .i64 (30), .int .i64 (30)], [.int .i64 (45), .int .i64 (45)]]], .int .i64 (4)], .int .u8 (0)⟩
def k274 : Memo := ⟨238, [.lst 1 [[.int .i64 (0)], [.int .i64 (1)], [.int .i64 (2)], [.int .i64 (3)]], .int .i64 (2)], .fresh 1 [[.int .i64 (0)], [.int .i64 (1)], [.int .i64 (3)]]⟩
def k275 : Memo := ⟨239, [.lst 1 [[.int .i64 (0)], [.int .i64 (1)], [.int .i64 (3)]], .lst 1 [[.int .i64 (0)], [.int .i64 (1)], [.int .i64 (2)], [.int .i64 (3)]]], .fresh 1 [[.int .i64 (0)], [.int .i64 (1)], [.int .i64 (3)]]⟩
def k276 : Memo := ⟨239, [.lst 1 [[.int .i64 (0)], [.int .i64 (1)], [.int .i64 (3)]], .nilS], .nilS⟩
def k277 : Memo := ⟨65, [.lst 1 [[.int .i64 (0)], [.int .i64 (1)], [.int .i64 (3)]], .int .i64 (2)], .int .i64 (-1)⟩
def k278 : Memo := ⟨158, [.lst 1 [[.int .i64 (0)], [.int .i64 (1)], [.int .i64 (3)]], .int .i64 (3)], .bool true⟩
def k279 : Memo := ⟨181, [.lst 1 [[.int .i64 (0)], [.int .i64 (1)], [.int .i64 (2)], [.int .i64 (3)]], .lst 1 [[.int .i64 (0)], [.int .i64 (1)], [.int .i64 (3)]], .nilS], .fresh 1 [[.int .i64 (2)]]⟩
def k280 : Memo := ⟨181, [.nilS, .nilS, .lst 1 [[.int .i64 (0)], [.int .i64 (1)], [.int .i64 (3)]]], .fresh 1 [[.int .i64 (0)], [.int .i64 (1)], [.int .i64 (3)]]⟩
def k281 : Memo := ⟨95, [.agg [.lst 1 [[.int .i64 (2)]], .lst 1 [[.int .i64 (0)], [.int .i64 (1)], [.int .i64 (3)]], .nilS, .lst 2 [[.int .i64 (10), .int .i64 (10)], [.int .i64 (20), .int .i64 (20)], [.int .i64 (30), .int .i64 (30)], [.int .i64 (45), .int .i64 (45)]]]], .agg [.int .i64 (30), .int .i64 (30), .int .i64 (75), .int .i64 (75), .int .i64 (0), .int .i64 (0)]⟩
def k282 : Memo := ⟨89, [.agg [.lst 1 [[.int .i64 (2)]], .lst 1 [[.int .i64 (0)], [.int .i64 (1)], [.int .i64 (3)]], .nilS, .lst 2 [[.int .i64 (10), .int .i64 (10)], [.int .i64 (20), .int .i64 (20)], [.int .i64 (30), .int .i64 (30)], [.int .i64 (45), .int .i64 (45)]]], .int .i64 (4)], .int .u8 (0)⟩
def k283 : Memo := ⟨238, [.lst 1 [[.int .i64 (0)], [.int .i64 (1)], [.int .i64 (2)], [.int .i64 (3)]], .int .i64 (4)], .fresh 1 [[.int .i64 (0)], [.int .i64 (2)], [.int .i64 (3)]]⟩
def k284 : Memo := ⟨239, [.lst 1 [[.int .i64 (0)], [.int .i64 (2)], [.int .i64 (3)]], .lst 1 [[.int .i64 (0)], [.int .i64 (1)], [.int .i64 (2)], [.int .i64 (3)]]], .fresh 1 [[.int .i64 (0)], [.int .i64 (2)], [.int .i64 (3)]]⟩
def k285 : Memo := ⟨239, [.lst 1 [[.int .i64 (0)], [.int .i64 (2)], [.int .i64 (3)]], .nilS], .nilS⟩
def k286 : Memo := ⟨65, [.lst 1 [[.int .i64 (0)], [.int .i64 (2)], [.int .i64 (3)]], .int .i64 (1)], .int .i64 (-1)⟩
def k287 : Memo := ⟨158, [.lst 1 [[.int .i64 (0)], [.int .i64 (2)], [.int .i64 (3)]], .int .i64 (3)], .bool true⟩
def k288 : Memo := ⟨181, [.lst 1 [[.int .i64 (0)], [.int .i64 (1)], [.int .i64 (2)], [.int .i64 (3)]], .lst 1 [[.int .i64 (0)], [.int .i64 (2)], [.int .i64 (3)]], .nilS], .fresh 1 [[.int .i64 (1)]]⟩
def k289 : Memo := ⟨181, [.nilS, .nilS, .lst 1 [[.int .i64 (0)], [.int .i64 (2)], [.int .i64 (3)]]], .fresh 1 [[.int .i64 (0)], [.int .i64 (2)], [.int .i64 (3)]]⟩
def k290 : Memo := ⟨95, [.agg [.lst 1 [[.int .i64 (1)]], .lst 1 [[.int .i64 (0)], [.int .i64 (2)], [.int .i64 (3)]], .nilS, .lst 2 [[.int .i64 (10), .int .i64 (10)], [.int .i64 (20), .int .i64 (20)], [.int .i64 (30), .int .i64 (30)], [.int .i64 (45), .int .i64 (45)]]]], .agg [.int .i64 (20), .int .i64 (20), .int .i64 (85), .int .i64 (85), .int .i64 (0), .int .i64 (0)]⟩
def k291 : Memo := ⟨89, [.agg [.lst 1 [[.int .i64 (1)]], .lst 1 [[.int .i64 (0)], [.int .i64 (2)], [.int .i64 (3)]], .nilS, .lst 2 [[.int .i64 (10), .int .i64 (10)], [.int .i64 (20), .int .i64 (20)], [.int .i64 (30), .int .i64 (30)], [.int .i64 (45), .int .i64 (45)]]], .int .i64 (4)], .int .u8 (0)⟩
def k292 : Memo := ⟨238, [.lst 1 [[.int .i64 (0)], [.int .i64 (1)], [.int .i64 (2)], [.int .i64 (3)]], .int .i64 (8)], .fresh 1 [[.int .i64 (1)], [.int .i64 (2)], [.int .i64 (3)]]⟩
def k293 : Memo := ⟨239, [.lst 1 [[.int .i64 (1)], [.int .i64 (2)], [.int .i64 (3)]], .lst 1 [[.int .i64 (0)], [.int .i64 (1)], [.int .i64 (2)], [.int .i64 (3)]]], .fresh 1 [[.int .i64 (1)], [.int .i64 (2)], [.int .i64 (3)]]⟩
def k294 : Memo := ⟨239, [.lst 1 [[.int .i64 (1)], [.int .i64 (2)], [.int .i64 (3)]], .nilS], .nilS⟩
def k295 : Memo := ⟨65, [.lst 1 [[.int .i64 (1)], [.int .i64 (2)], [.int .i64 (3)]], .int .i64 (0)], .int .i64 (-1)⟩
def k296 : Memo := ⟨158, [.lst 1 [[.int .i64 (1)], [.int .i64 (2)], [.int .i64 (3)]], .int .i64 (3)], .bool true⟩
def k297 : Memo := ⟨181, [.lst 1 [[.int .i64 (0)], [.int .i64 (1)], [.int .i64 (2)], [.int .i64 (3)]], .lst 1 [[.int .i64 (1)], [.int .i64 (2)], [.int .i64 (3)]], .nilS], .fresh 1 [[.int .i64 (0)]]⟩
def k298 : Memo := ⟨181, [.nilS, .nilS, .lst 1 [[.int .i64 (1)], [.int .i64 (2)], [.int .i64 (3)]]], .fresh 1 [[.int .i64 (1)], [.int .i64 (2)], [.int .i64 (3)]]⟩
def k299 : Memo := ⟨95, [.agg [.lst 1 [[.int .i64 (0)]], .lst 1 [[.int .i64 (1)], [.int .i64 (2)], [.int .i64 (3)]], .nilS, .lst 2 [[.int .i64 (10), .int .i64 (10)], [.int .i64 (20), .int .i64 (20)], [.int .i64 (30), .int .i64 (30)], [.int .i64 (45), .int .i64 (45)]]]], .agg [.int .i64 (10), .int .i64 (10), .int .i64 (95), .int .i64 (95), .int .i64 (0), .int .i64 (0)]⟩
def k300 : Memo := ⟨89, [.agg [.lst 1 [[.int .i64 (0)]], .lst 1 [[.int .i64 (1)], [.int .i64 (2)], [.int .i64 (3)]], .nilS, .lst 2 [[.int .i64 (10), .int .i64 (10)], [.int .i64 (20), .int .i64 (20)], [.int .i64 (30), .int .i64 (30)], [.int .i64 (45), .int .i64 (45)]]], .int .i64 (4)], .int .u8 (0)⟩
def k301 : Memo := ⟨238, [.lst 1 [[.int .i64 (0)], [.int .i64 (1)], [.int .i64 (2)], [.int .i64 (3)]], .int .i64 (0)], .fresh 1 [[.int .i64 (0)], [.int .i64 (1)], [.int .i64 (2)], [.int .i64 (3)]]⟩
def k302 : Memo := ⟨239, [.lst 1 [[.int .i64 (0)], [.int .i64 (1)], [.int .i64 (2)], [.int .i64 (3)]], .lst 1 [[.int .i64 (0)], [.int .i64 (1)], [.int .i64 (2)], [.int .i64 (3)]]], .fresh 1 [[.int .i64 (0)], [.int .i64 (1)], [.int .i64 (2)], [.int .i64 (3)]]⟩
def k303 : Memo := ⟨239, [.lst 1 [[.int .i64 (0)], [.int .i64 (1)], [.int .i64 (2)], [.int .i64 (3)]], .nilS], .nilS⟩
def k304 : Memo := ⟨181, [.lst 1 [[.int .i64 (0)], [.int .i64 (1)], [.int .i64 (2)], [.int .i64 (3)]], .lst 1 [[.int .i64 (0)], [.int .i64 (1)], [.int .i64 (2)], [.int .i64 (3)]], .nilS], .nilS⟩
def k305 : MemoF := ⟨145, [.own 0 0 4], ⟨[some (.row 1 [[.int .i64 (0)], [.int .i64 (1)], [.int .i64 (2)], [.int .i64 (3)]])], 1⟩, .tup [], ⟨[some (.row 1 [[.int .i64 (0)], [.int .i64 (1)], [.int .i64 (2)], [.int .i64 (3)]])], 1⟩⟩
theorem ok216 : PuOK prog k216.f k216.args k216.t := known (L := .nil) mN (by kernel_rfl)
theorem ok217 : PuOK prog k217.f k217.args k217.t := known (L := (.one k216 .nil)) (mO ok216 mN) (by kernel_rfl)
theorem ok218 : PuOK prog k218.f k218.args k218.t := known (L := .nil) mN (by kernel_rfl)
theorem ok219 : PuOK prog k219.f k219.args k219.t := known (L := .nil) mN (by kernel_rfl)
theorem ok220 : PuOK prog k220.f k220.args k220.t := known (L := (.node 39 (.one k219 .nil) (.one k218 .nil))) (mT (mO ok219 mN) (mO ok218 mN)) (by kernel_rfl)
theorem ok221 : PuOK prog k221.f k221.args k221.t := known (L := (.node 2514 (.one k217 .nil) (.one k220 .nil))) (mT (mO ok217 mN) (mO ok220 mN)) (by kernel_rfl)
theorem ok222 : PuOK prog k222.f k222.args k222.t := known (L := .nil) mN (by kernel_rfl)
theorem ok223 : PuOK prog k223.f k223.args k223.t := known (L := (.one k222 .nil)) (mO ok222 mN) (by kernel_rfl)
theorem ok224 : PuOK prog k224.f k224.args k224.t := known (L := .nil) mN (by kernel_rfl)
theorem ok225 : PuOK prog k225.f k225.args k225.t := known (L := .nil) mN (by kernel_rfl)
theorem ok226 : PuOK prog k226.f k226.args k226.t := known (L := (.node 39 (.one k225 .nil) (.one k224 .nil))) (mT (mO ok225 mN) (mO ok224 mN)) (by kernel_rfl)
theorem ok227 : PuOK prog k227.f k227.args k227.t := known (L := (.node 2514 (.one k223 .nil) (.one k226 .nil))) (mT (mO ok223 mN) (mO ok226 mN)) (by kernel_rfl)
theorem ok228 : PuOK prog k228.f k228.args k228.t := known (L := .nil) mN (by kernel_rfl)
theorem ok229 : PuOK prog k229.f k229.args k229.t := known (L := (.one k228 .nil)) (mO ok228 mN) (by kernel_rfl)
theorem ok230 : PuOK prog k230.f k230.args k230.t := known (L := .nil) mN (by kernel_rfl)
theorem ok231 : PuOK prog k231.f k231.args k231.t := known (L := (.node 2514 (.one k229 .nil) (.one k230 .nil))) (mT (mO ok229 mN) (mO ok230 mN)) (by kernel_rfl)
theorem ok232 : PuOK prog k232.f k232.args k232.t := known (L := (.node 34577 (.node 20101 (.one k209 .nil) (.one k21 .nil)) (.node 42790 (.one k15 .nil) (.one k111 .nil)))) (mT (mT (mO ok209 mN) (mO ok21 mN)) (mT (mO ok15 mN) (mO ok111 mN))) (by kernel_rfl)
theorem ok233 : PuOK prog k233.f k233.args k233.t := known (L := (.one k25 .nil)) (mO ok25 mN) (by kernel_rfl)
theorem ok234 : PuOK prog k234.f k234.args k234.t := known (L := (.node 34577 (.node 20115 (.one k233 .nil) (.one k21 .nil)) (.node 42790 (.one k15 .nil) (.one k16 .nil)))) (mT (mT (mO ok233 mN) (mO ok21 mN)) (mT (mO ok15 mN) (mO ok16 mN))) (by kernel_rfl)
theorem ok235 : FnOK prog k235 := knownF (L := .nil) mN (by kernel_rfl)
theorem ok236 : PuOK prog k236.f k236.args k236.t := known (L := (.one k53 .nil)) (mO ok53 mN) (by kernel_rfl)
theorem ok237 : PuOK prog k237.f k237.args k237.t := known (L := (.one k62 .nil)) (mO ok62 mN) (by kernel_rfl)
theorem ok238 : PuOK prog k238.f k238.args k238.t := known (L := (.one k70 .nil)) (mO ok70 mN) (by kernel_rfl)
theorem ok239 : PuOK prog k239.f k239.args k239.t := known (L := (.one k78 .nil)) (mO ok78 mN) (by kernel_rfl)
theorem ok240 : PuOK prog k240.f k240.args k240.t := known (L := (.one k84 .nil)) (mO ok84 mN) (by kernel_rfl)
theorem ok241 : PuOK prog k241.f k241.args k241.t := known (L := (.one k91 .nil)) (mO ok91 mN) (by kernel_rfl)
theorem ok242 : PuOK prog k242.f k242.args k242.t := known (L := (.one k99 .nil)) (mO ok99 mN) (by kernel_rfl)
theorem ok243 : PuOK prog k243.f k243.args k243.t := known (L := (.one k107 .nil)) (mO ok107 mN) (by kernel_rfl)
theorem ok244 : PuOK prog k244.f k244.args k244.t := known (L := .nil) mN (by kernel_rfl)
theorem ok245 : PuOK prog k245.f k245.args k245.t := known (L := (.one k73 .nil)) (mO ok73 mN) (by kernel_rfl)
theorem ok246 : PuOK prog k246.f k246.args k246.t := known (L := .nil) mN (by kernel_rfl)
theorem ok247 : PuOK prog k247.f k247.args k247.t := known (L := .nil) mN (by kernel_rfl)
theorem ok248 : PuOK prog k248.f k248.args k248.t := known (L := .nil) mN (by kernel_rfl)
theorem ok249 : PuOK prog k249.f k249.args k249.t := known (L := (.node 14970 (.node 14650 (.one k22 .nil) (.one k59 .nil)) (.node 40641 (.one k60 .nil) (.one k106 .nil)))) (mT (mT (mO ok22 mN) (mO ok59 mN)) (mT (mO ok60 mN) (mO ok106 mN))) (by kernel_rfl)
theorem ok250 : PuOK prog k250.f k250.args k250.t := known (L := (.one k249 .nil)) (mO ok249 mN) (by kernel_rfl)
theorem ok251 : PuOK prog k251.f k251.args k251.t := known (L := .nil) mN (by kernel_rfl)
theorem ok252 : PuOK prog k252.f k252.args k252.t := known (L := (.one k81 .nil)) (mO ok81 mN) (by kernel_rfl)
theorem ok253 : PuOK prog k253.f k253.args k253.t := known (L := .nil) mN (by kernel_rfl)
theorem ok254 : PuOK prog k254.f k254.args k254.t := known (L := .nil) mN (by kernel_rfl)
theorem ok255 : PuOK prog k255.f k255.args k255.t := known (L := .nil) mN (by kernel_rfl)
theorem ok256 : PuOK prog k256.f k256.args k256.t := known (L := (.node 14970 (.node 14650 (.one k22 .nil) (.one k59 .nil)) (.node 41121 (.one k98 .nil) (.one k68 .nil)))) (mT (mT (mO ok22 mN) (mO ok59 mN)) (mT (mO ok98 mN) (mO ok68 mN))) (by kernel_rfl)
theorem ok257 : PuOK prog k257.f k257.args k257.t := known (L := (.one k256 .nil)) (mO ok256 mN) (by kernel_rfl)
theorem ok258 : PuOK prog k258.f k258.args k258.t := known (L := .nil) mN (by kernel_rfl)
theorem ok259 : PuOK prog k259.f k259.args k259.t := known (L := (.node 60863 (.one k73 .nil) (.one k81 .nil))) (mT (mO ok73 mN) (mO ok81 mN)) (by kernel_rfl)
theorem ok260 : PuOK prog k260.f k260.args k260.t := known (L := .nil) mN (by kernel_rfl)
theorem ok261 : PuOK prog k261.f k261.args k261.t := known (L := .nil) mN (by kernel_rfl)
theorem ok262 : PuOK prog k262.f k262.args k262.t := known (L := .nil) mN (by kernel_rfl)
theorem ok263 : PuOK prog k263.f k263.args k263.t := known (L := (.node 15290 (.node 14650 (.one k22 .nil) (.one k77 .nil)) (.node 21036 (.one k76 .nil) (.one k23 .nil)))) (mT (mT (mO ok22 mN) (mO ok77 mN)) (mT (mO ok76 mN) (mO ok23 mN))) (by kernel_rfl)
theorem ok264 : PuOK prog k264.f k264.args k264.t := known (L := (.one k263 .nil)) (mO ok263 mN) (by kernel_rfl)
theorem ok265 : PuOK prog k265.f k265.args k265.t := known (L := .nil) mN (by kernel_rfl)
theorem ok266 : PuOK prog k266.f k266.args k266.t := known (L := (.one k73 .nil)) (mO ok73 mN) (by kernel_rfl)
theorem ok267 : PuOK prog k267.f k267.args k267.t := known (L := .nil) mN (by kernel_rfl)
theorem ok268 : PuOK prog k268.f k268.args k268.t := known (L := .nil) mN (by kernel_rfl)
theorem ok269 : PuOK prog k269.f k269.args k269.t := known (L := .nil) mN (by kernel_rfl)
theorem ok270 : PuOK prog k270.f k270.args k270.t := known (L := (.node 8303 (.one k268 .nil) (.one k269 .nil))) (mT (mO ok268 mN) (mO ok269 mN)) (by kernel_rfl)
theorem ok271 : PuOK prog k271.f k271.args k271.t := known (L := .nil) mN (by kernel_rfl)
theorem ok272 : PuOK prog k272.f k272.args k272.t := known (L := (.node 15770 (.node 14650 (.one k22 .nil) (.one k24 .nil)) (.node 20556 (.one k51 .nil) (.one k23 .nil)))) (mT (mT (mO ok22 mN) (mO ok24 mN)) (mT (mO ok51 mN) (mO ok23 mN))) (by kernel_rfl)
theorem ok273 : PuOK prog k273.f k273.args k273.t := known (L := (.one k272 .nil)) (mO ok272 mN) (by kernel_rfl)
theorem ok274 : PuOK prog k274.f k274.args k274.t := known (L := .nil) mN (by kernel_rfl)
theorem ok275 : PuOK prog k275.f k275.args k275.t := known (L := (.one k81 .nil)) (mO ok81 mN) (by kernel_rfl)
theorem ok276 : PuOK prog k276.f k276.args k276.t := known (L := .nil) mN (by kernel_rfl)
theorem ok277 : PuOK prog k277.f k277.args k277.t := known (L := .nil) mN (by kernel_rfl)
theorem ok278 : PuOK prog k278.f k278.args k278.t := known (L := .nil) mN (by kernel_rfl)
theorem ok279 : PuOK prog k279.f k279.args k279.t := known (L := (.node 8335 (.one k278 .nil) (.one k277 .nil))) (mT (mO ok278 mN) (mO ok277 mN)) (by kernel_rfl)
theorem ok280 : PuOK prog k280.f k280.args k280.t := known (L := .nil) mN (by kernel_rfl)
theorem ok281 : PuOK prog k281.f k281.args k281.t := known (L := (.node 15290 (.node 14650 (.one k22 .nil) (.one k77 .nil)) (.node 21036 (.one k76 .nil) (.one k23 .nil)))) (mT (mT (mO ok22 mN) (mO ok77 mN)) (mT (mO ok76 mN) (mO ok23 mN))) (by kernel_rfl)
theorem ok282 : PuOK prog k282.f k282.args k282.t := known (L := (.one k281 .nil)) (mO ok281 mN) (by kernel_rfl)
theorem ok283 : PuOK prog k283.f k283.args k283.t := known (L := .nil) mN (by kernel_rfl)
theorem ok284 : PuOK prog k284.f k284.args k284.t := known (L := (.node 60863 (.one k73 .nil) (.one k81 .nil))) (mT (mO ok73 mN) (mO ok81 mN)) (by kernel_rfl)
theorem ok285 : PuOK prog k285.f k285.args k285.t := known (L := .nil) mN (by kernel_rfl)
theorem ok286 : PuOK prog k286.f k286.args k286.t := known (L := .nil) mN (by kernel_rfl)
theorem ok287 : PuOK prog k287.f k287.args k287.t := known (L := .nil) mN (by kernel_rfl)
theorem ok288 : PuOK prog k288.f k288.args k288.t := known (L := (.node 9296 (.one k287 .nil) (.one k286 .nil))) (mT (mO ok287 mN) (mO ok286 mN)) (by kernel_rfl)
theorem ok289 : PuOK prog k289.f k289.args k289.t := known (L := .nil) mN (by kernel_rfl)
theorem ok290 : PuOK prog k290.f k290.args k290.t := known (L := (.node 14650 (.node 951 (.one k69 .nil) (.one k22 .nil)) (.node 14970 (.one k59 .nil) (.one k68 .nil)))) (mT (mT (mO ok69 mN) (mO ok22 mN)) (mT (mO ok59 mN) (mO ok68 mN))) (by kernel_rfl)
theorem ok291 : PuOK prog k291.f k291.args k291.t := known (L := (.one k290 .nil)) (mO ok290 mN) (by kernel_rfl)
theorem ok292 : PuOK prog k292.f k292.args k292.t := known (L := .nil) mN (by kernel_rfl)
theorem ok293 : PuOK prog k293.f k293.args k293.t := known (L := (.node 60863 (.one k73 .nil) (.one k81 .nil))) (mT (mO ok73 mN) (mO ok81 mN)) (by kernel_rfl)
theorem ok294 : PuOK prog k294.f k294.args k294.t := known (L := .nil) mN (by kernel_rfl)
theorem ok295 : PuOK prog k295.f k295.args k295.t := known (L := .nil) mN (by kernel_rfl)
theorem ok296 : PuOK prog k296.f k296.args k296.t := known (L := .nil) mN (by kernel_rfl)
theorem ok297 : PuOK prog k297.f k297.args k297.t := known (L := (.node 39087 (.one k296 .nil) (.one k295 .nil))) (mT (mO ok296 mN) (mO ok295 mN)) (by kernel_rfl)
theorem ok298 : PuOK prog k298.f k298.args k298.t := known (L := .nil) mN (by kernel_rfl)
theorem ok299 : PuOK prog k299.f k299.args k299.t := known (L := (.node 14970 (.node 14650 (.one k22 .nil) (.one k59 .nil)) (.node 40641 (.one k60 .nil) (.one k61 .nil)))) (mT (mT (mO ok22 mN) (mO ok59 mN)) (mT (mO ok60 mN) (mO ok61 mN))) (by kernel_rfl)
theorem ok300 : PuOK prog k300.f k300.args k300.t := known (L := (.one k299 .nil)) (mO ok299 mN) (by kernel_rfl)
theorem ok301 : PuOK prog k301.f k301.args k301.t := known (L := .nil) mN (by kernel_rfl)
theorem ok302 : PuOK prog k302.f k302.args k302.t := known (L := (.node 60863 (.one k73 .nil) (.one k81 .nil))) (mT (mO ok73 mN) (mO ok81 mN)) (by kernel_rfl)
theorem ok303 : PuOK prog k303.f k303.args k303.t := known (L := .nil) mN (by kernel_rfl)
theorem ok304 : PuOK prog k304.f k304.args k304.t := known (L := (.node 60863 (.one k73 .nil) (.one k81 .nil))) (mT (mO ok73 mN) (mO ok81 mN)) (by kernel_rfl)
theorem ok305 : FnOK prog k305 := knownF (L := .nil) mN (by kernel_rfl)
end Go.V
