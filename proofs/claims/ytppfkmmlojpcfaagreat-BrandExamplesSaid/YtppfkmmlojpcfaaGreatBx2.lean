/- Calls, evaluated. -/
import Derived.Test.YtppfkmmlojpcfaaGreatBx0
import Derived.Test.YtppfkmmlojpcfaaGreatBx1
set_option linter.unusedVariables false
set_option maxRecDepth 100000
namespace Go.V
open Go.Proofs.Tryz (prog)
def k92 : Memo := ⟨152, [g14, .lst 1 [[.int .i64 (0)], [.int .i64 (1)]]], .bool false⟩
def k93 : Memo := ⟨151, [.int .i64 (16)], .fresh 1 [[.int .i64 (4)]]⟩
def k94 : Memo := ⟨227, [.lst 1 [[.int .i64 (4)]], .lst 1 [[.int .i64 (0)], [.int .i64 (1)]]], .int .i64 (1)⟩
def k95 : Memo := ⟨152, [.lst 1 [[.int .i64 (4)]], .lst 1 [[.int .i64 (0)], [.int .i64 (1)]]], .bool true⟩
def k96 : Memo := ⟨228, [g2, .int .i64 (16)], g10⟩
def k97 : Memo := ⟨228, [g1, .int .i64 (16)], g10⟩
def k98 : Memo := ⟨151, [.int .i64 (17)], .fresh 1 [[.int .i64 (0)], [.int .i64 (4)]]⟩
def k99 : Memo := ⟨227, [.lst 1 [[.int .i64 (0)], [.int .i64 (4)]], .lst 1 [[.int .i64 (0)], [.int .i64 (1)]]], .int .i64 (1)⟩
def k100 : Memo := ⟨152, [.lst 1 [[.int .i64 (0)], [.int .i64 (4)]], .lst 1 [[.int .i64 (0)], [.int .i64 (1)]]], .bool false⟩
def k101 : Memo := ⟨151, [.int .i64 (18)], .fresh 1 [[.int .i64 (1)], [.int .i64 (4)]]⟩
def k102 : Memo := ⟨227, [.lst 1 [[.int .i64 (1)], [.int .i64 (4)]], .lst 1 [[.int .i64 (0)], [.int .i64 (1)]]], .int .i64 (1)⟩
def k103 : Memo := ⟨152, [.lst 1 [[.int .i64 (1)], [.int .i64 (4)]], .lst 1 [[.int .i64 (0)], [.int .i64 (1)]]], .bool false⟩
def k104 : Memo := ⟨151, [.int .i64 (19)], .fresh 1 [[.int .i64 (0)], [.int .i64 (1)], [.int .i64 (4)]]⟩
def k105 : Memo := ⟨227, [.lst 1 [[.int .i64 (0)], [.int .i64 (1)], [.int .i64 (4)]], .lst 1 [[.int .i64 (0)], [.int .i64 (1)]]], .int .i64 (1)⟩
def k106 : Memo := ⟨152, [.lst 1 [[.int .i64 (0)], [.int .i64 (1)], [.int .i64 (4)]], .lst 1 [[.int .i64 (0)], [.int .i64 (1)]]], .bool false⟩
def k107 : Memo := ⟨151, [.int .i64 (20)], .fresh 1 [[.int .i64 (2)], [.int .i64 (4)]]⟩
def k108 : Memo := ⟨227, [.lst 1 [[.int .i64 (2)], [.int .i64 (4)]], .lst 1 [[.int .i64 (0)], [.int .i64 (1)]]], .int .i64 (1)⟩
def k109 : Memo := ⟨152, [.lst 1 [[.int .i64 (2)], [.int .i64 (4)]], .lst 1 [[.int .i64 (0)], [.int .i64 (1)]]], .bool false⟩
def k110 : Memo := ⟨151, [.int .i64 (21)], .fresh 1 [[.int .i64 (0)], [.int .i64 (2)], [.int .i64 (4)]]⟩
def k111 : Memo := ⟨227, [.lst 1 [[.int .i64 (0)], [.int .i64 (2)], [.int .i64 (4)]], .lst 1 [[.int .i64 (0)], [.int .i64 (1)]]], .int .i64 (1)⟩
def k112 : Memo := ⟨152, [.lst 1 [[.int .i64 (0)], [.int .i64 (2)], [.int .i64 (4)]], .lst 1 [[.int .i64 (0)], [.int .i64 (1)]]], .bool false⟩
def k113 : Memo := ⟨151, [.int .i64 (22)], .fresh 1 [[.int .i64 (1)], [.int .i64 (2)], [.int .i64 (4)]]⟩
def k114 : Memo := ⟨227, [.lst 1 [[.int .i64 (1)], [.int .i64 (2)], [.int .i64 (4)]], .lst 1 [[.int .i64 (0)], [.int .i64 (1)]]], .int .i64 (1)⟩
def k115 : Memo := ⟨152, [.lst 1 [[.int .i64 (1)], [.int .i64 (2)], [.int .i64 (4)]], .lst 1 [[.int .i64 (0)], [.int .i64 (1)]]], .bool false⟩
def k116 : Memo := ⟨151, [.int .i64 (23)], .fresh 1 [[.int .i64 (0)], [.int .i64 (1)], [.int .i64 (2)], [.int .i64 (4)]]⟩
def k117 : Memo := ⟨227, [g15, .lst 1 [[.int .i64 (0)], [.int .i64 (1)]]], .int .i64 (1)⟩
def k118 : Memo := ⟨152, [g15, .lst 1 [[.int .i64 (0)], [.int .i64 (1)]]], .bool false⟩
def k119 : Memo := ⟨151, [.int .i64 (24)], .fresh 1 [[.int .i64 (3)], [.int .i64 (4)]]⟩
def k120 : Memo := ⟨227, [.lst 1 [[.int .i64 (3)], [.int .i64 (4)]], .lst 1 [[.int .i64 (0)], [.int .i64 (1)]]], .int .i64 (1)⟩
def k121 : Memo := ⟨152, [.lst 1 [[.int .i64 (3)], [.int .i64 (4)]], .lst 1 [[.int .i64 (0)], [.int .i64 (1)]]], .bool false⟩
def k122 : Memo := ⟨151, [.int .i64 (25)], .fresh 1 [[.int .i64 (0)], [.int .i64 (3)], [.int .i64 (4)]]⟩
def k123 : Memo := ⟨227, [.lst 1 [[.int .i64 (0)], [.int .i64 (3)], [.int .i64 (4)]], .lst 1 [[.int .i64 (0)], [.int .i64 (1)]]], .int .i64 (1)⟩
def k124 : Memo := ⟨152, [.lst 1 [[.int .i64 (0)], [.int .i64 (3)], [.int .i64 (4)]], .lst 1 [[.int .i64 (0)], [.int .i64 (1)]]], .bool false⟩
def k125 : Memo := ⟨151, [.int .i64 (26)], .fresh 1 [[.int .i64 (1)], [.int .i64 (3)], [.int .i64 (4)]]⟩
def k126 : Memo := ⟨227, [.lst 1 [[.int .i64 (1)], [.int .i64 (3)], [.int .i64 (4)]], .lst 1 [[.int .i64 (0)], [.int .i64 (1)]]], .int .i64 (1)⟩
def k127 : Memo := ⟨152, [.lst 1 [[.int .i64 (1)], [.int .i64 (3)], [.int .i64 (4)]], .lst 1 [[.int .i64 (0)], [.int .i64 (1)]]], .bool false⟩
def k128 : Memo := ⟨151, [.int .i64 (27)], .fresh 1 [[.int .i64 (0)], [.int .i64 (1)], [.int .i64 (3)], [.int .i64 (4)]]⟩
def k129 : Memo := ⟨227, [g16, .lst 1 [[.int .i64 (0)], [.int .i64 (1)]]], .int .i64 (1)⟩
def k130 : Memo := ⟨152, [g16, .lst 1 [[.int .i64 (0)], [.int .i64 (1)]]], .bool false⟩
def k131 : Memo := ⟨151, [.int .i64 (28)], .fresh 1 [[.int .i64 (2)], [.int .i64 (3)], [.int .i64 (4)]]⟩
def k132 : Memo := ⟨227, [.lst 1 [[.int .i64 (2)], [.int .i64 (3)], [.int .i64 (4)]], .lst 1 [[.int .i64 (0)], [.int .i64 (1)]]], .int .i64 (1)⟩
def k133 : Memo := ⟨152, [.lst 1 [[.int .i64 (2)], [.int .i64 (3)], [.int .i64 (4)]], .lst 1 [[.int .i64 (0)], [.int .i64 (1)]]], .bool false⟩
def k134 : Memo := ⟨151, [.int .i64 (29)], .fresh 1 [[.int .i64 (0)], [.int .i64 (2)], [.int .i64 (3)], [.int .i64 (4)]]⟩
def k135 : Memo := ⟨227, [g17, .lst 1 [[.int .i64 (0)], [.int .i64 (1)]]], .int .i64 (1)⟩
def k136 : Memo := ⟨152, [g17, .lst 1 [[.int .i64 (0)], [.int .i64 (1)]]], .bool false⟩
def k137 : Memo := ⟨151, [.int .i64 (30)], .fresh 1 [[.int .i64 (1)], [.int .i64 (2)], [.int .i64 (3)], [.int .i64 (4)]]⟩
def k138 : Memo := ⟨227, [g18, .lst 1 [[.int .i64 (0)], [.int .i64 (1)]]], .int .i64 (1)⟩
def k139 : Memo := ⟨152, [g18, .lst 1 [[.int .i64 (0)], [.int .i64 (1)]]], .bool false⟩
def k140 : Memo := ⟨151, [.int .i64 (31)], .fresh 1 [[.int .i64 (0)], [.int .i64 (1)], [.int .i64 (2)], [.int .i64 (3)], [.int .i64 (4)]]⟩
def k141 : Memo := ⟨227, [g19, .lst 1 [[.int .i64 (0)], [.int .i64 (1)]]], .int .i64 (1)⟩
def k142 : Memo := ⟨152, [g19, .lst 1 [[.int .i64 (0)], [.int .i64 (1)]]], .bool false⟩
def k143 : Memo := ⟨151, [.int .i64 (32)], .fresh 1 [[.int .i64 (5)]]⟩
def k144 : Memo := ⟨227, [.lst 1 [[.int .i64 (5)]], .lst 1 [[.int .i64 (0)], [.int .i64 (1)]]], .int .i64 (1)⟩
def k145 : Memo := ⟨152, [.lst 1 [[.int .i64 (5)]], .lst 1 [[.int .i64 (0)], [.int .i64 (1)]]], .bool true⟩
def k146 : Memo := ⟨228, [g2, .int .i64 (32)], g10⟩
def k147 : Memo := ⟨228, [g1, .int .i64 (32)], g10⟩
def k148 : Memo := ⟨151, [.int .i64 (33)], .fresh 1 [[.int .i64 (0)], [.int .i64 (5)]]⟩
def k149 : Memo := ⟨227, [.lst 1 [[.int .i64 (0)], [.int .i64 (5)]], .lst 1 [[.int .i64 (0)], [.int .i64 (1)]]], .int .i64 (1)⟩
def k150 : Memo := ⟨152, [.lst 1 [[.int .i64 (0)], [.int .i64 (5)]], .lst 1 [[.int .i64 (0)], [.int .i64 (1)]]], .bool false⟩
def k151 : Memo := ⟨151, [.int .i64 (34)], .fresh 1 [[.int .i64 (1)], [.int .i64 (5)]]⟩
def k152 : Memo := ⟨227, [.lst 1 [[.int .i64 (1)], [.int .i64 (5)]], .lst 1 [[.int .i64 (0)], [.int .i64 (1)]]], .int .i64 (1)⟩
def k153 : Memo := ⟨152, [.lst 1 [[.int .i64 (1)], [.int .i64 (5)]], .lst 1 [[.int .i64 (0)], [.int .i64 (1)]]], .bool false⟩
def k154 : Memo := ⟨151, [.int .i64 (35)], .fresh 1 [[.int .i64 (0)], [.int .i64 (1)], [.int .i64 (5)]]⟩
def k155 : Memo := ⟨227, [.lst 1 [[.int .i64 (0)], [.int .i64 (1)], [.int .i64 (5)]], .lst 1 [[.int .i64 (0)], [.int .i64 (1)]]], .int .i64 (1)⟩
def k156 : Memo := ⟨152, [.lst 1 [[.int .i64 (0)], [.int .i64 (1)], [.int .i64 (5)]], .lst 1 [[.int .i64 (0)], [.int .i64 (1)]]], .bool false⟩
def k157 : Memo := ⟨151, [.int .i64 (36)], .fresh 1 [[.int .i64 (2)], [.int .i64 (5)]]⟩
def k158 : Memo := ⟨227, [.lst 1 [[.int .i64 (2)], [.int .i64 (5)]], .lst 1 [[.int .i64 (0)], [.int .i64 (1)]]], .int .i64 (1)⟩
def k159 : Memo := ⟨152, [.lst 1 [[.int .i64 (2)], [.int .i64 (5)]], .lst 1 [[.int .i64 (0)], [.int .i64 (1)]]], .bool false⟩
def k160 : Memo := ⟨151, [.int .i64 (37)], .fresh 1 [[.int .i64 (0)], [.int .i64 (2)], [.int .i64 (5)]]⟩
def k161 : Memo := ⟨227, [.lst 1 [[.int .i64 (0)], [.int .i64 (2)], [.int .i64 (5)]], .lst 1 [[.int .i64 (0)], [.int .i64 (1)]]], .int .i64 (1)⟩
def k162 : Memo := ⟨152, [.lst 1 [[.int .i64 (0)], [.int .i64 (2)], [.int .i64 (5)]], .lst 1 [[.int .i64 (0)], [.int .i64 (1)]]], .bool false⟩
def k163 : Memo := ⟨151, [.int .i64 (38)], .fresh 1 [[.int .i64 (1)], [.int .i64 (2)], [.int .i64 (5)]]⟩
def k164 : Memo := ⟨227, [.lst 1 [[.int .i64 (1)], [.int .i64 (2)], [.int .i64 (5)]], .lst 1 [[.int .i64 (0)], [.int .i64 (1)]]], .int .i64 (1)⟩
def k165 : Memo := ⟨152, [.lst 1 [[.int .i64 (1)], [.int .i64 (2)], [.int .i64 (5)]], .lst 1 [[.int .i64 (0)], [.int .i64 (1)]]], .bool false⟩
def k166 : Memo := ⟨151, [.int .i64 (39)], .fresh 1 [[.int .i64 (0)], [.int .i64 (1)], [.int .i64 (2)], [.int .i64 (5)]]⟩
def k167 : Memo := ⟨227, [g20, .lst 1 [[.int .i64 (0)], [.int .i64 (1)]]], .int .i64 (1)⟩
def k168 : Memo := ⟨152, [g20, .lst 1 [[.int .i64 (0)], [.int .i64 (1)]]], .bool false⟩
def k169 : Memo := ⟨151, [.int .i64 (40)], .fresh 1 [[.int .i64 (3)], [.int .i64 (5)]]⟩
def k170 : Memo := ⟨227, [.lst 1 [[.int .i64 (3)], [.int .i64 (5)]], .lst 1 [[.int .i64 (0)], [.int .i64 (1)]]], .int .i64 (1)⟩
def k171 : Memo := ⟨152, [.lst 1 [[.int .i64 (3)], [.int .i64 (5)]], .lst 1 [[.int .i64 (0)], [.int .i64 (1)]]], .bool false⟩
def k172 : Memo := ⟨151, [.int .i64 (41)], .fresh 1 [[.int .i64 (0)], [.int .i64 (3)], [.int .i64 (5)]]⟩
def k173 : Memo := ⟨227, [.lst 1 [[.int .i64 (0)], [.int .i64 (3)], [.int .i64 (5)]], .lst 1 [[.int .i64 (0)], [.int .i64 (1)]]], .int .i64 (1)⟩
def k174 : Memo := ⟨152, [.lst 1 [[.int .i64 (0)], [.int .i64 (3)], [.int .i64 (5)]], .lst 1 [[.int .i64 (0)], [.int .i64 (1)]]], .bool false⟩
def k175 : Memo := ⟨151, [.int .i64 (42)], .fresh 1 [[.int .i64 (1)], [.int .i64 (3)], [.int .i64 (5)]]⟩
def k176 : Memo := ⟨227, [.lst 1 [[.int .i64 (1)], [.int .i64 (3)], [.int .i64 (5)]], .lst 1 [[.int .i64 (0)], [.int .i64 (1)]]], .int .i64 (1)⟩
def k177 : Memo := ⟨152, [.lst 1 [[.int .i64 (1)], [.int .i64 (3)], [.int .i64 (5)]], .lst 1 [[.int .i64 (0)], [.int .i64 (1)]]], .bool false⟩
def k178 : Memo := ⟨151, [.int .i64 (43)], .fresh 1 [[.int .i64 (0)], [.int .i64 (1)], [.int .i64 (3)], [.int .i64 (5)]]⟩
def k179 : Memo := ⟨227, [g21, .lst 1 [[.int .i64 (0)], [.int .i64 (1)]]], .int .i64 (1)⟩
def k180 : Memo := ⟨152, [g21, .lst 1 [[.int .i64 (0)], [.int .i64 (1)]]], .bool false⟩
def k181 : Memo := ⟨151, [.int .i64 (44)], .fresh 1 [[.int .i64 (2)], [.int .i64 (3)], [.int .i64 (5)]]⟩
def k182 : Memo := ⟨227, [.lst 1 [[.int .i64 (2)], [.int .i64 (3)], [.int .i64 (5)]], .lst 1 [[.int .i64 (0)], [.int .i64 (1)]]], .int .i64 (1)⟩
def k183 : Memo := ⟨152, [.lst 1 [[.int .i64 (2)], [.int .i64 (3)], [.int .i64 (5)]], .lst 1 [[.int .i64 (0)], [.int .i64 (1)]]], .bool false⟩
def k184 : Memo := ⟨151, [.int .i64 (45)], .fresh 1 [[.int .i64 (0)], [.int .i64 (2)], [.int .i64 (3)], [.int .i64 (5)]]⟩
def k185 : Memo := ⟨227, [g22, .lst 1 [[.int .i64 (0)], [.int .i64 (1)]]], .int .i64 (1)⟩
def k186 : Memo := ⟨152, [g22, .lst 1 [[.int .i64 (0)], [.int .i64 (1)]]], .bool false⟩
def k187 : Memo := ⟨151, [.int .i64 (46)], .fresh 1 [[.int .i64 (1)], [.int .i64 (2)], [.int .i64 (3)], [.int .i64 (5)]]⟩
def k188 : Memo := ⟨227, [g23, .lst 1 [[.int .i64 (0)], [.int .i64 (1)]]], .int .i64 (1)⟩
def k189 : Memo := ⟨152, [g23, .lst 1 [[.int .i64 (0)], [.int .i64 (1)]]], .bool false⟩
def k190 : Memo := ⟨151, [.int .i64 (47)], .fresh 1 [[.int .i64 (0)], [.int .i64 (1)], [.int .i64 (2)], [.int .i64 (3)], [.int .i64 (5)]]⟩
def k191 : Memo := ⟨227, [g24, .lst 1 [[.int .i64 (0)], [.int .i64 (1)]]], .int .i64 (1)⟩
def k192 : Memo := ⟨152, [g24, .lst 1 [[.int .i64 (0)], [.int .i64 (1)]]], .bool false⟩
def k193 : Memo := ⟨151, [.int .i64 (48)], .fresh 1 [[.int .i64 (4)], [.int .i64 (5)]]⟩
def k194 : Memo := ⟨227, [.lst 1 [[.int .i64 (4)], [.int .i64 (5)]], .lst 1 [[.int .i64 (0)], [.int .i64 (1)]]], .int .i64 (1)⟩
def k195 : Memo := ⟨152, [.lst 1 [[.int .i64 (4)], [.int .i64 (5)]], .lst 1 [[.int .i64 (0)], [.int .i64 (1)]]], .bool false⟩
def k196 : Memo := ⟨151, [.int .i64 (49)], .fresh 1 [[.int .i64 (0)], [.int .i64 (4)], [.int .i64 (5)]]⟩
def k197 : Memo := ⟨227, [.lst 1 [[.int .i64 (0)], [.int .i64 (4)], [.int .i64 (5)]], .lst 1 [[.int .i64 (0)], [.int .i64 (1)]]], .int .i64 (1)⟩
def k198 : Memo := ⟨152, [.lst 1 [[.int .i64 (0)], [.int .i64 (4)], [.int .i64 (5)]], .lst 1 [[.int .i64 (0)], [.int .i64 (1)]]], .bool false⟩
def k199 : Memo := ⟨151, [.int .i64 (50)], .fresh 1 [[.int .i64 (1)], [.int .i64 (4)], [.int .i64 (5)]]⟩
def k200 : Memo := ⟨227, [.lst 1 [[.int .i64 (1)], [.int .i64 (4)], [.int .i64 (5)]], .lst 1 [[.int .i64 (0)], [.int .i64 (1)]]], .int .i64 (1)⟩
def k201 : Memo := ⟨152, [.lst 1 [[.int .i64 (1)], [.int .i64 (4)], [.int .i64 (5)]], .lst 1 [[.int .i64 (0)], [.int .i64 (1)]]], .bool false⟩
def k202 : Memo := ⟨151, [.int .i64 (51)], .fresh 1 [[.int .i64 (0)], [.int .i64 (1)], [.int .i64 (4)], [.int .i64 (5)]]⟩
def k203 : Memo := ⟨227, [g25, .lst 1 [[.int .i64 (0)], [.int .i64 (1)]]], .int .i64 (1)⟩
def k204 : Memo := ⟨152, [g25, .lst 1 [[.int .i64 (0)], [.int .i64 (1)]]], .bool false⟩
def k205 : Memo := ⟨151, [.int .i64 (52)], .fresh 1 [[.int .i64 (2)], [.int .i64 (4)], [.int .i64 (5)]]⟩
def k206 : Memo := ⟨227, [.lst 1 [[.int .i64 (2)], [.int .i64 (4)], [.int .i64 (5)]], .lst 1 [[.int .i64 (0)], [.int .i64 (1)]]], .int .i64 (1)⟩
def k207 : Memo := ⟨152, [.lst 1 [[.int .i64 (2)], [.int .i64 (4)], [.int .i64 (5)]], .lst 1 [[.int .i64 (0)], [.int .i64 (1)]]], .bool false⟩
def k208 : Memo := ⟨151, [.int .i64 (53)], .fresh 1 [[.int .i64 (0)], [.int .i64 (2)], [.int .i64 (4)], [.int .i64 (5)]]⟩
def k209 : Memo := ⟨227, [g26, .lst 1 [[.int .i64 (0)], [.int .i64 (1)]]], .int .i64 (1)⟩
def k210 : Memo := ⟨152, [g26, .lst 1 [[.int .i64 (0)], [.int .i64 (1)]]], .bool false⟩
def k211 : Memo := ⟨151, [.int .i64 (54)], .fresh 1 [[.int .i64 (1)], [.int .i64 (2)], [.int .i64 (4)], [.int .i64 (5)]]⟩
def k212 : Memo := ⟨227, [g27, .lst 1 [[.int .i64 (0)], [.int .i64 (1)]]], .int .i64 (1)⟩
def k213 : Memo := ⟨152, [g27, .lst 1 [[.int .i64 (0)], [.int .i64 (1)]]], .bool false⟩
def k214 : Memo := ⟨151, [.int .i64 (55)], .fresh 1 [[.int .i64 (0)], [.int .i64 (1)], [.int .i64 (2)], [.int .i64 (4)], [.int .i64 (5)]]⟩
def k215 : Memo := ⟨227, [g28, .lst 1 [[.int .i64 (0)], [.int .i64 (1)]]], .int .i64 (1)⟩
def k216 : Memo := ⟨152, [g28, .lst 1 [[.int .i64 (0)], [.int .i64 (1)]]], .bool false⟩
def k217 : Memo := ⟨151, [.int .i64 (56)], .fresh 1 [[.int .i64 (3)], [.int .i64 (4)], [.int .i64 (5)]]⟩
def k218 : Memo := ⟨227, [.lst 1 [[.int .i64 (3)], [.int .i64 (4)], [.int .i64 (5)]], .lst 1 [[.int .i64 (0)], [.int .i64 (1)]]], .int .i64 (1)⟩
def k219 : Memo := ⟨152, [.lst 1 [[.int .i64 (3)], [.int .i64 (4)], [.int .i64 (5)]], .lst 1 [[.int .i64 (0)], [.int .i64 (1)]]], .bool false⟩
def k220 : Memo := ⟨151, [.int .i64 (57)], .fresh 1 [[.int .i64 (0)], [.int .i64 (3)], [.int .i64 (4)], [.int .i64 (5)]]⟩
def k221 : Memo := ⟨227, [g29, .lst 1 [[.int .i64 (0)], [.int .i64 (1)]]], .int .i64 (1)⟩
def k222 : Memo := ⟨152, [g29, .lst 1 [[.int .i64 (0)], [.int .i64 (1)]]], .bool false⟩
def k223 : Memo := ⟨151, [.int .i64 (58)], .fresh 1 [[.int .i64 (1)], [.int .i64 (3)], [.int .i64 (4)], [.int .i64 (5)]]⟩
def k224 : Memo := ⟨227, [g30, .lst 1 [[.int .i64 (0)], [.int .i64 (1)]]], .int .i64 (1)⟩
def k225 : Memo := ⟨152, [g30, .lst 1 [[.int .i64 (0)], [.int .i64 (1)]]], .bool false⟩
def k226 : Memo := ⟨151, [.int .i64 (59)], .fresh 1 [[.int .i64 (0)], [.int .i64 (1)], [.int .i64 (3)], [.int .i64 (4)], [.int .i64 (5)]]⟩
def k227 : Memo := ⟨227, [g31, .lst 1 [[.int .i64 (0)], [.int .i64 (1)]]], .int .i64 (1)⟩
def k228 : Memo := ⟨152, [g31, .lst 1 [[.int .i64 (0)], [.int .i64 (1)]]], .bool false⟩
def k229 : Memo := ⟨151, [.int .i64 (60)], .fresh 1 [[.int .i64 (2)], [.int .i64 (3)], [.int .i64 (4)], [.int .i64 (5)]]⟩
def k230 : Memo := ⟨227, [g32, .lst 1 [[.int .i64 (0)], [.int .i64 (1)]]], .int .i64 (1)⟩
def k231 : Memo := ⟨152, [g32, .lst 1 [[.int .i64 (0)], [.int .i64 (1)]]], .bool false⟩
def k232 : Memo := ⟨151, [.int .i64 (61)], .fresh 1 [[.int .i64 (0)], [.int .i64 (2)], [.int .i64 (3)], [.int .i64 (4)], [.int .i64 (5)]]⟩
def k233 : Memo := ⟨227, [g33, .lst 1 [[.int .i64 (0)], [.int .i64 (1)]]], .int .i64 (1)⟩
def k234 : Memo := ⟨152, [g33, .lst 1 [[.int .i64 (0)], [.int .i64 (1)]]], .bool false⟩
def k235 : Memo := ⟨151, [.int .i64 (62)], .fresh 1 [[.int .i64 (1)], [.int .i64 (2)], [.int .i64 (3)], [.int .i64 (4)], [.int .i64 (5)]]⟩
def k236 : Memo := ⟨227, [g34, .lst 1 [[.int .i64 (0)], [.int .i64 (1)]]], .int .i64 (1)⟩
def k237 : Memo := ⟨152, [g34, .lst 1 [[.int .i64 (0)], [.int .i64 (1)]]], .bool false⟩
def k238 : Memo := ⟨151, [.int .i64 (63)], .fresh 1 [[.int .i64 (0)], [.int .i64 (1)], [.int .i64 (2)], [.int .i64 (3)], [.int .i64 (4)], [.int .i64 (5)]]⟩
def k239 : Memo := ⟨227, [g35, .lst 1 [[.int .i64 (0)], [.int .i64 (1)]]], .int .i64 (1)⟩
def k240 : Memo := ⟨152, [g35, .lst 1 [[.int .i64 (0)], [.int .i64 (1)]]], .bool false⟩
def k241 : Memo := ⟨151, [.int .i64 (64)], .fresh 1 [[.int .i64 (6)]]⟩
def k242 : Memo := ⟨227, [.lst 1 [[.int .i64 (6)]], .lst 1 [[.int .i64 (0)], [.int .i64 (1)]]], .int .i64 (1)⟩
def k243 : Memo := ⟨152, [.lst 1 [[.int .i64 (6)]], .lst 1 [[.int .i64 (0)], [.int .i64 (1)]]], .bool true⟩
def k244 : Memo := ⟨228, [g2, .int .i64 (64)], g10⟩
def k245 : Memo := ⟨228, [g1, .int .i64 (64)], g10⟩
def k246 : Memo := ⟨151, [.int .i64 (65)], .fresh 1 [[.int .i64 (0)], [.int .i64 (6)]]⟩
def k247 : Memo := ⟨227, [.lst 1 [[.int .i64 (0)], [.int .i64 (6)]], .lst 1 [[.int .i64 (0)], [.int .i64 (1)]]], .int .i64 (1)⟩
def k248 : Memo := ⟨152, [.lst 1 [[.int .i64 (0)], [.int .i64 (6)]], .lst 1 [[.int .i64 (0)], [.int .i64 (1)]]], .bool false⟩
def k249 : Memo := ⟨151, [.int .i64 (66)], .fresh 1 [[.int .i64 (1)], [.int .i64 (6)]]⟩
def k250 : Memo := ⟨227, [.lst 1 [[.int .i64 (1)], [.int .i64 (6)]], .lst 1 [[.int .i64 (0)], [.int .i64 (1)]]], .int .i64 (1)⟩
def k251 : Memo := ⟨152, [.lst 1 [[.int .i64 (1)], [.int .i64 (6)]], .lst 1 [[.int .i64 (0)], [.int .i64 (1)]]], .bool false⟩
def k252 : Memo := ⟨151, [.int .i64 (67)], .fresh 1 [[.int .i64 (0)], [.int .i64 (1)], [.int .i64 (6)]]⟩
def k253 : Memo := ⟨227, [.lst 1 [[.int .i64 (0)], [.int .i64 (1)], [.int .i64 (6)]], .lst 1 [[.int .i64 (0)], [.int .i64 (1)]]], .int .i64 (1)⟩
def k254 : Memo := ⟨152, [.lst 1 [[.int .i64 (0)], [.int .i64 (1)], [.int .i64 (6)]], .lst 1 [[.int .i64 (0)], [.int .i64 (1)]]], .bool false⟩
def k255 : Memo := ⟨151, [.int .i64 (68)], .fresh 1 [[.int .i64 (2)], [.int .i64 (6)]]⟩
def k256 : Memo := ⟨227, [.lst 1 [[.int .i64 (2)], [.int .i64 (6)]], .lst 1 [[.int .i64 (0)], [.int .i64 (1)]]], .int .i64 (1)⟩
def k257 : Memo := ⟨152, [.lst 1 [[.int .i64 (2)], [.int .i64 (6)]], .lst 1 [[.int .i64 (0)], [.int .i64 (1)]]], .bool false⟩
def k258 : Memo := ⟨151, [.int .i64 (69)], .fresh 1 [[.int .i64 (0)], [.int .i64 (2)], [.int .i64 (6)]]⟩
def k259 : Memo := ⟨227, [.lst 1 [[.int .i64 (0)], [.int .i64 (2)], [.int .i64 (6)]], .lst 1 [[.int .i64 (0)], [.int .i64 (1)]]], .int .i64 (1)⟩
def k260 : Memo := ⟨152, [.lst 1 [[.int .i64 (0)], [.int .i64 (2)], [.int .i64 (6)]], .lst 1 [[.int .i64 (0)], [.int .i64 (1)]]], .bool false⟩
def k261 : Memo := ⟨151, [.int .i64 (70)], .fresh 1 [[.int .i64 (1)], [.int .i64 (2)], [.int .i64 (6)]]⟩
def k262 : Memo := ⟨227, [.lst 1 [[.int .i64 (1)], [.int .i64 (2)], [.int .i64 (6)]], .lst 1 [[.int .i64 (0)], [.int .i64 (1)]]], .int .i64 (1)⟩
def k263 : Memo := ⟨152, [.lst 1 [[.int .i64 (1)], [.int .i64 (2)], [.int .i64 (6)]], .lst 1 [[.int .i64 (0)], [.int .i64 (1)]]], .bool false⟩
def k264 : Memo := ⟨151, [.int .i64 (71)], .fresh 1 [[.int .i64 (0)], [.int .i64 (1)], [.int .i64 (2)], [.int .i64 (6)]]⟩
def k265 : Memo := ⟨227, [g36, .lst 1 [[.int .i64 (0)], [.int .i64 (1)]]], .int .i64 (1)⟩
def k266 : Memo := ⟨152, [g36, .lst 1 [[.int .i64 (0)], [.int .i64 (1)]]], .bool false⟩
def k267 : Memo := ⟨151, [.int .i64 (72)], .fresh 1 [[.int .i64 (3)], [.int .i64 (6)]]⟩
def k268 : Memo := ⟨227, [.lst 1 [[.int .i64 (3)], [.int .i64 (6)]], .lst 1 [[.int .i64 (0)], [.int .i64 (1)]]], .int .i64 (1)⟩
def k269 : Memo := ⟨152, [.lst 1 [[.int .i64 (3)], [.int .i64 (6)]], .lst 1 [[.int .i64 (0)], [.int .i64 (1)]]], .bool false⟩
def k270 : Memo := ⟨151, [.int .i64 (73)], .fresh 1 [[.int .i64 (0)], [.int .i64 (3)], [.int .i64 (6)]]⟩
def k271 : Memo := ⟨227, [.lst 1 [[.int .i64 (0)], [.int .i64 (3)], [.int .i64 (6)]], .lst 1 [[.int .i64 (0)], [.int .i64 (1)]]], .int .i64 (1)⟩
def k272 : Memo := ⟨152, [.lst 1 [[.int .i64 (0)], [.int .i64 (3)], [.int .i64 (6)]], .lst 1 [[.int .i64 (0)], [.int .i64 (1)]]], .bool false⟩
def k273 : Memo := ⟨151, [.int .i64 (74)], .fresh 1 [[.int .i64 (1)], [.int .i64 (3)], [.int .i64 (6)]]⟩
theorem ok92 : PuOK prog k92.f k92.args k92.t := known (L := (.one k91 .nil)) (mO ok91 mN) (by kernel_rfl)
theorem ok93 : PuOK prog k93.f k93.args k93.t := known (L := .nil) mN (by kernel_rfl)
theorem ok94 : PuOK prog k94.f k94.args k94.t := known (L := .nil) mN (by kernel_rfl)
theorem ok95 : PuOK prog k95.f k95.args k95.t := known (L := (.one k94 .nil)) (mO ok94 mN) (by kernel_rfl)
theorem ok96 : PuOK prog k96.f k96.args k96.t := known (L := .nil) mN (by kernel_rfl)
theorem ok97 : PuOK prog k97.f k97.args k97.t := known (L := .nil) mN (by kernel_rfl)
theorem ok98 : PuOK prog k98.f k98.args k98.t := known (L := .nil) mN (by kernel_rfl)
theorem ok99 : PuOK prog k99.f k99.args k99.t := known (L := .nil) mN (by kernel_rfl)
theorem ok100 : PuOK prog k100.f k100.args k100.t := known (L := (.one k99 .nil)) (mO ok99 mN) (by kernel_rfl)
theorem ok101 : PuOK prog k101.f k101.args k101.t := known (L := .nil) mN (by kernel_rfl)
theorem ok102 : PuOK prog k102.f k102.args k102.t := known (L := .nil) mN (by kernel_rfl)
theorem ok103 : PuOK prog k103.f k103.args k103.t := known (L := (.one k102 .nil)) (mO ok102 mN) (by kernel_rfl)
theorem ok104 : PuOK prog k104.f k104.args k104.t := known (L := .nil) mN (by kernel_rfl)
theorem ok105 : PuOK prog k105.f k105.args k105.t := known (L := .nil) mN (by kernel_rfl)
theorem ok106 : PuOK prog k106.f k106.args k106.t := known (L := (.one k105 .nil)) (mO ok105 mN) (by kernel_rfl)
theorem ok107 : PuOK prog k107.f k107.args k107.t := known (L := .nil) mN (by kernel_rfl)
theorem ok108 : PuOK prog k108.f k108.args k108.t := known (L := .nil) mN (by kernel_rfl)
theorem ok109 : PuOK prog k109.f k109.args k109.t := known (L := (.one k108 .nil)) (mO ok108 mN) (by kernel_rfl)
theorem ok110 : PuOK prog k110.f k110.args k110.t := known (L := .nil) mN (by kernel_rfl)
theorem ok111 : PuOK prog k111.f k111.args k111.t := known (L := .nil) mN (by kernel_rfl)
theorem ok112 : PuOK prog k112.f k112.args k112.t := known (L := (.one k111 .nil)) (mO ok111 mN) (by kernel_rfl)
theorem ok113 : PuOK prog k113.f k113.args k113.t := known (L := .nil) mN (by kernel_rfl)
theorem ok114 : PuOK prog k114.f k114.args k114.t := known (L := .nil) mN (by kernel_rfl)
theorem ok115 : PuOK prog k115.f k115.args k115.t := known (L := (.one k114 .nil)) (mO ok114 mN) (by kernel_rfl)
theorem ok116 : PuOK prog k116.f k116.args k116.t := known (L := .nil) mN (by kernel_rfl)
theorem ok117 : PuOK prog k117.f k117.args k117.t := known (L := .nil) mN (by kernel_rfl)
theorem ok118 : PuOK prog k118.f k118.args k118.t := known (L := (.one k117 .nil)) (mO ok117 mN) (by kernel_rfl)
theorem ok119 : PuOK prog k119.f k119.args k119.t := known (L := .nil) mN (by kernel_rfl)
theorem ok120 : PuOK prog k120.f k120.args k120.t := known (L := .nil) mN (by kernel_rfl)
theorem ok121 : PuOK prog k121.f k121.args k121.t := known (L := (.one k120 .nil)) (mO ok120 mN) (by kernel_rfl)
theorem ok122 : PuOK prog k122.f k122.args k122.t := known (L := .nil) mN (by kernel_rfl)
theorem ok123 : PuOK prog k123.f k123.args k123.t := known (L := .nil) mN (by kernel_rfl)
theorem ok124 : PuOK prog k124.f k124.args k124.t := known (L := (.one k123 .nil)) (mO ok123 mN) (by kernel_rfl)
theorem ok125 : PuOK prog k125.f k125.args k125.t := known (L := .nil) mN (by kernel_rfl)
theorem ok126 : PuOK prog k126.f k126.args k126.t := known (L := .nil) mN (by kernel_rfl)
theorem ok127 : PuOK prog k127.f k127.args k127.t := known (L := (.one k126 .nil)) (mO ok126 mN) (by kernel_rfl)
theorem ok128 : PuOK prog k128.f k128.args k128.t := known (L := .nil) mN (by kernel_rfl)
theorem ok129 : PuOK prog k129.f k129.args k129.t := known (L := .nil) mN (by kernel_rfl)
theorem ok130 : PuOK prog k130.f k130.args k130.t := known (L := (.one k129 .nil)) (mO ok129 mN) (by kernel_rfl)
theorem ok131 : PuOK prog k131.f k131.args k131.t := known (L := .nil) mN (by kernel_rfl)
theorem ok132 : PuOK prog k132.f k132.args k132.t := known (L := .nil) mN (by kernel_rfl)
theorem ok133 : PuOK prog k133.f k133.args k133.t := known (L := (.one k132 .nil)) (mO ok132 mN) (by kernel_rfl)
theorem ok134 : PuOK prog k134.f k134.args k134.t := known (L := .nil) mN (by kernel_rfl)
theorem ok135 : PuOK prog k135.f k135.args k135.t := known (L := .nil) mN (by kernel_rfl)
theorem ok136 : PuOK prog k136.f k136.args k136.t := known (L := (.one k135 .nil)) (mO ok135 mN) (by kernel_rfl)
theorem ok137 : PuOK prog k137.f k137.args k137.t := known (L := .nil) mN (by kernel_rfl)
theorem ok138 : PuOK prog k138.f k138.args k138.t := known (L := .nil) mN (by kernel_rfl)
theorem ok139 : PuOK prog k139.f k139.args k139.t := known (L := (.one k138 .nil)) (mO ok138 mN) (by kernel_rfl)
theorem ok140 : PuOK prog k140.f k140.args k140.t := known (L := .nil) mN (by kernel_rfl)
theorem ok141 : PuOK prog k141.f k141.args k141.t := known (L := .nil) mN (by kernel_rfl)
theorem ok142 : PuOK prog k142.f k142.args k142.t := known (L := (.one k141 .nil)) (mO ok141 mN) (by kernel_rfl)
theorem ok143 : PuOK prog k143.f k143.args k143.t := known (L := .nil) mN (by kernel_rfl)
theorem ok144 : PuOK prog k144.f k144.args k144.t := known (L := .nil) mN (by kernel_rfl)
theorem ok145 : PuOK prog k145.f k145.args k145.t := known (L := (.one k144 .nil)) (mO ok144 mN) (by kernel_rfl)
theorem ok146 : PuOK prog k146.f k146.args k146.t := known (L := .nil) mN (by kernel_rfl)
theorem ok147 : PuOK prog k147.f k147.args k147.t := known (L := .nil) mN (by kernel_rfl)
theorem ok148 : PuOK prog k148.f k148.args k148.t := known (L := .nil) mN (by kernel_rfl)
theorem ok149 : PuOK prog k149.f k149.args k149.t := known (L := .nil) mN (by kernel_rfl)
theorem ok150 : PuOK prog k150.f k150.args k150.t := known (L := (.one k149 .nil)) (mO ok149 mN) (by kernel_rfl)
theorem ok151 : PuOK prog k151.f k151.args k151.t := known (L := .nil) mN (by kernel_rfl)
theorem ok152 : PuOK prog k152.f k152.args k152.t := known (L := .nil) mN (by kernel_rfl)
theorem ok153 : PuOK prog k153.f k153.args k153.t := known (L := (.one k152 .nil)) (mO ok152 mN) (by kernel_rfl)
theorem ok154 : PuOK prog k154.f k154.args k154.t := known (L := .nil) mN (by kernel_rfl)
theorem ok155 : PuOK prog k155.f k155.args k155.t := known (L := .nil) mN (by kernel_rfl)
theorem ok156 : PuOK prog k156.f k156.args k156.t := known (L := (.one k155 .nil)) (mO ok155 mN) (by kernel_rfl)
theorem ok157 : PuOK prog k157.f k157.args k157.t := known (L := .nil) mN (by kernel_rfl)
theorem ok158 : PuOK prog k158.f k158.args k158.t := known (L := .nil) mN (by kernel_rfl)
theorem ok159 : PuOK prog k159.f k159.args k159.t := known (L := (.one k158 .nil)) (mO ok158 mN) (by kernel_rfl)
theorem ok160 : PuOK prog k160.f k160.args k160.t := known (L := .nil) mN (by kernel_rfl)
theorem ok161 : PuOK prog k161.f k161.args k161.t := known (L := .nil) mN (by kernel_rfl)
theorem ok162 : PuOK prog k162.f k162.args k162.t := known (L := (.one k161 .nil)) (mO ok161 mN) (by kernel_rfl)
theorem ok163 : PuOK prog k163.f k163.args k163.t := known (L := .nil) mN (by kernel_rfl)
theorem ok164 : PuOK prog k164.f k164.args k164.t := known (L := .nil) mN (by kernel_rfl)
theorem ok165 : PuOK prog k165.f k165.args k165.t := known (L := (.one k164 .nil)) (mO ok164 mN) (by kernel_rfl)
theorem ok166 : PuOK prog k166.f k166.args k166.t := known (L := .nil) mN (by kernel_rfl)
theorem ok167 : PuOK prog k167.f k167.args k167.t := known (L := .nil) mN (by kernel_rfl)
theorem ok168 : PuOK prog k168.f k168.args k168.t := known (L := (.one k167 .nil)) (mO ok167 mN) (by kernel_rfl)
theorem ok169 : PuOK prog k169.f k169.args k169.t := known (L := .nil) mN (by kernel_rfl)
theorem ok170 : PuOK prog k170.f k170.args k170.t := known (L := .nil) mN (by kernel_rfl)
theorem ok171 : PuOK prog k171.f k171.args k171.t := known (L := (.one k170 .nil)) (mO ok170 mN) (by kernel_rfl)
theorem ok172 : PuOK prog k172.f k172.args k172.t := known (L := .nil) mN (by kernel_rfl)
theorem ok173 : PuOK prog k173.f k173.args k173.t := known (L := .nil) mN (by kernel_rfl)
theorem ok174 : PuOK prog k174.f k174.args k174.t := known (L := (.one k173 .nil)) (mO ok173 mN) (by kernel_rfl)
theorem ok175 : PuOK prog k175.f k175.args k175.t := known (L := .nil) mN (by kernel_rfl)
theorem ok176 : PuOK prog k176.f k176.args k176.t := known (L := .nil) mN (by kernel_rfl)
theorem ok177 : PuOK prog k177.f k177.args k177.t := known (L := (.one k176 .nil)) (mO ok176 mN) (by kernel_rfl)
theorem ok178 : PuOK prog k178.f k178.args k178.t := known (L := .nil) mN (by kernel_rfl)
theorem ok179 : PuOK prog k179.f k179.args k179.t := known (L := .nil) mN (by kernel_rfl)
theorem ok180 : PuOK prog k180.f k180.args k180.t := known (L := (.one k179 .nil)) (mO ok179 mN) (by kernel_rfl)
theorem ok181 : PuOK prog k181.f k181.args k181.t := known (L := .nil) mN (by kernel_rfl)
theorem ok182 : PuOK prog k182.f k182.args k182.t := known (L := .nil) mN (by kernel_rfl)
theorem ok183 : PuOK prog k183.f k183.args k183.t := known (L := (.one k182 .nil)) (mO ok182 mN) (by kernel_rfl)
theorem ok184 : PuOK prog k184.f k184.args k184.t := known (L := .nil) mN (by kernel_rfl)
theorem ok185 : PuOK prog k185.f k185.args k185.t := known (L := .nil) mN (by kernel_rfl)
theorem ok186 : PuOK prog k186.f k186.args k186.t := known (L := (.one k185 .nil)) (mO ok185 mN) (by kernel_rfl)
theorem ok187 : PuOK prog k187.f k187.args k187.t := known (L := .nil) mN (by kernel_rfl)
theorem ok188 : PuOK prog k188.f k188.args k188.t := known (L := .nil) mN (by kernel_rfl)
theorem ok189 : PuOK prog k189.f k189.args k189.t := known (L := (.one k188 .nil)) (mO ok188 mN) (by kernel_rfl)
theorem ok190 : PuOK prog k190.f k190.args k190.t := known (L := .nil) mN (by kernel_rfl)
theorem ok191 : PuOK prog k191.f k191.args k191.t := known (L := .nil) mN (by kernel_rfl)
theorem ok192 : PuOK prog k192.f k192.args k192.t := known (L := (.one k191 .nil)) (mO ok191 mN) (by kernel_rfl)
theorem ok193 : PuOK prog k193.f k193.args k193.t := known (L := .nil) mN (by kernel_rfl)
theorem ok194 : PuOK prog k194.f k194.args k194.t := known (L := .nil) mN (by kernel_rfl)
theorem ok195 : PuOK prog k195.f k195.args k195.t := known (L := (.one k194 .nil)) (mO ok194 mN) (by kernel_rfl)
theorem ok196 : PuOK prog k196.f k196.args k196.t := known (L := .nil) mN (by kernel_rfl)
theorem ok197 : PuOK prog k197.f k197.args k197.t := known (L := .nil) mN (by kernel_rfl)
theorem ok198 : PuOK prog k198.f k198.args k198.t := known (L := (.one k197 .nil)) (mO ok197 mN) (by kernel_rfl)
theorem ok199 : PuOK prog k199.f k199.args k199.t := known (L := .nil) mN (by kernel_rfl)
theorem ok200 : PuOK prog k200.f k200.args k200.t := known (L := .nil) mN (by kernel_rfl)
theorem ok201 : PuOK prog k201.f k201.args k201.t := known (L := (.one k200 .nil)) (mO ok200 mN) (by kernel_rfl)
theorem ok202 : PuOK prog k202.f k202.args k202.t := known (L := .nil) mN (by kernel_rfl)
theorem ok203 : PuOK prog k203.f k203.args k203.t := known (L := .nil) mN (by kernel_rfl)
theorem ok204 : PuOK prog k204.f k204.args k204.t := known (L := (.one k203 .nil)) (mO ok203 mN) (by kernel_rfl)
theorem ok205 : PuOK prog k205.f k205.args k205.t := known (L := .nil) mN (by kernel_rfl)
theorem ok206 : PuOK prog k206.f k206.args k206.t := known (L := .nil) mN (by kernel_rfl)
theorem ok207 : PuOK prog k207.f k207.args k207.t := known (L := (.one k206 .nil)) (mO ok206 mN) (by kernel_rfl)
theorem ok208 : PuOK prog k208.f k208.args k208.t := known (L := .nil) mN (by kernel_rfl)
theorem ok209 : PuOK prog k209.f k209.args k209.t := known (L := .nil) mN (by kernel_rfl)
theorem ok210 : PuOK prog k210.f k210.args k210.t := known (L := (.one k209 .nil)) (mO ok209 mN) (by kernel_rfl)
theorem ok211 : PuOK prog k211.f k211.args k211.t := known (L := .nil) mN (by kernel_rfl)
theorem ok212 : PuOK prog k212.f k212.args k212.t := known (L := .nil) mN (by kernel_rfl)
theorem ok213 : PuOK prog k213.f k213.args k213.t := known (L := (.one k212 .nil)) (mO ok212 mN) (by kernel_rfl)
theorem ok214 : PuOK prog k214.f k214.args k214.t := known (L := .nil) mN (by kernel_rfl)
theorem ok215 : PuOK prog k215.f k215.args k215.t := known (L := .nil) mN (by kernel_rfl)
theorem ok216 : PuOK prog k216.f k216.args k216.t := known (L := (.one k215 .nil)) (mO ok215 mN) (by kernel_rfl)
theorem ok217 : PuOK prog k217.f k217.args k217.t := known (L := .nil) mN (by kernel_rfl)
theorem ok218 : PuOK prog k218.f k218.args k218.t := known (L := .nil) mN (by kernel_rfl)
theorem ok219 : PuOK prog k219.f k219.args k219.t := known (L := (.one k218 .nil)) (mO ok218 mN) (by kernel_rfl)
theorem ok220 : PuOK prog k220.f k220.args k220.t := known (L := .nil) mN (by kernel_rfl)
theorem ok221 : PuOK prog k221.f k221.args k221.t := known (L := .nil) mN (by kernel_rfl)
theorem ok222 : PuOK prog k222.f k222.args k222.t := known (L := (.one k221 .nil)) (mO ok221 mN) (by kernel_rfl)
theorem ok223 : PuOK prog k223.f k223.args k223.t := known (L := .nil) mN (by kernel_rfl)
theorem ok224 : PuOK prog k224.f k224.args k224.t := known (L := .nil) mN (by kernel_rfl)
theorem ok225 : PuOK prog k225.f k225.args k225.t := known (L := (.one k224 .nil)) (mO ok224 mN) (by kernel_rfl)
theorem ok226 : PuOK prog k226.f k226.args k226.t := known (L := .nil) mN (by kernel_rfl)
theorem ok227 : PuOK prog k227.f k227.args k227.t := known (L := .nil) mN (by kernel_rfl)
theorem ok228 : PuOK prog k228.f k228.args k228.t := known (L := (.one k227 .nil)) (mO ok227 mN) (by kernel_rfl)
theorem ok229 : PuOK prog k229.f k229.args k229.t := known (L := .nil) mN (by kernel_rfl)
theorem ok230 : PuOK prog k230.f k230.args k230.t := known (L := .nil) mN (by kernel_rfl)
theorem ok231 : PuOK prog k231.f k231.args k231.t := known (L := (.one k230 .nil)) (mO ok230 mN) (by kernel_rfl)
theorem ok232 : PuOK prog k232.f k232.args k232.t := known (L := .nil) mN (by kernel_rfl)
theorem ok233 : PuOK prog k233.f k233.args k233.t := known (L := .nil) mN (by kernel_rfl)
theorem ok234 : PuOK prog k234.f k234.args k234.t := known (L := (.one k233 .nil)) (mO ok233 mN) (by kernel_rfl)
theorem ok235 : PuOK prog k235.f k235.args k235.t := known (L := .nil) mN (by kernel_rfl)
theorem ok236 : PuOK prog k236.f k236.args k236.t := known (L := .nil) mN (by kernel_rfl)
theorem ok237 : PuOK prog k237.f k237.args k237.t := known (L := (.one k236 .nil)) (mO ok236 mN) (by kernel_rfl)
theorem ok238 : PuOK prog k238.f k238.args k238.t := known (L := .nil) mN (by kernel_rfl)
theorem ok239 : PuOK prog k239.f k239.args k239.t := known (L := .nil) mN (by kernel_rfl)
theorem ok240 : PuOK prog k240.f k240.args k240.t := known (L := (.one k239 .nil)) (mO ok239 mN) (by kernel_rfl)
theorem ok241 : PuOK prog k241.f k241.args k241.t := known (L := .nil) mN (by kernel_rfl)
theorem ok242 : PuOK prog k242.f k242.args k242.t := known (L := .nil) mN (by kernel_rfl)
theorem ok243 : PuOK prog k243.f k243.args k243.t := known (L := (.one k242 .nil)) (mO ok242 mN) (by kernel_rfl)
theorem ok244 : PuOK prog k244.f k244.args k244.t := known (L := .nil) mN (by kernel_rfl)
theorem ok245 : PuOK prog k245.f k245.args k245.t := known (L := .nil) mN (by kernel_rfl)
theorem ok246 : PuOK prog k246.f k246.args k246.t := known (L := .nil) mN (by kernel_rfl)
theorem ok247 : PuOK prog k247.f k247.args k247.t := known (L := .nil) mN (by kernel_rfl)
theorem ok248 : PuOK prog k248.f k248.args k248.t := known (L := (.one k247 .nil)) (mO ok247 mN) (by kernel_rfl)
theorem ok249 : PuOK prog k249.f k249.args k249.t := known (L := .nil) mN (by kernel_rfl)
theorem ok250 : PuOK prog k250.f k250.args k250.t := known (L := .nil) mN (by kernel_rfl)
theorem ok251 : PuOK prog k251.f k251.args k251.t := known (L := (.one k250 .nil)) (mO ok250 mN) (by kernel_rfl)
theorem ok252 : PuOK prog k252.f k252.args k252.t := known (L := .nil) mN (by kernel_rfl)
theorem ok253 : PuOK prog k253.f k253.args k253.t := known (L := .nil) mN (by kernel_rfl)
theorem ok254 : PuOK prog k254.f k254.args k254.t := known (L := (.one k253 .nil)) (mO ok253 mN) (by kernel_rfl)
theorem ok255 : PuOK prog k255.f k255.args k255.t := known (L := .nil) mN (by kernel_rfl)
theorem ok256 : PuOK prog k256.f k256.args k256.t := known (L := .nil) mN (by kernel_rfl)
theorem ok257 : PuOK prog k257.f k257.args k257.t := known (L := (.one k256 .nil)) (mO ok256 mN) (by kernel_rfl)
theorem ok258 : PuOK prog k258.f k258.args k258.t := known (L := .nil) mN (by kernel_rfl)
theorem ok259 : PuOK prog k259.f k259.args k259.t := known (L := .nil) mN (by kernel_rfl)
theorem ok260 : PuOK prog k260.f k260.args k260.t := known (L := (.one k259 .nil)) (mO ok259 mN) (by kernel_rfl)
theorem ok261 : PuOK prog k261.f k261.args k261.t := known (L := .nil) mN (by kernel_rfl)
theorem ok262 : PuOK prog k262.f k262.args k262.t := known (L := .nil) mN (by kernel_rfl)
theorem ok263 : PuOK prog k263.f k263.args k263.t := known (L := (.one k262 .nil)) (mO ok262 mN) (by kernel_rfl)
theorem ok264 : PuOK prog k264.f k264.args k264.t := known (L := .nil) mN (by kernel_rfl)
theorem ok265 : PuOK prog k265.f k265.args k265.t := known (L := .nil) mN (by kernel_rfl)
theorem ok266 : PuOK prog k266.f k266.args k266.t := known (L := (.one k265 .nil)) (mO ok265 mN) (by kernel_rfl)
theorem ok267 : PuOK prog k267.f k267.args k267.t := known (L := .nil) mN (by kernel_rfl)
theorem ok268 : PuOK prog k268.f k268.args k268.t := known (L := .nil) mN (by kernel_rfl)
theorem ok269 : PuOK prog k269.f k269.args k269.t := known (L := (.one k268 .nil)) (mO ok268 mN) (by kernel_rfl)
theorem ok270 : PuOK prog k270.f k270.args k270.t := known (L := .nil) mN (by kernel_rfl)
theorem ok271 : PuOK prog k271.f k271.args k271.t := known (L := .nil) mN (by kernel_rfl)
theorem ok272 : PuOK prog k272.f k272.args k272.t := known (L := (.one k271 .nil)) (mO ok271 mN) (by kernel_rfl)
theorem ok273 : PuOK prog k273.f k273.args k273.t := known (L := .nil) mN (by kernel_rfl)
end Go.V
