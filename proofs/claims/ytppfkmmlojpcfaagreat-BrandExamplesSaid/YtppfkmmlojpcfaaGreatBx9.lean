/- Calls, evaluated. -/
import Derived.Test.YtppfkmmlojpcfaaGreatBx0
import Derived.Test.YtppfkmmlojpcfaaGreatBx3
set_option linter.unusedVariables false
set_option maxRecDepth 100000
namespace Go.V
open Go.Proofs.Tryz (prog)
def k1139 : Memo := ⟨228, [g1, .int .i64 (91)], g11⟩
def k1140 : Memo := ⟨228, [g2, .int .i64 (91)], g13⟩
def k1141 : Memo := ⟨228, [g3, .int .i64 (91)], g11⟩
def k1142 : Memo := ⟨153, [g5, .int .i64 (91), .int .i64 (1)], .bool false⟩
def k1143 : Memo := ⟨228, [g1, .int .i64 (92)], g10⟩
def k1144 : Memo := ⟨228, [g2, .int .i64 (92)], g10⟩
def k1145 : Memo := ⟨153, [g5, .int .i64 (92), .int .i64 (1)], .bool false⟩
def k1146 : Memo := ⟨228, [g1, .int .i64 (93)], g11⟩
def k1147 : Memo := ⟨228, [g2, .int .i64 (93)], g11⟩
def k1148 : Memo := ⟨153, [g5, .int .i64 (93), .int .i64 (1)], .bool false⟩
def k1149 : Memo := ⟨228, [g1, .int .i64 (94)], g10⟩
def k1150 : Memo := ⟨228, [g2, .int .i64 (94)], g12⟩
def k1151 : Memo := ⟨228, [g3, .int .i64 (94)], g10⟩
def k1152 : Memo := ⟨153, [g5, .int .i64 (94), .int .i64 (1)], .bool false⟩
def k1153 : Memo := ⟨228, [g1, .int .i64 (95)], g11⟩
def k1154 : Memo := ⟨228, [g2, .int .i64 (95)], g13⟩
def k1155 : Memo := ⟨228, [g3, .int .i64 (95)], g11⟩
def k1156 : Memo := ⟨153, [g5, .int .i64 (95), .int .i64 (1)], .bool false⟩
def k1157 : Memo := ⟨228, [g1, .int .i64 (96)], g10⟩
def k1158 : Memo := ⟨228, [g2, .int .i64 (96)], g10⟩
def k1159 : Memo := ⟨153, [g5, .int .i64 (96), .int .i64 (1)], .bool false⟩
def k1160 : Memo := ⟨228, [g1, .int .i64 (97)], g11⟩
def k1161 : Memo := ⟨228, [g2, .int .i64 (97)], g11⟩
def k1162 : Memo := ⟨153, [g5, .int .i64 (97), .int .i64 (1)], .bool false⟩
def k1163 : Memo := ⟨228, [g1, .int .i64 (98)], g10⟩
def k1164 : Memo := ⟨228, [g2, .int .i64 (98)], g12⟩
def k1165 : Memo := ⟨228, [g3, .int .i64 (98)], g10⟩
def k1166 : Memo := ⟨153, [g5, .int .i64 (98), .int .i64 (1)], .bool false⟩
def k1167 : Memo := ⟨228, [g1, .int .i64 (99)], g11⟩
def k1168 : Memo := ⟨228, [g2, .int .i64 (99)], g13⟩
def k1169 : Memo := ⟨228, [g3, .int .i64 (99)], g11⟩
def k1170 : Memo := ⟨153, [g5, .int .i64 (99), .int .i64 (1)], .bool false⟩
def k1171 : Memo := ⟨228, [g1, .int .i64 (100)], g10⟩
def k1172 : Memo := ⟨228, [g2, .int .i64 (100)], g10⟩
def k1173 : Memo := ⟨153, [g5, .int .i64 (100), .int .i64 (1)], .bool false⟩
def k1174 : Memo := ⟨228, [g1, .int .i64 (101)], g11⟩
def k1175 : Memo := ⟨228, [g2, .int .i64 (101)], g11⟩
def k1176 : Memo := ⟨153, [g5, .int .i64 (101), .int .i64 (1)], .bool false⟩
def k1177 : Memo := ⟨228, [g1, .int .i64 (102)], g10⟩
def k1178 : Memo := ⟨228, [g2, .int .i64 (102)], g12⟩
def k1179 : Memo := ⟨228, [g3, .int .i64 (102)], g10⟩
def k1180 : Memo := ⟨153, [g5, .int .i64 (102), .int .i64 (1)], .bool false⟩
def k1181 : Memo := ⟨228, [g1, .int .i64 (103)], g11⟩
def k1182 : Memo := ⟨228, [g2, .int .i64 (103)], g13⟩
def k1183 : Memo := ⟨228, [g3, .int .i64 (103)], g11⟩
def k1184 : Memo := ⟨153, [g5, .int .i64 (103), .int .i64 (1)], .bool false⟩
def k1185 : Memo := ⟨228, [g1, .int .i64 (104)], g10⟩
def k1186 : Memo := ⟨228, [g2, .int .i64 (104)], g10⟩
def k1187 : Memo := ⟨153, [g5, .int .i64 (104), .int .i64 (1)], .bool false⟩
def k1188 : Memo := ⟨228, [g1, .int .i64 (105)], g11⟩
def k1189 : Memo := ⟨228, [g2, .int .i64 (105)], g11⟩
def k1190 : Memo := ⟨153, [g5, .int .i64 (105), .int .i64 (1)], .bool false⟩
def k1191 : Memo := ⟨228, [g1, .int .i64 (106)], g10⟩
def k1192 : Memo := ⟨228, [g2, .int .i64 (106)], g12⟩
def k1193 : Memo := ⟨228, [g3, .int .i64 (106)], g10⟩
def k1194 : Memo := ⟨153, [g5, .int .i64 (106), .int .i64 (1)], .bool false⟩
def k1195 : Memo := ⟨228, [g1, .int .i64 (107)], g11⟩
def k1196 : Memo := ⟨228, [g2, .int .i64 (107)], g13⟩
def k1197 : Memo := ⟨228, [g3, .int .i64 (107)], g11⟩
def k1198 : Memo := ⟨153, [g5, .int .i64 (107), .int .i64 (1)], .bool false⟩
def k1199 : Memo := ⟨228, [g1, .int .i64 (108)], g10⟩
def k1200 : Memo := ⟨228, [g2, .int .i64 (108)], g10⟩
def k1201 : Memo := ⟨153, [g5, .int .i64 (108), .int .i64 (1)], .bool false⟩
def k1202 : Memo := ⟨228, [g1, .int .i64 (109)], g11⟩
def k1203 : Memo := ⟨228, [g2, .int .i64 (109)], g11⟩
def k1204 : Memo := ⟨153, [g5, .int .i64 (109), .int .i64 (1)], .bool false⟩
def k1205 : Memo := ⟨228, [g1, .int .i64 (110)], g10⟩
def k1206 : Memo := ⟨228, [g2, .int .i64 (110)], g12⟩
def k1207 : Memo := ⟨228, [g3, .int .i64 (110)], g10⟩
def k1208 : Memo := ⟨153, [g5, .int .i64 (110), .int .i64 (1)], .bool false⟩
def k1209 : Memo := ⟨228, [g1, .int .i64 (111)], g11⟩
def k1210 : Memo := ⟨228, [g2, .int .i64 (111)], g13⟩
def k1211 : Memo := ⟨228, [g3, .int .i64 (111)], g11⟩
def k1212 : Memo := ⟨153, [g5, .int .i64 (111), .int .i64 (1)], .bool false⟩
def k1213 : Memo := ⟨228, [g1, .int .i64 (112)], g10⟩
def k1214 : Memo := ⟨228, [g2, .int .i64 (112)], g10⟩
def k1215 : Memo := ⟨153, [g5, .int .i64 (112), .int .i64 (1)], .bool false⟩
def k1216 : Memo := ⟨228, [g1, .int .i64 (113)], g11⟩
def k1217 : Memo := ⟨228, [g2, .int .i64 (113)], g11⟩
def k1218 : Memo := ⟨153, [g5, .int .i64 (113), .int .i64 (1)], .bool false⟩
def k1219 : Memo := ⟨228, [g1, .int .i64 (114)], g10⟩
def k1220 : Memo := ⟨228, [g2, .int .i64 (114)], g12⟩
def k1221 : Memo := ⟨228, [g3, .int .i64 (114)], g10⟩
def k1222 : Memo := ⟨153, [g5, .int .i64 (114), .int .i64 (1)], .bool false⟩
def k1223 : Memo := ⟨228, [g1, .int .i64 (115)], g11⟩
def k1224 : Memo := ⟨228, [g2, .int .i64 (115)], g13⟩
def k1225 : Memo := ⟨228, [g3, .int .i64 (115)], g11⟩
def k1226 : Memo := ⟨153, [g5, .int .i64 (115), .int .i64 (1)], .bool false⟩
def k1227 : Memo := ⟨228, [g1, .int .i64 (116)], g10⟩
def k1228 : Memo := ⟨228, [g2, .int .i64 (116)], g10⟩
def k1229 : Memo := ⟨153, [g5, .int .i64 (116), .int .i64 (1)], .bool false⟩
def k1230 : Memo := ⟨228, [g1, .int .i64 (117)], g11⟩
def k1231 : Memo := ⟨228, [g2, .int .i64 (117)], g11⟩
def k1232 : Memo := ⟨153, [g5, .int .i64 (117), .int .i64 (1)], .bool false⟩
def k1233 : Memo := ⟨228, [g1, .int .i64 (118)], g10⟩
def k1234 : Memo := ⟨228, [g2, .int .i64 (118)], g12⟩
def k1235 : Memo := ⟨228, [g3, .int .i64 (118)], g10⟩
def k1236 : Memo := ⟨153, [g5, .int .i64 (118), .int .i64 (1)], .bool false⟩
def k1237 : Memo := ⟨228, [g1, .int .i64 (119)], g11⟩
def k1238 : Memo := ⟨228, [g2, .int .i64 (119)], g13⟩
def k1239 : Memo := ⟨228, [g3, .int .i64 (119)], g11⟩
def k1240 : Memo := ⟨153, [g5, .int .i64 (119), .int .i64 (1)], .bool false⟩
def k1241 : Memo := ⟨228, [g1, .int .i64 (120)], g10⟩
def k1242 : Memo := ⟨228, [g2, .int .i64 (120)], g10⟩
def k1243 : Memo := ⟨153, [g5, .int .i64 (120), .int .i64 (1)], .bool false⟩
def k1244 : Memo := ⟨228, [g1, .int .i64 (121)], g11⟩
def k1245 : Memo := ⟨228, [g2, .int .i64 (121)], g11⟩
def k1246 : Memo := ⟨153, [g5, .int .i64 (121), .int .i64 (1)], .bool false⟩
def k1247 : Memo := ⟨228, [g1, .int .i64 (122)], g10⟩
def k1248 : Memo := ⟨228, [g2, .int .i64 (122)], g12⟩
def k1249 : Memo := ⟨228, [g3, .int .i64 (122)], g10⟩
def k1250 : Memo := ⟨153, [g5, .int .i64 (122), .int .i64 (1)], .bool false⟩
def k1251 : Memo := ⟨228, [g1, .int .i64 (123)], g11⟩
def k1252 : Memo := ⟨228, [g2, .int .i64 (123)], g13⟩
def k1253 : Memo := ⟨228, [g3, .int .i64 (123)], g11⟩
def k1254 : Memo := ⟨153, [g5, .int .i64 (123), .int .i64 (1)], .bool false⟩
def k1255 : Memo := ⟨228, [g1, .int .i64 (124)], g10⟩
def k1256 : Memo := ⟨228, [g2, .int .i64 (124)], g10⟩
def k1257 : Memo := ⟨153, [g5, .int .i64 (124), .int .i64 (1)], .bool false⟩
def k1258 : Memo := ⟨228, [g1, .int .i64 (125)], g11⟩
def k1259 : Memo := ⟨228, [g2, .int .i64 (125)], g11⟩
def k1260 : Memo := ⟨153, [g5, .int .i64 (125), .int .i64 (1)], .bool false⟩
def k1261 : Memo := ⟨228, [g1, .int .i64 (126)], g10⟩
def k1262 : Memo := ⟨228, [g2, .int .i64 (126)], g12⟩
def k1263 : Memo := ⟨228, [g3, .int .i64 (126)], g10⟩
def k1264 : Memo := ⟨153, [g5, .int .i64 (126), .int .i64 (1)], .bool false⟩
def k1265 : Memo := ⟨228, [g1, .int .i64 (127)], g11⟩
def k1266 : Memo := ⟨228, [g2, .int .i64 (127)], g13⟩
def k1267 : Memo := ⟨228, [g3, .int .i64 (127)], g11⟩
def k1268 : Memo := ⟨153, [g5, .int .i64 (127), .int .i64 (1)], .bool false⟩
def k1269 : Memo := ⟨153, [g5, .int .i64 (128), .int .i64 (1)], .bool false⟩
def k1270 : Memo := ⟨228, [g1, .int .i64 (129)], g11⟩
def k1271 : Memo := ⟨228, [g2, .int .i64 (129)], g11⟩
def k1272 : Memo := ⟨153, [g5, .int .i64 (129), .int .i64 (1)], .bool false⟩
def k1273 : Memo := ⟨228, [g1, .int .i64 (130)], g10⟩
def k1274 : Memo := ⟨228, [g2, .int .i64 (130)], g12⟩
def k1275 : Memo := ⟨228, [g3, .int .i64 (130)], g10⟩
def k1276 : Memo := ⟨153, [g5, .int .i64 (130), .int .i64 (1)], .bool false⟩
def k1277 : Memo := ⟨228, [g1, .int .i64 (131)], g11⟩
theorem ok1139 : PuOK prog k1139.f k1139.args k1139.t := known (L := .nil) mN (by kernel_rfl)
theorem ok1140 : PuOK prog k1140.f k1140.args k1140.t := known (L := .nil) mN (by kernel_rfl)
theorem ok1141 : PuOK prog k1141.f k1141.args k1141.t := known (L := .nil) mN (by kernel_rfl)
theorem ok1142 : PuOK prog k1142.f k1142.args k1142.t := known (L := (.one k1139 (.one k1140 (.one k1141 .nil)))) (mO ok1139 (mO ok1140 (mO ok1141 mN))) (by kernel_rfl)
theorem ok1143 : PuOK prog k1143.f k1143.args k1143.t := known (L := .nil) mN (by kernel_rfl)
theorem ok1144 : PuOK prog k1144.f k1144.args k1144.t := known (L := .nil) mN (by kernel_rfl)
theorem ok1145 : PuOK prog k1145.f k1145.args k1145.t := known (L := (.one k1143 (.one k1144 .nil))) (mO ok1143 (mO ok1144 mN)) (by kernel_rfl)
theorem ok1146 : PuOK prog k1146.f k1146.args k1146.t := known (L := .nil) mN (by kernel_rfl)
theorem ok1147 : PuOK prog k1147.f k1147.args k1147.t := known (L := .nil) mN (by kernel_rfl)
theorem ok1148 : PuOK prog k1148.f k1148.args k1148.t := known (L := (.one k1146 (.one k1147 .nil))) (mO ok1146 (mO ok1147 mN)) (by kernel_rfl)
theorem ok1149 : PuOK prog k1149.f k1149.args k1149.t := known (L := .nil) mN (by kernel_rfl)
theorem ok1150 : PuOK prog k1150.f k1150.args k1150.t := known (L := .nil) mN (by kernel_rfl)
theorem ok1151 : PuOK prog k1151.f k1151.args k1151.t := known (L := .nil) mN (by kernel_rfl)
theorem ok1152 : PuOK prog k1152.f k1152.args k1152.t := known (L := (.one k1149 (.one k1150 (.one k1151 .nil)))) (mO ok1149 (mO ok1150 (mO ok1151 mN))) (by kernel_rfl)
theorem ok1153 : PuOK prog k1153.f k1153.args k1153.t := known (L := .nil) mN (by kernel_rfl)
theorem ok1154 : PuOK prog k1154.f k1154.args k1154.t := known (L := .nil) mN (by kernel_rfl)
theorem ok1155 : PuOK prog k1155.f k1155.args k1155.t := known (L := .nil) mN (by kernel_rfl)
theorem ok1156 : PuOK prog k1156.f k1156.args k1156.t := known (L := (.one k1153 (.one k1154 (.one k1155 .nil)))) (mO ok1153 (mO ok1154 (mO ok1155 mN))) (by kernel_rfl)
theorem ok1157 : PuOK prog k1157.f k1157.args k1157.t := known (L := .nil) mN (by kernel_rfl)
theorem ok1158 : PuOK prog k1158.f k1158.args k1158.t := known (L := .nil) mN (by kernel_rfl)
theorem ok1159 : PuOK prog k1159.f k1159.args k1159.t := known (L := (.one k1157 (.one k1158 .nil))) (mO ok1157 (mO ok1158 mN)) (by kernel_rfl)
theorem ok1160 : PuOK prog k1160.f k1160.args k1160.t := known (L := .nil) mN (by kernel_rfl)
theorem ok1161 : PuOK prog k1161.f k1161.args k1161.t := known (L := .nil) mN (by kernel_rfl)
theorem ok1162 : PuOK prog k1162.f k1162.args k1162.t := known (L := (.one k1160 (.one k1161 .nil))) (mO ok1160 (mO ok1161 mN)) (by kernel_rfl)
theorem ok1163 : PuOK prog k1163.f k1163.args k1163.t := known (L := .nil) mN (by kernel_rfl)
theorem ok1164 : PuOK prog k1164.f k1164.args k1164.t := known (L := .nil) mN (by kernel_rfl)
theorem ok1165 : PuOK prog k1165.f k1165.args k1165.t := known (L := .nil) mN (by kernel_rfl)
theorem ok1166 : PuOK prog k1166.f k1166.args k1166.t := known (L := (.one k1163 (.one k1164 (.one k1165 .nil)))) (mO ok1163 (mO ok1164 (mO ok1165 mN))) (by kernel_rfl)
theorem ok1167 : PuOK prog k1167.f k1167.args k1167.t := known (L := .nil) mN (by kernel_rfl)
theorem ok1168 : PuOK prog k1168.f k1168.args k1168.t := known (L := .nil) mN (by kernel_rfl)
theorem ok1169 : PuOK prog k1169.f k1169.args k1169.t := known (L := .nil) mN (by kernel_rfl)
theorem ok1170 : PuOK prog k1170.f k1170.args k1170.t := known (L := (.one k1167 (.one k1168 (.one k1169 .nil)))) (mO ok1167 (mO ok1168 (mO ok1169 mN))) (by kernel_rfl)
theorem ok1171 : PuOK prog k1171.f k1171.args k1171.t := known (L := .nil) mN (by kernel_rfl)
theorem ok1172 : PuOK prog k1172.f k1172.args k1172.t := known (L := .nil) mN (by kernel_rfl)
theorem ok1173 : PuOK prog k1173.f k1173.args k1173.t := known (L := (.one k1171 (.one k1172 .nil))) (mO ok1171 (mO ok1172 mN)) (by kernel_rfl)
theorem ok1174 : PuOK prog k1174.f k1174.args k1174.t := known (L := .nil) mN (by kernel_rfl)
theorem ok1175 : PuOK prog k1175.f k1175.args k1175.t := known (L := .nil) mN (by kernel_rfl)
theorem ok1176 : PuOK prog k1176.f k1176.args k1176.t := known (L := (.one k1174 (.one k1175 .nil))) (mO ok1174 (mO ok1175 mN)) (by kernel_rfl)
theorem ok1177 : PuOK prog k1177.f k1177.args k1177.t := known (L := .nil) mN (by kernel_rfl)
theorem ok1178 : PuOK prog k1178.f k1178.args k1178.t := known (L := .nil) mN (by kernel_rfl)
theorem ok1179 : PuOK prog k1179.f k1179.args k1179.t := known (L := .nil) mN (by kernel_rfl)
theorem ok1180 : PuOK prog k1180.f k1180.args k1180.t := known (L := (.one k1177 (.one k1178 (.one k1179 .nil)))) (mO ok1177 (mO ok1178 (mO ok1179 mN))) (by kernel_rfl)
theorem ok1181 : PuOK prog k1181.f k1181.args k1181.t := known (L := .nil) mN (by kernel_rfl)
theorem ok1182 : PuOK prog k1182.f k1182.args k1182.t := known (L := .nil) mN (by kernel_rfl)
theorem ok1183 : PuOK prog k1183.f k1183.args k1183.t := known (L := .nil) mN (by kernel_rfl)
theorem ok1184 : PuOK prog k1184.f k1184.args k1184.t := known (L := (.one k1181 (.one k1182 (.one k1183 .nil)))) (mO ok1181 (mO ok1182 (mO ok1183 mN))) (by kernel_rfl)
theorem ok1185 : PuOK prog k1185.f k1185.args k1185.t := known (L := .nil) mN (by kernel_rfl)
theorem ok1186 : PuOK prog k1186.f k1186.args k1186.t := known (L := .nil) mN (by kernel_rfl)
theorem ok1187 : PuOK prog k1187.f k1187.args k1187.t := known (L := (.one k1185 (.one k1186 .nil))) (mO ok1185 (mO ok1186 mN)) (by kernel_rfl)
theorem ok1188 : PuOK prog k1188.f k1188.args k1188.t := known (L := .nil) mN (by kernel_rfl)
theorem ok1189 : PuOK prog k1189.f k1189.args k1189.t := known (L := .nil) mN (by kernel_rfl)
theorem ok1190 : PuOK prog k1190.f k1190.args k1190.t := known (L := (.one k1188 (.one k1189 .nil))) (mO ok1188 (mO ok1189 mN)) (by kernel_rfl)
theorem ok1191 : PuOK prog k1191.f k1191.args k1191.t := known (L := .nil) mN (by kernel_rfl)
theorem ok1192 : PuOK prog k1192.f k1192.args k1192.t := known (L := .nil) mN (by kernel_rfl)
theorem ok1193 : PuOK prog k1193.f k1193.args k1193.t := known (L := .nil) mN (by kernel_rfl)
theorem ok1194 : PuOK prog k1194.f k1194.args k1194.t := known (L := (.one k1191 (.one k1192 (.one k1193 .nil)))) (mO ok1191 (mO ok1192 (mO ok1193 mN))) (by kernel_rfl)
theorem ok1195 : PuOK prog k1195.f k1195.args k1195.t := known (L := .nil) mN (by kernel_rfl)
theorem ok1196 : PuOK prog k1196.f k1196.args k1196.t := known (L := .nil) mN (by kernel_rfl)
theorem ok1197 : PuOK prog k1197.f k1197.args k1197.t := known (L := .nil) mN (by kernel_rfl)
theorem ok1198 : PuOK prog k1198.f k1198.args k1198.t := known (L := (.one k1195 (.one k1196 (.one k1197 .nil)))) (mO ok1195 (mO ok1196 (mO ok1197 mN))) (by kernel_rfl)
theorem ok1199 : PuOK prog k1199.f k1199.args k1199.t := known (L := .nil) mN (by kernel_rfl)
theorem ok1200 : PuOK prog k1200.f k1200.args k1200.t := known (L := .nil) mN (by kernel_rfl)
theorem ok1201 : PuOK prog k1201.f k1201.args k1201.t := known (L := (.one k1199 (.one k1200 .nil))) (mO ok1199 (mO ok1200 mN)) (by kernel_rfl)
theorem ok1202 : PuOK prog k1202.f k1202.args k1202.t := known (L := .nil) mN (by kernel_rfl)
theorem ok1203 : PuOK prog k1203.f k1203.args k1203.t := known (L := .nil) mN (by kernel_rfl)
theorem ok1204 : PuOK prog k1204.f k1204.args k1204.t := known (L := (.one k1202 (.one k1203 .nil))) (mO ok1202 (mO ok1203 mN)) (by kernel_rfl)
theorem ok1205 : PuOK prog k1205.f k1205.args k1205.t := known (L := .nil) mN (by kernel_rfl)
theorem ok1206 : PuOK prog k1206.f k1206.args k1206.t := known (L := .nil) mN (by kernel_rfl)
theorem ok1207 : PuOK prog k1207.f k1207.args k1207.t := known (L := .nil) mN (by kernel_rfl)
theorem ok1208 : PuOK prog k1208.f k1208.args k1208.t := known (L := (.one k1205 (.one k1206 (.one k1207 .nil)))) (mO ok1205 (mO ok1206 (mO ok1207 mN))) (by kernel_rfl)
theorem ok1209 : PuOK prog k1209.f k1209.args k1209.t := known (L := .nil) mN (by kernel_rfl)
theorem ok1210 : PuOK prog k1210.f k1210.args k1210.t := known (L := .nil) mN (by kernel_rfl)
theorem ok1211 : PuOK prog k1211.f k1211.args k1211.t := known (L := .nil) mN (by kernel_rfl)
theorem ok1212 : PuOK prog k1212.f k1212.args k1212.t := known (L := (.one k1209 (.one k1210 (.one k1211 .nil)))) (mO ok1209 (mO ok1210 (mO ok1211 mN))) (by kernel_rfl)
theorem ok1213 : PuOK prog k1213.f k1213.args k1213.t := known (L := .nil) mN (by kernel_rfl)
theorem ok1214 : PuOK prog k1214.f k1214.args k1214.t := known (L := .nil) mN (by kernel_rfl)
theorem ok1215 : PuOK prog k1215.f k1215.args k1215.t := known (L := (.one k1213 (.one k1214 .nil))) (mO ok1213 (mO ok1214 mN)) (by kernel_rfl)
theorem ok1216 : PuOK prog k1216.f k1216.args k1216.t := known (L := .nil) mN (by kernel_rfl)
theorem ok1217 : PuOK prog k1217.f k1217.args k1217.t := known (L := .nil) mN (by kernel_rfl)
theorem ok1218 : PuOK prog k1218.f k1218.args k1218.t := known (L := (.one k1216 (.one k1217 .nil))) (mO ok1216 (mO ok1217 mN)) (by kernel_rfl)
theorem ok1219 : PuOK prog k1219.f k1219.args k1219.t := known (L := .nil) mN (by kernel_rfl)
theorem ok1220 : PuOK prog k1220.f k1220.args k1220.t := known (L := .nil) mN (by kernel_rfl)
theorem ok1221 : PuOK prog k1221.f k1221.args k1221.t := known (L := .nil) mN (by kernel_rfl)
theorem ok1222 : PuOK prog k1222.f k1222.args k1222.t := known (L := (.one k1219 (.one k1220 (.one k1221 .nil)))) (mO ok1219 (mO ok1220 (mO ok1221 mN))) (by kernel_rfl)
theorem ok1223 : PuOK prog k1223.f k1223.args k1223.t := known (L := .nil) mN (by kernel_rfl)
theorem ok1224 : PuOK prog k1224.f k1224.args k1224.t := known (L := .nil) mN (by kernel_rfl)
theorem ok1225 : PuOK prog k1225.f k1225.args k1225.t := known (L := .nil) mN (by kernel_rfl)
theorem ok1226 : PuOK prog k1226.f k1226.args k1226.t := known (L := (.one k1223 (.one k1224 (.one k1225 .nil)))) (mO ok1223 (mO ok1224 (mO ok1225 mN))) (by kernel_rfl)
theorem ok1227 : PuOK prog k1227.f k1227.args k1227.t := known (L := .nil) mN (by kernel_rfl)
theorem ok1228 : PuOK prog k1228.f k1228.args k1228.t := known (L := .nil) mN (by kernel_rfl)
theorem ok1229 : PuOK prog k1229.f k1229.args k1229.t := known (L := (.one k1227 (.one k1228 .nil))) (mO ok1227 (mO ok1228 mN)) (by kernel_rfl)
theorem ok1230 : PuOK prog k1230.f k1230.args k1230.t := known (L := .nil) mN (by kernel_rfl)
theorem ok1231 : PuOK prog k1231.f k1231.args k1231.t := known (L := .nil) mN (by kernel_rfl)
theorem ok1232 : PuOK prog k1232.f k1232.args k1232.t := known (L := (.one k1230 (.one k1231 .nil))) (mO ok1230 (mO ok1231 mN)) (by kernel_rfl)
theorem ok1233 : PuOK prog k1233.f k1233.args k1233.t := known (L := .nil) mN (by kernel_rfl)
theorem ok1234 : PuOK prog k1234.f k1234.args k1234.t := known (L := .nil) mN (by kernel_rfl)
theorem ok1235 : PuOK prog k1235.f k1235.args k1235.t := known (L := .nil) mN (by kernel_rfl)
theorem ok1236 : PuOK prog k1236.f k1236.args k1236.t := known (L := (.one k1233 (.one k1234 (.one k1235 .nil)))) (mO ok1233 (mO ok1234 (mO ok1235 mN))) (by kernel_rfl)
theorem ok1237 : PuOK prog k1237.f k1237.args k1237.t := known (L := .nil) mN (by kernel_rfl)
theorem ok1238 : PuOK prog k1238.f k1238.args k1238.t := known (L := .nil) mN (by kernel_rfl)
theorem ok1239 : PuOK prog k1239.f k1239.args k1239.t := known (L := .nil) mN (by kernel_rfl)
theorem ok1240 : PuOK prog k1240.f k1240.args k1240.t := known (L := (.one k1237 (.one k1238 (.one k1239 .nil)))) (mO ok1237 (mO ok1238 (mO ok1239 mN))) (by kernel_rfl)
theorem ok1241 : PuOK prog k1241.f k1241.args k1241.t := known (L := .nil) mN (by kernel_rfl)
theorem ok1242 : PuOK prog k1242.f k1242.args k1242.t := known (L := .nil) mN (by kernel_rfl)
theorem ok1243 : PuOK prog k1243.f k1243.args k1243.t := known (L := (.one k1241 (.one k1242 .nil))) (mO ok1241 (mO ok1242 mN)) (by kernel_rfl)
theorem ok1244 : PuOK prog k1244.f k1244.args k1244.t := known (L := .nil) mN (by kernel_rfl)
theorem ok1245 : PuOK prog k1245.f k1245.args k1245.t := known (L := .nil) mN (by kernel_rfl)
theorem ok1246 : PuOK prog k1246.f k1246.args k1246.t := known (L := (.one k1244 (.one k1245 .nil))) (mO ok1244 (mO ok1245 mN)) (by kernel_rfl)
theorem ok1247 : PuOK prog k1247.f k1247.args k1247.t := known (L := .nil) mN (by kernel_rfl)
theorem ok1248 : PuOK prog k1248.f k1248.args k1248.t := known (L := .nil) mN (by kernel_rfl)
theorem ok1249 : PuOK prog k1249.f k1249.args k1249.t := known (L := .nil) mN (by kernel_rfl)
theorem ok1250 : PuOK prog k1250.f k1250.args k1250.t := known (L := (.one k1247 (.one k1248 (.one k1249 .nil)))) (mO ok1247 (mO ok1248 (mO ok1249 mN))) (by kernel_rfl)
theorem ok1251 : PuOK prog k1251.f k1251.args k1251.t := known (L := .nil) mN (by kernel_rfl)
theorem ok1252 : PuOK prog k1252.f k1252.args k1252.t := known (L := .nil) mN (by kernel_rfl)
theorem ok1253 : PuOK prog k1253.f k1253.args k1253.t := known (L := .nil) mN (by kernel_rfl)
theorem ok1254 : PuOK prog k1254.f k1254.args k1254.t := known (L := (.one k1251 (.one k1252 (.one k1253 .nil)))) (mO ok1251 (mO ok1252 (mO ok1253 mN))) (by kernel_rfl)
theorem ok1255 : PuOK prog k1255.f k1255.args k1255.t := known (L := .nil) mN (by kernel_rfl)
theorem ok1256 : PuOK prog k1256.f k1256.args k1256.t := known (L := .nil) mN (by kernel_rfl)
theorem ok1257 : PuOK prog k1257.f k1257.args k1257.t := known (L := (.one k1255 (.one k1256 .nil))) (mO ok1255 (mO ok1256 mN)) (by kernel_rfl)
theorem ok1258 : PuOK prog k1258.f k1258.args k1258.t := known (L := .nil) mN (by kernel_rfl)
theorem ok1259 : PuOK prog k1259.f k1259.args k1259.t := known (L := .nil) mN (by kernel_rfl)
theorem ok1260 : PuOK prog k1260.f k1260.args k1260.t := known (L := (.one k1258 (.one k1259 .nil))) (mO ok1258 (mO ok1259 mN)) (by kernel_rfl)
theorem ok1261 : PuOK prog k1261.f k1261.args k1261.t := known (L := .nil) mN (by kernel_rfl)
theorem ok1262 : PuOK prog k1262.f k1262.args k1262.t := known (L := .nil) mN (by kernel_rfl)
theorem ok1263 : PuOK prog k1263.f k1263.args k1263.t := known (L := .nil) mN (by kernel_rfl)
theorem ok1264 : PuOK prog k1264.f k1264.args k1264.t := known (L := (.one k1261 (.one k1262 (.one k1263 .nil)))) (mO ok1261 (mO ok1262 (mO ok1263 mN))) (by kernel_rfl)
theorem ok1265 : PuOK prog k1265.f k1265.args k1265.t := known (L := .nil) mN (by kernel_rfl)
theorem ok1266 : PuOK prog k1266.f k1266.args k1266.t := known (L := .nil) mN (by kernel_rfl)
theorem ok1267 : PuOK prog k1267.f k1267.args k1267.t := known (L := .nil) mN (by kernel_rfl)
theorem ok1268 : PuOK prog k1268.f k1268.args k1268.t := known (L := (.one k1265 (.one k1266 (.one k1267 .nil)))) (mO ok1265 (mO ok1266 (mO ok1267 mN))) (by kernel_rfl)
theorem ok1269 : PuOK prog k1269.f k1269.args k1269.t := known (L := (.one k438 (.one k439 .nil))) (mO ok438 (mO ok439 mN)) (by kernel_rfl)
theorem ok1270 : PuOK prog k1270.f k1270.args k1270.t := known (L := .nil) mN (by kernel_rfl)
theorem ok1271 : PuOK prog k1271.f k1271.args k1271.t := known (L := .nil) mN (by kernel_rfl)
theorem ok1272 : PuOK prog k1272.f k1272.args k1272.t := known (L := (.one k1270 (.one k1271 .nil))) (mO ok1270 (mO ok1271 mN)) (by kernel_rfl)
theorem ok1273 : PuOK prog k1273.f k1273.args k1273.t := known (L := .nil) mN (by kernel_rfl)
theorem ok1274 : PuOK prog k1274.f k1274.args k1274.t := known (L := .nil) mN (by kernel_rfl)
theorem ok1275 : PuOK prog k1275.f k1275.args k1275.t := known (L := .nil) mN (by kernel_rfl)
theorem ok1276 : PuOK prog k1276.f k1276.args k1276.t := known (L := (.one k1273 (.one k1274 (.one k1275 .nil)))) (mO ok1273 (mO ok1274 (mO ok1275 mN))) (by kernel_rfl)
theorem ok1277 : PuOK prog k1277.f k1277.args k1277.t := known (L := .nil) mN (by kernel_rfl)
end Go.V
