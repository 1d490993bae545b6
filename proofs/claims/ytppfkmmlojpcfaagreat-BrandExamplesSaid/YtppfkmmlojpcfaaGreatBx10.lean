/- Calls, evaluated. -/
import Derived.Test.YtppfkmmlojpcfaaGreatBx0
import Derived.Test.YtppfkmmlojpcfaaGreatBx9
set_option linter.unusedVariables false
set_option maxRecDepth 100000
namespace Go.V
open Go.Proofs.Tryz (prog)
def k1278 : Memo := ⟨228, [g2, .int .i64 (131)], g13⟩
def k1279 : Memo := ⟨228, [g3, .int .i64 (131)], g11⟩
def k1280 : Memo := ⟨153, [g5, .int .i64 (131), .int .i64 (1)], .bool false⟩
def k1281 : Memo := ⟨228, [g1, .int .i64 (132)], g10⟩
def k1282 : Memo := ⟨228, [g2, .int .i64 (132)], g10⟩
def k1283 : Memo := ⟨153, [g5, .int .i64 (132), .int .i64 (1)], .bool false⟩
def k1284 : Memo := ⟨228, [g1, .int .i64 (133)], g11⟩
def k1285 : Memo := ⟨228, [g2, .int .i64 (133)], g11⟩
def k1286 : Memo := ⟨153, [g5, .int .i64 (133), .int .i64 (1)], .bool false⟩
def k1287 : Memo := ⟨228, [g1, .int .i64 (134)], g10⟩
def k1288 : Memo := ⟨228, [g2, .int .i64 (134)], g12⟩
def k1289 : Memo := ⟨228, [g3, .int .i64 (134)], g10⟩
def k1290 : Memo := ⟨153, [g5, .int .i64 (134), .int .i64 (1)], .bool false⟩
def k1291 : Memo := ⟨228, [g1, .int .i64 (135)], g11⟩
def k1292 : Memo := ⟨228, [g2, .int .i64 (135)], g13⟩
def k1293 : Memo := ⟨228, [g3, .int .i64 (135)], g11⟩
def k1294 : Memo := ⟨153, [g5, .int .i64 (135), .int .i64 (1)], .bool false⟩
def k1295 : Memo := ⟨228, [g1, .int .i64 (136)], g10⟩
def k1296 : Memo := ⟨228, [g2, .int .i64 (136)], g10⟩
def k1297 : Memo := ⟨153, [g5, .int .i64 (136), .int .i64 (1)], .bool false⟩
def k1298 : Memo := ⟨228, [g1, .int .i64 (137)], g11⟩
def k1299 : Memo := ⟨228, [g2, .int .i64 (137)], g11⟩
def k1300 : Memo := ⟨153, [g5, .int .i64 (137), .int .i64 (1)], .bool false⟩
def k1301 : Memo := ⟨228, [g1, .int .i64 (138)], g10⟩
def k1302 : Memo := ⟨228, [g2, .int .i64 (138)], g12⟩
def k1303 : Memo := ⟨228, [g3, .int .i64 (138)], g10⟩
def k1304 : Memo := ⟨153, [g5, .int .i64 (138), .int .i64 (1)], .bool false⟩
def k1305 : Memo := ⟨228, [g1, .int .i64 (139)], g11⟩
def k1306 : Memo := ⟨228, [g2, .int .i64 (139)], g13⟩
def k1307 : Memo := ⟨228, [g3, .int .i64 (139)], g11⟩
def k1308 : Memo := ⟨153, [g5, .int .i64 (139), .int .i64 (1)], .bool false⟩
def k1309 : Memo := ⟨228, [g1, .int .i64 (140)], g10⟩
def k1310 : Memo := ⟨228, [g2, .int .i64 (140)], g10⟩
def k1311 : Memo := ⟨153, [g5, .int .i64 (140), .int .i64 (1)], .bool false⟩
def k1312 : Memo := ⟨228, [g1, .int .i64 (141)], g11⟩
def k1313 : Memo := ⟨228, [g2, .int .i64 (141)], g11⟩
def k1314 : Memo := ⟨153, [g5, .int .i64 (141), .int .i64 (1)], .bool false⟩
def k1315 : Memo := ⟨228, [g1, .int .i64 (142)], g10⟩
def k1316 : Memo := ⟨228, [g2, .int .i64 (142)], g12⟩
def k1317 : Memo := ⟨228, [g3, .int .i64 (142)], g10⟩
def k1318 : Memo := ⟨153, [g5, .int .i64 (142), .int .i64 (1)], .bool false⟩
def k1319 : Memo := ⟨228, [g1, .int .i64 (143)], g11⟩
def k1320 : Memo := ⟨228, [g2, .int .i64 (143)], g13⟩
def k1321 : Memo := ⟨228, [g3, .int .i64 (143)], g11⟩
def k1322 : Memo := ⟨153, [g5, .int .i64 (143), .int .i64 (1)], .bool false⟩
def k1323 : Memo := ⟨228, [g1, .int .i64 (144)], g10⟩
def k1324 : Memo := ⟨228, [g2, .int .i64 (144)], g10⟩
def k1325 : Memo := ⟨153, [g5, .int .i64 (144), .int .i64 (1)], .bool false⟩
def k1326 : Memo := ⟨228, [g1, .int .i64 (145)], g11⟩
def k1327 : Memo := ⟨228, [g2, .int .i64 (145)], g11⟩
def k1328 : Memo := ⟨153, [g5, .int .i64 (145), .int .i64 (1)], .bool false⟩
def k1329 : Memo := ⟨228, [g1, .int .i64 (146)], g10⟩
def k1330 : Memo := ⟨228, [g2, .int .i64 (146)], g12⟩
def k1331 : Memo := ⟨228, [g3, .int .i64 (146)], g10⟩
def k1332 : Memo := ⟨153, [g5, .int .i64 (146), .int .i64 (1)], .bool false⟩
def k1333 : Memo := ⟨228, [g1, .int .i64 (147)], g11⟩
def k1334 : Memo := ⟨228, [g2, .int .i64 (147)], g13⟩
def k1335 : Memo := ⟨228, [g3, .int .i64 (147)], g11⟩
def k1336 : Memo := ⟨153, [g5, .int .i64 (147), .int .i64 (1)], .bool false⟩
def k1337 : Memo := ⟨228, [g1, .int .i64 (148)], g10⟩
def k1338 : Memo := ⟨228, [g2, .int .i64 (148)], g10⟩
def k1339 : Memo := ⟨153, [g5, .int .i64 (148), .int .i64 (1)], .bool false⟩
def k1340 : Memo := ⟨228, [g1, .int .i64 (149)], g11⟩
def k1341 : Memo := ⟨228, [g2, .int .i64 (149)], g11⟩
def k1342 : Memo := ⟨153, [g5, .int .i64 (149), .int .i64 (1)], .bool false⟩
def k1343 : Memo := ⟨228, [g1, .int .i64 (150)], g10⟩
def k1344 : Memo := ⟨228, [g2, .int .i64 (150)], g12⟩
def k1345 : Memo := ⟨228, [g3, .int .i64 (150)], g10⟩
def k1346 : Memo := ⟨153, [g5, .int .i64 (150), .int .i64 (1)], .bool false⟩
def k1347 : Memo := ⟨228, [g1, .int .i64 (151)], g11⟩
def k1348 : Memo := ⟨228, [g2, .int .i64 (151)], g13⟩
def k1349 : Memo := ⟨228, [g3, .int .i64 (151)], g11⟩
def k1350 : Memo := ⟨153, [g5, .int .i64 (151), .int .i64 (1)], .bool false⟩
def k1351 : Memo := ⟨228, [g1, .int .i64 (152)], g10⟩
def k1352 : Memo := ⟨228, [g2, .int .i64 (152)], g10⟩
def k1353 : Memo := ⟨153, [g5, .int .i64 (152), .int .i64 (1)], .bool false⟩
def k1354 : Memo := ⟨228, [g1, .int .i64 (153)], g11⟩
def k1355 : Memo := ⟨228, [g2, .int .i64 (153)], g11⟩
def k1356 : Memo := ⟨153, [g5, .int .i64 (153), .int .i64 (1)], .bool false⟩
def k1357 : Memo := ⟨228, [g1, .int .i64 (154)], g10⟩
def k1358 : Memo := ⟨228, [g2, .int .i64 (154)], g12⟩
def k1359 : Memo := ⟨228, [g3, .int .i64 (154)], g10⟩
def k1360 : Memo := ⟨153, [g5, .int .i64 (154), .int .i64 (1)], .bool false⟩
def k1361 : Memo := ⟨228, [g1, .int .i64 (155)], g11⟩
def k1362 : Memo := ⟨228, [g2, .int .i64 (155)], g13⟩
def k1363 : Memo := ⟨228, [g3, .int .i64 (155)], g11⟩
def k1364 : Memo := ⟨153, [g5, .int .i64 (155), .int .i64 (1)], .bool false⟩
def k1365 : Memo := ⟨228, [g1, .int .i64 (156)], g10⟩
def k1366 : Memo := ⟨228, [g2, .int .i64 (156)], g10⟩
def k1367 : Memo := ⟨153, [g5, .int .i64 (156), .int .i64 (1)], .bool false⟩
def k1368 : Memo := ⟨228, [g1, .int .i64 (157)], g11⟩
def k1369 : Memo := ⟨228, [g2, .int .i64 (157)], g11⟩
def k1370 : Memo := ⟨153, [g5, .int .i64 (157), .int .i64 (1)], .bool false⟩
def k1371 : Memo := ⟨228, [g1, .int .i64 (158)], g10⟩
def k1372 : Memo := ⟨228, [g2, .int .i64 (158)], g12⟩
def k1373 : Memo := ⟨228, [g3, .int .i64 (158)], g10⟩
def k1374 : Memo := ⟨153, [g5, .int .i64 (158), .int .i64 (1)], .bool false⟩
def k1375 : Memo := ⟨228, [g1, .int .i64 (159)], g11⟩
def k1376 : Memo := ⟨228, [g2, .int .i64 (159)], g13⟩
def k1377 : Memo := ⟨228, [g3, .int .i64 (159)], g11⟩
def k1378 : Memo := ⟨153, [g5, .int .i64 (159), .int .i64 (1)], .bool false⟩
def k1379 : Memo := ⟨228, [g1, .int .i64 (160)], g10⟩
def k1380 : Memo := ⟨228, [g2, .int .i64 (160)], g10⟩
def k1381 : Memo := ⟨153, [g5, .int .i64 (160), .int .i64 (1)], .bool false⟩
def k1382 : Memo := ⟨228, [g1, .int .i64 (161)], g11⟩
def k1383 : Memo := ⟨228, [g2, .int .i64 (161)], g11⟩
def k1384 : Memo := ⟨153, [g5, .int .i64 (161), .int .i64 (1)], .bool false⟩
def k1385 : Memo := ⟨228, [g1, .int .i64 (162)], g10⟩
def k1386 : Memo := ⟨228, [g2, .int .i64 (162)], g12⟩
def k1387 : Memo := ⟨228, [g3, .int .i64 (162)], g10⟩
def k1388 : Memo := ⟨153, [g5, .int .i64 (162), .int .i64 (1)], .bool false⟩
def k1389 : Memo := ⟨228, [g1, .int .i64 (163)], g11⟩
def k1390 : Memo := ⟨228, [g2, .int .i64 (163)], g13⟩
def k1391 : Memo := ⟨228, [g3, .int .i64 (163)], g11⟩
def k1392 : Memo := ⟨153, [g5, .int .i64 (163), .int .i64 (1)], .bool false⟩
def k1393 : Memo := ⟨228, [g1, .int .i64 (164)], g10⟩
def k1394 : Memo := ⟨228, [g2, .int .i64 (164)], g10⟩
def k1395 : Memo := ⟨153, [g5, .int .i64 (164), .int .i64 (1)], .bool false⟩
def k1396 : Memo := ⟨228, [g1, .int .i64 (165)], g11⟩
def k1397 : Memo := ⟨228, [g2, .int .i64 (165)], g11⟩
def k1398 : Memo := ⟨153, [g5, .int .i64 (165), .int .i64 (1)], .bool false⟩
def k1399 : Memo := ⟨228, [g1, .int .i64 (166)], g10⟩
def k1400 : Memo := ⟨228, [g2, .int .i64 (166)], g12⟩
def k1401 : Memo := ⟨228, [g3, .int .i64 (166)], g10⟩
def k1402 : Memo := ⟨153, [g5, .int .i64 (166), .int .i64 (1)], .bool false⟩
def k1403 : Memo := ⟨228, [g1, .int .i64 (167)], g11⟩
def k1404 : Memo := ⟨228, [g2, .int .i64 (167)], g13⟩
def k1405 : Memo := ⟨228, [g3, .int .i64 (167)], g11⟩
def k1406 : Memo := ⟨153, [g5, .int .i64 (167), .int .i64 (1)], .bool false⟩
def k1407 : Memo := ⟨228, [g1, .int .i64 (168)], g10⟩
def k1408 : Memo := ⟨228, [g2, .int .i64 (168)], g10⟩
def k1409 : Memo := ⟨153, [g5, .int .i64 (168), .int .i64 (1)], .bool false⟩
def k1410 : Memo := ⟨228, [g1, .int .i64 (169)], g11⟩
def k1411 : Memo := ⟨228, [g2, .int .i64 (169)], g11⟩
def k1412 : Memo := ⟨153, [g5, .int .i64 (169), .int .i64 (1)], .bool false⟩
def k1413 : Memo := ⟨228, [g1, .int .i64 (170)], g10⟩
def k1414 : Memo := ⟨228, [g2, .int .i64 (170)], g12⟩
theorem ok1278 : PuOK prog k1278.f k1278.args k1278.t := known (L := .nil) mN (by kernel_rfl)
theorem ok1279 : PuOK prog k1279.f k1279.args k1279.t := known (L := .nil) mN (by kernel_rfl)
theorem ok1280 : PuOK prog k1280.f k1280.args k1280.t := known (L := (.one k1277 (.one k1278 (.one k1279 .nil)))) (mO ok1277 (mO ok1278 (mO ok1279 mN))) (by kernel_rfl)
theorem ok1281 : PuOK prog k1281.f k1281.args k1281.t := known (L := .nil) mN (by kernel_rfl)
theorem ok1282 : PuOK prog k1282.f k1282.args k1282.t := known (L := .nil) mN (by kernel_rfl)
theorem ok1283 : PuOK prog k1283.f k1283.args k1283.t := known (L := (.one k1281 (.one k1282 .nil))) (mO ok1281 (mO ok1282 mN)) (by kernel_rfl)
theorem ok1284 : PuOK prog k1284.f k1284.args k1284.t := known (L := .nil) mN (by kernel_rfl)
theorem ok1285 : PuOK prog k1285.f k1285.args k1285.t := known (L := .nil) mN (by kernel_rfl)
theorem ok1286 : PuOK prog k1286.f k1286.args k1286.t := known (L := (.one k1284 (.one k1285 .nil))) (mO ok1284 (mO ok1285 mN)) (by kernel_rfl)
theorem ok1287 : PuOK prog k1287.f k1287.args k1287.t := known (L := .nil) mN (by kernel_rfl)
theorem ok1288 : PuOK prog k1288.f k1288.args k1288.t := known (L := .nil) mN (by kernel_rfl)
theorem ok1289 : PuOK prog k1289.f k1289.args k1289.t := known (L := .nil) mN (by kernel_rfl)
theorem ok1290 : PuOK prog k1290.f k1290.args k1290.t := known (L := (.one k1287 (.one k1288 (.one k1289 .nil)))) (mO ok1287 (mO ok1288 (mO ok1289 mN))) (by kernel_rfl)
theorem ok1291 : PuOK prog k1291.f k1291.args k1291.t := known (L := .nil) mN (by kernel_rfl)
theorem ok1292 : PuOK prog k1292.f k1292.args k1292.t := known (L := .nil) mN (by kernel_rfl)
theorem ok1293 : PuOK prog k1293.f k1293.args k1293.t := known (L := .nil) mN (by kernel_rfl)
theorem ok1294 : PuOK prog k1294.f k1294.args k1294.t := known (L := (.one k1291 (.one k1292 (.one k1293 .nil)))) (mO ok1291 (mO ok1292 (mO ok1293 mN))) (by kernel_rfl)
theorem ok1295 : PuOK prog k1295.f k1295.args k1295.t := known (L := .nil) mN (by kernel_rfl)
theorem ok1296 : PuOK prog k1296.f k1296.args k1296.t := known (L := .nil) mN (by kernel_rfl)
theorem ok1297 : PuOK prog k1297.f k1297.args k1297.t := known (L := (.one k1295 (.one k1296 .nil))) (mO ok1295 (mO ok1296 mN)) (by kernel_rfl)
theorem ok1298 : PuOK prog k1298.f k1298.args k1298.t := known (L := .nil) mN (by kernel_rfl)
theorem ok1299 : PuOK prog k1299.f k1299.args k1299.t := known (L := .nil) mN (by kernel_rfl)
theorem ok1300 : PuOK prog k1300.f k1300.args k1300.t := known (L := (.one k1298 (.one k1299 .nil))) (mO ok1298 (mO ok1299 mN)) (by kernel_rfl)
theorem ok1301 : PuOK prog k1301.f k1301.args k1301.t := known (L := .nil) mN (by kernel_rfl)
theorem ok1302 : PuOK prog k1302.f k1302.args k1302.t := known (L := .nil) mN (by kernel_rfl)
theorem ok1303 : PuOK prog k1303.f k1303.args k1303.t := known (L := .nil) mN (by kernel_rfl)
theorem ok1304 : PuOK prog k1304.f k1304.args k1304.t := known (L := (.one k1301 (.one k1302 (.one k1303 .nil)))) (mO ok1301 (mO ok1302 (mO ok1303 mN))) (by kernel_rfl)
theorem ok1305 : PuOK prog k1305.f k1305.args k1305.t := known (L := .nil) mN (by kernel_rfl)
theorem ok1306 : PuOK prog k1306.f k1306.args k1306.t := known (L := .nil) mN (by kernel_rfl)
theorem ok1307 : PuOK prog k1307.f k1307.args k1307.t := known (L := .nil) mN (by kernel_rfl)
theorem ok1308 : PuOK prog k1308.f k1308.args k1308.t := known (L := (.one k1305 (.one k1306 (.one k1307 .nil)))) (mO ok1305 (mO ok1306 (mO ok1307 mN))) (by kernel_rfl)
theorem ok1309 : PuOK prog k1309.f k1309.args k1309.t := known (L := .nil) mN (by kernel_rfl)
theorem ok1310 : PuOK prog k1310.f k1310.args k1310.t := known (L := .nil) mN (by kernel_rfl)
theorem ok1311 : PuOK prog k1311.f k1311.args k1311.t := known (L := (.one k1309 (.one k1310 .nil))) (mO ok1309 (mO ok1310 mN)) (by kernel_rfl)
theorem ok1312 : PuOK prog k1312.f k1312.args k1312.t := known (L := .nil) mN (by kernel_rfl)
theorem ok1313 : PuOK prog k1313.f k1313.args k1313.t := known (L := .nil) mN (by kernel_rfl)
theorem ok1314 : PuOK prog k1314.f k1314.args k1314.t := known (L := (.one k1312 (.one k1313 .nil))) (mO ok1312 (mO ok1313 mN)) (by kernel_rfl)
theorem ok1315 : PuOK prog k1315.f k1315.args k1315.t := known (L := .nil) mN (by kernel_rfl)
theorem ok1316 : PuOK prog k1316.f k1316.args k1316.t := known (L := .nil) mN (by kernel_rfl)
theorem ok1317 : PuOK prog k1317.f k1317.args k1317.t := known (L := .nil) mN (by kernel_rfl)
theorem ok1318 : PuOK prog k1318.f k1318.args k1318.t := known (L := (.one k1315 (.one k1316 (.one k1317 .nil)))) (mO ok1315 (mO ok1316 (mO ok1317 mN))) (by kernel_rfl)
theorem ok1319 : PuOK prog k1319.f k1319.args k1319.t := known (L := .nil) mN (by kernel_rfl)
theorem ok1320 : PuOK prog k1320.f k1320.args k1320.t := known (L := .nil) mN (by kernel_rfl)
theorem ok1321 : PuOK prog k1321.f k1321.args k1321.t := known (L := .nil) mN (by kernel_rfl)
theorem ok1322 : PuOK prog k1322.f k1322.args k1322.t := known (L := (.one k1319 (.one k1320 (.one k1321 .nil)))) (mO ok1319 (mO ok1320 (mO ok1321 mN))) (by kernel_rfl)
theorem ok1323 : PuOK prog k1323.f k1323.args k1323.t := known (L := .nil) mN (by kernel_rfl)
theorem ok1324 : PuOK prog k1324.f k1324.args k1324.t := known (L := .nil) mN (by kernel_rfl)
theorem ok1325 : PuOK prog k1325.f k1325.args k1325.t := known (L := (.one k1323 (.one k1324 .nil))) (mO ok1323 (mO ok1324 mN)) (by kernel_rfl)
theorem ok1326 : PuOK prog k1326.f k1326.args k1326.t := known (L := .nil) mN (by kernel_rfl)
theorem ok1327 : PuOK prog k1327.f k1327.args k1327.t := known (L := .nil) mN (by kernel_rfl)
theorem ok1328 : PuOK prog k1328.f k1328.args k1328.t := known (L := (.one k1326 (.one k1327 .nil))) (mO ok1326 (mO ok1327 mN)) (by kernel_rfl)
theorem ok1329 : PuOK prog k1329.f k1329.args k1329.t := known (L := .nil) mN (by kernel_rfl)
theorem ok1330 : PuOK prog k1330.f k1330.args k1330.t := known (L := .nil) mN (by kernel_rfl)
theorem ok1331 : PuOK prog k1331.f k1331.args k1331.t := known (L := .nil) mN (by kernel_rfl)
theorem ok1332 : PuOK prog k1332.f k1332.args k1332.t := known (L := (.one k1329 (.one k1330 (.one k1331 .nil)))) (mO ok1329 (mO ok1330 (mO ok1331 mN))) (by kernel_rfl)
theorem ok1333 : PuOK prog k1333.f k1333.args k1333.t := known (L := .nil) mN (by kernel_rfl)
theorem ok1334 : PuOK prog k1334.f k1334.args k1334.t := known (L := .nil) mN (by kernel_rfl)
theorem ok1335 : PuOK prog k1335.f k1335.args k1335.t := known (L := .nil) mN (by kernel_rfl)
theorem ok1336 : PuOK prog k1336.f k1336.args k1336.t := known (L := (.one k1333 (.one k1334 (.one k1335 .nil)))) (mO ok1333 (mO ok1334 (mO ok1335 mN))) (by kernel_rfl)
theorem ok1337 : PuOK prog k1337.f k1337.args k1337.t := known (L := .nil) mN (by kernel_rfl)
theorem ok1338 : PuOK prog k1338.f k1338.args k1338.t := known (L := .nil) mN (by kernel_rfl)
theorem ok1339 : PuOK prog k1339.f k1339.args k1339.t := known (L := (.one k1337 (.one k1338 .nil))) (mO ok1337 (mO ok1338 mN)) (by kernel_rfl)
theorem ok1340 : PuOK prog k1340.f k1340.args k1340.t := known (L := .nil) mN (by kernel_rfl)
theorem ok1341 : PuOK prog k1341.f k1341.args k1341.t := known (L := .nil) mN (by kernel_rfl)
theorem ok1342 : PuOK prog k1342.f k1342.args k1342.t := known (L := (.one k1340 (.one k1341 .nil))) (mO ok1340 (mO ok1341 mN)) (by kernel_rfl)
theorem ok1343 : PuOK prog k1343.f k1343.args k1343.t := known (L := .nil) mN (by kernel_rfl)
theorem ok1344 : PuOK prog k1344.f k1344.args k1344.t := known (L := .nil) mN (by kernel_rfl)
theorem ok1345 : PuOK prog k1345.f k1345.args k1345.t := known (L := .nil) mN (by kernel_rfl)
theorem ok1346 : PuOK prog k1346.f k1346.args k1346.t := known (L := (.one k1343 (.one k1344 (.one k1345 .nil)))) (mO ok1343 (mO ok1344 (mO ok1345 mN))) (by kernel_rfl)
theorem ok1347 : PuOK prog k1347.f k1347.args k1347.t := known (L := .nil) mN (by kernel_rfl)
theorem ok1348 : PuOK prog k1348.f k1348.args k1348.t := known (L := .nil) mN (by kernel_rfl)
theorem ok1349 : PuOK prog k1349.f k1349.args k1349.t := known (L := .nil) mN (by kernel_rfl)
theorem ok1350 : PuOK prog k1350.f k1350.args k1350.t := known (L := (.one k1347 (.one k1348 (.one k1349 .nil)))) (mO ok1347 (mO ok1348 (mO ok1349 mN))) (by kernel_rfl)
theorem ok1351 : PuOK prog k1351.f k1351.args k1351.t := known (L := .nil) mN (by kernel_rfl)
theorem ok1352 : PuOK prog k1352.f k1352.args k1352.t := known (L := .nil) mN (by kernel_rfl)
theorem ok1353 : PuOK prog k1353.f k1353.args k1353.t := known (L := (.one k1351 (.one k1352 .nil))) (mO ok1351 (mO ok1352 mN)) (by kernel_rfl)
theorem ok1354 : PuOK prog k1354.f k1354.args k1354.t := known (L := .nil) mN (by kernel_rfl)
theorem ok1355 : PuOK prog k1355.f k1355.args k1355.t := known (L := .nil) mN (by kernel_rfl)
theorem ok1356 : PuOK prog k1356.f k1356.args k1356.t := known (L := (.one k1354 (.one k1355 .nil))) (mO ok1354 (mO ok1355 mN)) (by kernel_rfl)
theorem ok1357 : PuOK prog k1357.f k1357.args k1357.t := known (L := .nil) mN (by kernel_rfl)
theorem ok1358 : PuOK prog k1358.f k1358.args k1358.t := known (L := .nil) mN (by kernel_rfl)
theorem ok1359 : PuOK prog k1359.f k1359.args k1359.t := known (L := .nil) mN (by kernel_rfl)
theorem ok1360 : PuOK prog k1360.f k1360.args k1360.t := known (L := (.one k1357 (.one k1358 (.one k1359 .nil)))) (mO ok1357 (mO ok1358 (mO ok1359 mN))) (by kernel_rfl)
theorem ok1361 : PuOK prog k1361.f k1361.args k1361.t := known (L := .nil) mN (by kernel_rfl)
theorem ok1362 : PuOK prog k1362.f k1362.args k1362.t := known (L := .nil) mN (by kernel_rfl)
theorem ok1363 : PuOK prog k1363.f k1363.args k1363.t := known (L := .nil) mN (by kernel_rfl)
theorem ok1364 : PuOK prog k1364.f k1364.args k1364.t := known (L := (.one k1361 (.one k1362 (.one k1363 .nil)))) (mO ok1361 (mO ok1362 (mO ok1363 mN))) (by kernel_rfl)
theorem ok1365 : PuOK prog k1365.f k1365.args k1365.t := known (L := .nil) mN (by kernel_rfl)
theorem ok1366 : PuOK prog k1366.f k1366.args k1366.t := known (L := .nil) mN (by kernel_rfl)
theorem ok1367 : PuOK prog k1367.f k1367.args k1367.t := known (L := (.one k1365 (.one k1366 .nil))) (mO ok1365 (mO ok1366 mN)) (by kernel_rfl)
theorem ok1368 : PuOK prog k1368.f k1368.args k1368.t := known (L := .nil) mN (by kernel_rfl)
theorem ok1369 : PuOK prog k1369.f k1369.args k1369.t := known (L := .nil) mN (by kernel_rfl)
theorem ok1370 : PuOK prog k1370.f k1370.args k1370.t := known (L := (.one k1368 (.one k1369 .nil))) (mO ok1368 (mO ok1369 mN)) (by kernel_rfl)
theorem ok1371 : PuOK prog k1371.f k1371.args k1371.t := known (L := .nil) mN (by kernel_rfl)
theorem ok1372 : PuOK prog k1372.f k1372.args k1372.t := known (L := .nil) mN (by kernel_rfl)
theorem ok1373 : PuOK prog k1373.f k1373.args k1373.t := known (L := .nil) mN (by kernel_rfl)
theorem ok1374 : PuOK prog k1374.f k1374.args k1374.t := known (L := (.one k1371 (.one k1372 (.one k1373 .nil)))) (mO ok1371 (mO ok1372 (mO ok1373 mN))) (by kernel_rfl)
theorem ok1375 : PuOK prog k1375.f k1375.args k1375.t := known (L := .nil) mN (by kernel_rfl)
theorem ok1376 : PuOK prog k1376.f k1376.args k1376.t := known (L := .nil) mN (by kernel_rfl)
theorem ok1377 : PuOK prog k1377.f k1377.args k1377.t := known (L := .nil) mN (by kernel_rfl)
theorem ok1378 : PuOK prog k1378.f k1378.args k1378.t := known (L := (.one k1375 (.one k1376 (.one k1377 .nil)))) (mO ok1375 (mO ok1376 (mO ok1377 mN))) (by kernel_rfl)
theorem ok1379 : PuOK prog k1379.f k1379.args k1379.t := known (L := .nil) mN (by kernel_rfl)
theorem ok1380 : PuOK prog k1380.f k1380.args k1380.t := known (L := .nil) mN (by kernel_rfl)
theorem ok1381 : PuOK prog k1381.f k1381.args k1381.t := known (L := (.one k1379 (.one k1380 .nil))) (mO ok1379 (mO ok1380 mN)) (by kernel_rfl)
theorem ok1382 : PuOK prog k1382.f k1382.args k1382.t := known (L := .nil) mN (by kernel_rfl)
theorem ok1383 : PuOK prog k1383.f k1383.args k1383.t := known (L := .nil) mN (by kernel_rfl)
theorem ok1384 : PuOK prog k1384.f k1384.args k1384.t := known (L := (.one k1382 (.one k1383 .nil))) (mO ok1382 (mO ok1383 mN)) (by kernel_rfl)
theorem ok1385 : PuOK prog k1385.f k1385.args k1385.t := known (L := .nil) mN (by kernel_rfl)
theorem ok1386 : PuOK prog k1386.f k1386.args k1386.t := known (L := .nil) mN (by kernel_rfl)
theorem ok1387 : PuOK prog k1387.f k1387.args k1387.t := known (L := .nil) mN (by kernel_rfl)
theorem ok1388 : PuOK prog k1388.f k1388.args k1388.t := known (L := (.one k1385 (.one k1386 (.one k1387 .nil)))) (mO ok1385 (mO ok1386 (mO ok1387 mN))) (by kernel_rfl)
theorem ok1389 : PuOK prog k1389.f k1389.args k1389.t := known (L := .nil) mN (by kernel_rfl)
theorem ok1390 : PuOK prog k1390.f k1390.args k1390.t := known (L := .nil) mN (by kernel_rfl)
theorem ok1391 : PuOK prog k1391.f k1391.args k1391.t := known (L := .nil) mN (by kernel_rfl)
theorem ok1392 : PuOK prog k1392.f k1392.args k1392.t := known (L := (.one k1389 (.one k1390 (.one k1391 .nil)))) (mO ok1389 (mO ok1390 (mO ok1391 mN))) (by kernel_rfl)
theorem ok1393 : PuOK prog k1393.f k1393.args k1393.t := known (L := .nil) mN (by kernel_rfl)
theorem ok1394 : PuOK prog k1394.f k1394.args k1394.t := known (L := .nil) mN (by kernel_rfl)
theorem ok1395 : PuOK prog k1395.f k1395.args k1395.t := known (L := (.one k1393 (.one k1394 .nil))) (mO ok1393 (mO ok1394 mN)) (by kernel_rfl)
theorem ok1396 : PuOK prog k1396.f k1396.args k1396.t := known (L := .nil) mN (by kernel_rfl)
theorem ok1397 : PuOK prog k1397.f k1397.args k1397.t := known (L := .nil) mN (by kernel_rfl)
theorem ok1398 : PuOK prog k1398.f k1398.args k1398.t := known (L := (.one k1396 (.one k1397 .nil))) (mO ok1396 (mO ok1397 mN)) (by kernel_rfl)
theorem ok1399 : PuOK prog k1399.f k1399.args k1399.t := known (L := .nil) mN (by kernel_rfl)
theorem ok1400 : PuOK prog k1400.f k1400.args k1400.t := known (L := .nil) mN (by kernel_rfl)
theorem ok1401 : PuOK prog k1401.f k1401.args k1401.t := known (L := .nil) mN (by kernel_rfl)
theorem ok1402 : PuOK prog k1402.f k1402.args k1402.t := known (L := (.one k1399 (.one k1400 (.one k1401 .nil)))) (mO ok1399 (mO ok1400 (mO ok1401 mN))) (by kernel_rfl)
theorem ok1403 : PuOK prog k1403.f k1403.args k1403.t := known (L := .nil) mN (by kernel_rfl)
theorem ok1404 : PuOK prog k1404.f k1404.args k1404.t := known (L := .nil) mN (by kernel_rfl)
theorem ok1405 : PuOK prog k1405.f k1405.args k1405.t := known (L := .nil) mN (by kernel_rfl)
theorem ok1406 : PuOK prog k1406.f k1406.args k1406.t := known (L := (.one k1403 (.one k1404 (.one k1405 .nil)))) (mO ok1403 (mO ok1404 (mO ok1405 mN))) (by kernel_rfl)
theorem ok1407 : PuOK prog k1407.f k1407.args k1407.t := known (L := .nil) mN (by kernel_rfl)
theorem ok1408 : PuOK prog k1408.f k1408.args k1408.t := known (L := .nil) mN (by kernel_rfl)
theorem ok1409 : PuOK prog k1409.f k1409.args k1409.t := known (L := (.one k1407 (.one k1408 .nil))) (mO ok1407 (mO ok1408 mN)) (by kernel_rfl)
theorem ok1410 : PuOK prog k1410.f k1410.args k1410.t := known (L := .nil) mN (by kernel_rfl)
theorem ok1411 : PuOK prog k1411.f k1411.args k1411.t := known (L := .nil) mN (by kernel_rfl)
theorem ok1412 : PuOK prog k1412.f k1412.args k1412.t := known (L := (.one k1410 (.one k1411 .nil))) (mO ok1410 (mO ok1411 mN)) (by kernel_rfl)
theorem ok1413 : PuOK prog k1413.f k1413.args k1413.t := known (L := .nil) mN (by kernel_rfl)
theorem ok1414 : PuOK prog k1414.f k1414.args k1414.t := known (L := .nil) mN (by kernel_rfl)
end Go.V
