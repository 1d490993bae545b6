/- Calls, evaluated. -/
import Derived.Test.YtppfkmmlojpcfaaGreatBx0
import Derived.Test.YtppfkmmlojpcfaaGreatBx10
set_option linter.unusedVariables false
set_option maxRecDepth 100000
namespace Go.V
open Go.Proofs.Tryz (prog)
def k1415 : Memo := ⟨228, [g3, .int .i64 (170)], g10⟩
def k1416 : Memo := ⟨153, [g5, .int .i64 (170), .int .i64 (1)], .bool false⟩
def k1417 : Memo := ⟨228, [g1, .int .i64 (171)], g11⟩
def k1418 : Memo := ⟨228, [g2, .int .i64 (171)], g13⟩
def k1419 : Memo := ⟨228, [g3, .int .i64 (171)], g11⟩
def k1420 : Memo := ⟨153, [g5, .int .i64 (171), .int .i64 (1)], .bool false⟩
def k1421 : Memo := ⟨228, [g1, .int .i64 (172)], g10⟩
def k1422 : Memo := ⟨228, [g2, .int .i64 (172)], g10⟩
def k1423 : Memo := ⟨153, [g5, .int .i64 (172), .int .i64 (1)], .bool false⟩
def k1424 : Memo := ⟨228, [g1, .int .i64 (173)], g11⟩
def k1425 : Memo := ⟨228, [g2, .int .i64 (173)], g11⟩
def k1426 : Memo := ⟨153, [g5, .int .i64 (173), .int .i64 (1)], .bool false⟩
def k1427 : Memo := ⟨228, [g1, .int .i64 (174)], g10⟩
def k1428 : Memo := ⟨228, [g2, .int .i64 (174)], g12⟩
def k1429 : Memo := ⟨228, [g3, .int .i64 (174)], g10⟩
def k1430 : Memo := ⟨153, [g5, .int .i64 (174), .int .i64 (1)], .bool false⟩
def k1431 : Memo := ⟨228, [g1, .int .i64 (175)], g11⟩
def k1432 : Memo := ⟨228, [g2, .int .i64 (175)], g13⟩
def k1433 : Memo := ⟨228, [g3, .int .i64 (175)], g11⟩
def k1434 : Memo := ⟨153, [g5, .int .i64 (175), .int .i64 (1)], .bool false⟩
def k1435 : Memo := ⟨228, [g1, .int .i64 (176)], g10⟩
def k1436 : Memo := ⟨228, [g2, .int .i64 (176)], g10⟩
def k1437 : Memo := ⟨153, [g5, .int .i64 (176), .int .i64 (1)], .bool false⟩
def k1438 : Memo := ⟨228, [g1, .int .i64 (177)], g11⟩
def k1439 : Memo := ⟨228, [g2, .int .i64 (177)], g11⟩
def k1440 : Memo := ⟨153, [g5, .int .i64 (177), .int .i64 (1)], .bool false⟩
def k1441 : Memo := ⟨228, [g1, .int .i64 (178)], g10⟩
def k1442 : Memo := ⟨228, [g2, .int .i64 (178)], g12⟩
def k1443 : Memo := ⟨228, [g3, .int .i64 (178)], g10⟩
def k1444 : Memo := ⟨153, [g5, .int .i64 (178), .int .i64 (1)], .bool false⟩
def k1445 : Memo := ⟨228, [g1, .int .i64 (179)], g11⟩
def k1446 : Memo := ⟨228, [g2, .int .i64 (179)], g13⟩
def k1447 : Memo := ⟨228, [g3, .int .i64 (179)], g11⟩
def k1448 : Memo := ⟨153, [g5, .int .i64 (179), .int .i64 (1)], .bool false⟩
def k1449 : Memo := ⟨228, [g1, .int .i64 (180)], g10⟩
def k1450 : Memo := ⟨228, [g2, .int .i64 (180)], g10⟩
def k1451 : Memo := ⟨153, [g5, .int .i64 (180), .int .i64 (1)], .bool false⟩
def k1452 : Memo := ⟨228, [g1, .int .i64 (181)], g11⟩
def k1453 : Memo := ⟨228, [g2, .int .i64 (181)], g11⟩
def k1454 : Memo := ⟨153, [g5, .int .i64 (181), .int .i64 (1)], .bool false⟩
def k1455 : Memo := ⟨228, [g1, .int .i64 (182)], g10⟩
def k1456 : Memo := ⟨228, [g2, .int .i64 (182)], g12⟩
def k1457 : Memo := ⟨228, [g3, .int .i64 (182)], g10⟩
def k1458 : Memo := ⟨153, [g5, .int .i64 (182), .int .i64 (1)], .bool false⟩
def k1459 : Memo := ⟨228, [g1, .int .i64 (183)], g11⟩
def k1460 : Memo := ⟨228, [g2, .int .i64 (183)], g13⟩
def k1461 : Memo := ⟨228, [g3, .int .i64 (183)], g11⟩
def k1462 : Memo := ⟨153, [g5, .int .i64 (183), .int .i64 (1)], .bool false⟩
def k1463 : Memo := ⟨228, [g1, .int .i64 (184)], g10⟩
def k1464 : Memo := ⟨228, [g2, .int .i64 (184)], g10⟩
def k1465 : Memo := ⟨153, [g5, .int .i64 (184), .int .i64 (1)], .bool false⟩
def k1466 : Memo := ⟨228, [g1, .int .i64 (185)], g11⟩
def k1467 : Memo := ⟨228, [g2, .int .i64 (185)], g11⟩
def k1468 : Memo := ⟨153, [g5, .int .i64 (185), .int .i64 (1)], .bool false⟩
def k1469 : Memo := ⟨228, [g1, .int .i64 (186)], g10⟩
def k1470 : Memo := ⟨228, [g2, .int .i64 (186)], g12⟩
def k1471 : Memo := ⟨228, [g3, .int .i64 (186)], g10⟩
def k1472 : Memo := ⟨153, [g5, .int .i64 (186), .int .i64 (1)], .bool false⟩
def k1473 : Memo := ⟨228, [g1, .int .i64 (187)], g11⟩
def k1474 : Memo := ⟨228, [g2, .int .i64 (187)], g13⟩
def k1475 : Memo := ⟨228, [g3, .int .i64 (187)], g11⟩
def k1476 : Memo := ⟨153, [g5, .int .i64 (187), .int .i64 (1)], .bool false⟩
def k1477 : Memo := ⟨228, [g1, .int .i64 (188)], g10⟩
def k1478 : Memo := ⟨228, [g2, .int .i64 (188)], g10⟩
def k1479 : Memo := ⟨153, [g5, .int .i64 (188), .int .i64 (1)], .bool false⟩
def k1480 : Memo := ⟨228, [g1, .int .i64 (189)], g11⟩
def k1481 : Memo := ⟨228, [g2, .int .i64 (189)], g11⟩
def k1482 : Memo := ⟨153, [g5, .int .i64 (189), .int .i64 (1)], .bool false⟩
def k1483 : Memo := ⟨228, [g1, .int .i64 (190)], g10⟩
def k1484 : Memo := ⟨228, [g2, .int .i64 (190)], g12⟩
def k1485 : Memo := ⟨228, [g3, .int .i64 (190)], g10⟩
def k1486 : Memo := ⟨153, [g5, .int .i64 (190), .int .i64 (1)], .bool false⟩
def k1487 : Memo := ⟨228, [g1, .int .i64 (191)], g11⟩
def k1488 : Memo := ⟨228, [g2, .int .i64 (191)], g13⟩
def k1489 : Memo := ⟨228, [g3, .int .i64 (191)], g11⟩
def k1490 : Memo := ⟨153, [g5, .int .i64 (191), .int .i64 (1)], .bool false⟩
def k1491 : Memo := ⟨228, [g1, .int .i64 (192)], g10⟩
def k1492 : Memo := ⟨228, [g2, .int .i64 (192)], g10⟩
def k1493 : Memo := ⟨153, [g5, .int .i64 (192), .int .i64 (1)], .bool false⟩
def k1494 : Memo := ⟨228, [g1, .int .i64 (193)], g11⟩
def k1495 : Memo := ⟨228, [g2, .int .i64 (193)], g11⟩
def k1496 : Memo := ⟨153, [g5, .int .i64 (193), .int .i64 (1)], .bool false⟩
def k1497 : Memo := ⟨228, [g1, .int .i64 (194)], g10⟩
def k1498 : Memo := ⟨228, [g2, .int .i64 (194)], g12⟩
def k1499 : Memo := ⟨228, [g3, .int .i64 (194)], g10⟩
def k1500 : Memo := ⟨153, [g5, .int .i64 (194), .int .i64 (1)], .bool false⟩
def k1501 : Memo := ⟨228, [g1, .int .i64 (195)], g11⟩
def k1502 : Memo := ⟨228, [g2, .int .i64 (195)], g13⟩
def k1503 : Memo := ⟨228, [g3, .int .i64 (195)], g11⟩
def k1504 : Memo := ⟨153, [g5, .int .i64 (195), .int .i64 (1)], .bool false⟩
def k1505 : Memo := ⟨228, [g1, .int .i64 (196)], g10⟩
def k1506 : Memo := ⟨228, [g2, .int .i64 (196)], g10⟩
def k1507 : Memo := ⟨153, [g5, .int .i64 (196), .int .i64 (1)], .bool false⟩
def k1508 : Memo := ⟨228, [g1, .int .i64 (197)], g11⟩
def k1509 : Memo := ⟨228, [g2, .int .i64 (197)], g11⟩
def k1510 : Memo := ⟨153, [g5, .int .i64 (197), .int .i64 (1)], .bool false⟩
def k1511 : Memo := ⟨228, [g1, .int .i64 (198)], g10⟩
def k1512 : Memo := ⟨228, [g2, .int .i64 (198)], g12⟩
def k1513 : Memo := ⟨228, [g3, .int .i64 (198)], g10⟩
def k1514 : Memo := ⟨153, [g5, .int .i64 (198), .int .i64 (1)], .bool false⟩
def k1515 : Memo := ⟨228, [g1, .int .i64 (199)], g11⟩
def k1516 : Memo := ⟨228, [g2, .int .i64 (199)], g13⟩
def k1517 : Memo := ⟨228, [g3, .int .i64 (199)], g11⟩
def k1518 : Memo := ⟨153, [g5, .int .i64 (199), .int .i64 (1)], .bool false⟩
def k1519 : Memo := ⟨228, [g1, .int .i64 (200)], g10⟩
def k1520 : Memo := ⟨228, [g2, .int .i64 (200)], g10⟩
def k1521 : Memo := ⟨153, [g5, .int .i64 (200), .int .i64 (1)], .bool false⟩
def k1522 : Memo := ⟨228, [g1, .int .i64 (201)], g11⟩
def k1523 : Memo := ⟨228, [g2, .int .i64 (201)], g11⟩
def k1524 : Memo := ⟨153, [g5, .int .i64 (201), .int .i64 (1)], .bool false⟩
def k1525 : Memo := ⟨228, [g1, .int .i64 (202)], g10⟩
def k1526 : Memo := ⟨228, [g2, .int .i64 (202)], g12⟩
def k1527 : Memo := ⟨228, [g3, .int .i64 (202)], g10⟩
def k1528 : Memo := ⟨153, [g5, .int .i64 (202), .int .i64 (1)], .bool false⟩
def k1529 : Memo := ⟨228, [g1, .int .i64 (203)], g11⟩
def k1530 : Memo := ⟨228, [g2, .int .i64 (203)], g13⟩
def k1531 : Memo := ⟨228, [g3, .int .i64 (203)], g11⟩
def k1532 : Memo := ⟨153, [g5, .int .i64 (203), .int .i64 (1)], .bool false⟩
def k1533 : Memo := ⟨228, [g1, .int .i64 (204)], g10⟩
def k1534 : Memo := ⟨228, [g2, .int .i64 (204)], g10⟩
def k1535 : Memo := ⟨153, [g5, .int .i64 (204), .int .i64 (1)], .bool false⟩
def k1536 : Memo := ⟨228, [g1, .int .i64 (205)], g11⟩
def k1537 : Memo := ⟨228, [g2, .int .i64 (205)], g11⟩
def k1538 : Memo := ⟨153, [g5, .int .i64 (205), .int .i64 (1)], .bool false⟩
def k1539 : Memo := ⟨228, [g1, .int .i64 (206)], g10⟩
def k1540 : Memo := ⟨228, [g2, .int .i64 (206)], g12⟩
def k1541 : Memo := ⟨228, [g3, .int .i64 (206)], g10⟩
def k1542 : Memo := ⟨153, [g5, .int .i64 (206), .int .i64 (1)], .bool false⟩
def k1543 : Memo := ⟨228, [g1, .int .i64 (207)], g11⟩
def k1544 : Memo := ⟨228, [g2, .int .i64 (207)], g13⟩
def k1545 : Memo := ⟨228, [g3, .int .i64 (207)], g11⟩
def k1546 : Memo := ⟨153, [g5, .int .i64 (207), .int .i64 (1)], .bool false⟩
def k1547 : Memo := ⟨228, [g1, .int .i64 (208)], g10⟩
def k1548 : Memo := ⟨228, [g2, .int .i64 (208)], g10⟩
def k1549 : Memo := ⟨153, [g5, .int .i64 (208), .int .i64 (1)], .bool false⟩
def k1550 : Memo := ⟨228, [g1, .int .i64 (209)], g11⟩
def k1551 : Memo := ⟨228, [g2, .int .i64 (209)], g11⟩
def k1552 : Memo := ⟨153, [g5, .int .i64 (209), .int .i64 (1)], .bool false⟩
def k1553 : Memo := ⟨228, [g1, .int .i64 (210)], g10⟩
theorem ok1415 : PuOK prog k1415.f k1415.args k1415.t := known (L := .nil) mN (by kernel_rfl)
theorem ok1416 : PuOK prog k1416.f k1416.args k1416.t := known (L := (.one k1413 (.one k1414 (.one k1415 .nil)))) (mO ok1413 (mO ok1414 (mO ok1415 mN))) (by kernel_rfl)
theorem ok1417 : PuOK prog k1417.f k1417.args k1417.t := known (L := .nil) mN (by kernel_rfl)
theorem ok1418 : PuOK prog k1418.f k1418.args k1418.t := known (L := .nil) mN (by kernel_rfl)
theorem ok1419 : PuOK prog k1419.f k1419.args k1419.t := known (L := .nil) mN (by kernel_rfl)
theorem ok1420 : PuOK prog k1420.f k1420.args k1420.t := known (L := (.one k1417 (.one k1418 (.one k1419 .nil)))) (mO ok1417 (mO ok1418 (mO ok1419 mN))) (by kernel_rfl)
theorem ok1421 : PuOK prog k1421.f k1421.args k1421.t := known (L := .nil) mN (by kernel_rfl)
theorem ok1422 : PuOK prog k1422.f k1422.args k1422.t := known (L := .nil) mN (by kernel_rfl)
theorem ok1423 : PuOK prog k1423.f k1423.args k1423.t := known (L := (.one k1421 (.one k1422 .nil))) (mO ok1421 (mO ok1422 mN)) (by kernel_rfl)
theorem ok1424 : PuOK prog k1424.f k1424.args k1424.t := known (L := .nil) mN (by kernel_rfl)
theorem ok1425 : PuOK prog k1425.f k1425.args k1425.t := known (L := .nil) mN (by kernel_rfl)
theorem ok1426 : PuOK prog k1426.f k1426.args k1426.t := known (L := (.one k1424 (.one k1425 .nil))) (mO ok1424 (mO ok1425 mN)) (by kernel_rfl)
theorem ok1427 : PuOK prog k1427.f k1427.args k1427.t := known (L := .nil) mN (by kernel_rfl)
theorem ok1428 : PuOK prog k1428.f k1428.args k1428.t := known (L := .nil) mN (by kernel_rfl)
theorem ok1429 : PuOK prog k1429.f k1429.args k1429.t := known (L := .nil) mN (by kernel_rfl)
theorem ok1430 : PuOK prog k1430.f k1430.args k1430.t := known (L := (.one k1427 (.one k1428 (.one k1429 .nil)))) (mO ok1427 (mO ok1428 (mO ok1429 mN))) (by kernel_rfl)
theorem ok1431 : PuOK prog k1431.f k1431.args k1431.t := known (L := .nil) mN (by kernel_rfl)
theorem ok1432 : PuOK prog k1432.f k1432.args k1432.t := known (L := .nil) mN (by kernel_rfl)
theorem ok1433 : PuOK prog k1433.f k1433.args k1433.t := known (L := .nil) mN (by kernel_rfl)
theorem ok1434 : PuOK prog k1434.f k1434.args k1434.t := known (L := (.one k1431 (.one k1432 (.one k1433 .nil)))) (mO ok1431 (mO ok1432 (mO ok1433 mN))) (by kernel_rfl)
theorem ok1435 : PuOK prog k1435.f k1435.args k1435.t := known (L := .nil) mN (by kernel_rfl)
theorem ok1436 : PuOK prog k1436.f k1436.args k1436.t := known (L := .nil) mN (by kernel_rfl)
theorem ok1437 : PuOK prog k1437.f k1437.args k1437.t := known (L := (.one k1435 (.one k1436 .nil))) (mO ok1435 (mO ok1436 mN)) (by kernel_rfl)
theorem ok1438 : PuOK prog k1438.f k1438.args k1438.t := known (L := .nil) mN (by kernel_rfl)
theorem ok1439 : PuOK prog k1439.f k1439.args k1439.t := known (L := .nil) mN (by kernel_rfl)
theorem ok1440 : PuOK prog k1440.f k1440.args k1440.t := known (L := (.one k1438 (.one k1439 .nil))) (mO ok1438 (mO ok1439 mN)) (by kernel_rfl)
theorem ok1441 : PuOK prog k1441.f k1441.args k1441.t := known (L := .nil) mN (by kernel_rfl)
theorem ok1442 : PuOK prog k1442.f k1442.args k1442.t := known (L := .nil) mN (by kernel_rfl)
theorem ok1443 : PuOK prog k1443.f k1443.args k1443.t := known (L := .nil) mN (by kernel_rfl)
theorem ok1444 : PuOK prog k1444.f k1444.args k1444.t := known (L := (.one k1441 (.one k1442 (.one k1443 .nil)))) (mO ok1441 (mO ok1442 (mO ok1443 mN))) (by kernel_rfl)
theorem ok1445 : PuOK prog k1445.f k1445.args k1445.t := known (L := .nil) mN (by kernel_rfl)
theorem ok1446 : PuOK prog k1446.f k1446.args k1446.t := known (L := .nil) mN (by kernel_rfl)
theorem ok1447 : PuOK prog k1447.f k1447.args k1447.t := known (L := .nil) mN (by kernel_rfl)
theorem ok1448 : PuOK prog k1448.f k1448.args k1448.t := known (L := (.one k1445 (.one k1446 (.one k1447 .nil)))) (mO ok1445 (mO ok1446 (mO ok1447 mN))) (by kernel_rfl)
theorem ok1449 : PuOK prog k1449.f k1449.args k1449.t := known (L := .nil) mN (by kernel_rfl)
theorem ok1450 : PuOK prog k1450.f k1450.args k1450.t := known (L := .nil) mN (by kernel_rfl)
theorem ok1451 : PuOK prog k1451.f k1451.args k1451.t := known (L := (.one k1449 (.one k1450 .nil))) (mO ok1449 (mO ok1450 mN)) (by kernel_rfl)
theorem ok1452 : PuOK prog k1452.f k1452.args k1452.t := known (L := .nil) mN (by kernel_rfl)
theorem ok1453 : PuOK prog k1453.f k1453.args k1453.t := known (L := .nil) mN (by kernel_rfl)
theorem ok1454 : PuOK prog k1454.f k1454.args k1454.t := known (L := (.one k1452 (.one k1453 .nil))) (mO ok1452 (mO ok1453 mN)) (by kernel_rfl)
theorem ok1455 : PuOK prog k1455.f k1455.args k1455.t := known (L := .nil) mN (by kernel_rfl)
theorem ok1456 : PuOK prog k1456.f k1456.args k1456.t := known (L := .nil) mN (by kernel_rfl)
theorem ok1457 : PuOK prog k1457.f k1457.args k1457.t := known (L := .nil) mN (by kernel_rfl)
theorem ok1458 : PuOK prog k1458.f k1458.args k1458.t := known (L := (.one k1455 (.one k1456 (.one k1457 .nil)))) (mO ok1455 (mO ok1456 (mO ok1457 mN))) (by kernel_rfl)
theorem ok1459 : PuOK prog k1459.f k1459.args k1459.t := known (L := .nil) mN (by kernel_rfl)
theorem ok1460 : PuOK prog k1460.f k1460.args k1460.t := known (L := .nil) mN (by kernel_rfl)
theorem ok1461 : PuOK prog k1461.f k1461.args k1461.t := known (L := .nil) mN (by kernel_rfl)
theorem ok1462 : PuOK prog k1462.f k1462.args k1462.t := known (L := (.one k1459 (.one k1460 (.one k1461 .nil)))) (mO ok1459 (mO ok1460 (mO ok1461 mN))) (by kernel_rfl)
theorem ok1463 : PuOK prog k1463.f k1463.args k1463.t := known (L := .nil) mN (by kernel_rfl)
theorem ok1464 : PuOK prog k1464.f k1464.args k1464.t := known (L := .nil) mN (by kernel_rfl)
theorem ok1465 : PuOK prog k1465.f k1465.args k1465.t := known (L := (.one k1463 (.one k1464 .nil))) (mO ok1463 (mO ok1464 mN)) (by kernel_rfl)
theorem ok1466 : PuOK prog k1466.f k1466.args k1466.t := known (L := .nil) mN (by kernel_rfl)
theorem ok1467 : PuOK prog k1467.f k1467.args k1467.t := known (L := .nil) mN (by kernel_rfl)
theorem ok1468 : PuOK prog k1468.f k1468.args k1468.t := known (L := (.one k1466 (.one k1467 .nil))) (mO ok1466 (mO ok1467 mN)) (by kernel_rfl)
theorem ok1469 : PuOK prog k1469.f k1469.args k1469.t := known (L := .nil) mN (by kernel_rfl)
theorem ok1470 : PuOK prog k1470.f k1470.args k1470.t := known (L := .nil) mN (by kernel_rfl)
theorem ok1471 : PuOK prog k1471.f k1471.args k1471.t := known (L := .nil) mN (by kernel_rfl)
theorem ok1472 : PuOK prog k1472.f k1472.args k1472.t := known (L := (.one k1469 (.one k1470 (.one k1471 .nil)))) (mO ok1469 (mO ok1470 (mO ok1471 mN))) (by kernel_rfl)
theorem ok1473 : PuOK prog k1473.f k1473.args k1473.t := known (L := .nil) mN (by kernel_rfl)
theorem ok1474 : PuOK prog k1474.f k1474.args k1474.t := known (L := .nil) mN (by kernel_rfl)
theorem ok1475 : PuOK prog k1475.f k1475.args k1475.t := known (L := .nil) mN (by kernel_rfl)
theorem ok1476 : PuOK prog k1476.f k1476.args k1476.t := known (L := (.one k1473 (.one k1474 (.one k1475 .nil)))) (mO ok1473 (mO ok1474 (mO ok1475 mN))) (by kernel_rfl)
theorem ok1477 : PuOK prog k1477.f k1477.args k1477.t := known (L := .nil) mN (by kernel_rfl)
theorem ok1478 : PuOK prog k1478.f k1478.args k1478.t := known (L := .nil) mN (by kernel_rfl)
theorem ok1479 : PuOK prog k1479.f k1479.args k1479.t := known (L := (.one k1477 (.one k1478 .nil))) (mO ok1477 (mO ok1478 mN)) (by kernel_rfl)
theorem ok1480 : PuOK prog k1480.f k1480.args k1480.t := known (L := .nil) mN (by kernel_rfl)
theorem ok1481 : PuOK prog k1481.f k1481.args k1481.t := known (L := .nil) mN (by kernel_rfl)
theorem ok1482 : PuOK prog k1482.f k1482.args k1482.t := known (L := (.one k1480 (.one k1481 .nil))) (mO ok1480 (mO ok1481 mN)) (by kernel_rfl)
theorem ok1483 : PuOK prog k1483.f k1483.args k1483.t := known (L := .nil) mN (by kernel_rfl)
theorem ok1484 : PuOK prog k1484.f k1484.args k1484.t := known (L := .nil) mN (by kernel_rfl)
theorem ok1485 : PuOK prog k1485.f k1485.args k1485.t := known (L := .nil) mN (by kernel_rfl)
theorem ok1486 : PuOK prog k1486.f k1486.args k1486.t := known (L := (.one k1483 (.one k1484 (.one k1485 .nil)))) (mO ok1483 (mO ok1484 (mO ok1485 mN))) (by kernel_rfl)
theorem ok1487 : PuOK prog k1487.f k1487.args k1487.t := known (L := .nil) mN (by kernel_rfl)
theorem ok1488 : PuOK prog k1488.f k1488.args k1488.t := known (L := .nil) mN (by kernel_rfl)
theorem ok1489 : PuOK prog k1489.f k1489.args k1489.t := known (L := .nil) mN (by kernel_rfl)
theorem ok1490 : PuOK prog k1490.f k1490.args k1490.t := known (L := (.one k1487 (.one k1488 (.one k1489 .nil)))) (mO ok1487 (mO ok1488 (mO ok1489 mN))) (by kernel_rfl)
theorem ok1491 : PuOK prog k1491.f k1491.args k1491.t := known (L := .nil) mN (by kernel_rfl)
theorem ok1492 : PuOK prog k1492.f k1492.args k1492.t := known (L := .nil) mN (by kernel_rfl)
theorem ok1493 : PuOK prog k1493.f k1493.args k1493.t := known (L := (.one k1491 (.one k1492 .nil))) (mO ok1491 (mO ok1492 mN)) (by kernel_rfl)
theorem ok1494 : PuOK prog k1494.f k1494.args k1494.t := known (L := .nil) mN (by kernel_rfl)
theorem ok1495 : PuOK prog k1495.f k1495.args k1495.t := known (L := .nil) mN (by kernel_rfl)
theorem ok1496 : PuOK prog k1496.f k1496.args k1496.t := known (L := (.one k1494 (.one k1495 .nil))) (mO ok1494 (mO ok1495 mN)) (by kernel_rfl)
theorem ok1497 : PuOK prog k1497.f k1497.args k1497.t := known (L := .nil) mN (by kernel_rfl)
theorem ok1498 : PuOK prog k1498.f k1498.args k1498.t := known (L := .nil) mN (by kernel_rfl)
theorem ok1499 : PuOK prog k1499.f k1499.args k1499.t := known (L := .nil) mN (by kernel_rfl)
theorem ok1500 : PuOK prog k1500.f k1500.args k1500.t := known (L := (.one k1497 (.one k1498 (.one k1499 .nil)))) (mO ok1497 (mO ok1498 (mO ok1499 mN))) (by kernel_rfl)
theorem ok1501 : PuOK prog k1501.f k1501.args k1501.t := known (L := .nil) mN (by kernel_rfl)
theorem ok1502 : PuOK prog k1502.f k1502.args k1502.t := known (L := .nil) mN (by kernel_rfl)
theorem ok1503 : PuOK prog k1503.f k1503.args k1503.t := known (L := .nil) mN (by kernel_rfl)
theorem ok1504 : PuOK prog k1504.f k1504.args k1504.t := known (L := (.one k1501 (.one k1502 (.one k1503 .nil)))) (mO ok1501 (mO ok1502 (mO ok1503 mN))) (by kernel_rfl)
theorem ok1505 : PuOK prog k1505.f k1505.args k1505.t := known (L := .nil) mN (by kernel_rfl)
theorem ok1506 : PuOK prog k1506.f k1506.args k1506.t := known (L := .nil) mN (by kernel_rfl)
theorem ok1507 : PuOK prog k1507.f k1507.args k1507.t := known (L := (.one k1505 (.one k1506 .nil))) (mO ok1505 (mO ok1506 mN)) (by kernel_rfl)
theorem ok1508 : PuOK prog k1508.f k1508.args k1508.t := known (L := .nil) mN (by kernel_rfl)
theorem ok1509 : PuOK prog k1509.f k1509.args k1509.t := known (L := .nil) mN (by kernel_rfl)
theorem ok1510 : PuOK prog k1510.f k1510.args k1510.t := known (L := (.one k1508 (.one k1509 .nil))) (mO ok1508 (mO ok1509 mN)) (by kernel_rfl)
theorem ok1511 : PuOK prog k1511.f k1511.args k1511.t := known (L := .nil) mN (by kernel_rfl)
theorem ok1512 : PuOK prog k1512.f k1512.args k1512.t := known (L := .nil) mN (by kernel_rfl)
theorem ok1513 : PuOK prog k1513.f k1513.args k1513.t := known (L := .nil) mN (by kernel_rfl)
theorem ok1514 : PuOK prog k1514.f k1514.args k1514.t := known (L := (.one k1511 (.one k1512 (.one k1513 .nil)))) (mO ok1511 (mO ok1512 (mO ok1513 mN))) (by kernel_rfl)
theorem ok1515 : PuOK prog k1515.f k1515.args k1515.t := known (L := .nil) mN (by kernel_rfl)
theorem ok1516 : PuOK prog k1516.f k1516.args k1516.t := known (L := .nil) mN (by kernel_rfl)
theorem ok1517 : PuOK prog k1517.f k1517.args k1517.t := known (L := .nil) mN (by kernel_rfl)
theorem ok1518 : PuOK prog k1518.f k1518.args k1518.t := known (L := (.one k1515 (.one k1516 (.one k1517 .nil)))) (mO ok1515 (mO ok1516 (mO ok1517 mN))) (by kernel_rfl)
theorem ok1519 : PuOK prog k1519.f k1519.args k1519.t := known (L := .nil) mN (by kernel_rfl)
theorem ok1520 : PuOK prog k1520.f k1520.args k1520.t := known (L := .nil) mN (by kernel_rfl)
theorem ok1521 : PuOK prog k1521.f k1521.args k1521.t := known (L := (.one k1519 (.one k1520 .nil))) (mO ok1519 (mO ok1520 mN)) (by kernel_rfl)
theorem ok1522 : PuOK prog k1522.f k1522.args k1522.t := known (L := .nil) mN (by kernel_rfl)
theorem ok1523 : PuOK prog k1523.f k1523.args k1523.t := known (L := .nil) mN (by kernel_rfl)
theorem ok1524 : PuOK prog k1524.f k1524.args k1524.t := known (L := (.one k1522 (.one k1523 .nil))) (mO ok1522 (mO ok1523 mN)) (by kernel_rfl)
theorem ok1525 : PuOK prog k1525.f k1525.args k1525.t := known (L := .nil) mN (by kernel_rfl)
theorem ok1526 : PuOK prog k1526.f k1526.args k1526.t := known (L := .nil) mN (by kernel_rfl)
theorem ok1527 : PuOK prog k1527.f k1527.args k1527.t := known (L := .nil) mN (by kernel_rfl)
theorem ok1528 : PuOK prog k1528.f k1528.args k1528.t := known (L := (.one k1525 (.one k1526 (.one k1527 .nil)))) (mO ok1525 (mO ok1526 (mO ok1527 mN))) (by kernel_rfl)
theorem ok1529 : PuOK prog k1529.f k1529.args k1529.t := known (L := .nil) mN (by kernel_rfl)
theorem ok1530 : PuOK prog k1530.f k1530.args k1530.t := known (L := .nil) mN (by kernel_rfl)
theorem ok1531 : PuOK prog k1531.f k1531.args k1531.t := known (L := .nil) mN (by kernel_rfl)
theorem ok1532 : PuOK prog k1532.f k1532.args k1532.t := known (L := (.one k1529 (.one k1530 (.one k1531 .nil)))) (mO ok1529 (mO ok1530 (mO ok1531 mN))) (by kernel_rfl)
theorem ok1533 : PuOK prog k1533.f k1533.args k1533.t := known (L := .nil) mN (by kernel_rfl)
theorem ok1534 : PuOK prog k1534.f k1534.args k1534.t := known (L := .nil) mN (by kernel_rfl)
theorem ok1535 : PuOK prog k1535.f k1535.args k1535.t := known (L := (.one k1533 (.one k1534 .nil))) (mO ok1533 (mO ok1534 mN)) (by kernel_rfl)
theorem ok1536 : PuOK prog k1536.f k1536.args k1536.t := known (L := .nil) mN (by kernel_rfl)
theorem ok1537 : PuOK prog k1537.f k1537.args k1537.t := known (L := .nil) mN (by kernel_rfl)
theorem ok1538 : PuOK prog k1538.f k1538.args k1538.t := known (L := (.one k1536 (.one k1537 .nil))) (mO ok1536 (mO ok1537 mN)) (by kernel_rfl)
theorem ok1539 : PuOK prog k1539.f k1539.args k1539.t := known (L := .nil) mN (by kernel_rfl)
theorem ok1540 : PuOK prog k1540.f k1540.args k1540.t := known (L := .nil) mN (by kernel_rfl)
theorem ok1541 : PuOK prog k1541.f k1541.args k1541.t := known (L := .nil) mN (by kernel_rfl)
theorem ok1542 : PuOK prog k1542.f k1542.args k1542.t := known (L := (.one k1539 (.one k1540 (.one k1541 .nil)))) (mO ok1539 (mO ok1540 (mO ok1541 mN))) (by kernel_rfl)
theorem ok1543 : PuOK prog k1543.f k1543.args k1543.t := known (L := .nil) mN (by kernel_rfl)
theorem ok1544 : PuOK prog k1544.f k1544.args k1544.t := known (L := .nil) mN (by kernel_rfl)
theorem ok1545 : PuOK prog k1545.f k1545.args k1545.t := known (L := .nil) mN (by kernel_rfl)
theorem ok1546 : PuOK prog k1546.f k1546.args k1546.t := known (L := (.one k1543 (.one k1544 (.one k1545 .nil)))) (mO ok1543 (mO ok1544 (mO ok1545 mN))) (by kernel_rfl)
theorem ok1547 : PuOK prog k1547.f k1547.args k1547.t := known (L := .nil) mN (by kernel_rfl)
theorem ok1548 : PuOK prog k1548.f k1548.args k1548.t := known (L := .nil) mN (by kernel_rfl)
theorem ok1549 : PuOK prog k1549.f k1549.args k1549.t := known (L := (.one k1547 (.one k1548 .nil))) (mO ok1547 (mO ok1548 mN)) (by kernel_rfl)
theorem ok1550 : PuOK prog k1550.f k1550.args k1550.t := known (L := .nil) mN (by kernel_rfl)
theorem ok1551 : PuOK prog k1551.f k1551.args k1551.t := known (L := .nil) mN (by kernel_rfl)
theorem ok1552 : PuOK prog k1552.f k1552.args k1552.t := known (L := (.one k1550 (.one k1551 .nil))) (mO ok1550 (mO ok1551 mN)) (by kernel_rfl)
theorem ok1553 : PuOK prog k1553.f k1553.args k1553.t := known (L := .nil) mN (by kernel_rfl)
end Go.V
