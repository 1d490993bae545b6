/- Calls, evaluated. -/
import Derived.Test.YtppfkmmlojpcfaaGreatBx0
import Derived.Test.YtppfkmmlojpcfaaGreatBx11
set_option linter.unusedVariables false
set_option maxRecDepth 100000
namespace Go.V
open Go.Proofs.Tryz (prog)
def k1554 : Memo := ⟨228, [g2, .int .i64 (210)], g12⟩
def k1555 : Memo := ⟨228, [g3, .int .i64 (210)], g10⟩
def k1556 : Memo := ⟨153, [g5, .int .i64 (210), .int .i64 (1)], .bool false⟩
def k1557 : Memo := ⟨228, [g1, .int .i64 (211)], g11⟩
def k1558 : Memo := ⟨228, [g2, .int .i64 (211)], g13⟩
def k1559 : Memo := ⟨228, [g3, .int .i64 (211)], g11⟩
def k1560 : Memo := ⟨153, [g5, .int .i64 (211), .int .i64 (1)], .bool false⟩
def k1561 : Memo := ⟨228, [g1, .int .i64 (212)], g10⟩
def k1562 : Memo := ⟨228, [g2, .int .i64 (212)], g10⟩
def k1563 : Memo := ⟨153, [g5, .int .i64 (212), .int .i64 (1)], .bool false⟩
def k1564 : Memo := ⟨228, [g1, .int .i64 (213)], g11⟩
def k1565 : Memo := ⟨228, [g2, .int .i64 (213)], g11⟩
def k1566 : Memo := ⟨153, [g5, .int .i64 (213), .int .i64 (1)], .bool false⟩
def k1567 : Memo := ⟨228, [g1, .int .i64 (214)], g10⟩
def k1568 : Memo := ⟨228, [g2, .int .i64 (214)], g12⟩
def k1569 : Memo := ⟨228, [g3, .int .i64 (214)], g10⟩
def k1570 : Memo := ⟨153, [g5, .int .i64 (214), .int .i64 (1)], .bool false⟩
def k1571 : Memo := ⟨228, [g1, .int .i64 (215)], g11⟩
def k1572 : Memo := ⟨228, [g2, .int .i64 (215)], g13⟩
def k1573 : Memo := ⟨228, [g3, .int .i64 (215)], g11⟩
def k1574 : Memo := ⟨153, [g5, .int .i64 (215), .int .i64 (1)], .bool false⟩
def k1575 : Memo := ⟨228, [g1, .int .i64 (216)], g10⟩
def k1576 : Memo := ⟨228, [g2, .int .i64 (216)], g10⟩
def k1577 : Memo := ⟨153, [g5, .int .i64 (216), .int .i64 (1)], .bool false⟩
def k1578 : Memo := ⟨228, [g1, .int .i64 (217)], g11⟩
def k1579 : Memo := ⟨228, [g2, .int .i64 (217)], g11⟩
def k1580 : Memo := ⟨153, [g5, .int .i64 (217), .int .i64 (1)], .bool false⟩
def k1581 : Memo := ⟨228, [g1, .int .i64 (218)], g10⟩
def k1582 : Memo := ⟨228, [g2, .int .i64 (218)], g12⟩
def k1583 : Memo := ⟨228, [g3, .int .i64 (218)], g10⟩
def k1584 : Memo := ⟨153, [g5, .int .i64 (218), .int .i64 (1)], .bool false⟩
def k1585 : Memo := ⟨228, [g1, .int .i64 (219)], g11⟩
def k1586 : Memo := ⟨228, [g2, .int .i64 (219)], g13⟩
def k1587 : Memo := ⟨228, [g3, .int .i64 (219)], g11⟩
def k1588 : Memo := ⟨153, [g5, .int .i64 (219), .int .i64 (1)], .bool false⟩
def k1589 : Memo := ⟨228, [g1, .int .i64 (220)], g10⟩
def k1590 : Memo := ⟨228, [g2, .int .i64 (220)], g10⟩
def k1591 : Memo := ⟨153, [g5, .int .i64 (220), .int .i64 (1)], .bool false⟩
def k1592 : Memo := ⟨228, [g1, .int .i64 (221)], g11⟩
def k1593 : Memo := ⟨228, [g2, .int .i64 (221)], g11⟩
def k1594 : Memo := ⟨153, [g5, .int .i64 (221), .int .i64 (1)], .bool false⟩
def k1595 : Memo := ⟨228, [g1, .int .i64 (222)], g10⟩
def k1596 : Memo := ⟨228, [g2, .int .i64 (222)], g12⟩
def k1597 : Memo := ⟨228, [g3, .int .i64 (222)], g10⟩
def k1598 : Memo := ⟨153, [g5, .int .i64 (222), .int .i64 (1)], .bool false⟩
def k1599 : Memo := ⟨228, [g1, .int .i64 (223)], g11⟩
def k1600 : Memo := ⟨228, [g2, .int .i64 (223)], g13⟩
def k1601 : Memo := ⟨228, [g3, .int .i64 (223)], g11⟩
def k1602 : Memo := ⟨153, [g5, .int .i64 (223), .int .i64 (1)], .bool false⟩
def k1603 : Memo := ⟨228, [g1, .int .i64 (224)], g10⟩
def k1604 : Memo := ⟨228, [g2, .int .i64 (224)], g10⟩
def k1605 : Memo := ⟨153, [g5, .int .i64 (224), .int .i64 (1)], .bool false⟩
def k1606 : Memo := ⟨228, [g1, .int .i64 (225)], g11⟩
def k1607 : Memo := ⟨228, [g2, .int .i64 (225)], g11⟩
def k1608 : Memo := ⟨153, [g5, .int .i64 (225), .int .i64 (1)], .bool false⟩
def k1609 : Memo := ⟨228, [g1, .int .i64 (226)], g10⟩
def k1610 : Memo := ⟨228, [g2, .int .i64 (226)], g12⟩
def k1611 : Memo := ⟨228, [g3, .int .i64 (226)], g10⟩
def k1612 : Memo := ⟨153, [g5, .int .i64 (226), .int .i64 (1)], .bool false⟩
def k1613 : Memo := ⟨228, [g1, .int .i64 (227)], g11⟩
def k1614 : Memo := ⟨228, [g2, .int .i64 (227)], g13⟩
def k1615 : Memo := ⟨228, [g3, .int .i64 (227)], g11⟩
def k1616 : Memo := ⟨153, [g5, .int .i64 (227), .int .i64 (1)], .bool false⟩
def k1617 : Memo := ⟨228, [g1, .int .i64 (228)], g10⟩
def k1618 : Memo := ⟨228, [g2, .int .i64 (228)], g10⟩
def k1619 : Memo := ⟨153, [g5, .int .i64 (228), .int .i64 (1)], .bool false⟩
def k1620 : Memo := ⟨228, [g1, .int .i64 (229)], g11⟩
def k1621 : Memo := ⟨228, [g2, .int .i64 (229)], g11⟩
def k1622 : Memo := ⟨153, [g5, .int .i64 (229), .int .i64 (1)], .bool false⟩
def k1623 : Memo := ⟨228, [g1, .int .i64 (230)], g10⟩
def k1624 : Memo := ⟨228, [g2, .int .i64 (230)], g12⟩
def k1625 : Memo := ⟨228, [g3, .int .i64 (230)], g10⟩
def k1626 : Memo := ⟨153, [g5, .int .i64 (230), .int .i64 (1)], .bool false⟩
def k1627 : Memo := ⟨228, [g1, .int .i64 (231)], g11⟩
def k1628 : Memo := ⟨228, [g2, .int .i64 (231)], g13⟩
def k1629 : Memo := ⟨228, [g3, .int .i64 (231)], g11⟩
def k1630 : Memo := ⟨153, [g5, .int .i64 (231), .int .i64 (1)], .bool false⟩
def k1631 : Memo := ⟨228, [g1, .int .i64 (232)], g10⟩
def k1632 : Memo := ⟨228, [g2, .int .i64 (232)], g10⟩
def k1633 : Memo := ⟨153, [g5, .int .i64 (232), .int .i64 (1)], .bool false⟩
def k1634 : Memo := ⟨228, [g1, .int .i64 (233)], g11⟩
def k1635 : Memo := ⟨228, [g2, .int .i64 (233)], g11⟩
def k1636 : Memo := ⟨153, [g5, .int .i64 (233), .int .i64 (1)], .bool false⟩
def k1637 : Memo := ⟨228, [g1, .int .i64 (234)], g10⟩
def k1638 : Memo := ⟨228, [g2, .int .i64 (234)], g12⟩
def k1639 : Memo := ⟨228, [g3, .int .i64 (234)], g10⟩
def k1640 : Memo := ⟨153, [g5, .int .i64 (234), .int .i64 (1)], .bool false⟩
def k1641 : Memo := ⟨228, [g1, .int .i64 (235)], g11⟩
def k1642 : Memo := ⟨228, [g2, .int .i64 (235)], g13⟩
def k1643 : Memo := ⟨228, [g3, .int .i64 (235)], g11⟩
def k1644 : Memo := ⟨153, [g5, .int .i64 (235), .int .i64 (1)], .bool false⟩
def k1645 : Memo := ⟨228, [g1, .int .i64 (236)], g10⟩
def k1646 : Memo := ⟨228, [g2, .int .i64 (236)], g10⟩
def k1647 : Memo := ⟨153, [g5, .int .i64 (236), .int .i64 (1)], .bool false⟩
def k1648 : Memo := ⟨228, [g1, .int .i64 (237)], g11⟩
def k1649 : Memo := ⟨228, [g2, .int .i64 (237)], g11⟩
def k1650 : Memo := ⟨153, [g5, .int .i64 (237), .int .i64 (1)], .bool false⟩
def k1651 : Memo := ⟨228, [g1, .int .i64 (238)], g10⟩
def k1652 : Memo := ⟨228, [g2, .int .i64 (238)], g12⟩
def k1653 : Memo := ⟨228, [g3, .int .i64 (238)], g10⟩
def k1654 : Memo := ⟨153, [g5, .int .i64 (238), .int .i64 (1)], .bool false⟩
def k1655 : Memo := ⟨228, [g1, .int .i64 (239)], g11⟩
def k1656 : Memo := ⟨228, [g2, .int .i64 (239)], g13⟩
def k1657 : Memo := ⟨228, [g3, .int .i64 (239)], g11⟩
def k1658 : Memo := ⟨153, [g5, .int .i64 (239), .int .i64 (1)], .bool false⟩
def k1659 : Memo := ⟨228, [g1, .int .i64 (240)], g10⟩
def k1660 : Memo := ⟨228, [g2, .int .i64 (240)], g10⟩
def k1661 : Memo := ⟨153, [g5, .int .i64 (240), .int .i64 (1)], .bool false⟩
def k1662 : Memo := ⟨228, [g1, .int .i64 (241)], g11⟩
def k1663 : Memo := ⟨228, [g2, .int .i64 (241)], g11⟩
def k1664 : Memo := ⟨153, [g5, .int .i64 (241), .int .i64 (1)], .bool false⟩
def k1665 : Memo := ⟨228, [g1, .int .i64 (242)], g10⟩
def k1666 : Memo := ⟨228, [g2, .int .i64 (242)], g12⟩
def k1667 : Memo := ⟨228, [g3, .int .i64 (242)], g10⟩
def k1668 : Memo := ⟨153, [g5, .int .i64 (242), .int .i64 (1)], .bool false⟩
def k1669 : Memo := ⟨228, [g1, .int .i64 (243)], g11⟩
def k1670 : Memo := ⟨228, [g2, .int .i64 (243)], g13⟩
def k1671 : Memo := ⟨228, [g3, .int .i64 (243)], g11⟩
def k1672 : Memo := ⟨153, [g5, .int .i64 (243), .int .i64 (1)], .bool false⟩
def k1673 : Memo := ⟨228, [g1, .int .i64 (244)], g10⟩
def k1674 : Memo := ⟨228, [g2, .int .i64 (244)], g10⟩
def k1675 : Memo := ⟨153, [g5, .int .i64 (244), .int .i64 (1)], .bool false⟩
def k1676 : Memo := ⟨228, [g1, .int .i64 (245)], g11⟩
def k1677 : Memo := ⟨228, [g2, .int .i64 (245)], g11⟩
def k1678 : Memo := ⟨153, [g5, .int .i64 (245), .int .i64 (1)], .bool false⟩
def k1679 : Memo := ⟨228, [g1, .int .i64 (246)], g10⟩
def k1680 : Memo := ⟨228, [g2, .int .i64 (246)], g12⟩
def k1681 : Memo := ⟨228, [g3, .int .i64 (246)], g10⟩
def k1682 : Memo := ⟨153, [g5, .int .i64 (246), .int .i64 (1)], .bool false⟩
def k1683 : Memo := ⟨228, [g1, .int .i64 (247)], g11⟩
def k1684 : Memo := ⟨228, [g2, .int .i64 (247)], g13⟩
def k1685 : Memo := ⟨228, [g3, .int .i64 (247)], g11⟩
def k1686 : Memo := ⟨153, [g5, .int .i64 (247), .int .i64 (1)], .bool false⟩
def k1687 : Memo := ⟨228, [g1, .int .i64 (248)], g10⟩
def k1688 : Memo := ⟨228, [g2, .int .i64 (248)], g10⟩
def k1689 : Memo := ⟨153, [g5, .int .i64 (248), .int .i64 (1)], .bool false⟩
def k1690 : Memo := ⟨228, [g1, .int .i64 (249)], g11⟩
def k1691 : Memo := ⟨228, [g2, .int .i64 (249)], g11⟩
def k1692 : Memo := ⟨153, [g5, .int .i64 (249), .int .i64 (1)], .bool false⟩
def k1693 : Memo := ⟨228, [g1, .int .i64 (250)], g10⟩
def k1694 : Memo := ⟨228, [g2, .int .i64 (250)], g12⟩
theorem ok1554 : PuOK prog k1554.f k1554.args k1554.t := known (L := .nil) mN (by kernel_rfl)
theorem ok1555 : PuOK prog k1555.f k1555.args k1555.t := known (L := .nil) mN (by kernel_rfl)
theorem ok1556 : PuOK prog k1556.f k1556.args k1556.t := known (L := (.one k1553 (.one k1554 (.one k1555 .nil)))) (mO ok1553 (mO ok1554 (mO ok1555 mN))) (by kernel_rfl)
theorem ok1557 : PuOK prog k1557.f k1557.args k1557.t := known (L := .nil) mN (by kernel_rfl)
theorem ok1558 : PuOK prog k1558.f k1558.args k1558.t := known (L := .nil) mN (by kernel_rfl)
theorem ok1559 : PuOK prog k1559.f k1559.args k1559.t := known (L := .nil) mN (by kernel_rfl)
theorem ok1560 : PuOK prog k1560.f k1560.args k1560.t := known (L := (.one k1557 (.one k1558 (.one k1559 .nil)))) (mO ok1557 (mO ok1558 (mO ok1559 mN))) (by kernel_rfl)
theorem ok1561 : PuOK prog k1561.f k1561.args k1561.t := known (L := .nil) mN (by kernel_rfl)
theorem ok1562 : PuOK prog k1562.f k1562.args k1562.t := known (L := .nil) mN (by kernel_rfl)
theorem ok1563 : PuOK prog k1563.f k1563.args k1563.t := known (L := (.one k1561 (.one k1562 .nil))) (mO ok1561 (mO ok1562 mN)) (by kernel_rfl)
theorem ok1564 : PuOK prog k1564.f k1564.args k1564.t := known (L := .nil) mN (by kernel_rfl)
theorem ok1565 : PuOK prog k1565.f k1565.args k1565.t := known (L := .nil) mN (by kernel_rfl)
theorem ok1566 : PuOK prog k1566.f k1566.args k1566.t := known (L := (.one k1564 (.one k1565 .nil))) (mO ok1564 (mO ok1565 mN)) (by kernel_rfl)
theorem ok1567 : PuOK prog k1567.f k1567.args k1567.t := known (L := .nil) mN (by kernel_rfl)
theorem ok1568 : PuOK prog k1568.f k1568.args k1568.t := known (L := .nil) mN (by kernel_rfl)
theorem ok1569 : PuOK prog k1569.f k1569.args k1569.t := known (L := .nil) mN (by kernel_rfl)
theorem ok1570 : PuOK prog k1570.f k1570.args k1570.t := known (L := (.one k1567 (.one k1568 (.one k1569 .nil)))) (mO ok1567 (mO ok1568 (mO ok1569 mN))) (by kernel_rfl)
theorem ok1571 : PuOK prog k1571.f k1571.args k1571.t := known (L := .nil) mN (by kernel_rfl)
theorem ok1572 : PuOK prog k1572.f k1572.args k1572.t := known (L := .nil) mN (by kernel_rfl)
theorem ok1573 : PuOK prog k1573.f k1573.args k1573.t := known (L := .nil) mN (by kernel_rfl)
theorem ok1574 : PuOK prog k1574.f k1574.args k1574.t := known (L := (.one k1571 (.one k1572 (.one k1573 .nil)))) (mO ok1571 (mO ok1572 (mO ok1573 mN))) (by kernel_rfl)
theorem ok1575 : PuOK prog k1575.f k1575.args k1575.t := known (L := .nil) mN (by kernel_rfl)
theorem ok1576 : PuOK prog k1576.f k1576.args k1576.t := known (L := .nil) mN (by kernel_rfl)
theorem ok1577 : PuOK prog k1577.f k1577.args k1577.t := known (L := (.one k1575 (.one k1576 .nil))) (mO ok1575 (mO ok1576 mN)) (by kernel_rfl)
theorem ok1578 : PuOK prog k1578.f k1578.args k1578.t := known (L := .nil) mN (by kernel_rfl)
theorem ok1579 : PuOK prog k1579.f k1579.args k1579.t := known (L := .nil) mN (by kernel_rfl)
theorem ok1580 : PuOK prog k1580.f k1580.args k1580.t := known (L := (.one k1578 (.one k1579 .nil))) (mO ok1578 (mO ok1579 mN)) (by kernel_rfl)
theorem ok1581 : PuOK prog k1581.f k1581.args k1581.t := known (L := .nil) mN (by kernel_rfl)
theorem ok1582 : PuOK prog k1582.f k1582.args k1582.t := known (L := .nil) mN (by kernel_rfl)
theorem ok1583 : PuOK prog k1583.f k1583.args k1583.t := known (L := .nil) mN (by kernel_rfl)
theorem ok1584 : PuOK prog k1584.f k1584.args k1584.t := known (L := (.one k1581 (.one k1582 (.one k1583 .nil)))) (mO ok1581 (mO ok1582 (mO ok1583 mN))) (by kernel_rfl)
theorem ok1585 : PuOK prog k1585.f k1585.args k1585.t := known (L := .nil) mN (by kernel_rfl)
theorem ok1586 : PuOK prog k1586.f k1586.args k1586.t := known (L := .nil) mN (by kernel_rfl)
theorem ok1587 : PuOK prog k1587.f k1587.args k1587.t := known (L := .nil) mN (by kernel_rfl)
theorem ok1588 : PuOK prog k1588.f k1588.args k1588.t := known (L := (.one k1585 (.one k1586 (.one k1587 .nil)))) (mO ok1585 (mO ok1586 (mO ok1587 mN))) (by kernel_rfl)
theorem ok1589 : PuOK prog k1589.f k1589.args k1589.t := known (L := .nil) mN (by kernel_rfl)
theorem ok1590 : PuOK prog k1590.f k1590.args k1590.t := known (L := .nil) mN (by kernel_rfl)
theorem ok1591 : PuOK prog k1591.f k1591.args k1591.t := known (L := (.one k1589 (.one k1590 .nil))) (mO ok1589 (mO ok1590 mN)) (by kernel_rfl)
theorem ok1592 : PuOK prog k1592.f k1592.args k1592.t := known (L := .nil) mN (by kernel_rfl)
theorem ok1593 : PuOK prog k1593.f k1593.args k1593.t := known (L := .nil) mN (by kernel_rfl)
theorem ok1594 : PuOK prog k1594.f k1594.args k1594.t := known (L := (.one k1592 (.one k1593 .nil))) (mO ok1592 (mO ok1593 mN)) (by kernel_rfl)
theorem ok1595 : PuOK prog k1595.f k1595.args k1595.t := known (L := .nil) mN (by kernel_rfl)
theorem ok1596 : PuOK prog k1596.f k1596.args k1596.t := known (L := .nil) mN (by kernel_rfl)
theorem ok1597 : PuOK prog k1597.f k1597.args k1597.t := known (L := .nil) mN (by kernel_rfl)
theorem ok1598 : PuOK prog k1598.f k1598.args k1598.t := known (L := (.one k1595 (.one k1596 (.one k1597 .nil)))) (mO ok1595 (mO ok1596 (mO ok1597 mN))) (by kernel_rfl)
theorem ok1599 : PuOK prog k1599.f k1599.args k1599.t := known (L := .nil) mN (by kernel_rfl)
theorem ok1600 : PuOK prog k1600.f k1600.args k1600.t := known (L := .nil) mN (by kernel_rfl)
theorem ok1601 : PuOK prog k1601.f k1601.args k1601.t := known (L := .nil) mN (by kernel_rfl)
theorem ok1602 : PuOK prog k1602.f k1602.args k1602.t := known (L := (.one k1599 (.one k1600 (.one k1601 .nil)))) (mO ok1599 (mO ok1600 (mO ok1601 mN))) (by kernel_rfl)
theorem ok1603 : PuOK prog k1603.f k1603.args k1603.t := known (L := .nil) mN (by kernel_rfl)
theorem ok1604 : PuOK prog k1604.f k1604.args k1604.t := known (L := .nil) mN (by kernel_rfl)
theorem ok1605 : PuOK prog k1605.f k1605.args k1605.t := known (L := (.one k1603 (.one k1604 .nil))) (mO ok1603 (mO ok1604 mN)) (by kernel_rfl)
theorem ok1606 : PuOK prog k1606.f k1606.args k1606.t := known (L := .nil) mN (by kernel_rfl)
theorem ok1607 : PuOK prog k1607.f k1607.args k1607.t := known (L := .nil) mN (by kernel_rfl)
theorem ok1608 : PuOK prog k1608.f k1608.args k1608.t := known (L := (.one k1606 (.one k1607 .nil))) (mO ok1606 (mO ok1607 mN)) (by kernel_rfl)
theorem ok1609 : PuOK prog k1609.f k1609.args k1609.t := known (L := .nil) mN (by kernel_rfl)
theorem ok1610 : PuOK prog k1610.f k1610.args k1610.t := known (L := .nil) mN (by kernel_rfl)
theorem ok1611 : PuOK prog k1611.f k1611.args k1611.t := known (L := .nil) mN (by kernel_rfl)
theorem ok1612 : PuOK prog k1612.f k1612.args k1612.t := known (L := (.one k1609 (.one k1610 (.one k1611 .nil)))) (mO ok1609 (mO ok1610 (mO ok1611 mN))) (by kernel_rfl)
theorem ok1613 : PuOK prog k1613.f k1613.args k1613.t := known (L := .nil) mN (by kernel_rfl)
theorem ok1614 : PuOK prog k1614.f k1614.args k1614.t := known (L := .nil) mN (by kernel_rfl)
theorem ok1615 : PuOK prog k1615.f k1615.args k1615.t := known (L := .nil) mN (by kernel_rfl)
theorem ok1616 : PuOK prog k1616.f k1616.args k1616.t := known (L := (.one k1613 (.one k1614 (.one k1615 .nil)))) (mO ok1613 (mO ok1614 (mO ok1615 mN))) (by kernel_rfl)
theorem ok1617 : PuOK prog k1617.f k1617.args k1617.t := known (L := .nil) mN (by kernel_rfl)
theorem ok1618 : PuOK prog k1618.f k1618.args k1618.t := known (L := .nil) mN (by kernel_rfl)
theorem ok1619 : PuOK prog k1619.f k1619.args k1619.t := known (L := (.one k1617 (.one k1618 .nil))) (mO ok1617 (mO ok1618 mN)) (by kernel_rfl)
theorem ok1620 : PuOK prog k1620.f k1620.args k1620.t := known (L := .nil) mN (by kernel_rfl)
theorem ok1621 : PuOK prog k1621.f k1621.args k1621.t := known (L := .nil) mN (by kernel_rfl)
theorem ok1622 : PuOK prog k1622.f k1622.args k1622.t := known (L := (.one k1620 (.one k1621 .nil))) (mO ok1620 (mO ok1621 mN)) (by kernel_rfl)
theorem ok1623 : PuOK prog k1623.f k1623.args k1623.t := known (L := .nil) mN (by kernel_rfl)
theorem ok1624 : PuOK prog k1624.f k1624.args k1624.t := known (L := .nil) mN (by kernel_rfl)
theorem ok1625 : PuOK prog k1625.f k1625.args k1625.t := known (L := .nil) mN (by kernel_rfl)
theorem ok1626 : PuOK prog k1626.f k1626.args k1626.t := known (L := (.one k1623 (.one k1624 (.one k1625 .nil)))) (mO ok1623 (mO ok1624 (mO ok1625 mN))) (by kernel_rfl)
theorem ok1627 : PuOK prog k1627.f k1627.args k1627.t := known (L := .nil) mN (by kernel_rfl)
theorem ok1628 : PuOK prog k1628.f k1628.args k1628.t := known (L := .nil) mN (by kernel_rfl)
theorem ok1629 : PuOK prog k1629.f k1629.args k1629.t := known (L := .nil) mN (by kernel_rfl)
theorem ok1630 : PuOK prog k1630.f k1630.args k1630.t := known (L := (.one k1627 (.one k1628 (.one k1629 .nil)))) (mO ok1627 (mO ok1628 (mO ok1629 mN))) (by kernel_rfl)
theorem ok1631 : PuOK prog k1631.f k1631.args k1631.t := known (L := .nil) mN (by kernel_rfl)
theorem ok1632 : PuOK prog k1632.f k1632.args k1632.t := known (L := .nil) mN (by kernel_rfl)
theorem ok1633 : PuOK prog k1633.f k1633.args k1633.t := known (L := (.one k1631 (.one k1632 .nil))) (mO ok1631 (mO ok1632 mN)) (by kernel_rfl)
theorem ok1634 : PuOK prog k1634.f k1634.args k1634.t := known (L := .nil) mN (by kernel_rfl)
theorem ok1635 : PuOK prog k1635.f k1635.args k1635.t := known (L := .nil) mN (by kernel_rfl)
theorem ok1636 : PuOK prog k1636.f k1636.args k1636.t := known (L := (.one k1634 (.one k1635 .nil))) (mO ok1634 (mO ok1635 mN)) (by kernel_rfl)
theorem ok1637 : PuOK prog k1637.f k1637.args k1637.t := known (L := .nil) mN (by kernel_rfl)
theorem ok1638 : PuOK prog k1638.f k1638.args k1638.t := known (L := .nil) mN (by kernel_rfl)
theorem ok1639 : PuOK prog k1639.f k1639.args k1639.t := known (L := .nil) mN (by kernel_rfl)
theorem ok1640 : PuOK prog k1640.f k1640.args k1640.t := known (L := (.one k1637 (.one k1638 (.one k1639 .nil)))) (mO ok1637 (mO ok1638 (mO ok1639 mN))) (by kernel_rfl)
theorem ok1641 : PuOK prog k1641.f k1641.args k1641.t := known (L := .nil) mN (by kernel_rfl)
theorem ok1642 : PuOK prog k1642.f k1642.args k1642.t := known (L := .nil) mN (by kernel_rfl)
theorem ok1643 : PuOK prog k1643.f k1643.args k1643.t := known (L := .nil) mN (by kernel_rfl)
theorem ok1644 : PuOK prog k1644.f k1644.args k1644.t := known (L := (.one k1641 (.one k1642 (.one k1643 .nil)))) (mO ok1641 (mO ok1642 (mO ok1643 mN))) (by kernel_rfl)
theorem ok1645 : PuOK prog k1645.f k1645.args k1645.t := known (L := .nil) mN (by kernel_rfl)
theorem ok1646 : PuOK prog k1646.f k1646.args k1646.t := known (L := .nil) mN (by kernel_rfl)
theorem ok1647 : PuOK prog k1647.f k1647.args k1647.t := known (L := (.one k1645 (.one k1646 .nil))) (mO ok1645 (mO ok1646 mN)) (by kernel_rfl)
theorem ok1648 : PuOK prog k1648.f k1648.args k1648.t := known (L := .nil) mN (by kernel_rfl)
theorem ok1649 : PuOK prog k1649.f k1649.args k1649.t := known (L := .nil) mN (by kernel_rfl)
theorem ok1650 : PuOK prog k1650.f k1650.args k1650.t := known (L := (.one k1648 (.one k1649 .nil))) (mO ok1648 (mO ok1649 mN)) (by kernel_rfl)
theorem ok1651 : PuOK prog k1651.f k1651.args k1651.t := known (L := .nil) mN (by kernel_rfl)
theorem ok1652 : PuOK prog k1652.f k1652.args k1652.t := known (L := .nil) mN (by kernel_rfl)
theorem ok1653 : PuOK prog k1653.f k1653.args k1653.t := known (L := .nil) mN (by kernel_rfl)
theorem ok1654 : PuOK prog k1654.f k1654.args k1654.t := known (L := (.one k1651 (.one k1652 (.one k1653 .nil)))) (mO ok1651 (mO ok1652 (mO ok1653 mN))) (by kernel_rfl)
theorem ok1655 : PuOK prog k1655.f k1655.args k1655.t := known (L := .nil) mN (by kernel_rfl)
theorem ok1656 : PuOK prog k1656.f k1656.args k1656.t := known (L := .nil) mN (by kernel_rfl)
theorem ok1657 : PuOK prog k1657.f k1657.args k1657.t := known (L := .nil) mN (by kernel_rfl)
theorem ok1658 : PuOK prog k1658.f k1658.args k1658.t := known (L := (.one k1655 (.one k1656 (.one k1657 .nil)))) (mO ok1655 (mO ok1656 (mO ok1657 mN))) (by kernel_rfl)
theorem ok1659 : PuOK prog k1659.f k1659.args k1659.t := known (L := .nil) mN (by kernel_rfl)
theorem ok1660 : PuOK prog k1660.f k1660.args k1660.t := known (L := .nil) mN (by kernel_rfl)
theorem ok1661 : PuOK prog k1661.f k1661.args k1661.t := known (L := (.one k1659 (.one k1660 .nil))) (mO ok1659 (mO ok1660 mN)) (by kernel_rfl)
theorem ok1662 : PuOK prog k1662.f k1662.args k1662.t := known (L := .nil) mN (by kernel_rfl)
theorem ok1663 : PuOK prog k1663.f k1663.args k1663.t := known (L := .nil) mN (by kernel_rfl)
theorem ok1664 : PuOK prog k1664.f k1664.args k1664.t := known (L := (.one k1662 (.one k1663 .nil))) (mO ok1662 (mO ok1663 mN)) (by kernel_rfl)
theorem ok1665 : PuOK prog k1665.f k1665.args k1665.t := known (L := .nil) mN (by kernel_rfl)
theorem ok1666 : PuOK prog k1666.f k1666.args k1666.t := known (L := .nil) mN (by kernel_rfl)
theorem ok1667 : PuOK prog k1667.f k1667.args k1667.t := known (L := .nil) mN (by kernel_rfl)
theorem ok1668 : PuOK prog k1668.f k1668.args k1668.t := known (L := (.one k1665 (.one k1666 (.one k1667 .nil)))) (mO ok1665 (mO ok1666 (mO ok1667 mN))) (by kernel_rfl)
theorem ok1669 : PuOK prog k1669.f k1669.args k1669.t := known (L := .nil) mN (by kernel_rfl)
theorem ok1670 : PuOK prog k1670.f k1670.args k1670.t := known (L := .nil) mN (by kernel_rfl)
theorem ok1671 : PuOK prog k1671.f k1671.args k1671.t := known (L := .nil) mN (by kernel_rfl)
theorem ok1672 : PuOK prog k1672.f k1672.args k1672.t := known (L := (.one k1669 (.one k1670 (.one k1671 .nil)))) (mO ok1669 (mO ok1670 (mO ok1671 mN))) (by kernel_rfl)
theorem ok1673 : PuOK prog k1673.f k1673.args k1673.t := known (L := .nil) mN (by kernel_rfl)
theorem ok1674 : PuOK prog k1674.f k1674.args k1674.t := known (L := .nil) mN (by kernel_rfl)
theorem ok1675 : PuOK prog k1675.f k1675.args k1675.t := known (L := (.one k1673 (.one k1674 .nil))) (mO ok1673 (mO ok1674 mN)) (by kernel_rfl)
theorem ok1676 : PuOK prog k1676.f k1676.args k1676.t := known (L := .nil) mN (by kernel_rfl)
theorem ok1677 : PuOK prog k1677.f k1677.args k1677.t := known (L := .nil) mN (by kernel_rfl)
theorem ok1678 : PuOK prog k1678.f k1678.args k1678.t := known (L := (.one k1676 (.one k1677 .nil))) (mO ok1676 (mO ok1677 mN)) (by kernel_rfl)
theorem ok1679 : PuOK prog k1679.f k1679.args k1679.t := known (L := .nil) mN (by kernel_rfl)
theorem ok1680 : PuOK prog k1680.f k1680.args k1680.t := known (L := .nil) mN (by kernel_rfl)
theorem ok1681 : PuOK prog k1681.f k1681.args k1681.t := known (L := .nil) mN (by kernel_rfl)
theorem ok1682 : PuOK prog k1682.f k1682.args k1682.t := known (L := (.one k1679 (.one k1680 (.one k1681 .nil)))) (mO ok1679 (mO ok1680 (mO ok1681 mN))) (by kernel_rfl)
theorem ok1683 : PuOK prog k1683.f k1683.args k1683.t := known (L := .nil) mN (by kernel_rfl)
theorem ok1684 : PuOK prog k1684.f k1684.args k1684.t := known (L := .nil) mN (by kernel_rfl)
theorem ok1685 : PuOK prog k1685.f k1685.args k1685.t := known (L := .nil) mN (by kernel_rfl)
theorem ok1686 : PuOK prog k1686.f k1686.args k1686.t := known (L := (.one k1683 (.one k1684 (.one k1685 .nil)))) (mO ok1683 (mO ok1684 (mO ok1685 mN))) (by kernel_rfl)
theorem ok1687 : PuOK prog k1687.f k1687.args k1687.t := known (L := .nil) mN (by kernel_rfl)
theorem ok1688 : PuOK prog k1688.f k1688.args k1688.t := known (L := .nil) mN (by kernel_rfl)
theorem ok1689 : PuOK prog k1689.f k1689.args k1689.t := known (L := (.one k1687 (.one k1688 .nil))) (mO ok1687 (mO ok1688 mN)) (by kernel_rfl)
theorem ok1690 : PuOK prog k1690.f k1690.args k1690.t := known (L := .nil) mN (by kernel_rfl)
theorem ok1691 : PuOK prog k1691.f k1691.args k1691.t := known (L := .nil) mN (by kernel_rfl)
theorem ok1692 : PuOK prog k1692.f k1692.args k1692.t := known (L := (.one k1690 (.one k1691 .nil))) (mO ok1690 (mO ok1691 mN)) (by kernel_rfl)
theorem ok1693 : PuOK prog k1693.f k1693.args k1693.t := known (L := .nil) mN (by kernel_rfl)
theorem ok1694 : PuOK prog k1694.f k1694.args k1694.t := known (L := .nil) mN (by kernel_rfl)
end Go.V
