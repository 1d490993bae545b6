/- Calls, evaluated. -/
import Derived.Test.YtppfkmmlojpcfaaGreatBx0
import Derived.Test.YtppfkmmlojpcfaaGreatBx1
import Derived.Test.YtppfkmmlojpcfaaGreatBx2
import Derived.Test.YtppfkmmlojpcfaaGreatBx3
import Derived.Test.YtppfkmmlojpcfaaGreatBx4
import Derived.Test.YtppfkmmlojpcfaaGreatBx5
import Derived.Test.YtppfkmmlojpcfaaGreatBx6
import Derived.Test.YtppfkmmlojpcfaaGreatBx7
import Derived.Test.YtppfkmmlojpcfaaGreatBx8
import Derived.Test.YtppfkmmlojpcfaaGreatBx9
import Derived.Test.YtppfkmmlojpcfaaGreatBx10
import Derived.Test.YtppfkmmlojpcfaaGreatBx11
import Derived.Test.YtppfkmmlojpcfaaGreatBx12
set_option linter.unusedVariables false
set_option maxRecDepth 100000
namespace Go.V
open Go.Proofs.Tryz (prog)
def k1695 : Memo := ⟨228, [g3, .int .i64 (250)], g10⟩
def k1696 : Memo := ⟨153, [g5, .int .i64 (250), .int .i64 (1)], .bool false⟩
def k1697 : Memo := ⟨228, [g1, .int .i64 (251)], g11⟩
def k1698 : Memo := ⟨228, [g2, .int .i64 (251)], g13⟩
def k1699 : Memo := ⟨228, [g3, .int .i64 (251)], g11⟩
def k1700 : Memo := ⟨153, [g5, .int .i64 (251), .int .i64 (1)], .bool false⟩
def k1701 : Memo := ⟨228, [g1, .int .i64 (252)], g10⟩
def k1702 : Memo := ⟨228, [g2, .int .i64 (252)], g10⟩
def k1703 : Memo := ⟨153, [g5, .int .i64 (252), .int .i64 (1)], .bool false⟩
def k1704 : Memo := ⟨228, [g1, .int .i64 (253)], g11⟩
def k1705 : Memo := ⟨228, [g2, .int .i64 (253)], g11⟩
def k1706 : Memo := ⟨153, [g5, .int .i64 (253), .int .i64 (1)], .bool false⟩
def k1707 : Memo := ⟨228, [g1, .int .i64 (254)], g10⟩
def k1708 : Memo := ⟨228, [g2, .int .i64 (254)], g12⟩
def k1709 : Memo := ⟨228, [g3, .int .i64 (254)], g10⟩
def k1710 : Memo := ⟨153, [g5, .int .i64 (254), .int .i64 (1)], .bool false⟩
def k1711 : Memo := ⟨228, [g1, .int .i64 (255)], g11⟩
def k1712 : Memo := ⟨228, [g2, .int .i64 (255)], g13⟩
def k1713 : Memo := ⟨228, [g3, .int .i64 (255)], g11⟩
def k1714 : Memo := ⟨153, [g5, .int .i64 (255), .int .i64 (1)], .bool false⟩
def k1715 : Memo := ⟨59, [g5, .int .i64 (1)], .tup [.nilS, .bool false]⟩
def k1716 : Memo := ⟨10, [g7, .int .i64 (1)], .tup [.nilS, .int .i64 (6)]⟩
def k1717 : Memo := ⟨228, [g4, .int .i64 (0)], g10⟩
def k1718 : Memo := ⟨228, [g4, .int .i64 (1)], g10⟩
def k1719 : Memo := ⟨228, [g3, .int .i64 (1)], g11⟩
def k1720 : Memo := ⟨153, [g5, .int .i64 (1), .int .i64 (4)], .bool true⟩
def k1721 : Memo := ⟨227, [.lst 1 [[.int .i64 (1)]], .lst 1 [[.int .i64 (0)]]], .int .i64 (1)⟩
def k1722 : Memo := ⟨152, [.lst 1 [[.int .i64 (1)]], .lst 1 [[.int .i64 (0)]]], .bool false⟩
def k1723 : Memo := ⟨227, [.lst 1 [[.int .i64 (0)], [.int .i64 (1)]], .lst 1 [[.int .i64 (0)]]], .int .i64 (1)⟩
def k1724 : Memo := ⟨152, [.lst 1 [[.int .i64 (0)], [.int .i64 (1)]], .lst 1 [[.int .i64 (0)]]], .bool false⟩
def k1725 : Memo := ⟨227, [.lst 1 [[.int .i64 (2)]], .lst 1 [[.int .i64 (0)]]], .int .i64 (1)⟩
def k1726 : Memo := ⟨152, [.lst 1 [[.int .i64 (2)]], .lst 1 [[.int .i64 (0)]]], .bool false⟩
def k1727 : Memo := ⟨227, [.lst 1 [[.int .i64 (0)], [.int .i64 (2)]], .lst 1 [[.int .i64 (0)]]], .int .i64 (1)⟩
def k1728 : Memo := ⟨152, [.lst 1 [[.int .i64 (0)], [.int .i64 (2)]], .lst 1 [[.int .i64 (0)]]], .bool false⟩
def k1729 : Memo := ⟨227, [.lst 1 [[.int .i64 (1)], [.int .i64 (2)]], .lst 1 [[.int .i64 (0)]]], .int .i64 (1)⟩
def k1730 : Memo := ⟨152, [.lst 1 [[.int .i64 (1)], [.int .i64 (2)]], .lst 1 [[.int .i64 (0)]]], .bool false⟩
def k1731 : Memo := ⟨227, [.lst 1 [[.int .i64 (0)], [.int .i64 (1)], [.int .i64 (2)]], .lst 1 [[.int .i64 (0)]]], .int .i64 (1)⟩
def k1732 : Memo := ⟨152, [.lst 1 [[.int .i64 (0)], [.int .i64 (1)], [.int .i64 (2)]], .lst 1 [[.int .i64 (0)]]], .bool false⟩
def k1733 : Memo := ⟨227, [.lst 1 [[.int .i64 (3)]], .lst 1 [[.int .i64 (0)]]], .int .i64 (1)⟩
def k1734 : Memo := ⟨152, [.lst 1 [[.int .i64 (3)]], .lst 1 [[.int .i64 (0)]]], .bool false⟩
def k1735 : Memo := ⟨227, [.lst 1 [[.int .i64 (0)], [.int .i64 (3)]], .lst 1 [[.int .i64 (0)]]], .int .i64 (1)⟩
def k1736 : Memo := ⟨152, [.lst 1 [[.int .i64 (0)], [.int .i64 (3)]], .lst 1 [[.int .i64 (0)]]], .bool false⟩
def k1737 : Memo := ⟨227, [.lst 1 [[.int .i64 (1)], [.int .i64 (3)]], .lst 1 [[.int .i64 (0)]]], .int .i64 (1)⟩
def k1738 : Memo := ⟨152, [.lst 1 [[.int .i64 (1)], [.int .i64 (3)]], .lst 1 [[.int .i64 (0)]]], .bool false⟩
def k1739 : Memo := ⟨227, [.lst 1 [[.int .i64 (0)], [.int .i64 (1)], [.int .i64 (3)]], .lst 1 [[.int .i64 (0)]]], .int .i64 (1)⟩
def k1740 : Memo := ⟨152, [.lst 1 [[.int .i64 (0)], [.int .i64 (1)], [.int .i64 (3)]], .lst 1 [[.int .i64 (0)]]], .bool false⟩
def k1741 : Memo := ⟨227, [.lst 1 [[.int .i64 (2)], [.int .i64 (3)]], .lst 1 [[.int .i64 (0)]]], .int .i64 (1)⟩
def k1742 : Memo := ⟨152, [.lst 1 [[.int .i64 (2)], [.int .i64 (3)]], .lst 1 [[.int .i64 (0)]]], .bool false⟩
def k1743 : Memo := ⟨227, [.lst 1 [[.int .i64 (0)], [.int .i64 (2)], [.int .i64 (3)]], .lst 1 [[.int .i64 (0)]]], .int .i64 (1)⟩
def k1744 : Memo := ⟨152, [.lst 1 [[.int .i64 (0)], [.int .i64 (2)], [.int .i64 (3)]], .lst 1 [[.int .i64 (0)]]], .bool false⟩
def k1745 : Memo := ⟨227, [.lst 1 [[.int .i64 (1)], [.int .i64 (2)], [.int .i64 (3)]], .lst 1 [[.int .i64 (0)]]], .int .i64 (1)⟩
def k1746 : Memo := ⟨152, [.lst 1 [[.int .i64 (1)], [.int .i64 (2)], [.int .i64 (3)]], .lst 1 [[.int .i64 (0)]]], .bool false⟩
def k1747 : Memo := ⟨227, [g14, .lst 1 [[.int .i64 (0)]]], .int .i64 (1)⟩
def k1748 : Memo := ⟨152, [g14, .lst 1 [[.int .i64 (0)]]], .bool false⟩
def k1749 : Memo := ⟨227, [.lst 1 [[.int .i64 (4)]], .lst 1 [[.int .i64 (0)]]], .int .i64 (1)⟩
def k1750 : Memo := ⟨152, [.lst 1 [[.int .i64 (4)]], .lst 1 [[.int .i64 (0)]]], .bool false⟩
def k1751 : Memo := ⟨227, [.lst 1 [[.int .i64 (0)], [.int .i64 (4)]], .lst 1 [[.int .i64 (0)]]], .int .i64 (1)⟩
def k1752 : Memo := ⟨152, [.lst 1 [[.int .i64 (0)], [.int .i64 (4)]], .lst 1 [[.int .i64 (0)]]], .bool false⟩
def k1753 : Memo := ⟨227, [.lst 1 [[.int .i64 (1)], [.int .i64 (4)]], .lst 1 [[.int .i64 (0)]]], .int .i64 (1)⟩
def k1754 : Memo := ⟨152, [.lst 1 [[.int .i64 (1)], [.int .i64 (4)]], .lst 1 [[.int .i64 (0)]]], .bool false⟩
def k1755 : Memo := ⟨227, [.lst 1 [[.int .i64 (0)], [.int .i64 (1)], [.int .i64 (4)]], .lst 1 [[.int .i64 (0)]]], .int .i64 (1)⟩
def k1756 : Memo := ⟨152, [.lst 1 [[.int .i64 (0)], [.int .i64 (1)], [.int .i64 (4)]], .lst 1 [[.int .i64 (0)]]], .bool false⟩
def k1757 : Memo := ⟨227, [.lst 1 [[.int .i64 (2)], [.int .i64 (4)]], .lst 1 [[.int .i64 (0)]]], .int .i64 (1)⟩
def k1758 : Memo := ⟨152, [.lst 1 [[.int .i64 (2)], [.int .i64 (4)]], .lst 1 [[.int .i64 (0)]]], .bool false⟩
def k1759 : Memo := ⟨227, [.lst 1 [[.int .i64 (0)], [.int .i64 (2)], [.int .i64 (4)]], .lst 1 [[.int .i64 (0)]]], .int .i64 (1)⟩
def k1760 : Memo := ⟨152, [.lst 1 [[.int .i64 (0)], [.int .i64 (2)], [.int .i64 (4)]], .lst 1 [[.int .i64 (0)]]], .bool false⟩
def k1761 : Memo := ⟨227, [.lst 1 [[.int .i64 (1)], [.int .i64 (2)], [.int .i64 (4)]], .lst 1 [[.int .i64 (0)]]], .int .i64 (1)⟩
def k1762 : Memo := ⟨152, [.lst 1 [[.int .i64 (1)], [.int .i64 (2)], [.int .i64 (4)]], .lst 1 [[.int .i64 (0)]]], .bool false⟩
def k1763 : Memo := ⟨227, [g15, .lst 1 [[.int .i64 (0)]]], .int .i64 (1)⟩
def k1764 : Memo := ⟨152, [g15, .lst 1 [[.int .i64 (0)]]], .bool false⟩
def k1765 : Memo := ⟨227, [.lst 1 [[.int .i64 (3)], [.int .i64 (4)]], .lst 1 [[.int .i64 (0)]]], .int .i64 (1)⟩
def k1766 : Memo := ⟨152, [.lst 1 [[.int .i64 (3)], [.int .i64 (4)]], .lst 1 [[.int .i64 (0)]]], .bool false⟩
def k1767 : Memo := ⟨227, [.lst 1 [[.int .i64 (0)], [.int .i64 (3)], [.int .i64 (4)]], .lst 1 [[.int .i64 (0)]]], .int .i64 (1)⟩
def k1768 : Memo := ⟨152, [.lst 1 [[.int .i64 (0)], [.int .i64 (3)], [.int .i64 (4)]], .lst 1 [[.int .i64 (0)]]], .bool false⟩
def k1769 : Memo := ⟨227, [.lst 1 [[.int .i64 (1)], [.int .i64 (3)], [.int .i64 (4)]], .lst 1 [[.int .i64 (0)]]], .int .i64 (1)⟩
def k1770 : Memo := ⟨152, [.lst 1 [[.int .i64 (1)], [.int .i64 (3)], [.int .i64 (4)]], .lst 1 [[.int .i64 (0)]]], .bool false⟩
def k1771 : Memo := ⟨227, [g16, .lst 1 [[.int .i64 (0)]]], .int .i64 (1)⟩
def k1772 : Memo := ⟨152, [g16, .lst 1 [[.int .i64 (0)]]], .bool false⟩
def k1773 : Memo := ⟨227, [.lst 1 [[.int .i64 (2)], [.int .i64 (3)], [.int .i64 (4)]], .lst 1 [[.int .i64 (0)]]], .int .i64 (1)⟩
def k1774 : Memo := ⟨152, [.lst 1 [[.int .i64 (2)], [.int .i64 (3)], [.int .i64 (4)]], .lst 1 [[.int .i64 (0)]]], .bool false⟩
def k1775 : Memo := ⟨227, [g17, .lst 1 [[.int .i64 (0)]]], .int .i64 (1)⟩
def k1776 : Memo := ⟨152, [g17, .lst 1 [[.int .i64 (0)]]], .bool false⟩
def k1777 : Memo := ⟨227, [g18, .lst 1 [[.int .i64 (0)]]], .int .i64 (1)⟩
def k1778 : Memo := ⟨152, [g18, .lst 1 [[.int .i64 (0)]]], .bool false⟩
def k1779 : Memo := ⟨227, [g19, .lst 1 [[.int .i64 (0)]]], .int .i64 (1)⟩
def k1780 : Memo := ⟨152, [g19, .lst 1 [[.int .i64 (0)]]], .bool false⟩
def k1781 : Memo := ⟨227, [.lst 1 [[.int .i64 (5)]], .lst 1 [[.int .i64 (0)]]], .int .i64 (1)⟩
def k1782 : Memo := ⟨152, [.lst 1 [[.int .i64 (5)]], .lst 1 [[.int .i64 (0)]]], .bool false⟩
def k1783 : Memo := ⟨227, [.lst 1 [[.int .i64 (0)], [.int .i64 (5)]], .lst 1 [[.int .i64 (0)]]], .int .i64 (1)⟩
def k1784 : Memo := ⟨152, [.lst 1 [[.int .i64 (0)], [.int .i64 (5)]], .lst 1 [[.int .i64 (0)]]], .bool false⟩
def k1785 : Memo := ⟨227, [.lst 1 [[.int .i64 (1)], [.int .i64 (5)]], .lst 1 [[.int .i64 (0)]]], .int .i64 (1)⟩
def k1786 : Memo := ⟨152, [.lst 1 [[.int .i64 (1)], [.int .i64 (5)]], .lst 1 [[.int .i64 (0)]]], .bool false⟩
def k1787 : Memo := ⟨227, [.lst 1 [[.int .i64 (0)], [.int .i64 (1)], [.int .i64 (5)]], .lst 1 [[.int .i64 (0)]]], .int .i64 (1)⟩
def k1788 : Memo := ⟨152, [.lst 1 [[.int .i64 (0)], [.int .i64 (1)], [.int .i64 (5)]], .lst 1 [[.int .i64 (0)]]], .bool false⟩
def k1789 : Memo := ⟨227, [.lst 1 [[.int .i64 (2)], [.int .i64 (5)]], .lst 1 [[.int .i64 (0)]]], .int .i64 (1)⟩
def k1790 : Memo := ⟨152, [.lst 1 [[.int .i64 (2)], [.int .i64 (5)]], .lst 1 [[.int .i64 (0)]]], .bool false⟩
def k1791 : Memo := ⟨227, [.lst 1 [[.int .i64 (0)], [.int .i64 (2)], [.int .i64 (5)]], .lst 1 [[.int .i64 (0)]]], .int .i64 (1)⟩
def k1792 : Memo := ⟨152, [.lst 1 [[.int .i64 (0)], [.int .i64 (2)], [.int .i64 (5)]], .lst 1 [[.int .i64 (0)]]], .bool false⟩
def k1793 : Memo := ⟨227, [.lst 1 [[.int .i64 (1)], [.int .i64 (2)], [.int .i64 (5)]], .lst 1 [[.int .i64 (0)]]], .int .i64 (1)⟩
def k1794 : Memo := ⟨152, [.lst 1 [[.int .i64 (1)], [.int .i64 (2)], [.int .i64 (5)]], .lst 1 [[.int .i64 (0)]]], .bool false⟩
def k1795 : Memo := ⟨227, [g20, .lst 1 [[.int .i64 (0)]]], .int .i64 (1)⟩
def k1796 : Memo := ⟨152, [g20, .lst 1 [[.int .i64 (0)]]], .bool false⟩
def k1797 : Memo := ⟨227, [.lst 1 [[.int .i64 (3)], [.int .i64 (5)]], .lst 1 [[.int .i64 (0)]]], .int .i64 (1)⟩
def k1798 : Memo := ⟨152, [.lst 1 [[.int .i64 (3)], [.int .i64 (5)]], .lst 1 [[.int .i64 (0)]]], .bool false⟩
def k1799 : Memo := ⟨227, [.lst 1 [[.int .i64 (0)], [.int .i64 (3)], [.int .i64 (5)]], .lst 1 [[.int .i64 (0)]]], .int .i64 (1)⟩
def k1800 : Memo := ⟨152, [.lst 1 [[.int .i64 (0)], [.int .i64 (3)], [.int .i64 (5)]], .lst 1 [[.int .i64 (0)]]], .bool false⟩
def k1801 : Memo := ⟨227, [.lst 1 [[.int .i64 (1)], [.int .i64 (3)], [.int .i64 (5)]], .lst 1 [[.int .i64 (0)]]], .int .i64 (1)⟩
def k1802 : Memo := ⟨152, [.lst 1 [[.int .i64 (1)], [.int .i64 (3)], [.int .i64 (5)]], .lst 1 [[.int .i64 (0)]]], .bool false⟩
def k1803 : Memo := ⟨227, [g21, .lst 1 [[.int .i64 (0)]]], .int .i64 (1)⟩
def k1804 : Memo := ⟨152, [g21, .lst 1 [[.int .i64 (0)]]], .bool false⟩
def k1805 : Memo := ⟨227, [.lst 1 [[.int .i64 (2)], [.int .i64 (3)], [.int .i64 (5)]], .lst 1 [[.int .i64 (0)]]], .int .i64 (1)⟩
def k1806 : Memo := ⟨152, [.lst 1 [[.int .i64 (2)], [.int .i64 (3)], [.int .i64 (5)]], .lst 1 [[.int .i64 (0)]]], .bool false⟩
def k1807 : Memo := ⟨227, [g22, .lst 1 [[.int .i64 (0)]]], .int .i64 (1)⟩
def k1808 : Memo := ⟨152, [g22, .lst 1 [[.int .i64 (0)]]], .bool false⟩
def k1809 : Memo := ⟨227, [g23, .lst 1 [[.int .i64 (0)]]], .int .i64 (1)⟩
def k1810 : Memo := ⟨152, [g23, .lst 1 [[.int .i64 (0)]]], .bool false⟩
def k1811 : Memo := ⟨227, [g24, .lst 1 [[.int .i64 (0)]]], .int .i64 (1)⟩
def k1812 : Memo := ⟨152, [g24, .lst 1 [[.int .i64 (0)]]], .bool false⟩
def k1813 : Memo := ⟨227, [.lst 1 [[.int .i64 (4)], [.int .i64 (5)]], .lst 1 [[.int .i64 (0)]]], .int .i64 (1)⟩
def k1814 : Memo := ⟨152, [.lst 1 [[.int .i64 (4)], [.int .i64 (5)]], .lst 1 [[.int .i64 (0)]]], .bool false⟩
def k1815 : Memo := ⟨227, [.lst 1 [[.int .i64 (0)], [.int .i64 (4)], [.int .i64 (5)]], .lst 1 [[.int .i64 (0)]]], .int .i64 (1)⟩
def k1816 : Memo := ⟨152, [.lst 1 [[.int .i64 (0)], [.int .i64 (4)], [.int .i64 (5)]], .lst 1 [[.int .i64 (0)]]], .bool false⟩
def k1817 : Memo := ⟨227, [.lst 1 [[.int .i64 (1)], [.int .i64 (4)], [.int .i64 (5)]], .lst 1 [[.int .i64 (0)]]], .int .i64 (1)⟩
theorem ok1695 : PuOK prog k1695.f k1695.args k1695.t := known (L := .nil) mN (by kernel_rfl)
theorem ok1696 : PuOK prog k1696.f k1696.args k1696.t := known (L := (.one k1693 (.one k1694 (.one k1695 .nil)))) (mO ok1693 (mO ok1694 (mO ok1695 mN))) (by kernel_rfl)
theorem ok1697 : PuOK prog k1697.f k1697.args k1697.t := known (L := .nil) mN (by kernel_rfl)
theorem ok1698 : PuOK prog k1698.f k1698.args k1698.t := known (L := .nil) mN (by kernel_rfl)
theorem ok1699 : PuOK prog k1699.f k1699.args k1699.t := known (L := .nil) mN (by kernel_rfl)
theorem ok1700 : PuOK prog k1700.f k1700.args k1700.t := known (L := (.one k1697 (.one k1698 (.one k1699 .nil)))) (mO ok1697 (mO ok1698 (mO ok1699 mN))) (by kernel_rfl)
theorem ok1701 : PuOK prog k1701.f k1701.args k1701.t := known (L := .nil) mN (by kernel_rfl)
theorem ok1702 : PuOK prog k1702.f k1702.args k1702.t := known (L := .nil) mN (by kernel_rfl)
theorem ok1703 : PuOK prog k1703.f k1703.args k1703.t := known (L := (.one k1701 (.one k1702 .nil))) (mO ok1701 (mO ok1702 mN)) (by kernel_rfl)
theorem ok1704 : PuOK prog k1704.f k1704.args k1704.t := known (L := .nil) mN (by kernel_rfl)
theorem ok1705 : PuOK prog k1705.f k1705.args k1705.t := known (L := .nil) mN (by kernel_rfl)
theorem ok1706 : PuOK prog k1706.f k1706.args k1706.t := known (L := (.one k1704 (.one k1705 .nil))) (mO ok1704 (mO ok1705 mN)) (by kernel_rfl)
theorem ok1707 : PuOK prog k1707.f k1707.args k1707.t := known (L := .nil) mN (by kernel_rfl)
theorem ok1708 : PuOK prog k1708.f k1708.args k1708.t := known (L := .nil) mN (by kernel_rfl)
theorem ok1709 : PuOK prog k1709.f k1709.args k1709.t := known (L := .nil) mN (by kernel_rfl)
theorem ok1710 : PuOK prog k1710.f k1710.args k1710.t := known (L := (.one k1707 (.one k1708 (.one k1709 .nil)))) (mO ok1707 (mO ok1708 (mO ok1709 mN))) (by kernel_rfl)
theorem ok1711 : PuOK prog k1711.f k1711.args k1711.t := known (L := .nil) mN (by kernel_rfl)
theorem ok1712 : PuOK prog k1712.f k1712.args k1712.t := known (L := .nil) mN (by kernel_rfl)
theorem ok1713 : PuOK prog k1713.f k1713.args k1713.t := known (L := .nil) mN (by kernel_rfl)
theorem ok1714 : PuOK prog k1714.f k1714.args k1714.t := known (L := (.one k1711 (.one k1712 (.one k1713 .nil)))) (mO ok1711 (mO ok1712 (mO ok1713 mN))) (by kernel_rfl)
theorem ok1715 : PuOK prog k1715.f k1715.args k1715.t := known (L := (.node 4936 (.node 4808 (.node 4744 (.node 4712 (.node 4696 (.node 4688 (.node 4684 (.node 4682 (.node 4681 (.one k35 .nil) (.one k38 .nil)) (.node 4683 (.one k41 .nil) (.one k47 .nil))) (.node 4686 (.node 4685 (.one k53 .nil) (.one k58 .nil)) (.node 4687 (.one k61 .nil) (.one k64 .nil)))) (.node 4692 (.node 4690 (.node 4689 (.one k67 .nil) (.one k72 .nil)) (.node 4691 (.one k75 .nil) (.one k78 .nil))) (.node 4694 (.node 4693 (.one k81 .nil) (.one k84 .nil)) (.node 4695 (.one k87 .nil) (.one k90 .nil))))) (.node 4704 (.node 4700 (.node 4698 (.node 4697 (.one k93 .nil) (.one k98 .nil)) (.node 4699 (.one k101 .nil) (.one k104 .nil))) (.node 4702 (.node 4701 (.one k107 .nil) (.one k110 .nil)) (.node 4703 (.one k113 .nil) (.one k116 .nil)))) (.node 4708 (.node 4706 (.node 4705 (.one k119 .nil) (.one k122 .nil)) (.node 4707 (.one k125 .nil) (.one k128 .nil))) (.node 4710 (.node 4709 (.one k131 .nil) (.one k134 .nil)) (.node 4711 (.one k137 .nil) (.one k140 .nil)))))) (.node 4728 (.node 4720 (.node 4716 (.node 4714 (.node 4713 (.one k143 .nil) (.one k148 .nil)) (.node 4715 (.one k151 .nil) (.one k154 .nil))) (.node 4718 (.node 4717 (.one k157 .nil) (.one k160 .nil)) (.node 4719 (.one k163 .nil) (.one k166 .nil)))) (.node 4724 (.node 4722 (.node 4721 (.one k169 .nil) (.one k172 .nil)) (.node 4723 (.one k175 .nil) (.one k178 .nil))) (.node 4726 (.node 4725 (.one k181 .nil) (.one k184 .nil)) (.node 4727 (.one k187 .nil) (.one k190 .nil))))) (.node 4736 (.node 4732 (.node 4730 (.node 4729 (.one k193 .nil) (.one k196 .nil)) (.node 4731 (.one k199 .nil) (.one k202 .nil))) (.node 4734 (.node 4733 (.one k205 .nil) (.one k208 .nil)) (.node 4735 (.one k211 .nil) (.one k214 .nil)))) (.node 4740 (.node 4738 (.node 4737 (.one k217 .nil) (.one k220 .nil)) (.node 4739 (.one k223 .nil) (.one k226 .nil))) (.node 4742 (.node 4741 (.one k229 .nil) (.one k232 .nil)) (.node 4743 (.one k235 .nil) (.one k238 .nil))))))) (.node 4776 (.node 4760 (.node 4752 (.node 4748 (.node 4746 (.node 4745 (.one k241 .nil) (.one k246 .nil)) (.node 4747 (.one k249 .nil) (.one k252 .nil))) (.node 4750 (.node 4749 (.one k255 .nil) (.one k258 .nil)) (.node 4751 (.one k261 .nil) (.one k264 .nil)))) (.node 4756 (.node 4754 (.node 4753 (.one k267 .nil) (.one k270 .nil)) (.node 4755 (.one k273 .nil) (.one k276 .nil))) (.node 4758 (.node 4757 (.one k279 .nil) (.one k282 .nil)) (.node 4759 (.one k285 .nil) (.one k288 .nil))))) (.node 4768 (.node 4764 (.node 4762 (.node 4761 (.one k291 .nil) (.one k294 .nil)) (.node 4763 (.one k297 .nil) (.one k300 .nil))) (.node 4766 (.node 4765 (.one k303 .nil) (.one k306 .nil)) (.node 4767 (.one k309 .nil) (.one k312 .nil)))) (.node 4772 (.node 4770 (.node 4769 (.one k315 .nil) (.one k318 .nil)) (.node 4771 (.one k321 .nil) (.one k324 .nil))) (.node 4774 (.node 4773 (.one k327 .nil) (.one k330 .nil)) (.node 4775 (.one k333 .nil) (.one k336 .nil)))))) (.node 4792 (.node 4784 (.node 4780 (.node 4778 (.node 4777 (.one k339 .nil) (.one k342 .nil)) (.node 4779 (.one k345 .nil) (.one k348 .nil))) (.node 4782 (.node 4781 (.one k351 .nil) (.one k354 .nil)) (.node 4783 (.one k357 .nil) (.one k360 .nil)))) (.node 4788 (.node 4786 (.node 4785 (.one k363 .nil) (.one k366 .nil)) (.node 4787 (.one k369 .nil) (.one k372 .nil))) (.node 4790 (.node 4789 (.one k375 .nil) (.one k378 .nil)) (.node 4791 (.one k381 .nil) (.one k384 .nil))))) (.node 4800 (.node 4796 (.node 4794 (.node 4793 (.one k387 .nil) (.one k390 .nil)) (.node 4795 (.one k393 .nil) (.one k396 .nil))) (.node 4798 (.node 4797 (.one k399 .nil) (.one k402 .nil)) (.node 4799 (.one k405 .nil) (.one k408 .nil)))) (.node 4804 (.node 4802 (.node 4801 (.one k411 .nil) (.one k414 .nil)) (.node 4803 (.one k417 .nil) (.one k420 .nil))) (.node 4806 (.node 4805 (.one k423 .nil) (.one k426 .nil)) (.node 4807 (.one k429 .nil) (.one k432 .nil)))))))) (.node 4872 (.node 4840 (.node 4824 (.node 4816 (.node 4812 (.node 4810 (.node 4809 (.one k435 .nil) (.one k440 .nil)) (.node 4811 (.one k443 .nil) (.one k446 .nil))) (.node 4814 (.node 4813 (.one k449 .nil) (.one k452 .nil)) (.node 4815 (.one k455 .nil) (.one k458 .nil)))) (.node 4820 (.node 4818 (.node 4817 (.one k461 .nil) (.one k464 .nil)) (.node 4819 (.one k467 .nil) (.one k470 .nil))) (.node 4822 (.node 4821 (.one k473 .nil) (.one k476 .nil)) (.node 4823 (.one k479 .nil) (.one k482 .nil))))) (.node 4832 (.node 4828 (.node 4826 (.node 4825 (.one k485 .nil) (.one k488 .nil)) (.node 4827 (.one k491 .nil) (.one k494 .nil))) (.node 4830 (.node 4829 (.one k497 .nil) (.one k500 .nil)) (.node 4831 (.one k503 .nil) (.one k506 .nil)))) (.node 4836 (.node 4834 (.node 4833 (.one k509 .nil) (.one k512 .nil)) (.node 4835 (.one k515 .nil) (.one k518 .nil))) (.node 4838 (.node 4837 (.one k521 .nil) (.one k524 .nil)) (.node 4839 (.one k527 .nil) (.one k530 .nil)))))) (.node 4856 (.node 4848 (.node 4844 (.node 4842 (.node 4841 (.one k533 .nil) (.one k536 .nil)) (.node 4843 (.one k539 .nil) (.one k542 .nil))) (.node 4846 (.node 4845 (.one k545 .nil) (.one k548 .nil)) (.node 4847 (.one k551 .nil) (.one k554 .nil)))) (.node 4852 (.node 4850 (.node 4849 (.one k557 .nil) (.one k560 .nil)) (.node 4851 (.one k563 .nil) (.one k566 .nil))) (.node 4854 (.node 4853 (.one k569 .nil) (.one k572 .nil)) (.node 4855 (.one k575 .nil) (.one k578 .nil))))) (.node 4864 (.node 4860 (.node 4858 (.node 4857 (.one k581 .nil) (.one k584 .nil)) (.node 4859 (.one k587 .nil) (.one k590 .nil))) (.node 4862 (.node 4861 (.one k593 .nil) (.one k596 .nil)) (.node 4863 (.one k599 .nil) (.one k602 .nil)))) (.node 4868 (.node 4866 (.node 4865 (.one k605 .nil) (.one k608 .nil)) (.node 4867 (.one k611 .nil) (.one k614 .nil))) (.node 4870 (.node 4869 (.one k617 .nil) (.one k620 .nil)) (.node 4871 (.one k623 .nil) (.one k626 .nil))))))) (.node 4904 (.node 4888 (.node 4880 (.node 4876 (.node 4874 (.node 4873 (.one k629 .nil) (.one k632 .nil)) (.node 4875 (.one k635 .nil) (.one k638 .nil))) (.node 4878 (.node 4877 (.one k641 .nil) (.one k644 .nil)) (.node 4879 (.one k647 .nil) (.one k650 .nil)))) (.node 4884 (.node 4882 (.node 4881 (.one k653 .nil) (.one k656 .nil)) (.node 4883 (.one k659 .nil) (.one k662 .nil))) (.node 4886 (.node 4885 (.one k665 .nil) (.one k668 .nil)) (.node 4887 (.one k671 .nil) (.one k674 .nil))))) (.node 4896 (.node 4892 (.node 4890 (.node 4889 (.one k677 .nil) (.one k680 .nil)) (.node 4891 (.one k683 .nil) (.one k686 .nil))) (.node 4894 (.node 4893 (.one k689 .nil) (.one k692 .nil)) (.node 4895 (.one k695 .nil) (.one k698 .nil)))) (.node 4900 (.node 4898 (.node 4897 (.one k701 .nil) (.one k704 .nil)) (.node 4899 (.one k707 .nil) (.one k710 .nil))) (.node 4902 (.node 4901 (.one k713 .nil) (.one k716 .nil)) (.node 4903 (.one k719 .nil) (.one k722 .nil)))))) (.node 4920 (.node 4912 (.node 4908 (.node 4906 (.node 4905 (.one k725 .nil) (.one k728 .nil)) (.node 4907 (.one k731 .nil) (.one k734 .nil))) (.node 4910 (.node 4909 (.one k737 .nil) (.one k740 .nil)) (.node 4911 (.one k743 .nil) (.one k746 .nil)))) (.node 4916 (.node 4914 (.node 4913 (.one k749 .nil) (.one k752 .nil)) (.node 4915 (.one k755 .nil) (.one k758 .nil))) (.node 4918 (.node 4917 (.one k761 .nil) (.one k764 .nil)) (.node 4919 (.one k767 .nil) (.one k770 .nil))))) (.node 4928 (.node 4924 (.node 4922 (.node 4921 (.one k773 .nil) (.one k776 .nil)) (.node 4923 (.one k779 .nil) (.one k782 .nil))) (.node 4926 (.node 4925 (.one k785 .nil) (.one k788 .nil)) (.node 4927 (.one k791 .nil) (.one k794 .nil)))) (.node 4932 (.node 4930 (.node 4929 (.one k797 .nil) (.one k800 .nil)) (.node 4931 (.one k803 .nil) (.one k806 .nil))) (.node 4934 (.node 4933 (.one k809 .nil) (.one k812 .nil)) (.node 4935 (.one k815 .nil) (.one k818 .nil))))))))) (.node 43895 (.node 41911 (.node 40919 (.node 40423 (.node 40175 (.node 40051 (.node 39989 (.node 39958 (.one k841 .nil) (.one k842 .nil)) (.node 40020 (.one k843 .nil) (.one k844 .nil))) (.node 40113 (.node 40082 (.one k845 .nil) (.one k848 .nil)) (.node 40144 (.one k852 .nil) (.one k856 .nil)))) (.node 40299 (.node 40237 (.node 40206 (.one k857 .nil) (.one k860 .nil)) (.node 40268 (.one k864 .nil) (.one k868 .nil))) (.node 40361 (.node 40330 (.one k871 .nil) (.one k874 .nil)) (.node 40392 (.one k878 .nil) (.one k882 .nil))))) (.node 40671 (.node 40547 (.node 40485 (.node 40454 (.one k883 .nil) (.one k886 .nil)) (.node 40516 (.one k890 .nil) (.one k894 .nil))) (.node 40609 (.node 40578 (.one k897 .nil) (.one k900 .nil)) (.node 40640 (.one k904 .nil) (.one k908 .nil)))) (.node 40795 (.node 40733 (.node 40702 (.one k911 .nil) (.one k914 .nil)) (.node 40764 (.one k918 .nil) (.one k922 .nil))) (.node 40857 (.node 40826 (.one k925 .nil) (.one k928 .nil)) (.node 40888 (.one k932 .nil) (.one k936 .nil)))))) (.node 41415 (.node 41167 (.node 41043 (.node 40981 (.node 40950 (.one k937 .nil) (.one k940 .nil)) (.node 41012 (.one k944 .nil) (.one k948 .nil))) (.node 41105 (.node 41074 (.one k951 .nil) (.one k954 .nil)) (.node 41136 (.one k958 .nil) (.one k962 .nil)))) (.node 41291 (.node 41229 (.node 41198 (.one k965 .nil) (.one k968 .nil)) (.node 41260 (.one k972 .nil) (.one k976 .nil))) (.node 41353 (.node 41322 (.one k979 .nil) (.one k982 .nil)) (.node 41384 (.one k986 .nil) (.one k990 .nil))))) (.node 41663 (.node 41539 (.node 41477 (.node 41446 (.one k993 .nil) (.one k996 .nil)) (.node 41508 (.one k1000 .nil) (.one k1004 .nil))) (.node 41601 (.node 41570 (.one k1007 .nil) (.one k1010 .nil)) (.node 41632 (.one k1014 .nil) (.one k1018 .nil)))) (.node 41787 (.node 41725 (.node 41694 (.one k1021 .nil) (.one k1024 .nil)) (.node 41756 (.one k1028 .nil) (.one k1032 .nil))) (.node 41849 (.node 41818 (.one k1035 .nil) (.one k1038 .nil)) (.node 41880 (.one k1042 .nil) (.one k1046 .nil))))))) (.node 42903 (.node 42407 (.node 42159 (.node 42035 (.node 41973 (.node 41942 (.one k1047 .nil) (.one k1050 .nil)) (.node 42004 (.one k1054 .nil) (.one k1058 .nil))) (.node 42097 (.node 42066 (.one k1061 .nil) (.one k1064 .nil)) (.node 42128 (.one k1068 .nil) (.one k1072 .nil)))) (.node 42283 (.node 42221 (.node 42190 (.one k1075 .nil) (.one k1078 .nil)) (.node 42252 (.one k1082 .nil) (.one k1086 .nil))) (.node 42345 (.node 42314 (.one k1089 .nil) (.one k1092 .nil)) (.node 42376 (.one k1096 .nil) (.one k1100 .nil))))) (.node 42655 (.node 42531 (.node 42469 (.node 42438 (.one k1103 .nil) (.one k1106 .nil)) (.node 42500 (.one k1110 .nil) (.one k1114 .nil))) (.node 42593 (.node 42562 (.one k1117 .nil) (.one k1120 .nil)) (.node 42624 (.one k1124 .nil) (.one k1128 .nil)))) (.node 42779 (.node 42717 (.node 42686 (.one k1131 .nil) (.one k1134 .nil)) (.node 42748 (.one k1138 .nil) (.one k1142 .nil))) (.node 42841 (.node 42810 (.one k1145 .nil) (.one k1148 .nil)) (.node 42872 (.one k1152 .nil) (.one k1156 .nil)))))) (.node 43399 (.node 43151 (.node 43027 (.node 42965 (.node 42934 (.one k1159 .nil) (.one k1162 .nil)) (.node 42996 (.one k1166 .nil) (.one k1170 .nil))) (.node 43089 (.node 43058 (.one k1173 .nil) (.one k1176 .nil)) (.node 43120 (.one k1180 .nil) (.one k1184 .nil)))) (.node 43275 (.node 43213 (.node 43182 (.one k1187 .nil) (.one k1190 .nil)) (.node 43244 (.one k1194 .nil) (.one k1198 .nil))) (.node 43337 (.node 43306 (.one k1201 .nil) (.one k1204 .nil)) (.node 43368 (.one k1208 .nil) (.one k1212 .nil))))) (.node 43647 (.node 43523 (.node 43461 (.node 43430 (.one k1215 .nil) (.one k1218 .nil)) (.node 43492 (.one k1222 .nil) (.one k1226 .nil))) (.node 43585 (.node 43554 (.one k1229 .nil) (.one k1232 .nil)) (.node 43616 (.one k1236 .nil) (.one k1240 .nil)))) (.node 43771 (.node 43709 (.node 43678 (.one k1243 .nil) (.one k1246 .nil)) (.node 43740 (.one k1250 .nil) (.one k1254 .nil))) (.node 43833 (.node 43802 (.one k1257 .nil) (.one k1260 .nil)) (.node 43864 (.one k1264 .nil) (.one k1268 .nil)))))))) (.node 45879 (.node 44887 (.node 44391 (.node 44143 (.node 44019 (.node 43957 (.node 43926 (.one k1269 .nil) (.one k1272 .nil)) (.node 43988 (.one k1276 .nil) (.one k1280 .nil))) (.node 44081 (.node 44050 (.one k1283 .nil) (.one k1286 .nil)) (.node 44112 (.one k1290 .nil) (.one k1294 .nil)))) (.node 44267 (.node 44205 (.node 44174 (.one k1297 .nil) (.one k1300 .nil)) (.node 44236 (.one k1304 .nil) (.one k1308 .nil))) (.node 44329 (.node 44298 (.one k1311 .nil) (.one k1314 .nil)) (.node 44360 (.one k1318 .nil) (.one k1322 .nil))))) (.node 44639 (.node 44515 (.node 44453 (.node 44422 (.one k1325 .nil) (.one k1328 .nil)) (.node 44484 (.one k1332 .nil) (.one k1336 .nil))) (.node 44577 (.node 44546 (.one k1339 .nil) (.one k1342 .nil)) (.node 44608 (.one k1346 .nil) (.one k1350 .nil)))) (.node 44763 (.node 44701 (.node 44670 (.one k1353 .nil) (.one k1356 .nil)) (.node 44732 (.one k1360 .nil) (.one k1364 .nil))) (.node 44825 (.node 44794 (.one k1367 .nil) (.one k1370 .nil)) (.node 44856 (.one k1374 .nil) (.one k1378 .nil)))))) (.node 45383 (.node 45135 (.node 45011 (.node 44949 (.node 44918 (.one k1381 .nil) (.one k1384 .nil)) (.node 44980 (.one k1388 .nil) (.one k1392 .nil))) (.node 45073 (.node 45042 (.one k1395 .nil) (.one k1398 .nil)) (.node 45104 (.one k1402 .nil) (.one k1406 .nil)))) (.node 45259 (.node 45197 (.node 45166 (.one k1409 .nil) (.one k1412 .nil)) (.node 45228 (.one k1416 .nil) (.one k1420 .nil))) (.node 45321 (.node 45290 (.one k1423 .nil) (.one k1426 .nil)) (.node 45352 (.one k1430 .nil) (.one k1434 .nil))))) (.node 45631 (.node 45507 (.node 45445 (.node 45414 (.one k1437 .nil) (.one k1440 .nil)) (.node 45476 (.one k1444 .nil) (.one k1448 .nil))) (.node 45569 (.node 45538 (.one k1451 .nil) (.one k1454 .nil)) (.node 45600 (.one k1458 .nil) (.one k1462 .nil)))) (.node 45755 (.node 45693 (.node 45662 (.one k1465 .nil) (.one k1468 .nil)) (.node 45724 (.one k1472 .nil) (.one k1476 .nil))) (.node 45817 (.node 45786 (.one k1479 .nil) (.one k1482 .nil)) (.node 45848 (.one k1486 .nil) (.one k1490 .nil))))))) (.node 46871 (.node 46375 (.node 46127 (.node 46003 (.node 45941 (.node 45910 (.one k1493 .nil) (.one k1496 .nil)) (.node 45972 (.one k1500 .nil) (.one k1504 .nil))) (.node 46065 (.node 46034 (.one k1507 .nil) (.one k1510 .nil)) (.node 46096 (.one k1514 .nil) (.one k1518 .nil)))) (.node 46251 (.node 46189 (.node 46158 (.one k1521 .nil) (.one k1524 .nil)) (.node 46220 (.one k1528 .nil) (.one k1532 .nil))) (.node 46313 (.node 46282 (.one k1535 .nil) (.one k1538 .nil)) (.node 46344 (.one k1542 .nil) (.one k1546 .nil))))) (.node 46623 (.node 46499 (.node 46437 (.node 46406 (.one k1549 .nil) (.one k1552 .nil)) (.node 46468 (.one k1556 .nil) (.one k1560 .nil))) (.node 46561 (.node 46530 (.one k1563 .nil) (.one k1566 .nil)) (.node 46592 (.one k1570 .nil) (.one k1574 .nil)))) (.node 46747 (.node 46685 (.node 46654 (.one k1577 .nil) (.one k1580 .nil)) (.node 46716 (.one k1584 .nil) (.one k1588 .nil))) (.node 46809 (.node 46778 (.one k1591 .nil) (.one k1594 .nil)) (.node 46840 (.one k1598 .nil) (.one k1602 .nil)))))) (.node 47367 (.node 47119 (.node 46995 (.node 46933 (.node 46902 (.one k1605 .nil) (.one k1608 .nil)) (.node 46964 (.one k1612 .nil) (.one k1616 .nil))) (.node 47057 (.node 47026 (.one k1619 .nil) (.one k1622 .nil)) (.node 47088 (.one k1626 .nil) (.one k1630 .nil)))) (.node 47243 (.node 47181 (.node 47150 (.one k1633 .nil) (.one k1636 .nil)) (.node 47212 (.one k1640 .nil) (.one k1644 .nil))) (.node 47305 (.node 47274 (.one k1647 .nil) (.one k1650 .nil)) (.node 47336 (.one k1654 .nil) (.one k1658 .nil))))) (.node 47615 (.node 47491 (.node 47429 (.node 47398 (.one k1661 .nil) (.one k1664 .nil)) (.node 47460 (.one k1668 .nil) (.one k1672 .nil))) (.node 47553 (.node 47522 (.one k1675 .nil) (.one k1678 .nil)) (.node 47584 (.one k1682 .nil) (.one k1686 .nil)))) (.node 47739 (.node 47677 (.node 47646 (.one k1689 .nil) (.one k1692 .nil)) (.node 47708 (.one k1696 .nil) (.one k1700 .nil))) (.node 47801 (.node 47770 (.one k1703 .nil) (.one k1706 .nil)) (.node 47832 (.one k1710 .nil) (.one k1714 .nil))))))))))) (mT (mT (mT (mT (mT (mT (mT (mT (mT (mO ok35 mN) (mO ok38 mN)) (mT (mO ok41 mN) (mO ok47 mN))) (mT (mT (mO ok53 mN) (mO ok58 mN)) (mT (mO ok61 mN) (mO ok64 mN)))) (mT (mT (mT (mO ok67 mN) (mO ok72 mN)) (mT (mO ok75 mN) (mO ok78 mN))) (mT (mT (mO ok81 mN) (mO ok84 mN)) (mT (mO ok87 mN) (mO ok90 mN))))) (mT (mT (mT (mT (mO ok93 mN) (mO ok98 mN)) (mT (mO ok101 mN) (mO ok104 mN))) (mT (mT (mO ok107 mN) (mO ok110 mN)) (mT (mO ok113 mN) (mO ok116 mN)))) (mT (mT (mT (mO ok119 mN) (mO ok122 mN)) (mT (mO ok125 mN) (mO ok128 mN))) (mT (mT (mO ok131 mN) (mO ok134 mN)) (mT (mO ok137 mN) (mO ok140 mN)))))) (mT (mT (mT (mT (mT (mO ok143 mN) (mO ok148 mN)) (mT (mO ok151 mN) (mO ok154 mN))) (mT (mT (mO ok157 mN) (mO ok160 mN)) (mT (mO ok163 mN) (mO ok166 mN)))) (mT (mT (mT (mO ok169 mN) (mO ok172 mN)) (mT (mO ok175 mN) (mO ok178 mN))) (mT (mT (mO ok181 mN) (mO ok184 mN)) (mT (mO ok187 mN) (mO ok190 mN))))) (mT (mT (mT (mT (mO ok193 mN) (mO ok196 mN)) (mT (mO ok199 mN) (mO ok202 mN))) (mT (mT (mO ok205 mN) (mO ok208 mN)) (mT (mO ok211 mN) (mO ok214 mN)))) (mT (mT (mT (mO ok217 mN) (mO ok220 mN)) (mT (mO ok223 mN) (mO ok226 mN))) (mT (mT (mO ok229 mN) (mO ok232 mN)) (mT (mO ok235 mN) (mO ok238 mN))))))) (mT (mT (mT (mT (mT (mT (mO ok241 mN) (mO ok246 mN)) (mT (mO ok249 mN) (mO ok252 mN))) (mT (mT (mO ok255 mN) (mO ok258 mN)) (mT (mO ok261 mN) (mO ok264 mN)))) (mT (mT (mT (mO ok267 mN) (mO ok270 mN)) (mT (mO ok273 mN) (mO ok276 mN))) (mT (mT (mO ok279 mN) (mO ok282 mN)) (mT (mO ok285 mN) (mO ok288 mN))))) (mT (mT (mT (mT (mO ok291 mN) (mO ok294 mN)) (mT (mO ok297 mN) (mO ok300 mN))) (mT (mT (mO ok303 mN) (mO ok306 mN)) (mT (mO ok309 mN) (mO ok312 mN)))) (mT (mT (mT (mO ok315 mN) (mO ok318 mN)) (mT (mO ok321 mN) (mO ok324 mN))) (mT (mT (mO ok327 mN) (mO ok330 mN)) (mT (mO ok333 mN) (mO ok336 mN)))))) (mT (mT (mT (mT (mT (mO ok339 mN) (mO ok342 mN)) (mT (mO ok345 mN) (mO ok348 mN))) (mT (mT (mO ok351 mN) (mO ok354 mN)) (mT (mO ok357 mN) (mO ok360 mN)))) (mT (mT (mT (mO ok363 mN) (mO ok366 mN)) (mT (mO ok369 mN) (mO ok372 mN))) (mT (mT (mO ok375 mN) (mO ok378 mN)) (mT (mO ok381 mN) (mO ok384 mN))))) (mT (mT (mT (mT (mO ok387 mN) (mO ok390 mN)) (mT (mO ok393 mN) (mO ok396 mN))) (mT (mT (mO ok399 mN) (mO ok402 mN)) (mT (mO ok405 mN) (mO ok408 mN)))) (mT (mT (mT (mO ok411 mN) (mO ok414 mN)) (mT (mO ok417 mN) (mO ok420 mN))) (mT (mT (mO ok423 mN) (mO ok426 mN)) (mT (mO ok429 mN) (mO ok432 mN)))))))) (mT (mT (mT (mT (mT (mT (mT (mO ok435 mN) (mO ok440 mN)) (mT (mO ok443 mN) (mO ok446 mN))) (mT (mT (mO ok449 mN) (mO ok452 mN)) (mT (mO ok455 mN) (mO ok458 mN)))) (mT (mT (mT (mO ok461 mN) (mO ok464 mN)) (mT (mO ok467 mN) (mO ok470 mN))) (mT (mT (mO ok473 mN) (mO ok476 mN)) (mT (mO ok479 mN) (mO ok482 mN))))) (mT (mT (mT (mT (mO ok485 mN) (mO ok488 mN)) (mT (mO ok491 mN) (mO ok494 mN))) (mT (mT (mO ok497 mN) (mO ok500 mN)) (mT (mO ok503 mN) (mO ok506 mN)))) (mT (mT (mT (mO ok509 mN) (mO ok512 mN)) (mT (mO ok515 mN) (mO ok518 mN))) (mT (mT (mO ok521 mN) (mO ok524 mN)) (mT (mO ok527 mN) (mO ok530 mN)))))) (mT (mT (mT (mT (mT (mO ok533 mN) (mO ok536 mN)) (mT (mO ok539 mN) (mO ok542 mN))) (mT (mT (mO ok545 mN) (mO ok548 mN)) (mT (mO ok551 mN) (mO ok554 mN)))) (mT (mT (mT (mO ok557 mN) (mO ok560 mN)) (mT (mO ok563 mN) (mO ok566 mN))) (mT (mT (mO ok569 mN) (mO ok572 mN)) (mT (mO ok575 mN) (mO ok578 mN))))) (mT (mT (mT (mT (mO ok581 mN) (mO ok584 mN)) (mT (mO ok587 mN) (mO ok590 mN))) (mT (mT (mO ok593 mN) (mO ok596 mN)) (mT (mO ok599 mN) (mO ok602 mN)))) (mT (mT (mT (mO ok605 mN) (mO ok608 mN)) (mT (mO ok611 mN) (mO ok614 mN))) (mT (mT (mO ok617 mN) (mO ok620 mN)) (mT (mO ok623 mN) (mO ok626 mN))))))) (mT (mT (mT (mT (mT (mT (mO ok629 mN) (mO ok632 mN)) (mT (mO ok635 mN) (mO ok638 mN))) (mT (mT (mO ok641 mN) (mO ok644 mN)) (mT (mO ok647 mN) (mO ok650 mN)))) (mT (mT (mT (mO ok653 mN) (mO ok656 mN)) (mT (mO ok659 mN) (mO ok662 mN))) (mT (mT (mO ok665 mN) (mO ok668 mN)) (mT (mO ok671 mN) (mO ok674 mN))))) (mT (mT (mT (mT (mO ok677 mN) (mO ok680 mN)) (mT (mO ok683 mN) (mO ok686 mN))) (mT (mT (mO ok689 mN) (mO ok692 mN)) (mT (mO ok695 mN) (mO ok698 mN)))) (mT (mT (mT (mO ok701 mN) (mO ok704 mN)) (mT (mO ok707 mN) (mO ok710 mN))) (mT (mT (mO ok713 mN) (mO ok716 mN)) (mT (mO ok719 mN) (mO ok722 mN)))))) (mT (mT (mT (mT (mT (mO ok725 mN) (mO ok728 mN)) (mT (mO ok731 mN) (mO ok734 mN))) (mT (mT (mO ok737 mN) (mO ok740 mN)) (mT (mO ok743 mN) (mO ok746 mN)))) (mT (mT (mT (mO ok749 mN) (mO ok752 mN)) (mT (mO ok755 mN) (mO ok758 mN))) (mT (mT (mO ok761 mN) (mO ok764 mN)) (mT (mO ok767 mN) (mO ok770 mN))))) (mT (mT (mT (mT (mO ok773 mN) (mO ok776 mN)) (mT (mO ok779 mN) (mO ok782 mN))) (mT (mT (mO ok785 mN) (mO ok788 mN)) (mT (mO ok791 mN) (mO ok794 mN)))) (mT (mT (mT (mO ok797 mN) (mO ok800 mN)) (mT (mO ok803 mN) (mO ok806 mN))) (mT (mT (mO ok809 mN) (mO ok812 mN)) (mT (mO ok815 mN) (mO ok818 mN))))))))) (mT (mT (mT (mT (mT (mT (mT (mT (mO ok841 mN) (mO ok842 mN)) (mT (mO ok843 mN) (mO ok844 mN))) (mT (mT (mO ok845 mN) (mO ok848 mN)) (mT (mO ok852 mN) (mO ok856 mN)))) (mT (mT (mT (mO ok857 mN) (mO ok860 mN)) (mT (mO ok864 mN) (mO ok868 mN))) (mT (mT (mO ok871 mN) (mO ok874 mN)) (mT (mO ok878 mN) (mO ok882 mN))))) (mT (mT (mT (mT (mO ok883 mN) (mO ok886 mN)) (mT (mO ok890 mN) (mO ok894 mN))) (mT (mT (mO ok897 mN) (mO ok900 mN)) (mT (mO ok904 mN) (mO ok908 mN)))) (mT (mT (mT (mO ok911 mN) (mO ok914 mN)) (mT (mO ok918 mN) (mO ok922 mN))) (mT (mT (mO ok925 mN) (mO ok928 mN)) (mT (mO ok932 mN) (mO ok936 mN)))))) (mT (mT (mT (mT (mT (mO ok937 mN) (mO ok940 mN)) (mT (mO ok944 mN) (mO ok948 mN))) (mT (mT (mO ok951 mN) (mO ok954 mN)) (mT (mO ok958 mN) (mO ok962 mN)))) (mT (mT (mT (mO ok965 mN) (mO ok968 mN)) (mT (mO ok972 mN) (mO ok976 mN))) (mT (mT (mO ok979 mN) (mO ok982 mN)) (mT (mO ok986 mN) (mO ok990 mN))))) (mT (mT (mT (mT (mO ok993 mN) (mO ok996 mN)) (mT (mO ok1000 mN) (mO ok1004 mN))) (mT (mT (mO ok1007 mN) (mO ok1010 mN)) (mT (mO ok1014 mN) (mO ok1018 mN)))) (mT (mT (mT (mO ok1021 mN) (mO ok1024 mN)) (mT (mO ok1028 mN) (mO ok1032 mN))) (mT (mT (mO ok1035 mN) (mO ok1038 mN)) (mT (mO ok1042 mN) (mO ok1046 mN))))))) (mT (mT (mT (mT (mT (mT (mO ok1047 mN) (mO ok1050 mN)) (mT (mO ok1054 mN) (mO ok1058 mN))) (mT (mT (mO ok1061 mN) (mO ok1064 mN)) (mT (mO ok1068 mN) (mO ok1072 mN)))) (mT (mT (mT (mO ok1075 mN) (mO ok1078 mN)) (mT (mO ok1082 mN) (mO ok1086 mN))) (mT (mT (mO ok1089 mN) (mO ok1092 mN)) (mT (mO ok1096 mN) (mO ok1100 mN))))) (mT (mT (mT (mT (mO ok1103 mN) (mO ok1106 mN)) (mT (mO ok1110 mN) (mO ok1114 mN))) (mT (mT (mO ok1117 mN) (mO ok1120 mN)) (mT (mO ok1124 mN) (mO ok1128 mN)))) (mT (mT (mT (mO ok1131 mN) (mO ok1134 mN)) (mT (mO ok1138 mN) (mO ok1142 mN))) (mT (mT (mO ok1145 mN) (mO ok1148 mN)) (mT (mO ok1152 mN) (mO ok1156 mN)))))) (mT (mT (mT (mT (mT (mO ok1159 mN) (mO ok1162 mN)) (mT (mO ok1166 mN) (mO ok1170 mN))) (mT (mT (mO ok1173 mN) (mO ok1176 mN)) (mT (mO ok1180 mN) (mO ok1184 mN)))) (mT (mT (mT (mO ok1187 mN) (mO ok1190 mN)) (mT (mO ok1194 mN) (mO ok1198 mN))) (mT (mT (mO ok1201 mN) (mO ok1204 mN)) (mT (mO ok1208 mN) (mO ok1212 mN))))) (mT (mT (mT (mT (mO ok1215 mN) (mO ok1218 mN)) (mT (mO ok1222 mN) (mO ok1226 mN))) (mT (mT (mO ok1229 mN) (mO ok1232 mN)) (mT (mO ok1236 mN) (mO ok1240 mN)))) (mT (mT (mT (mO ok1243 mN) (mO ok1246 mN)) (mT (mO ok1250 mN) (mO ok1254 mN))) (mT (mT (mO ok1257 mN) (mO ok1260 mN)) (mT (mO ok1264 mN) (mO ok1268 mN)))))))) (mT (mT (mT (mT (mT (mT (mT (mO ok1269 mN) (mO ok1272 mN)) (mT (mO ok1276 mN) (mO ok1280 mN))) (mT (mT (mO ok1283 mN) (mO ok1286 mN)) (mT (mO ok1290 mN) (mO ok1294 mN)))) (mT (mT (mT (mO ok1297 mN) (mO ok1300 mN)) (mT (mO ok1304 mN) (mO ok1308 mN))) (mT (mT (mO ok1311 mN) (mO ok1314 mN)) (mT (mO ok1318 mN) (mO ok1322 mN))))) (mT (mT (mT (mT (mO ok1325 mN) (mO ok1328 mN)) (mT (mO ok1332 mN) (mO ok1336 mN))) (mT (mT (mO ok1339 mN) (mO ok1342 mN)) (mT (mO ok1346 mN) (mO ok1350 mN)))) (mT (mT (mT (mO ok1353 mN) (mO ok1356 mN)) (mT (mO ok1360 mN) (mO ok1364 mN))) (mT (mT (mO ok1367 mN) (mO ok1370 mN)) (mT (mO ok1374 mN) (mO ok1378 mN)))))) (mT (mT (mT (mT (mT (mO ok1381 mN) (mO ok1384 mN)) (mT (mO ok1388 mN) (mO ok1392 mN))) (mT (mT (mO ok1395 mN) (mO ok1398 mN)) (mT (mO ok1402 mN) (mO ok1406 mN)))) (mT (mT (mT (mO ok1409 mN) (mO ok1412 mN)) (mT (mO ok1416 mN) (mO ok1420 mN))) (mT (mT (mO ok1423 mN) (mO ok1426 mN)) (mT (mO ok1430 mN) (mO ok1434 mN))))) (mT (mT (mT (mT (mO ok1437 mN) (mO ok1440 mN)) (mT (mO ok1444 mN) (mO ok1448 mN))) (mT (mT (mO ok1451 mN) (mO ok1454 mN)) (mT (mO ok1458 mN) (mO ok1462 mN)))) (mT (mT (mT (mO ok1465 mN) (mO ok1468 mN)) (mT (mO ok1472 mN) (mO ok1476 mN))) (mT (mT (mO ok1479 mN) (mO ok1482 mN)) (mT (mO ok1486 mN) (mO ok1490 mN))))))) (mT (mT (mT (mT (mT (mT (mO ok1493 mN) (mO ok1496 mN)) (mT (mO ok1500 mN) (mO ok1504 mN))) (mT (mT (mO ok1507 mN) (mO ok1510 mN)) (mT (mO ok1514 mN) (mO ok1518 mN)))) (mT (mT (mT (mO ok1521 mN) (mO ok1524 mN)) (mT (mO ok1528 mN) (mO ok1532 mN))) (mT (mT (mO ok1535 mN) (mO ok1538 mN)) (mT (mO ok1542 mN) (mO ok1546 mN))))) (mT (mT (mT (mT (mO ok1549 mN) (mO ok1552 mN)) (mT (mO ok1556 mN) (mO ok1560 mN))) (mT (mT (mO ok1563 mN) (mO ok1566 mN)) (mT (mO ok1570 mN) (mO ok1574 mN)))) (mT (mT (mT (mO ok1577 mN) (mO ok1580 mN)) (mT (mO ok1584 mN) (mO ok1588 mN))) (mT (mT (mO ok1591 mN) (mO ok1594 mN)) (mT (mO ok1598 mN) (mO ok1602 mN)))))) (mT (mT (mT (mT (mT (mO ok1605 mN) (mO ok1608 mN)) (mT (mO ok1612 mN) (mO ok1616 mN))) (mT (mT (mO ok1619 mN) (mO ok1622 mN)) (mT (mO ok1626 mN) (mO ok1630 mN)))) (mT (mT (mT (mO ok1633 mN) (mO ok1636 mN)) (mT (mO ok1640 mN) (mO ok1644 mN))) (mT (mT (mO ok1647 mN) (mO ok1650 mN)) (mT (mO ok1654 mN) (mO ok1658 mN))))) (mT (mT (mT (mT (mO ok1661 mN) (mO ok1664 mN)) (mT (mO ok1668 mN) (mO ok1672 mN))) (mT (mT (mO ok1675 mN) (mO ok1678 mN)) (mT (mO ok1682 mN) (mO ok1686 mN)))) (mT (mT (mT (mO ok1689 mN) (mO ok1692 mN)) (mT (mO ok1696 mN) (mO ok1700 mN))) (mT (mT (mO ok1703 mN) (mO ok1706 mN)) (mT (mO ok1710 mN) (mO ok1714 mN)))))))))) (by kernel_rfl)
theorem ok1716 : PuOK prog k1716.f k1716.args k1716.t := known (L := (.node 10320 (.node 9360 (.one k0 (.one k2 (.one k3 (.one k4 .nil)))) (.one k5 .nil)) (.node 56793 (.node 10321 (.one k6 .nil) (.node 10322 (.one k7 .nil) (.one k1715 .nil))) (.node 61599 (.one k8 .nil) (.node 61600 (.one k9 .nil) (.one k10 .nil)))))) (mT (mT (mO ok0 (mO ok2 (mO ok3 (mO ok4 mN)))) (mO ok5 mN)) (mT (mT (mO ok6 mN) (mT (mO ok7 mN) (mO ok1715 mN))) (mT (mO ok8 mN) (mT (mO ok9 mN) (mO ok10 mN))))) (by kernel_rfl)
theorem ok1717 : PuOK prog k1717.f k1717.args k1717.t := known (L := .nil) mN (by kernel_rfl)
theorem ok1718 : PuOK prog k1718.f k1718.args k1718.t := known (L := .nil) mN (by kernel_rfl)
theorem ok1719 : PuOK prog k1719.f k1719.args k1719.t := known (L := .nil) mN (by kernel_rfl)
theorem ok1720 : PuOK prog k1720.f k1720.args k1720.t := known (L := (.one k39 (.one k40 (.one k1718 (.one k1719 .nil))))) (mO ok39 (mO ok40 (mO ok1718 (mO ok1719 mN)))) (by kernel_rfl)
theorem ok1721 : PuOK prog k1721.f k1721.args k1721.t := known (L := .nil) mN (by kernel_rfl)
theorem ok1722 : PuOK prog k1722.f k1722.args k1722.t := known (L := (.one k1721 .nil)) (mO ok1721 mN) (by kernel_rfl)
theorem ok1723 : PuOK prog k1723.f k1723.args k1723.t := known (L := .nil) mN (by kernel_rfl)
theorem ok1724 : PuOK prog k1724.f k1724.args k1724.t := known (L := (.one k1723 .nil)) (mO ok1723 mN) (by kernel_rfl)
theorem ok1725 : PuOK prog k1725.f k1725.args k1725.t := known (L := .nil) mN (by kernel_rfl)
theorem ok1726 : PuOK prog k1726.f k1726.args k1726.t := known (L := (.one k1725 .nil)) (mO ok1725 mN) (by kernel_rfl)
theorem ok1727 : PuOK prog k1727.f k1727.args k1727.t := known (L := .nil) mN (by kernel_rfl)
theorem ok1728 : PuOK prog k1728.f k1728.args k1728.t := known (L := (.one k1727 .nil)) (mO ok1727 mN) (by kernel_rfl)
theorem ok1729 : PuOK prog k1729.f k1729.args k1729.t := known (L := .nil) mN (by kernel_rfl)
theorem ok1730 : PuOK prog k1730.f k1730.args k1730.t := known (L := (.one k1729 .nil)) (mO ok1729 mN) (by kernel_rfl)
theorem ok1731 : PuOK prog k1731.f k1731.args k1731.t := known (L := .nil) mN (by kernel_rfl)
theorem ok1732 : PuOK prog k1732.f k1732.args k1732.t := known (L := (.one k1731 .nil)) (mO ok1731 mN) (by kernel_rfl)
theorem ok1733 : PuOK prog k1733.f k1733.args k1733.t := known (L := .nil) mN (by kernel_rfl)
theorem ok1734 : PuOK prog k1734.f k1734.args k1734.t := known (L := (.one k1733 .nil)) (mO ok1733 mN) (by kernel_rfl)
theorem ok1735 : PuOK prog k1735.f k1735.args k1735.t := known (L := .nil) mN (by kernel_rfl)
theorem ok1736 : PuOK prog k1736.f k1736.args k1736.t := known (L := (.one k1735 .nil)) (mO ok1735 mN) (by kernel_rfl)
theorem ok1737 : PuOK prog k1737.f k1737.args k1737.t := known (L := .nil) mN (by kernel_rfl)
theorem ok1738 : PuOK prog k1738.f k1738.args k1738.t := known (L := (.one k1737 .nil)) (mO ok1737 mN) (by kernel_rfl)
theorem ok1739 : PuOK prog k1739.f k1739.args k1739.t := known (L := .nil) mN (by kernel_rfl)
theorem ok1740 : PuOK prog k1740.f k1740.args k1740.t := known (L := (.one k1739 .nil)) (mO ok1739 mN) (by kernel_rfl)
theorem ok1741 : PuOK prog k1741.f k1741.args k1741.t := known (L := .nil) mN (by kernel_rfl)
theorem ok1742 : PuOK prog k1742.f k1742.args k1742.t := known (L := (.one k1741 .nil)) (mO ok1741 mN) (by kernel_rfl)
theorem ok1743 : PuOK prog k1743.f k1743.args k1743.t := known (L := .nil) mN (by kernel_rfl)
theorem ok1744 : PuOK prog k1744.f k1744.args k1744.t := known (L := (.one k1743 .nil)) (mO ok1743 mN) (by kernel_rfl)
theorem ok1745 : PuOK prog k1745.f k1745.args k1745.t := known (L := .nil) mN (by kernel_rfl)
theorem ok1746 : PuOK prog k1746.f k1746.args k1746.t := known (L := (.one k1745 .nil)) (mO ok1745 mN) (by kernel_rfl)
theorem ok1747 : PuOK prog k1747.f k1747.args k1747.t := known (L := .nil) mN (by kernel_rfl)
theorem ok1748 : PuOK prog k1748.f k1748.args k1748.t := known (L := (.one k1747 .nil)) (mO ok1747 mN) (by kernel_rfl)
theorem ok1749 : PuOK prog k1749.f k1749.args k1749.t := known (L := .nil) mN (by kernel_rfl)
theorem ok1750 : PuOK prog k1750.f k1750.args k1750.t := known (L := (.one k1749 .nil)) (mO ok1749 mN) (by kernel_rfl)
theorem ok1751 : PuOK prog k1751.f k1751.args k1751.t := known (L := .nil) mN (by kernel_rfl)
theorem ok1752 : PuOK prog k1752.f k1752.args k1752.t := known (L := (.one k1751 .nil)) (mO ok1751 mN) (by kernel_rfl)
theorem ok1753 : PuOK prog k1753.f k1753.args k1753.t := known (L := .nil) mN (by kernel_rfl)
theorem ok1754 : PuOK prog k1754.f k1754.args k1754.t := known (L := (.one k1753 .nil)) (mO ok1753 mN) (by kernel_rfl)
theorem ok1755 : PuOK prog k1755.f k1755.args k1755.t := known (L := .nil) mN (by kernel_rfl)
theorem ok1756 : PuOK prog k1756.f k1756.args k1756.t := known (L := (.one k1755 .nil)) (mO ok1755 mN) (by kernel_rfl)
theorem ok1757 : PuOK prog k1757.f k1757.args k1757.t := known (L := .nil) mN (by kernel_rfl)
theorem ok1758 : PuOK prog k1758.f k1758.args k1758.t := known (L := (.one k1757 .nil)) (mO ok1757 mN) (by kernel_rfl)
theorem ok1759 : PuOK prog k1759.f k1759.args k1759.t := known (L := .nil) mN (by kernel_rfl)
theorem ok1760 : PuOK prog k1760.f k1760.args k1760.t := known (L := (.one k1759 .nil)) (mO ok1759 mN) (by kernel_rfl)
theorem ok1761 : PuOK prog k1761.f k1761.args k1761.t := known (L := .nil) mN (by kernel_rfl)
theorem ok1762 : PuOK prog k1762.f k1762.args k1762.t := known (L := (.one k1761 .nil)) (mO ok1761 mN) (by kernel_rfl)
theorem ok1763 : PuOK prog k1763.f k1763.args k1763.t := known (L := .nil) mN (by kernel_rfl)
theorem ok1764 : PuOK prog k1764.f k1764.args k1764.t := known (L := (.one k1763 .nil)) (mO ok1763 mN) (by kernel_rfl)
theorem ok1765 : PuOK prog k1765.f k1765.args k1765.t := known (L := .nil) mN (by kernel_rfl)
theorem ok1766 : PuOK prog k1766.f k1766.args k1766.t := known (L := (.one k1765 .nil)) (mO ok1765 mN) (by kernel_rfl)
theorem ok1767 : PuOK prog k1767.f k1767.args k1767.t := known (L := .nil) mN (by kernel_rfl)
theorem ok1768 : PuOK prog k1768.f k1768.args k1768.t := known (L := (.one k1767 .nil)) (mO ok1767 mN) (by kernel_rfl)
theorem ok1769 : PuOK prog k1769.f k1769.args k1769.t := known (L := .nil) mN (by kernel_rfl)
theorem ok1770 : PuOK prog k1770.f k1770.args k1770.t := known (L := (.one k1769 .nil)) (mO ok1769 mN) (by kernel_rfl)
theorem ok1771 : PuOK prog k1771.f k1771.args k1771.t := known (L := .nil) mN (by kernel_rfl)
theorem ok1772 : PuOK prog k1772.f k1772.args k1772.t := known (L := (.one k1771 .nil)) (mO ok1771 mN) (by kernel_rfl)
theorem ok1773 : PuOK prog k1773.f k1773.args k1773.t := known (L := .nil) mN (by kernel_rfl)
theorem ok1774 : PuOK prog k1774.f k1774.args k1774.t := known (L := (.one k1773 .nil)) (mO ok1773 mN) (by kernel_rfl)
theorem ok1775 : PuOK prog k1775.f k1775.args k1775.t := known (L := .nil) mN (by kernel_rfl)
theorem ok1776 : PuOK prog k1776.f k1776.args k1776.t := known (L := (.one k1775 .nil)) (mO ok1775 mN) (by kernel_rfl)
theorem ok1777 : PuOK prog k1777.f k1777.args k1777.t := known (L := .nil) mN (by kernel_rfl)
theorem ok1778 : PuOK prog k1778.f k1778.args k1778.t := known (L := (.one k1777 .nil)) (mO ok1777 mN) (by kernel_rfl)
theorem ok1779 : PuOK prog k1779.f k1779.args k1779.t := known (L := .nil) mN (by kernel_rfl)
theorem ok1780 : PuOK prog k1780.f k1780.args k1780.t := known (L := (.one k1779 .nil)) (mO ok1779 mN) (by kernel_rfl)
theorem ok1781 : PuOK prog k1781.f k1781.args k1781.t := known (L := .nil) mN (by kernel_rfl)
theorem ok1782 : PuOK prog k1782.f k1782.args k1782.t := known (L := (.one k1781 .nil)) (mO ok1781 mN) (by kernel_rfl)
theorem ok1783 : PuOK prog k1783.f k1783.args k1783.t := known (L := .nil) mN (by kernel_rfl)
theorem ok1784 : PuOK prog k1784.f k1784.args k1784.t := known (L := (.one k1783 .nil)) (mO ok1783 mN) (by kernel_rfl)
theorem ok1785 : PuOK prog k1785.f k1785.args k1785.t := known (L := .nil) mN (by kernel_rfl)
theorem ok1786 : PuOK prog k1786.f k1786.args k1786.t := known (L := (.one k1785 .nil)) (mO ok1785 mN) (by kernel_rfl)
theorem ok1787 : PuOK prog k1787.f k1787.args k1787.t := known (L := .nil) mN (by kernel_rfl)
theorem ok1788 : PuOK prog k1788.f k1788.args k1788.t := known (L := (.one k1787 .nil)) (mO ok1787 mN) (by kernel_rfl)
theorem ok1789 : PuOK prog k1789.f k1789.args k1789.t := known (L := .nil) mN (by kernel_rfl)
theorem ok1790 : PuOK prog k1790.f k1790.args k1790.t := known (L := (.one k1789 .nil)) (mO ok1789 mN) (by kernel_rfl)
theorem ok1791 : PuOK prog k1791.f k1791.args k1791.t := known (L := .nil) mN (by kernel_rfl)
theorem ok1792 : PuOK prog k1792.f k1792.args k1792.t := known (L := (.one k1791 .nil)) (mO ok1791 mN) (by kernel_rfl)
theorem ok1793 : PuOK prog k1793.f k1793.args k1793.t := known (L := .nil) mN (by kernel_rfl)
theorem ok1794 : PuOK prog k1794.f k1794.args k1794.t := known (L := (.one k1793 .nil)) (mO ok1793 mN) (by kernel_rfl)
theorem ok1795 : PuOK prog k1795.f k1795.args k1795.t := known (L := .nil) mN (by kernel_rfl)
theorem ok1796 : PuOK prog k1796.f k1796.args k1796.t := known (L := (.one k1795 .nil)) (mO ok1795 mN) (by kernel_rfl)
theorem ok1797 : PuOK prog k1797.f k1797.args k1797.t := known (L := .nil) mN (by kernel_rfl)
theorem ok1798 : PuOK prog k1798.f k1798.args k1798.t := known (L := (.one k1797 .nil)) (mO ok1797 mN) (by kernel_rfl)
theorem ok1799 : PuOK prog k1799.f k1799.args k1799.t := known (L := .nil) mN (by kernel_rfl)
theorem ok1800 : PuOK prog k1800.f k1800.args k1800.t := known (L := (.one k1799 .nil)) (mO ok1799 mN) (by kernel_rfl)
theorem ok1801 : PuOK prog k1801.f k1801.args k1801.t := known (L := .nil) mN (by kernel_rfl)
theorem ok1802 : PuOK prog k1802.f k1802.args k1802.t := known (L := (.one k1801 .nil)) (mO ok1801 mN) (by kernel_rfl)
theorem ok1803 : PuOK prog k1803.f k1803.args k1803.t := known (L := .nil) mN (by kernel_rfl)
theorem ok1804 : PuOK prog k1804.f k1804.args k1804.t := known (L := (.one k1803 .nil)) (mO ok1803 mN) (by kernel_rfl)
theorem ok1805 : PuOK prog k1805.f k1805.args k1805.t := known (L := .nil) mN (by kernel_rfl)
theorem ok1806 : PuOK prog k1806.f k1806.args k1806.t := known (L := (.one k1805 .nil)) (mO ok1805 mN) (by kernel_rfl)
theorem ok1807 : PuOK prog k1807.f k1807.args k1807.t := known (L := .nil) mN (by kernel_rfl)
theorem ok1808 : PuOK prog k1808.f k1808.args k1808.t := known (L := (.one k1807 .nil)) (mO ok1807 mN) (by kernel_rfl)
theorem ok1809 : PuOK prog k1809.f k1809.args k1809.t := known (L := .nil) mN (by kernel_rfl)
theorem ok1810 : PuOK prog k1810.f k1810.args k1810.t := known (L := (.one k1809 .nil)) (mO ok1809 mN) (by kernel_rfl)
theorem ok1811 : PuOK prog k1811.f k1811.args k1811.t := known (L := .nil) mN (by kernel_rfl)
theorem ok1812 : PuOK prog k1812.f k1812.args k1812.t := known (L := (.one k1811 .nil)) (mO ok1811 mN) (by kernel_rfl)
theorem ok1813 : PuOK prog k1813.f k1813.args k1813.t := known (L := .nil) mN (by kernel_rfl)
theorem ok1814 : PuOK prog k1814.f k1814.args k1814.t := known (L := (.one k1813 .nil)) (mO ok1813 mN) (by kernel_rfl)
theorem ok1815 : PuOK prog k1815.f k1815.args k1815.t := known (L := .nil) mN (by kernel_rfl)
theorem ok1816 : PuOK prog k1816.f k1816.args k1816.t := known (L := (.one k1815 .nil)) (mO ok1815 mN) (by kernel_rfl)
theorem ok1817 : PuOK prog k1817.f k1817.args k1817.t := known (L := .nil) mN (by kernel_rfl)
end Go.V
