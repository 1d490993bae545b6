/- Calls, evaluated. -/
import Derived.Test.YtppfkmmlojpcfaaGreatBx0
import Derived.Test.YtppfkmmlojpcfaaGreatBx13
set_option linter.unusedVariables false
set_option maxRecDepth 100000
namespace Go.V
open Go.Proofs.Tryz (prog)
def k1818 : Memo := ⟨152, [.lst 1 [[.int .i64 (1)], [.int .i64 (4)], [.int .i64 (5)]], .lst 1 [[.int .i64 (0)]]], .bool false⟩
def k1819 : Memo := ⟨227, [g25, .lst 1 [[.int .i64 (0)]]], .int .i64 (1)⟩
def k1820 : Memo := ⟨152, [g25, .lst 1 [[.int .i64 (0)]]], .bool false⟩
def k1821 : Memo := ⟨227, [.lst 1 [[.int .i64 (2)], [.int .i64 (4)], [.int .i64 (5)]], .lst 1 [[.int .i64 (0)]]], .int .i64 (1)⟩
def k1822 : Memo := ⟨152, [.lst 1 [[.int .i64 (2)], [.int .i64 (4)], [.int .i64 (5)]], .lst 1 [[.int .i64 (0)]]], .bool false⟩
def k1823 : Memo := ⟨227, [g26, .lst 1 [[.int .i64 (0)]]], .int .i64 (1)⟩
def k1824 : Memo := ⟨152, [g26, .lst 1 [[.int .i64 (0)]]], .bool false⟩
def k1825 : Memo := ⟨227, [g27, .lst 1 [[.int .i64 (0)]]], .int .i64 (1)⟩
def k1826 : Memo := ⟨152, [g27, .lst 1 [[.int .i64 (0)]]], .bool false⟩
def k1827 : Memo := ⟨227, [g28, .lst 1 [[.int .i64 (0)]]], .int .i64 (1)⟩
def k1828 : Memo := ⟨152, [g28, .lst 1 [[.int .i64 (0)]]], .bool false⟩
def k1829 : Memo := ⟨227, [.lst 1 [[.int .i64 (3)], [.int .i64 (4)], [.int .i64 (5)]], .lst 1 [[.int .i64 (0)]]], .int .i64 (1)⟩
def k1830 : Memo := ⟨152, [.lst 1 [[.int .i64 (3)], [.int .i64 (4)], [.int .i64 (5)]], .lst 1 [[.int .i64 (0)]]], .bool false⟩
def k1831 : Memo := ⟨227, [g29, .lst 1 [[.int .i64 (0)]]], .int .i64 (1)⟩
def k1832 : Memo := ⟨152, [g29, .lst 1 [[.int .i64 (0)]]], .bool false⟩
def k1833 : Memo := ⟨227, [g30, .lst 1 [[.int .i64 (0)]]], .int .i64 (1)⟩
def k1834 : Memo := ⟨152, [g30, .lst 1 [[.int .i64 (0)]]], .bool false⟩
def k1835 : Memo := ⟨227, [g31, .lst 1 [[.int .i64 (0)]]], .int .i64 (1)⟩
def k1836 : Memo := ⟨152, [g31, .lst 1 [[.int .i64 (0)]]], .bool false⟩
def k1837 : Memo := ⟨227, [g32, .lst 1 [[.int .i64 (0)]]], .int .i64 (1)⟩
def k1838 : Memo := ⟨152, [g32, .lst 1 [[.int .i64 (0)]]], .bool false⟩
def k1839 : Memo := ⟨227, [g33, .lst 1 [[.int .i64 (0)]]], .int .i64 (1)⟩
def k1840 : Memo := ⟨152, [g33, .lst 1 [[.int .i64 (0)]]], .bool false⟩
def k1841 : Memo := ⟨227, [g34, .lst 1 [[.int .i64 (0)]]], .int .i64 (1)⟩
def k1842 : Memo := ⟨152, [g34, .lst 1 [[.int .i64 (0)]]], .bool false⟩
def k1843 : Memo := ⟨227, [g35, .lst 1 [[.int .i64 (0)]]], .int .i64 (1)⟩
def k1844 : Memo := ⟨152, [g35, .lst 1 [[.int .i64 (0)]]], .bool false⟩
def k1845 : Memo := ⟨227, [.lst 1 [[.int .i64 (6)]], .lst 1 [[.int .i64 (0)]]], .int .i64 (1)⟩
def k1846 : Memo := ⟨152, [.lst 1 [[.int .i64 (6)]], .lst 1 [[.int .i64 (0)]]], .bool false⟩
def k1847 : Memo := ⟨227, [.lst 1 [[.int .i64 (0)], [.int .i64 (6)]], .lst 1 [[.int .i64 (0)]]], .int .i64 (1)⟩
def k1848 : Memo := ⟨152, [.lst 1 [[.int .i64 (0)], [.int .i64 (6)]], .lst 1 [[.int .i64 (0)]]], .bool false⟩
def k1849 : Memo := ⟨227, [.lst 1 [[.int .i64 (1)], [.int .i64 (6)]], .lst 1 [[.int .i64 (0)]]], .int .i64 (1)⟩
def k1850 : Memo := ⟨152, [.lst 1 [[.int .i64 (1)], [.int .i64 (6)]], .lst 1 [[.int .i64 (0)]]], .bool false⟩
def k1851 : Memo := ⟨227, [.lst 1 [[.int .i64 (0)], [.int .i64 (1)], [.int .i64 (6)]], .lst 1 [[.int .i64 (0)]]], .int .i64 (1)⟩
def k1852 : Memo := ⟨152, [.lst 1 [[.int .i64 (0)], [.int .i64 (1)], [.int .i64 (6)]], .lst 1 [[.int .i64 (0)]]], .bool false⟩
def k1853 : Memo := ⟨227, [.lst 1 [[.int .i64 (2)], [.int .i64 (6)]], .lst 1 [[.int .i64 (0)]]], .int .i64 (1)⟩
def k1854 : Memo := ⟨152, [.lst 1 [[.int .i64 (2)], [.int .i64 (6)]], .lst 1 [[.int .i64 (0)]]], .bool false⟩
def k1855 : Memo := ⟨227, [.lst 1 [[.int .i64 (0)], [.int .i64 (2)], [.int .i64 (6)]], .lst 1 [[.int .i64 (0)]]], .int .i64 (1)⟩
def k1856 : Memo := ⟨152, [.lst 1 [[.int .i64 (0)], [.int .i64 (2)], [.int .i64 (6)]], .lst 1 [[.int .i64 (0)]]], .bool false⟩
def k1857 : Memo := ⟨227, [.lst 1 [[.int .i64 (1)], [.int .i64 (2)], [.int .i64 (6)]], .lst 1 [[.int .i64 (0)]]], .int .i64 (1)⟩
def k1858 : Memo := ⟨152, [.lst 1 [[.int .i64 (1)], [.int .i64 (2)], [.int .i64 (6)]], .lst 1 [[.int .i64 (0)]]], .bool false⟩
def k1859 : Memo := ⟨227, [g36, .lst 1 [[.int .i64 (0)]]], .int .i64 (1)⟩
def k1860 : Memo := ⟨152, [g36, .lst 1 [[.int .i64 (0)]]], .bool false⟩
def k1861 : Memo := ⟨227, [.lst 1 [[.int .i64 (3)], [.int .i64 (6)]], .lst 1 [[.int .i64 (0)]]], .int .i64 (1)⟩
def k1862 : Memo := ⟨152, [.lst 1 [[.int .i64 (3)], [.int .i64 (6)]], .lst 1 [[.int .i64 (0)]]], .bool false⟩
def k1863 : Memo := ⟨227, [.lst 1 [[.int .i64 (0)], [.int .i64 (3)], [.int .i64 (6)]], .lst 1 [[.int .i64 (0)]]], .int .i64 (1)⟩
def k1864 : Memo := ⟨152, [.lst 1 [[.int .i64 (0)], [.int .i64 (3)], [.int .i64 (6)]], .lst 1 [[.int .i64 (0)]]], .bool false⟩
def k1865 : Memo := ⟨227, [.lst 1 [[.int .i64 (1)], [.int .i64 (3)], [.int .i64 (6)]], .lst 1 [[.int .i64 (0)]]], .int .i64 (1)⟩
def k1866 : Memo := ⟨152, [.lst 1 [[.int .i64 (1)], [.int .i64 (3)], [.int .i64 (6)]], .lst 1 [[.int .i64 (0)]]], .bool false⟩
def k1867 : Memo := ⟨227, [g37, .lst 1 [[.int .i64 (0)]]], .int .i64 (1)⟩
def k1868 : Memo := ⟨152, [g37, .lst 1 [[.int .i64 (0)]]], .bool false⟩
def k1869 : Memo := ⟨227, [.lst 1 [[.int .i64 (2)], [.int .i64 (3)], [.int .i64 (6)]], .lst 1 [[.int .i64 (0)]]], .int .i64 (1)⟩
def k1870 : Memo := ⟨152, [.lst 1 [[.int .i64 (2)], [.int .i64 (3)], [.int .i64 (6)]], .lst 1 [[.int .i64 (0)]]], .bool false⟩
def k1871 : Memo := ⟨227, [g38, .lst 1 [[.int .i64 (0)]]], .int .i64 (1)⟩
def k1872 : Memo := ⟨152, [g38, .lst 1 [[.int .i64 (0)]]], .bool false⟩
def k1873 : Memo := ⟨227, [g39, .lst 1 [[.int .i64 (0)]]], .int .i64 (1)⟩
def k1874 : Memo := ⟨152, [g39, .lst 1 [[.int .i64 (0)]]], .bool false⟩
def k1875 : Memo := ⟨227, [g40, .lst 1 [[.int .i64 (0)]]], .int .i64 (1)⟩
def k1876 : Memo := ⟨152, [g40, .lst 1 [[.int .i64 (0)]]], .bool false⟩
def k1877 : Memo := ⟨227, [.lst 1 [[.int .i64 (4)], [.int .i64 (6)]], .lst 1 [[.int .i64 (0)]]], .int .i64 (1)⟩
def k1878 : Memo := ⟨152, [.lst 1 [[.int .i64 (4)], [.int .i64 (6)]], .lst 1 [[.int .i64 (0)]]], .bool false⟩
def k1879 : Memo := ⟨227, [.lst 1 [[.int .i64 (0)], [.int .i64 (4)], [.int .i64 (6)]], .lst 1 [[.int .i64 (0)]]], .int .i64 (1)⟩
def k1880 : Memo := ⟨152, [.lst 1 [[.int .i64 (0)], [.int .i64 (4)], [.int .i64 (6)]], .lst 1 [[.int .i64 (0)]]], .bool false⟩
def k1881 : Memo := ⟨227, [.lst 1 [[.int .i64 (1)], [.int .i64 (4)], [.int .i64 (6)]], .lst 1 [[.int .i64 (0)]]], .int .i64 (1)⟩
def k1882 : Memo := ⟨152, [.lst 1 [[.int .i64 (1)], [.int .i64 (4)], [.int .i64 (6)]], .lst 1 [[.int .i64 (0)]]], .bool false⟩
def k1883 : Memo := ⟨227, [g41, .lst 1 [[.int .i64 (0)]]], .int .i64 (1)⟩
def k1884 : Memo := ⟨152, [g41, .lst 1 [[.int .i64 (0)]]], .bool false⟩
def k1885 : Memo := ⟨227, [.lst 1 [[.int .i64 (2)], [.int .i64 (4)], [.int .i64 (6)]], .lst 1 [[.int .i64 (0)]]], .int .i64 (1)⟩
def k1886 : Memo := ⟨152, [.lst 1 [[.int .i64 (2)], [.int .i64 (4)], [.int .i64 (6)]], .lst 1 [[.int .i64 (0)]]], .bool false⟩
def k1887 : Memo := ⟨227, [g42, .lst 1 [[.int .i64 (0)]]], .int .i64 (1)⟩
def k1888 : Memo := ⟨152, [g42, .lst 1 [[.int .i64 (0)]]], .bool false⟩
def k1889 : Memo := ⟨227, [g43, .lst 1 [[.int .i64 (0)]]], .int .i64 (1)⟩
def k1890 : Memo := ⟨152, [g43, .lst 1 [[.int .i64 (0)]]], .bool false⟩
def k1891 : Memo := ⟨227, [g44, .lst 1 [[.int .i64 (0)]]], .int .i64 (1)⟩
def k1892 : Memo := ⟨152, [g44, .lst 1 [[.int .i64 (0)]]], .bool false⟩
def k1893 : Memo := ⟨227, [.lst 1 [[.int .i64 (3)], [.int .i64 (4)], [.int .i64 (6)]], .lst 1 [[.int .i64 (0)]]], .int .i64 (1)⟩
def k1894 : Memo := ⟨152, [.lst 1 [[.int .i64 (3)], [.int .i64 (4)], [.int .i64 (6)]], .lst 1 [[.int .i64 (0)]]], .bool false⟩
def k1895 : Memo := ⟨227, [g45, .lst 1 [[.int .i64 (0)]]], .int .i64 (1)⟩
def k1896 : Memo := ⟨152, [g45, .lst 1 [[.int .i64 (0)]]], .bool false⟩
def k1897 : Memo := ⟨227, [g46, .lst 1 [[.int .i64 (0)]]], .int .i64 (1)⟩
def k1898 : Memo := ⟨152, [g46, .lst 1 [[.int .i64 (0)]]], .bool false⟩
def k1899 : Memo := ⟨227, [g47, .lst 1 [[.int .i64 (0)]]], .int .i64 (1)⟩
def k1900 : Memo := ⟨152, [g47, .lst 1 [[.int .i64 (0)]]], .bool false⟩
def k1901 : Memo := ⟨227, [g48, .lst 1 [[.int .i64 (0)]]], .int .i64 (1)⟩
def k1902 : Memo := ⟨152, [g48, .lst 1 [[.int .i64 (0)]]], .bool false⟩
def k1903 : Memo := ⟨227, [g49, .lst 1 [[.int .i64 (0)]]], .int .i64 (1)⟩
def k1904 : Memo := ⟨152, [g49, .lst 1 [[.int .i64 (0)]]], .bool false⟩
def k1905 : Memo := ⟨227, [g50, .lst 1 [[.int .i64 (0)]]], .int .i64 (1)⟩
def k1906 : Memo := ⟨152, [g50, .lst 1 [[.int .i64 (0)]]], .bool false⟩
def k1907 : Memo := ⟨227, [g51, .lst 1 [[.int .i64 (0)]]], .int .i64 (1)⟩
def k1908 : Memo := ⟨152, [g51, .lst 1 [[.int .i64 (0)]]], .bool false⟩
def k1909 : Memo := ⟨227, [.lst 1 [[.int .i64 (5)], [.int .i64 (6)]], .lst 1 [[.int .i64 (0)]]], .int .i64 (1)⟩
def k1910 : Memo := ⟨152, [.lst 1 [[.int .i64 (5)], [.int .i64 (6)]], .lst 1 [[.int .i64 (0)]]], .bool false⟩
def k1911 : Memo := ⟨227, [.lst 1 [[.int .i64 (0)], [.int .i64 (5)], [.int .i64 (6)]], .lst 1 [[.int .i64 (0)]]], .int .i64 (1)⟩
def k1912 : Memo := ⟨152, [.lst 1 [[.int .i64 (0)], [.int .i64 (5)], [.int .i64 (6)]], .lst 1 [[.int .i64 (0)]]], .bool false⟩
def k1913 : Memo := ⟨227, [.lst 1 [[.int .i64 (1)], [.int .i64 (5)], [.int .i64 (6)]], .lst 1 [[.int .i64 (0)]]], .int .i64 (1)⟩
def k1914 : Memo := ⟨152, [.lst 1 [[.int .i64 (1)], [.int .i64 (5)], [.int .i64 (6)]], .lst 1 [[.int .i64 (0)]]], .bool false⟩
def k1915 : Memo := ⟨227, [g52, .lst 1 [[.int .i64 (0)]]], .int .i64 (1)⟩
def k1916 : Memo := ⟨152, [g52, .lst 1 [[.int .i64 (0)]]], .bool false⟩
def k1917 : Memo := ⟨227, [.lst 1 [[.int .i64 (2)], [.int .i64 (5)], [.int .i64 (6)]], .lst 1 [[.int .i64 (0)]]], .int .i64 (1)⟩
def k1918 : Memo := ⟨152, [.lst 1 [[.int .i64 (2)], [.int .i64 (5)], [.int .i64 (6)]], .lst 1 [[.int .i64 (0)]]], .bool false⟩
def k1919 : Memo := ⟨227, [g53, .lst 1 [[.int .i64 (0)]]], .int .i64 (1)⟩
def k1920 : Memo := ⟨152, [g53, .lst 1 [[.int .i64 (0)]]], .bool false⟩
def k1921 : Memo := ⟨227, [g54, .lst 1 [[.int .i64 (0)]]], .int .i64 (1)⟩
def k1922 : Memo := ⟨152, [g54, .lst 1 [[.int .i64 (0)]]], .bool false⟩
def k1923 : Memo := ⟨227, [g55, .lst 1 [[.int .i64 (0)]]], .int .i64 (1)⟩
def k1924 : Memo := ⟨152, [g55, .lst 1 [[.int .i64 (0)]]], .bool false⟩
def k1925 : Memo := ⟨227, [.lst 1 [[.int .i64 (3)], [.int .i64 (5)], [.int .i64 (6)]], .lst 1 [[.int .i64 (0)]]], .int .i64 (1)⟩
def k1926 : Memo := ⟨152, [.lst 1 [[.int .i64 (3)], [.int .i64 (5)], [.int .i64 (6)]], .lst 1 [[.int .i64 (0)]]], .bool false⟩
def k1927 : Memo := ⟨227, [g56, .lst 1 [[.int .i64 (0)]]], .int .i64 (1)⟩
def k1928 : Memo := ⟨152, [g56, .lst 1 [[.int .i64 (0)]]], .bool false⟩
def k1929 : Memo := ⟨227, [g57, .lst 1 [[.int .i64 (0)]]], .int .i64 (1)⟩
def k1930 : Memo := ⟨152, [g57, .lst 1 [[.int .i64 (0)]]], .bool false⟩
def k1931 : Memo := ⟨227, [g58, .lst 1 [[.int .i64 (0)]]], .int .i64 (1)⟩
def k1932 : Memo := ⟨152, [g58, .lst 1 [[.int .i64 (0)]]], .bool false⟩
def k1933 : Memo := ⟨227, [g59, .lst 1 [[.int .i64 (0)]]], .int .i64 (1)⟩
def k1934 : Memo := ⟨152, [g59, .lst 1 [[.int .i64 (0)]]], .bool false⟩
def k1935 : Memo := ⟨227, [g60, .lst 1 [[.int .i64 (0)]]], .int .i64 (1)⟩
def k1936 : Memo := ⟨152, [g60, .lst 1 [[.int .i64 (0)]]], .bool false⟩
def k1937 : Memo := ⟨227, [g61, .lst 1 [[.int .i64 (0)]]], .int .i64 (1)⟩
def k1938 : Memo := ⟨152, [g61, .lst 1 [[.int .i64 (0)]]], .bool false⟩
def k1939 : Memo := ⟨227, [g62, .lst 1 [[.int .i64 (0)]]], .int .i64 (1)⟩
def k1940 : Memo := ⟨152, [g62, .lst 1 [[.int .i64 (0)]]], .bool false⟩
def k1941 : Memo := ⟨227, [.lst 1 [[.int .i64 (4)], [.int .i64 (5)], [.int .i64 (6)]], .lst 1 [[.int .i64 (0)]]], .int .i64 (1)⟩
def k1942 : Memo := ⟨152, [.lst 1 [[.int .i64 (4)], [.int .i64 (5)], [.int .i64 (6)]], .lst 1 [[.int .i64 (0)]]], .bool false⟩
def k1943 : Memo := ⟨227, [g63, .lst 1 [[.int .i64 (0)]]], .int .i64 (1)⟩
def k1944 : Memo := ⟨152, [g63, .lst 1 [[.int .i64 (0)]]], .bool false⟩
def k1945 : Memo := ⟨227, [g64, .lst 1 [[.int .i64 (0)]]], .int .i64 (1)⟩
def k1946 : Memo := ⟨152, [g64, .lst 1 [[.int .i64 (0)]]], .bool false⟩
def k1947 : Memo := ⟨227, [g65, .lst 1 [[.int .i64 (0)]]], .int .i64 (1)⟩
def k1948 : Memo := ⟨152, [g65, .lst 1 [[.int .i64 (0)]]], .bool false⟩
def k1949 : Memo := ⟨227, [g66, .lst 1 [[.int .i64 (0)]]], .int .i64 (1)⟩
def k1950 : Memo := ⟨152, [g66, .lst 1 [[.int .i64 (0)]]], .bool false⟩
def k1951 : Memo := ⟨227, [g67, .lst 1 [[.int .i64 (0)]]], .int .i64 (1)⟩
def k1952 : Memo := ⟨152, [g67, .lst 1 [[.int .i64 (0)]]], .bool false⟩
def k1953 : Memo := ⟨227, [g68, .lst 1 [[.int .i64 (0)]]], .int .i64 (1)⟩
def k1954 : Memo := ⟨152, [g68, .lst 1 [[.int .i64 (0)]]], .bool false⟩
def k1955 : Memo := ⟨227, [g69, .lst 1 [[.int .i64 (0)]]], .int .i64 (1)⟩
def k1956 : Memo := ⟨152, [g69, .lst 1 [[.int .i64 (0)]]], .bool false⟩
def k1957 : Memo := ⟨227, [g70, .lst 1 [[.int .i64 (0)]]], .int .i64 (1)⟩
def k1958 : Memo := ⟨152, [g70, .lst 1 [[.int .i64 (0)]]], .bool false⟩
def k1959 : Memo := ⟨227, [g71, .lst 1 [[.int .i64 (0)]]], .int .i64 (1)⟩
def k1960 : Memo := ⟨152, [g71, .lst 1 [[.int .i64 (0)]]], .bool false⟩
def k1961 : Memo := ⟨227, [g72, .lst 1 [[.int .i64 (0)]]], .int .i64 (1)⟩
def k1962 : Memo := ⟨152, [g72, .lst 1 [[.int .i64 (0)]]], .bool false⟩
def k1963 : Memo := ⟨227, [g73, .lst 1 [[.int .i64 (0)]]], .int .i64 (1)⟩
def k1964 : Memo := ⟨152, [g73, .lst 1 [[.int .i64 (0)]]], .bool false⟩
def k1965 : Memo := ⟨227, [g74, .lst 1 [[.int .i64 (0)]]], .int .i64 (1)⟩
def k1966 : Memo := ⟨152, [g74, .lst 1 [[.int .i64 (0)]]], .bool false⟩
def k1967 : Memo := ⟨227, [g75, .lst 1 [[.int .i64 (0)]]], .int .i64 (1)⟩
def k1968 : Memo := ⟨152, [g75, .lst 1 [[.int .i64 (0)]]], .bool false⟩
def k1969 : Memo := ⟨227, [g76, .lst 1 [[.int .i64 (0)]]], .int .i64 (1)⟩
def k1970 : Memo := ⟨152, [g76, .lst 1 [[.int .i64 (0)]]], .bool false⟩
def k1971 : Memo := ⟨227, [g77, .lst 1 [[.int .i64 (0)]]], .int .i64 (1)⟩
def k1972 : Memo := ⟨152, [g77, .lst 1 [[.int .i64 (0)]]], .bool false⟩
def k1973 : Memo := ⟨227, [.lst 1 [[.int .i64 (7)]], .lst 1 [[.int .i64 (0)]]], .int .i64 (1)⟩
def k1974 : Memo := ⟨152, [.lst 1 [[.int .i64 (7)]], .lst 1 [[.int .i64 (0)]]], .bool false⟩
def k1975 : Memo := ⟨227, [.lst 1 [[.int .i64 (0)], [.int .i64 (7)]], .lst 1 [[.int .i64 (0)]]], .int .i64 (1)⟩
def k1976 : Memo := ⟨152, [.lst 1 [[.int .i64 (0)], [.int .i64 (7)]], .lst 1 [[.int .i64 (0)]]], .bool false⟩
def k1977 : Memo := ⟨227, [.lst 1 [[.int .i64 (1)], [.int .i64 (7)]], .lst 1 [[.int .i64 (0)]]], .int .i64 (1)⟩
def k1978 : Memo := ⟨152, [.lst 1 [[.int .i64 (1)], [.int .i64 (7)]], .lst 1 [[.int .i64 (0)]]], .bool false⟩
def k1979 : Memo := ⟨227, [.lst 1 [[.int .i64 (0)], [.int .i64 (1)], [.int .i64 (7)]], .lst 1 [[.int .i64 (0)]]], .int .i64 (1)⟩
def k1980 : Memo := ⟨152, [.lst 1 [[.int .i64 (0)], [.int .i64 (1)], [.int .i64 (7)]], .lst 1 [[.int .i64 (0)]]], .bool false⟩
def k1981 : Memo := ⟨227, [.lst 1 [[.int .i64 (2)], [.int .i64 (7)]], .lst 1 [[.int .i64 (0)]]], .int .i64 (1)⟩
def k1982 : Memo := ⟨152, [.lst 1 [[.int .i64 (2)], [.int .i64 (7)]], .lst 1 [[.int .i64 (0)]]], .bool false⟩
def k1983 : Memo := ⟨227, [.lst 1 [[.int .i64 (0)], [.int .i64 (2)], [.int .i64 (7)]], .lst 1 [[.int .i64 (0)]]], .int .i64 (1)⟩
def k1984 : Memo := ⟨152, [.lst 1 [[.int .i64 (0)], [.int .i64 (2)], [.int .i64 (7)]], .lst 1 [[.int .i64 (0)]]], .bool false⟩
def k1985 : Memo := ⟨227, [.lst 1 [[.int .i64 (1)], [.int .i64 (2)], [.int .i64 (7)]], .lst 1 [[.int .i64 (0)]]], .int .i64 (1)⟩
def k1986 : Memo := ⟨152, [.lst 1 [[.int .i64 (1)], [.int .i64 (2)], [.int .i64 (7)]], .lst 1 [[.int .i64 (0)]]], .bool false⟩
def k1987 : Memo := ⟨227, [g78, .lst 1 [[.int .i64 (0)]]], .int .i64 (1)⟩
def k1988 : Memo := ⟨152, [g78, .lst 1 [[.int .i64 (0)]]], .bool false⟩
def k1989 : Memo := ⟨227, [.lst 1 [[.int .i64 (3)], [.int .i64 (7)]], .lst 1 [[.int .i64 (0)]]], .int .i64 (1)⟩
def k1990 : Memo := ⟨152, [.lst 1 [[.int .i64 (3)], [.int .i64 (7)]], .lst 1 [[.int .i64 (0)]]], .bool false⟩
def k1991 : Memo := ⟨227, [.lst 1 [[.int .i64 (0)], [.int .i64 (3)], [.int .i64 (7)]], .lst 1 [[.int .i64 (0)]]], .int .i64 (1)⟩
def k1992 : Memo := ⟨152, [.lst 1 [[.int .i64 (0)], [.int .i64 (3)], [.int .i64 (7)]], .lst 1 [[.int .i64 (0)]]], .bool false⟩
def k1993 : Memo := ⟨227, [.lst 1 [[.int .i64 (1)], [.int .i64 (3)], [.int .i64 (7)]], .lst 1 [[.int .i64 (0)]]], .int .i64 (1)⟩
def k1994 : Memo := ⟨152, [.lst 1 [[.int .i64 (1)], [.int .i64 (3)], [.int .i64 (7)]], .lst 1 [[.int .i64 (0)]]], .bool false⟩
def k1995 : Memo := ⟨227, [g79, .lst 1 [[.int .i64 (0)]]], .int .i64 (1)⟩
def k1996 : Memo := ⟨152, [g79, .lst 1 [[.int .i64 (0)]]], .bool false⟩
def k1997 : Memo := ⟨227, [.lst 1 [[.int .i64 (2)], [.int .i64 (3)], [.int .i64 (7)]], .lst 1 [[.int .i64 (0)]]], .int .i64 (1)⟩
def k1998 : Memo := ⟨152, [.lst 1 [[.int .i64 (2)], [.int .i64 (3)], [.int .i64 (7)]], .lst 1 [[.int .i64 (0)]]], .bool false⟩
def k1999 : Memo := ⟨227, [g80, .lst 1 [[.int .i64 (0)]]], .int .i64 (1)⟩
def k2000 : Memo := ⟨152, [g80, .lst 1 [[.int .i64 (0)]]], .bool false⟩
def k2001 : Memo := ⟨227, [g81, .lst 1 [[.int .i64 (0)]]], .int .i64 (1)⟩
def k2002 : Memo := ⟨152, [g81, .lst 1 [[.int .i64 (0)]]], .bool false⟩
def k2003 : Memo := ⟨227, [g82, .lst 1 [[.int .i64 (0)]]], .int .i64 (1)⟩
def k2004 : Memo := ⟨152, [g82, .lst 1 [[.int .i64 (0)]]], .bool false⟩
def k2005 : Memo := ⟨227, [.lst 1 [[.int .i64 (4)], [.int .i64 (7)]], .lst 1 [[.int .i64 (0)]]], .int .i64 (1)⟩
def k2006 : Memo := ⟨152, [.lst 1 [[.int .i64 (4)], [.int .i64 (7)]], .lst 1 [[.int .i64 (0)]]], .bool false⟩
def k2007 : Memo := ⟨227, [.lst 1 [[.int .i64 (0)], [.int .i64 (4)], [.int .i64 (7)]], .lst 1 [[.int .i64 (0)]]], .int .i64 (1)⟩
def k2008 : Memo := ⟨152, [.lst 1 [[.int .i64 (0)], [.int .i64 (4)], [.int .i64 (7)]], .lst 1 [[.int .i64 (0)]]], .bool false⟩
def k2009 : Memo := ⟨227, [.lst 1 [[.int .i64 (1)], [.int .i64 (4)], [.int .i64 (7)]], .lst 1 [[.int .i64 (0)]]], .int .i64 (1)⟩
def k2010 : Memo := ⟨152, [.lst 1 [[.int .i64 (1)], [.int .i64 (4)], [.int .i64 (7)]], .lst 1 [[.int .i64 (0)]]], .bool false⟩
def k2011 : Memo := ⟨227, [g83, .lst 1 [[.int .i64 (0)]]], .int .i64 (1)⟩
def k2012 : Memo := ⟨152, [g83, .lst 1 [[.int .i64 (0)]]], .bool false⟩
def k2013 : Memo := ⟨227, [.lst 1 [[.int .i64 (2)], [.int .i64 (4)], [.int .i64 (7)]], .lst 1 [[.int .i64 (0)]]], .int .i64 (1)⟩
def k2014 : Memo := ⟨152, [.lst 1 [[.int .i64 (2)], [.int .i64 (4)], [.int .i64 (7)]], .lst 1 [[.int .i64 (0)]]], .bool false⟩
def k2015 : Memo := ⟨227, [g84, .lst 1 [[.int .i64 (0)]]], .int .i64 (1)⟩
def k2016 : Memo := ⟨152, [g84, .lst 1 [[.int .i64 (0)]]], .bool false⟩
def k2017 : Memo := ⟨227, [g85, .lst 1 [[.int .i64 (0)]]], .int .i64 (1)⟩
def k2018 : Memo := ⟨152, [g85, .lst 1 [[.int .i64 (0)]]], .bool false⟩
def k2019 : Memo := ⟨227, [g86, .lst 1 [[.int .i64 (0)]]], .int .i64 (1)⟩
def k2020 : Memo := ⟨152, [g86, .lst 1 [[.int .i64 (0)]]], .bool false⟩
def k2021 : Memo := ⟨227, [.lst 1 [[.int .i64 (3)], [.int .i64 (4)], [.int .i64 (7)]], .lst 1 [[.int .i64 (0)]]], .int .i64 (1)⟩
def k2022 : Memo := ⟨152, [.lst 1 [[.int .i64 (3)], [.int .i64 (4)], [.int .i64 (7)]], .lst 1 [[.int .i64 (0)]]], .bool false⟩
def k2023 : Memo := ⟨227, [g87, .lst 1 [[.int .i64 (0)]]], .int .i64 (1)⟩
def k2024 : Memo := ⟨152, [g87, .lst 1 [[.int .i64 (0)]]], .bool false⟩
def k2025 : Memo := ⟨227, [g88, .lst 1 [[.int .i64 (0)]]], .int .i64 (1)⟩
def k2026 : Memo := ⟨152, [g88, .lst 1 [[.int .i64 (0)]]], .bool false⟩
def k2027 : Memo := ⟨227, [g89, .lst 1 [[.int .i64 (0)]]], .int .i64 (1)⟩
def k2028 : Memo := ⟨152, [g89, .lst 1 [[.int .i64 (0)]]], .bool false⟩
def k2029 : Memo := ⟨227, [g90, .lst 1 [[.int .i64 (0)]]], .int .i64 (1)⟩
def k2030 : Memo := ⟨152, [g90, .lst 1 [[.int .i64 (0)]]], .bool false⟩
def k2031 : Memo := ⟨227, [g91, .lst 1 [[.int .i64 (0)]]], .int .i64 (1)⟩
def k2032 : Memo := ⟨152, [g91, .lst 1 [[.int .i64 (0)]]], .bool false⟩
def k2033 : Memo := ⟨227, [g92, .lst 1 [[.int .i64 (0)]]], .int .i64 (1)⟩
def k2034 : Memo := ⟨152, [g92, .lst 1 [[.int .i64 (0)]]], .bool false⟩
def k2035 : Memo := ⟨227, [g93, .lst 1 [[.int .i64 (0)]]], .int .i64 (1)⟩
def k2036 : Memo := ⟨152, [g93, .lst 1 [[.int .i64 (0)]]], .bool false⟩
def k2037 : Memo := ⟨227, [.lst 1 [[.int .i64 (5)], [.int .i64 (7)]], .lst 1 [[.int .i64 (0)]]], .int .i64 (1)⟩
def k2038 : Memo := ⟨152, [.lst 1 [[.int .i64 (5)], [.int .i64 (7)]], .lst 1 [[.int .i64 (0)]]], .bool false⟩
def k2039 : Memo := ⟨227, [.lst 1 [[.int .i64 (0)], [.int .i64 (5)], [.int .i64 (7)]], .lst 1 [[.int .i64 (0)]]], .int .i64 (1)⟩
def k2040 : Memo := ⟨152, [.lst 1 [[.int .i64 (0)], [.int .i64 (5)], [.int .i64 (7)]], .lst 1 [[.int .i64 (0)]]], .bool false⟩
def k2041 : Memo := ⟨227, [.lst 1 [[.int .i64 (1)], [.int .i64 (5)], [.int .i64 (7)]], .lst 1 [[.int .i64 (0)]]], .int .i64 (1)⟩
def k2042 : Memo := ⟨152, [.lst 1 [[.int .i64 (1)], [.int .i64 (5)], [.int .i64 (7)]], .lst 1 [[.int .i64 (0)]]], .bool false⟩
def k2043 : Memo := ⟨227, [g94, .lst 1 [[.int .i64 (0)]]], .int .i64 (1)⟩
def k2044 : Memo := ⟨152, [g94, .lst 1 [[.int .i64 (0)]]], .bool false⟩
def k2045 : Memo := ⟨227, [.lst 1 [[.int .i64 (2)], [.int .i64 (5)], [.int .i64 (7)]], .lst 1 [[.int .i64 (0)]]], .int .i64 (1)⟩
def k2046 : Memo := ⟨152, [.lst 1 [[.int .i64 (2)], [.int .i64 (5)], [.int .i64 (7)]], .lst 1 [[.int .i64 (0)]]], .bool false⟩
def k2047 : Memo := ⟨227, [g95, .lst 1 [[.int .i64 (0)]]], .int .i64 (1)⟩
def k2048 : Memo := ⟨152, [g95, .lst 1 [[.int .i64 (0)]]], .bool false⟩
def k2049 : Memo := ⟨227, [g96, .lst 1 [[.int .i64 (0)]]], .int .i64 (1)⟩
def k2050 : Memo := ⟨152, [g96, .lst 1 [[.int .i64 (0)]]], .bool false⟩
def k2051 : Memo := ⟨227, [g97, .lst 1 [[.int .i64 (0)]]], .int .i64 (1)⟩
def k2052 : Memo := ⟨152, [g97, .lst 1 [[.int .i64 (0)]]], .bool false⟩
def k2053 : Memo := ⟨227, [.lst 1 [[.int .i64 (3)], [.int .i64 (5)], [.int .i64 (7)]], .lst 1 [[.int .i64 (0)]]], .int .i64 (1)⟩
def k2054 : Memo := ⟨152, [.lst 1 [[.int .i64 (3)], [.int .i64 (5)], [.int .i64 (7)]], .lst 1 [[.int .i64 (0)]]], .bool false⟩
def k2055 : Memo := ⟨227, [g98, .lst 1 [[.int .i64 (0)]]], .int .i64 (1)⟩
def k2056 : Memo := ⟨152, [g98, .lst 1 [[.int .i64 (0)]]], .bool false⟩
def k2057 : Memo := ⟨227, [g99, .lst 1 [[.int .i64 (0)]]], .int .i64 (1)⟩
def k2058 : Memo := ⟨152, [g99, .lst 1 [[.int .i64 (0)]]], .bool false⟩
def k2059 : Memo := ⟨227, [g100, .lst 1 [[.int .i64 (0)]]], .int .i64 (1)⟩
def k2060 : Memo := ⟨152, [g100, .lst 1 [[.int .i64 (0)]]], .bool false⟩
def k2061 : Memo := ⟨227, [g101, .lst 1 [[.int .i64 (0)]]], .int .i64 (1)⟩
def k2062 : Memo := ⟨152, [g101, .lst 1 [[.int .i64 (0)]]], .bool false⟩
def k2063 : Memo := ⟨227, [g102, .lst 1 [[.int .i64 (0)]]], .int .i64 (1)⟩
def k2064 : Memo := ⟨152, [g102, .lst 1 [[.int .i64 (0)]]], .bool false⟩
def k2065 : Memo := ⟨227, [g103, .lst 1 [[.int .i64 (0)]]], .int .i64 (1)⟩
def k2066 : Memo := ⟨152, [g103, .lst 1 [[.int .i64 (0)]]], .bool false⟩
def k2067 : Memo := ⟨227, [g104, .lst 1 [[.int .i64 (0)]]], .int .i64 (1)⟩
def k2068 : Memo := ⟨152, [g104, .lst 1 [[.int .i64 (0)]]], .bool false⟩
theorem ok1818 : PuOK prog k1818.f k1818.args k1818.t := known (L := (.one k1817 .nil)) (mO ok1817 mN) (by kernel_rfl)
theorem ok1819 : PuOK prog k1819.f k1819.args k1819.t := known (L := .nil) mN (by kernel_rfl)
theorem ok1820 : PuOK prog k1820.f k1820.args k1820.t := known (L := (.one k1819 .nil)) (mO ok1819 mN) (by kernel_rfl)
theorem ok1821 : PuOK prog k1821.f k1821.args k1821.t := known (L := .nil) mN (by kernel_rfl)
theorem ok1822 : PuOK prog k1822.f k1822.args k1822.t := known (L := (.one k1821 .nil)) (mO ok1821 mN) (by kernel_rfl)
theorem ok1823 : PuOK prog k1823.f k1823.args k1823.t := known (L := .nil) mN (by kernel_rfl)
theorem ok1824 : PuOK prog k1824.f k1824.args k1824.t := known (L := (.one k1823 .nil)) (mO ok1823 mN) (by kernel_rfl)
theorem ok1825 : PuOK prog k1825.f k1825.args k1825.t := known (L := .nil) mN (by kernel_rfl)
theorem ok1826 : PuOK prog k1826.f k1826.args k1826.t := known (L := (.one k1825 .nil)) (mO ok1825 mN) (by kernel_rfl)
theorem ok1827 : PuOK prog k1827.f k1827.args k1827.t := known (L := .nil) mN (by kernel_rfl)
theorem ok1828 : PuOK prog k1828.f k1828.args k1828.t := known (L := (.one k1827 .nil)) (mO ok1827 mN) (by kernel_rfl)
theorem ok1829 : PuOK prog k1829.f k1829.args k1829.t := known (L := .nil) mN (by kernel_rfl)
theorem ok1830 : PuOK prog k1830.f k1830.args k1830.t := known (L := (.one k1829 .nil)) (mO ok1829 mN) (by kernel_rfl)
theorem ok1831 : PuOK prog k1831.f k1831.args k1831.t := known (L := .nil) mN (by kernel_rfl)
theorem ok1832 : PuOK prog k1832.f k1832.args k1832.t := known (L := (.one k1831 .nil)) (mO ok1831 mN) (by kernel_rfl)
theorem ok1833 : PuOK prog k1833.f k1833.args k1833.t := known (L := .nil) mN (by kernel_rfl)
theorem ok1834 : PuOK prog k1834.f k1834.args k1834.t := known (L := (.one k1833 .nil)) (mO ok1833 mN) (by kernel_rfl)
theorem ok1835 : PuOK prog k1835.f k1835.args k1835.t := known (L := .nil) mN (by kernel_rfl)
theorem ok1836 : PuOK prog k1836.f k1836.args k1836.t := known (L := (.one k1835 .nil)) (mO ok1835 mN) (by kernel_rfl)
theorem ok1837 : PuOK prog k1837.f k1837.args k1837.t := known (L := .nil) mN (by kernel_rfl)
theorem ok1838 : PuOK prog k1838.f k1838.args k1838.t := known (L := (.one k1837 .nil)) (mO ok1837 mN) (by kernel_rfl)
theorem ok1839 : PuOK prog k1839.f k1839.args k1839.t := known (L := .nil) mN (by kernel_rfl)
theorem ok1840 : PuOK prog k1840.f k1840.args k1840.t := known (L := (.one k1839 .nil)) (mO ok1839 mN) (by kernel_rfl)
theorem ok1841 : PuOK prog k1841.f k1841.args k1841.t := known (L := .nil) mN (by kernel_rfl)
theorem ok1842 : PuOK prog k1842.f k1842.args k1842.t := known (L := (.one k1841 .nil)) (mO ok1841 mN) (by kernel_rfl)
theorem ok1843 : PuOK prog k1843.f k1843.args k1843.t := known (L := .nil) mN (by kernel_rfl)
theorem ok1844 : PuOK prog k1844.f k1844.args k1844.t := known (L := (.one k1843 .nil)) (mO ok1843 mN) (by kernel_rfl)
theorem ok1845 : PuOK prog k1845.f k1845.args k1845.t := known (L := .nil) mN (by kernel_rfl)
theorem ok1846 : PuOK prog k1846.f k1846.args k1846.t := known (L := (.one k1845 .nil)) (mO ok1845 mN) (by kernel_rfl)
theorem ok1847 : PuOK prog k1847.f k1847.args k1847.t := known (L := .nil) mN (by kernel_rfl)
theorem ok1848 : PuOK prog k1848.f k1848.args k1848.t := known (L := (.one k1847 .nil)) (mO ok1847 mN) (by kernel_rfl)
theorem ok1849 : PuOK prog k1849.f k1849.args k1849.t := known (L := .nil) mN (by kernel_rfl)
theorem ok1850 : PuOK prog k1850.f k1850.args k1850.t := known (L := (.one k1849 .nil)) (mO ok1849 mN) (by kernel_rfl)
theorem ok1851 : PuOK prog k1851.f k1851.args k1851.t := known (L := .nil) mN (by kernel_rfl)
theorem ok1852 : PuOK prog k1852.f k1852.args k1852.t := known (L := (.one k1851 .nil)) (mO ok1851 mN) (by kernel_rfl)
theorem ok1853 : PuOK prog k1853.f k1853.args k1853.t := known (L := .nil) mN (by kernel_rfl)
theorem ok1854 : PuOK prog k1854.f k1854.args k1854.t := known (L := (.one k1853 .nil)) (mO ok1853 mN) (by kernel_rfl)
theorem ok1855 : PuOK prog k1855.f k1855.args k1855.t := known (L := .nil) mN (by kernel_rfl)
theorem ok1856 : PuOK prog k1856.f k1856.args k1856.t := known (L := (.one k1855 .nil)) (mO ok1855 mN) (by kernel_rfl)
theorem ok1857 : PuOK prog k1857.f k1857.args k1857.t := known (L := .nil) mN (by kernel_rfl)
theorem ok1858 : PuOK prog k1858.f k1858.args k1858.t := known (L := (.one k1857 .nil)) (mO ok1857 mN) (by kernel_rfl)
theorem ok1859 : PuOK prog k1859.f k1859.args k1859.t := known (L := .nil) mN (by kernel_rfl)
theorem ok1860 : PuOK prog k1860.f k1860.args k1860.t := known (L := (.one k1859 .nil)) (mO ok1859 mN) (by kernel_rfl)
theorem ok1861 : PuOK prog k1861.f k1861.args k1861.t := known (L := .nil) mN (by kernel_rfl)
theorem ok1862 : PuOK prog k1862.f k1862.args k1862.t := known (L := (.one k1861 .nil)) (mO ok1861 mN) (by kernel_rfl)
theorem ok1863 : PuOK prog k1863.f k1863.args k1863.t := known (L := .nil) mN (by kernel_rfl)
theorem ok1864 : PuOK prog k1864.f k1864.args k1864.t := known (L := (.one k1863 .nil)) (mO ok1863 mN) (by kernel_rfl)
theorem ok1865 : PuOK prog k1865.f k1865.args k1865.t := known (L := .nil) mN (by kernel_rfl)
theorem ok1866 : PuOK prog k1866.f k1866.args k1866.t := known (L := (.one k1865 .nil)) (mO ok1865 mN) (by kernel_rfl)
theorem ok1867 : PuOK prog k1867.f k1867.args k1867.t := known (L := .nil) mN (by kernel_rfl)
theorem ok1868 : PuOK prog k1868.f k1868.args k1868.t := known (L := (.one k1867 .nil)) (mO ok1867 mN) (by kernel_rfl)
theorem ok1869 : PuOK prog k1869.f k1869.args k1869.t := known (L := .nil) mN (by kernel_rfl)
theorem ok1870 : PuOK prog k1870.f k1870.args k1870.t := known (L := (.one k1869 .nil)) (mO ok1869 mN) (by kernel_rfl)
theorem ok1871 : PuOK prog k1871.f k1871.args k1871.t := known (L := .nil) mN (by kernel_rfl)
theorem ok1872 : PuOK prog k1872.f k1872.args k1872.t := known (L := (.one k1871 .nil)) (mO ok1871 mN) (by kernel_rfl)
theorem ok1873 : PuOK prog k1873.f k1873.args k1873.t := known (L := .nil) mN (by kernel_rfl)
theorem ok1874 : PuOK prog k1874.f k1874.args k1874.t := known (L := (.one k1873 .nil)) (mO ok1873 mN) (by kernel_rfl)
theorem ok1875 : PuOK prog k1875.f k1875.args k1875.t := known (L := .nil) mN (by kernel_rfl)
theorem ok1876 : PuOK prog k1876.f k1876.args k1876.t := known (L := (.one k1875 .nil)) (mO ok1875 mN) (by kernel_rfl)
theorem ok1877 : PuOK prog k1877.f k1877.args k1877.t := known (L := .nil) mN (by kernel_rfl)
theorem ok1878 : PuOK prog k1878.f k1878.args k1878.t := known (L := (.one k1877 .nil)) (mO ok1877 mN) (by kernel_rfl)
theorem ok1879 : PuOK prog k1879.f k1879.args k1879.t := known (L := .nil) mN (by kernel_rfl)
theorem ok1880 : PuOK prog k1880.f k1880.args k1880.t := known (L := (.one k1879 .nil)) (mO ok1879 mN) (by kernel_rfl)
theorem ok1881 : PuOK prog k1881.f k1881.args k1881.t := known (L := .nil) mN (by kernel_rfl)
theorem ok1882 : PuOK prog k1882.f k1882.args k1882.t := known (L := (.one k1881 .nil)) (mO ok1881 mN) (by kernel_rfl)
theorem ok1883 : PuOK prog k1883.f k1883.args k1883.t := known (L := .nil) mN (by kernel_rfl)
theorem ok1884 : PuOK prog k1884.f k1884.args k1884.t := known (L := (.one k1883 .nil)) (mO ok1883 mN) (by kernel_rfl)
theorem ok1885 : PuOK prog k1885.f k1885.args k1885.t := known (L := .nil) mN (by kernel_rfl)
theorem ok1886 : PuOK prog k1886.f k1886.args k1886.t := known (L := (.one k1885 .nil)) (mO ok1885 mN) (by kernel_rfl)
theorem ok1887 : PuOK prog k1887.f k1887.args k1887.t := known (L := .nil) mN (by kernel_rfl)
theorem ok1888 : PuOK prog k1888.f k1888.args k1888.t := known (L := (.one k1887 .nil)) (mO ok1887 mN) (by kernel_rfl)
theorem ok1889 : PuOK prog k1889.f k1889.args k1889.t := known (L := .nil) mN (by kernel_rfl)
theorem ok1890 : PuOK prog k1890.f k1890.args k1890.t := known (L := (.one k1889 .nil)) (mO ok1889 mN) (by kernel_rfl)
theorem ok1891 : PuOK prog k1891.f k1891.args k1891.t := known (L := .nil) mN (by kernel_rfl)
theorem ok1892 : PuOK prog k1892.f k1892.args k1892.t := known (L := (.one k1891 .nil)) (mO ok1891 mN) (by kernel_rfl)
theorem ok1893 : PuOK prog k1893.f k1893.args k1893.t := known (L := .nil) mN (by kernel_rfl)
theorem ok1894 : PuOK prog k1894.f k1894.args k1894.t := known (L := (.one k1893 .nil)) (mO ok1893 mN) (by kernel_rfl)
theorem ok1895 : PuOK prog k1895.f k1895.args k1895.t := known (L := .nil) mN (by kernel_rfl)
theorem ok1896 : PuOK prog k1896.f k1896.args k1896.t := known (L := (.one k1895 .nil)) (mO ok1895 mN) (by kernel_rfl)
theorem ok1897 : PuOK prog k1897.f k1897.args k1897.t := known (L := .nil) mN (by kernel_rfl)
theorem ok1898 : PuOK prog k1898.f k1898.args k1898.t := known (L := (.one k1897 .nil)) (mO ok1897 mN) (by kernel_rfl)
theorem ok1899 : PuOK prog k1899.f k1899.args k1899.t := known (L := .nil) mN (by kernel_rfl)
theorem ok1900 : PuOK prog k1900.f k1900.args k1900.t := known (L := (.one k1899 .nil)) (mO ok1899 mN) (by kernel_rfl)
theorem ok1901 : PuOK prog k1901.f k1901.args k1901.t := known (L := .nil) mN (by kernel_rfl)
theorem ok1902 : PuOK prog k1902.f k1902.args k1902.t := known (L := (.one k1901 .nil)) (mO ok1901 mN) (by kernel_rfl)
theorem ok1903 : PuOK prog k1903.f k1903.args k1903.t := known (L := .nil) mN (by kernel_rfl)
theorem ok1904 : PuOK prog k1904.f k1904.args k1904.t := known (L := (.one k1903 .nil)) (mO ok1903 mN) (by kernel_rfl)
theorem ok1905 : PuOK prog k1905.f k1905.args k1905.t := known (L := .nil) mN (by kernel_rfl)
theorem ok1906 : PuOK prog k1906.f k1906.args k1906.t := known (L := (.one k1905 .nil)) (mO ok1905 mN) (by kernel_rfl)
theorem ok1907 : PuOK prog k1907.f k1907.args k1907.t := known (L := .nil) mN (by kernel_rfl)
theorem ok1908 : PuOK prog k1908.f k1908.args k1908.t := known (L := (.one k1907 .nil)) (mO ok1907 mN) (by kernel_rfl)
theorem ok1909 : PuOK prog k1909.f k1909.args k1909.t := known (L := .nil) mN (by kernel_rfl)
theorem ok1910 : PuOK prog k1910.f k1910.args k1910.t := known (L := (.one k1909 .nil)) (mO ok1909 mN) (by kernel_rfl)
theorem ok1911 : PuOK prog k1911.f k1911.args k1911.t := known (L := .nil) mN (by kernel_rfl)
theorem ok1912 : PuOK prog k1912.f k1912.args k1912.t := known (L := (.one k1911 .nil)) (mO ok1911 mN) (by kernel_rfl)
theorem ok1913 : PuOK prog k1913.f k1913.args k1913.t := known (L := .nil) mN (by kernel_rfl)
theorem ok1914 : PuOK prog k1914.f k1914.args k1914.t := known (L := (.one k1913 .nil)) (mO ok1913 mN) (by kernel_rfl)
theorem ok1915 : PuOK prog k1915.f k1915.args k1915.t := known (L := .nil) mN (by kernel_rfl)
theorem ok1916 : PuOK prog k1916.f k1916.args k1916.t := known (L := (.one k1915 .nil)) (mO ok1915 mN) (by kernel_rfl)
theorem ok1917 : PuOK prog k1917.f k1917.args k1917.t := known (L := .nil) mN (by kernel_rfl)
theorem ok1918 : PuOK prog k1918.f k1918.args k1918.t := known (L := (.one k1917 .nil)) (mO ok1917 mN) (by kernel_rfl)
theorem ok1919 : PuOK prog k1919.f k1919.args k1919.t := known (L := .nil) mN (by kernel_rfl)
theorem ok1920 : PuOK prog k1920.f k1920.args k1920.t := known (L := (.one k1919 .nil)) (mO ok1919 mN) (by kernel_rfl)
theorem ok1921 : PuOK prog k1921.f k1921.args k1921.t := known (L := .nil) mN (by kernel_rfl)
theorem ok1922 : PuOK prog k1922.f k1922.args k1922.t := known (L := (.one k1921 .nil)) (mO ok1921 mN) (by kernel_rfl)
theorem ok1923 : PuOK prog k1923.f k1923.args k1923.t := known (L := .nil) mN (by kernel_rfl)
theorem ok1924 : PuOK prog k1924.f k1924.args k1924.t := known (L := (.one k1923 .nil)) (mO ok1923 mN) (by kernel_rfl)
theorem ok1925 : PuOK prog k1925.f k1925.args k1925.t := known (L := .nil) mN (by kernel_rfl)
theorem ok1926 : PuOK prog k1926.f k1926.args k1926.t := known (L := (.one k1925 .nil)) (mO ok1925 mN) (by kernel_rfl)
theorem ok1927 : PuOK prog k1927.f k1927.args k1927.t := known (L := .nil) mN (by kernel_rfl)
theorem ok1928 : PuOK prog k1928.f k1928.args k1928.t := known (L := (.one k1927 .nil)) (mO ok1927 mN) (by kernel_rfl)
theorem ok1929 : PuOK prog k1929.f k1929.args k1929.t := known (L := .nil) mN (by kernel_rfl)
theorem ok1930 : PuOK prog k1930.f k1930.args k1930.t := known (L := (.one k1929 .nil)) (mO ok1929 mN) (by kernel_rfl)
theorem ok1931 : PuOK prog k1931.f k1931.args k1931.t := known (L := .nil) mN (by kernel_rfl)
theorem ok1932 : PuOK prog k1932.f k1932.args k1932.t := known (L := (.one k1931 .nil)) (mO ok1931 mN) (by kernel_rfl)
theorem ok1933 : PuOK prog k1933.f k1933.args k1933.t := known (L := .nil) mN (by kernel_rfl)
theorem ok1934 : PuOK prog k1934.f k1934.args k1934.t := known (L := (.one k1933 .nil)) (mO ok1933 mN) (by kernel_rfl)
theorem ok1935 : PuOK prog k1935.f k1935.args k1935.t := known (L := .nil) mN (by kernel_rfl)
theorem ok1936 : PuOK prog k1936.f k1936.args k1936.t := known (L := (.one k1935 .nil)) (mO ok1935 mN) (by kernel_rfl)
theorem ok1937 : PuOK prog k1937.f k1937.args k1937.t := known (L := .nil) mN (by kernel_rfl)
theorem ok1938 : PuOK prog k1938.f k1938.args k1938.t := known (L := (.one k1937 .nil)) (mO ok1937 mN) (by kernel_rfl)
theorem ok1939 : PuOK prog k1939.f k1939.args k1939.t := known (L := .nil) mN (by kernel_rfl)
theorem ok1940 : PuOK prog k1940.f k1940.args k1940.t := known (L := (.one k1939 .nil)) (mO ok1939 mN) (by kernel_rfl)
theorem ok1941 : PuOK prog k1941.f k1941.args k1941.t := known (L := .nil) mN (by kernel_rfl)
theorem ok1942 : PuOK prog k1942.f k1942.args k1942.t := known (L := (.one k1941 .nil)) (mO ok1941 mN) (by kernel_rfl)
theorem ok1943 : PuOK prog k1943.f k1943.args k1943.t := known (L := .nil) mN (by kernel_rfl)
theorem ok1944 : PuOK prog k1944.f k1944.args k1944.t := known (L := (.one k1943 .nil)) (mO ok1943 mN) (by kernel_rfl)
theorem ok1945 : PuOK prog k1945.f k1945.args k1945.t := known (L := .nil) mN (by kernel_rfl)
theorem ok1946 : PuOK prog k1946.f k1946.args k1946.t := known (L := (.one k1945 .nil)) (mO ok1945 mN) (by kernel_rfl)
theorem ok1947 : PuOK prog k1947.f k1947.args k1947.t := known (L := .nil) mN (by kernel_rfl)
theorem ok1948 : PuOK prog k1948.f k1948.args k1948.t := known (L := (.one k1947 .nil)) (mO ok1947 mN) (by kernel_rfl)
theorem ok1949 : PuOK prog k1949.f k1949.args k1949.t := known (L := .nil) mN (by kernel_rfl)
theorem ok1950 : PuOK prog k1950.f k1950.args k1950.t := known (L := (.one k1949 .nil)) (mO ok1949 mN) (by kernel_rfl)
theorem ok1951 : PuOK prog k1951.f k1951.args k1951.t := known (L := .nil) mN (by kernel_rfl)
theorem ok1952 : PuOK prog k1952.f k1952.args k1952.t := known (L := (.one k1951 .nil)) (mO ok1951 mN) (by kernel_rfl)
theorem ok1953 : PuOK prog k1953.f k1953.args k1953.t := known (L := .nil) mN (by kernel_rfl)
theorem ok1954 : PuOK prog k1954.f k1954.args k1954.t := known (L := (.one k1953 .nil)) (mO ok1953 mN) (by kernel_rfl)
theorem ok1955 : PuOK prog k1955.f k1955.args k1955.t := known (L := .nil) mN (by kernel_rfl)
theorem ok1956 : PuOK prog k1956.f k1956.args k1956.t := known (L := (.one k1955 .nil)) (mO ok1955 mN) (by kernel_rfl)
theorem ok1957 : PuOK prog k1957.f k1957.args k1957.t := known (L := .nil) mN (by kernel_rfl)
theorem ok1958 : PuOK prog k1958.f k1958.args k1958.t := known (L := (.one k1957 .nil)) (mO ok1957 mN) (by kernel_rfl)
theorem ok1959 : PuOK prog k1959.f k1959.args k1959.t := known (L := .nil) mN (by kernel_rfl)
theorem ok1960 : PuOK prog k1960.f k1960.args k1960.t := known (L := (.one k1959 .nil)) (mO ok1959 mN) (by kernel_rfl)
theorem ok1961 : PuOK prog k1961.f k1961.args k1961.t := known (L := .nil) mN (by kernel_rfl)
theorem ok1962 : PuOK prog k1962.f k1962.args k1962.t := known (L := (.one k1961 .nil)) (mO ok1961 mN) (by kernel_rfl)
theorem ok1963 : PuOK prog k1963.f k1963.args k1963.t := known (L := .nil) mN (by kernel_rfl)
theorem ok1964 : PuOK prog k1964.f k1964.args k1964.t := known (L := (.one k1963 .nil)) (mO ok1963 mN) (by kernel_rfl)
theorem ok1965 : PuOK prog k1965.f k1965.args k1965.t := known (L := .nil) mN (by kernel_rfl)
theorem ok1966 : PuOK prog k1966.f k1966.args k1966.t := known (L := (.one k1965 .nil)) (mO ok1965 mN) (by kernel_rfl)
theorem ok1967 : PuOK prog k1967.f k1967.args k1967.t := known (L := .nil) mN (by kernel_rfl)
theorem ok1968 : PuOK prog k1968.f k1968.args k1968.t := known (L := (.one k1967 .nil)) (mO ok1967 mN) (by kernel_rfl)
theorem ok1969 : PuOK prog k1969.f k1969.args k1969.t := known (L := .nil) mN (by kernel_rfl)
theorem ok1970 : PuOK prog k1970.f k1970.args k1970.t := known (L := (.one k1969 .nil)) (mO ok1969 mN) (by kernel_rfl)
theorem ok1971 : PuOK prog k1971.f k1971.args k1971.t := known (L := .nil) mN (by kernel_rfl)
theorem ok1972 : PuOK prog k1972.f k1972.args k1972.t := known (L := (.one k1971 .nil)) (mO ok1971 mN) (by kernel_rfl)
theorem ok1973 : PuOK prog k1973.f k1973.args k1973.t := known (L := .nil) mN (by kernel_rfl)
theorem ok1974 : PuOK prog k1974.f k1974.args k1974.t := known (L := (.one k1973 .nil)) (mO ok1973 mN) (by kernel_rfl)
theorem ok1975 : PuOK prog k1975.f k1975.args k1975.t := known (L := .nil) mN (by kernel_rfl)
theorem ok1976 : PuOK prog k1976.f k1976.args k1976.t := known (L := (.one k1975 .nil)) (mO ok1975 mN) (by kernel_rfl)
theorem ok1977 : PuOK prog k1977.f k1977.args k1977.t := known (L := .nil) mN (by kernel_rfl)
theorem ok1978 : PuOK prog k1978.f k1978.args k1978.t := known (L := (.one k1977 .nil)) (mO ok1977 mN) (by kernel_rfl)
theorem ok1979 : PuOK prog k1979.f k1979.args k1979.t := known (L := .nil) mN (by kernel_rfl)
theorem ok1980 : PuOK prog k1980.f k1980.args k1980.t := known (L := (.one k1979 .nil)) (mO ok1979 mN) (by kernel_rfl)
theorem ok1981 : PuOK prog k1981.f k1981.args k1981.t := known (L := .nil) mN (by kernel_rfl)
theorem ok1982 : PuOK prog k1982.f k1982.args k1982.t := known (L := (.one k1981 .nil)) (mO ok1981 mN) (by kernel_rfl)
theorem ok1983 : PuOK prog k1983.f k1983.args k1983.t := known (L := .nil) mN (by kernel_rfl)
theorem ok1984 : PuOK prog k1984.f k1984.args k1984.t := known (L := (.one k1983 .nil)) (mO ok1983 mN) (by kernel_rfl)
theorem ok1985 : PuOK prog k1985.f k1985.args k1985.t := known (L := .nil) mN (by kernel_rfl)
theorem ok1986 : PuOK prog k1986.f k1986.args k1986.t := known (L := (.one k1985 .nil)) (mO ok1985 mN) (by kernel_rfl)
theorem ok1987 : PuOK prog k1987.f k1987.args k1987.t := known (L := .nil) mN (by kernel_rfl)
theorem ok1988 : PuOK prog k1988.f k1988.args k1988.t := known (L := (.one k1987 .nil)) (mO ok1987 mN) (by kernel_rfl)
theorem ok1989 : PuOK prog k1989.f k1989.args k1989.t := known (L := .nil) mN (by kernel_rfl)
theorem ok1990 : PuOK prog k1990.f k1990.args k1990.t := known (L := (.one k1989 .nil)) (mO ok1989 mN) (by kernel_rfl)
theorem ok1991 : PuOK prog k1991.f k1991.args k1991.t := known (L := .nil) mN (by kernel_rfl)
theorem ok1992 : PuOK prog k1992.f k1992.args k1992.t := known (L := (.one k1991 .nil)) (mO ok1991 mN) (by kernel_rfl)
theorem ok1993 : PuOK prog k1993.f k1993.args k1993.t := known (L := .nil) mN (by kernel_rfl)
theorem ok1994 : PuOK prog k1994.f k1994.args k1994.t := known (L := (.one k1993 .nil)) (mO ok1993 mN) (by kernel_rfl)
theorem ok1995 : PuOK prog k1995.f k1995.args k1995.t := known (L := .nil) mN (by kernel_rfl)
theorem ok1996 : PuOK prog k1996.f k1996.args k1996.t := known (L := (.one k1995 .nil)) (mO ok1995 mN) (by kernel_rfl)
theorem ok1997 : PuOK prog k1997.f k1997.args k1997.t := known (L := .nil) mN (by kernel_rfl)
theorem ok1998 : PuOK prog k1998.f k1998.args k1998.t := known (L := (.one k1997 .nil)) (mO ok1997 mN) (by kernel_rfl)
theorem ok1999 : PuOK prog k1999.f k1999.args k1999.t := known (L := .nil) mN (by kernel_rfl)
theorem ok2000 : PuOK prog k2000.f k2000.args k2000.t := known (L := (.one k1999 .nil)) (mO ok1999 mN) (by kernel_rfl)
theorem ok2001 : PuOK prog k2001.f k2001.args k2001.t := known (L := .nil) mN (by kernel_rfl)
theorem ok2002 : PuOK prog k2002.f k2002.args k2002.t := known (L := (.one k2001 .nil)) (mO ok2001 mN) (by kernel_rfl)
theorem ok2003 : PuOK prog k2003.f k2003.args k2003.t := known (L := .nil) mN (by kernel_rfl)
theorem ok2004 : PuOK prog k2004.f k2004.args k2004.t := known (L := (.one k2003 .nil)) (mO ok2003 mN) (by kernel_rfl)
theorem ok2005 : PuOK prog k2005.f k2005.args k2005.t := known (L := .nil) mN (by kernel_rfl)
theorem ok2006 : PuOK prog k2006.f k2006.args k2006.t := known (L := (.one k2005 .nil)) (mO ok2005 mN) (by kernel_rfl)
theorem ok2007 : PuOK prog k2007.f k2007.args k2007.t := known (L := .nil) mN (by kernel_rfl)
theorem ok2008 : PuOK prog k2008.f k2008.args k2008.t := known (L := (.one k2007 .nil)) (mO ok2007 mN) (by kernel_rfl)
theorem ok2009 : PuOK prog k2009.f k2009.args k2009.t := known (L := .nil) mN (by kernel_rfl)
theorem ok2010 : PuOK prog k2010.f k2010.args k2010.t := known (L := (.one k2009 .nil)) (mO ok2009 mN) (by kernel_rfl)
theorem ok2011 : PuOK prog k2011.f k2011.args k2011.t := known (L := .nil) mN (by kernel_rfl)
theorem ok2012 : PuOK prog k2012.f k2012.args k2012.t := known (L := (.one k2011 .nil)) (mO ok2011 mN) (by kernel_rfl)
theorem ok2013 : PuOK prog k2013.f k2013.args k2013.t := known (L := .nil) mN (by kernel_rfl)
theorem ok2014 : PuOK prog k2014.f k2014.args k2014.t := known (L := (.one k2013 .nil)) (mO ok2013 mN) (by kernel_rfl)
theorem ok2015 : PuOK prog k2015.f k2015.args k2015.t := known (L := .nil) mN (by kernel_rfl)
theorem ok2016 : PuOK prog k2016.f k2016.args k2016.t := known (L := (.one k2015 .nil)) (mO ok2015 mN) (by kernel_rfl)
theorem ok2017 : PuOK prog k2017.f k2017.args k2017.t := known (L := .nil) mN (by kernel_rfl)
theorem ok2018 : PuOK prog k2018.f k2018.args k2018.t := known (L := (.one k2017 .nil)) (mO ok2017 mN) (by kernel_rfl)
theorem ok2019 : PuOK prog k2019.f k2019.args k2019.t := known (L := .nil) mN (by kernel_rfl)
theorem ok2020 : PuOK prog k2020.f k2020.args k2020.t := known (L := (.one k2019 .nil)) (mO ok2019 mN) (by kernel_rfl)
theorem ok2021 : PuOK prog k2021.f k2021.args k2021.t := known (L := .nil) mN (by kernel_rfl)
theorem ok2022 : PuOK prog k2022.f k2022.args k2022.t := known (L := (.one k2021 .nil)) (mO ok2021 mN) (by kernel_rfl)
theorem ok2023 : PuOK prog k2023.f k2023.args k2023.t := known (L := .nil) mN (by kernel_rfl)
theorem ok2024 : PuOK prog k2024.f k2024.args k2024.t := known (L := (.one k2023 .nil)) (mO ok2023 mN) (by kernel_rfl)
theorem ok2025 : PuOK prog k2025.f k2025.args k2025.t := known (L := .nil) mN (by kernel_rfl)
theorem ok2026 : PuOK prog k2026.f k2026.args k2026.t := known (L := (.one k2025 .nil)) (mO ok2025 mN) (by kernel_rfl)
theorem ok2027 : PuOK prog k2027.f k2027.args k2027.t := known (L := .nil) mN (by kernel_rfl)
theorem ok2028 : PuOK prog k2028.f k2028.args k2028.t := known (L := (.one k2027 .nil)) (mO ok2027 mN) (by kernel_rfl)
theorem ok2029 : PuOK prog k2029.f k2029.args k2029.t := known (L := .nil) mN (by kernel_rfl)
theorem ok2030 : PuOK prog k2030.f k2030.args k2030.t := known (L := (.one k2029 .nil)) (mO ok2029 mN) (by kernel_rfl)
theorem ok2031 : PuOK prog k2031.f k2031.args k2031.t := known (L := .nil) mN (by kernel_rfl)
theorem ok2032 : PuOK prog k2032.f k2032.args k2032.t := known (L := (.one k2031 .nil)) (mO ok2031 mN) (by kernel_rfl)
theorem ok2033 : PuOK prog k2033.f k2033.args k2033.t := known (L := .nil) mN (by kernel_rfl)
theorem ok2034 : PuOK prog k2034.f k2034.args k2034.t := known (L := (.one k2033 .nil)) (mO ok2033 mN) (by kernel_rfl)
theorem ok2035 : PuOK prog k2035.f k2035.args k2035.t := known (L := .nil) mN (by kernel_rfl)
theorem ok2036 : PuOK prog k2036.f k2036.args k2036.t := known (L := (.one k2035 .nil)) (mO ok2035 mN) (by kernel_rfl)
theorem ok2037 : PuOK prog k2037.f k2037.args k2037.t := known (L := .nil) mN (by kernel_rfl)
theorem ok2038 : PuOK prog k2038.f k2038.args k2038.t := known (L := (.one k2037 .nil)) (mO ok2037 mN) (by kernel_rfl)
theorem ok2039 : PuOK prog k2039.f k2039.args k2039.t := known (L := .nil) mN (by kernel_rfl)
theorem ok2040 : PuOK prog k2040.f k2040.args k2040.t := known (L := (.one k2039 .nil)) (mO ok2039 mN) (by kernel_rfl)
theorem ok2041 : PuOK prog k2041.f k2041.args k2041.t := known (L := .nil) mN (by kernel_rfl)
theorem ok2042 : PuOK prog k2042.f k2042.args k2042.t := known (L := (.one k2041 .nil)) (mO ok2041 mN) (by kernel_rfl)
theorem ok2043 : PuOK prog k2043.f k2043.args k2043.t := known (L := .nil) mN (by kernel_rfl)
theorem ok2044 : PuOK prog k2044.f k2044.args k2044.t := known (L := (.one k2043 .nil)) (mO ok2043 mN) (by kernel_rfl)
theorem ok2045 : PuOK prog k2045.f k2045.args k2045.t := known (L := .nil) mN (by kernel_rfl)
theorem ok2046 : PuOK prog k2046.f k2046.args k2046.t := known (L := (.one k2045 .nil)) (mO ok2045 mN) (by kernel_rfl)
theorem ok2047 : PuOK prog k2047.f k2047.args k2047.t := known (L := .nil) mN (by kernel_rfl)
theorem ok2048 : PuOK prog k2048.f k2048.args k2048.t := known (L := (.one k2047 .nil)) (mO ok2047 mN) (by kernel_rfl)
theorem ok2049 : PuOK prog k2049.f k2049.args k2049.t := known (L := .nil) mN (by kernel_rfl)
theorem ok2050 : PuOK prog k2050.f k2050.args k2050.t := known (L := (.one k2049 .nil)) (mO ok2049 mN) (by kernel_rfl)
theorem ok2051 : PuOK prog k2051.f k2051.args k2051.t := known (L := .nil) mN (by kernel_rfl)
theorem ok2052 : PuOK prog k2052.f k2052.args k2052.t := known (L := (.one k2051 .nil)) (mO ok2051 mN) (by kernel_rfl)
theorem ok2053 : PuOK prog k2053.f k2053.args k2053.t := known (L := .nil) mN (by kernel_rfl)
theorem ok2054 : PuOK prog k2054.f k2054.args k2054.t := known (L := (.one k2053 .nil)) (mO ok2053 mN) (by kernel_rfl)
theorem ok2055 : PuOK prog k2055.f k2055.args k2055.t := known (L := .nil) mN (by kernel_rfl)
theorem ok2056 : PuOK prog k2056.f k2056.args k2056.t := known (L := (.one k2055 .nil)) (mO ok2055 mN) (by kernel_rfl)
theorem ok2057 : PuOK prog k2057.f k2057.args k2057.t := known (L := .nil) mN (by kernel_rfl)
theorem ok2058 : PuOK prog k2058.f k2058.args k2058.t := known (L := (.one k2057 .nil)) (mO ok2057 mN) (by kernel_rfl)
theorem ok2059 : PuOK prog k2059.f k2059.args k2059.t := known (L := .nil) mN (by kernel_rfl)
theorem ok2060 : PuOK prog k2060.f k2060.args k2060.t := known (L := (.one k2059 .nil)) (mO ok2059 mN) (by kernel_rfl)
theorem ok2061 : PuOK prog k2061.f k2061.args k2061.t := known (L := .nil) mN (by kernel_rfl)
theorem ok2062 : PuOK prog k2062.f k2062.args k2062.t := known (L := (.one k2061 .nil)) (mO ok2061 mN) (by kernel_rfl)
theorem ok2063 : PuOK prog k2063.f k2063.args k2063.t := known (L := .nil) mN (by kernel_rfl)
theorem ok2064 : PuOK prog k2064.f k2064.args k2064.t := known (L := (.one k2063 .nil)) (mO ok2063 mN) (by kernel_rfl)
theorem ok2065 : PuOK prog k2065.f k2065.args k2065.t := known (L := .nil) mN (by kernel_rfl)
theorem ok2066 : PuOK prog k2066.f k2066.args k2066.t := known (L := (.one k2065 .nil)) (mO ok2065 mN) (by kernel_rfl)
theorem ok2067 : PuOK prog k2067.f k2067.args k2067.t := known (L := .nil) mN (by kernel_rfl)
theorem ok2068 : PuOK prog k2068.f k2068.args k2068.t := known (L := (.one k2067 .nil)) (mO ok2067 mN) (by kernel_rfl)
end Go.V
