/- Calls, evaluated. -/
import Derived.Test.YtppfkmmlojpcfaaGreatBx0
import Derived.Test.YtppfkmmlojpcfaaGreatBx1
import Derived.Test.YtppfkmmlojpcfaaGreatBx2
import Derived.Test.YtppfkmmlojpcfaaGreatBx3
import Derived.Test.YtppfkmmlojpcfaaGreatBx4
import Derived.Test.YtppfkmmlojpcfaaGreatBx5
import Derived.Test.YtppfkmmlojpcfaaGreatBx13
import Derived.Test.YtppfkmmlojpcfaaGreatBx14
set_option linter.unusedVariables false
set_option maxRecDepth 100000
namespace Go.V
open Go.Proofs.Tryz (prog)
def k2069 : Memo := ⟨227, [.lst 1 [[.int .i64 (4)], [.int .i64 (5)], [.int .i64 (7)]], .lst 1 [[.int .i64 (0)]]], .int .i64 (1)⟩
def k2070 : Memo := ⟨152, [.lst 1 [[.int .i64 (4)], [.int .i64 (5)], [.int .i64 (7)]], .lst 1 [[.int .i64 (0)]]], .bool false⟩
def k2071 : Memo := ⟨227, [g105, .lst 1 [[.int .i64 (0)]]], .int .i64 (1)⟩
def k2072 : Memo := ⟨152, [g105, .lst 1 [[.int .i64 (0)]]], .bool false⟩
def k2073 : Memo := ⟨227, [g106, .lst 1 [[.int .i64 (0)]]], .int .i64 (1)⟩
def k2074 : Memo := ⟨152, [g106, .lst 1 [[.int .i64 (0)]]], .bool false⟩
def k2075 : Memo := ⟨227, [g107, .lst 1 [[.int .i64 (0)]]], .int .i64 (1)⟩
def k2076 : Memo := ⟨152, [g107, .lst 1 [[.int .i64 (0)]]], .bool false⟩
def k2077 : Memo := ⟨227, [g108, .lst 1 [[.int .i64 (0)]]], .int .i64 (1)⟩
def k2078 : Memo := ⟨152, [g108, .lst 1 [[.int .i64 (0)]]], .bool false⟩
def k2079 : Memo := ⟨227, [g109, .lst 1 [[.int .i64 (0)]]], .int .i64 (1)⟩
def k2080 : Memo := ⟨152, [g109, .lst 1 [[.int .i64 (0)]]], .bool false⟩
def k2081 : Memo := ⟨227, [g110, .lst 1 [[.int .i64 (0)]]], .int .i64 (1)⟩
def k2082 : Memo := ⟨152, [g110, .lst 1 [[.int .i64 (0)]]], .bool false⟩
def k2083 : Memo := ⟨227, [g111, .lst 1 [[.int .i64 (0)]]], .int .i64 (1)⟩
def k2084 : Memo := ⟨152, [g111, .lst 1 [[.int .i64 (0)]]], .bool false⟩
def k2085 : Memo := ⟨227, [g112, .lst 1 [[.int .i64 (0)]]], .int .i64 (1)⟩
def k2086 : Memo := ⟨152, [g112, .lst 1 [[.int .i64 (0)]]], .bool false⟩
def k2087 : Memo := ⟨227, [g113, .lst 1 [[.int .i64 (0)]]], .int .i64 (1)⟩
def k2088 : Memo := ⟨152, [g113, .lst 1 [[.int .i64 (0)]]], .bool false⟩
def k2089 : Memo := ⟨227, [g114, .lst 1 [[.int .i64 (0)]]], .int .i64 (1)⟩
def k2090 : Memo := ⟨152, [g114, .lst 1 [[.int .i64 (0)]]], .bool false⟩
def k2091 : Memo := ⟨227, [g115, .lst 1 [[.int .i64 (0)]]], .int .i64 (1)⟩
def k2092 : Memo := ⟨152, [g115, .lst 1 [[.int .i64 (0)]]], .bool false⟩
def k2093 : Memo := ⟨227, [g116, .lst 1 [[.int .i64 (0)]]], .int .i64 (1)⟩
def k2094 : Memo := ⟨152, [g116, .lst 1 [[.int .i64 (0)]]], .bool false⟩
def k2095 : Memo := ⟨227, [g117, .lst 1 [[.int .i64 (0)]]], .int .i64 (1)⟩
def k2096 : Memo := ⟨152, [g117, .lst 1 [[.int .i64 (0)]]], .bool false⟩
def k2097 : Memo := ⟨227, [g118, .lst 1 [[.int .i64 (0)]]], .int .i64 (1)⟩
def k2098 : Memo := ⟨152, [g118, .lst 1 [[.int .i64 (0)]]], .bool false⟩
def k2099 : Memo := ⟨227, [g119, .lst 1 [[.int .i64 (0)]]], .int .i64 (1)⟩
def k2100 : Memo := ⟨152, [g119, .lst 1 [[.int .i64 (0)]]], .bool false⟩
def k2101 : Memo := ⟨227, [.lst 1 [[.int .i64 (6)], [.int .i64 (7)]], .lst 1 [[.int .i64 (0)]]], .int .i64 (1)⟩
def k2102 : Memo := ⟨152, [.lst 1 [[.int .i64 (6)], [.int .i64 (7)]], .lst 1 [[.int .i64 (0)]]], .bool false⟩
def k2103 : Memo := ⟨227, [.lst 1 [[.int .i64 (0)], [.int .i64 (6)], [.int .i64 (7)]], .lst 1 [[.int .i64 (0)]]], .int .i64 (1)⟩
def k2104 : Memo := ⟨152, [.lst 1 [[.int .i64 (0)], [.int .i64 (6)], [.int .i64 (7)]], .lst 1 [[.int .i64 (0)]]], .bool false⟩
def k2105 : Memo := ⟨227, [.lst 1 [[.int .i64 (1)], [.int .i64 (6)], [.int .i64 (7)]], .lst 1 [[.int .i64 (0)]]], .int .i64 (1)⟩
def k2106 : Memo := ⟨152, [.lst 1 [[.int .i64 (1)], [.int .i64 (6)], [.int .i64 (7)]], .lst 1 [[.int .i64 (0)]]], .bool false⟩
def k2107 : Memo := ⟨227, [g120, .lst 1 [[.int .i64 (0)]]], .int .i64 (1)⟩
def k2108 : Memo := ⟨152, [g120, .lst 1 [[.int .i64 (0)]]], .bool false⟩
def k2109 : Memo := ⟨227, [.lst 1 [[.int .i64 (2)], [.int .i64 (6)], [.int .i64 (7)]], .lst 1 [[.int .i64 (0)]]], .int .i64 (1)⟩
def k2110 : Memo := ⟨152, [.lst 1 [[.int .i64 (2)], [.int .i64 (6)], [.int .i64 (7)]], .lst 1 [[.int .i64 (0)]]], .bool false⟩
def k2111 : Memo := ⟨227, [g121, .lst 1 [[.int .i64 (0)]]], .int .i64 (1)⟩
def k2112 : Memo := ⟨152, [g121, .lst 1 [[.int .i64 (0)]]], .bool false⟩
def k2113 : Memo := ⟨227, [g122, .lst 1 [[.int .i64 (0)]]], .int .i64 (1)⟩
def k2114 : Memo := ⟨152, [g122, .lst 1 [[.int .i64 (0)]]], .bool false⟩
def k2115 : Memo := ⟨227, [g123, .lst 1 [[.int .i64 (0)]]], .int .i64 (1)⟩
def k2116 : Memo := ⟨152, [g123, .lst 1 [[.int .i64 (0)]]], .bool false⟩
def k2117 : Memo := ⟨227, [.lst 1 [[.int .i64 (3)], [.int .i64 (6)], [.int .i64 (7)]], .lst 1 [[.int .i64 (0)]]], .int .i64 (1)⟩
def k2118 : Memo := ⟨152, [.lst 1 [[.int .i64 (3)], [.int .i64 (6)], [.int .i64 (7)]], .lst 1 [[.int .i64 (0)]]], .bool false⟩
def k2119 : Memo := ⟨227, [g124, .lst 1 [[.int .i64 (0)]]], .int .i64 (1)⟩
def k2120 : Memo := ⟨152, [g124, .lst 1 [[.int .i64 (0)]]], .bool false⟩
def k2121 : Memo := ⟨227, [g125, .lst 1 [[.int .i64 (0)]]], .int .i64 (1)⟩
def k2122 : Memo := ⟨152, [g125, .lst 1 [[.int .i64 (0)]]], .bool false⟩
def k2123 : Memo := ⟨227, [g126, .lst 1 [[.int .i64 (0)]]], .int .i64 (1)⟩
def k2124 : Memo := ⟨152, [g126, .lst 1 [[.int .i64 (0)]]], .bool false⟩
def k2125 : Memo := ⟨227, [g127, .lst 1 [[.int .i64 (0)]]], .int .i64 (1)⟩
def k2126 : Memo := ⟨152, [g127, .lst 1 [[.int .i64 (0)]]], .bool false⟩
def k2127 : Memo := ⟨227, [g128, .lst 1 [[.int .i64 (0)]]], .int .i64 (1)⟩
def k2128 : Memo := ⟨152, [g128, .lst 1 [[.int .i64 (0)]]], .bool false⟩
def k2129 : Memo := ⟨227, [g129, .lst 1 [[.int .i64 (0)]]], .int .i64 (1)⟩
def k2130 : Memo := ⟨152, [g129, .lst 1 [[.int .i64 (0)]]], .bool false⟩
def k2131 : Memo := ⟨227, [g130, .lst 1 [[.int .i64 (0)]]], .int .i64 (1)⟩
def k2132 : Memo := ⟨152, [g130, .lst 1 [[.int .i64 (0)]]], .bool false⟩
def k2133 : Memo := ⟨227, [.lst 1 [[.int .i64 (4)], [.int .i64 (6)], [.int .i64 (7)]], .lst 1 [[.int .i64 (0)]]], .int .i64 (1)⟩
def k2134 : Memo := ⟨152, [.lst 1 [[.int .i64 (4)], [.int .i64 (6)], [.int .i64 (7)]], .lst 1 [[.int .i64 (0)]]], .bool false⟩
def k2135 : Memo := ⟨227, [g131, .lst 1 [[.int .i64 (0)]]], .int .i64 (1)⟩
def k2136 : Memo := ⟨152, [g131, .lst 1 [[.int .i64 (0)]]], .bool false⟩
def k2137 : Memo := ⟨227, [g132, .lst 1 [[.int .i64 (0)]]], .int .i64 (1)⟩
def k2138 : Memo := ⟨152, [g132, .lst 1 [[.int .i64 (0)]]], .bool false⟩
def k2139 : Memo := ⟨227, [g133, .lst 1 [[.int .i64 (0)]]], .int .i64 (1)⟩
def k2140 : Memo := ⟨152, [g133, .lst 1 [[.int .i64 (0)]]], .bool false⟩
def k2141 : Memo := ⟨227, [g134, .lst 1 [[.int .i64 (0)]]], .int .i64 (1)⟩
def k2142 : Memo := ⟨152, [g134, .lst 1 [[.int .i64 (0)]]], .bool false⟩
def k2143 : Memo := ⟨227, [g135, .lst 1 [[.int .i64 (0)]]], .int .i64 (1)⟩
def k2144 : Memo := ⟨152, [g135, .lst 1 [[.int .i64 (0)]]], .bool false⟩
def k2145 : Memo := ⟨227, [g136, .lst 1 [[.int .i64 (0)]]], .int .i64 (1)⟩
def k2146 : Memo := ⟨152, [g136, .lst 1 [[.int .i64 (0)]]], .bool false⟩
def k2147 : Memo := ⟨227, [g137, .lst 1 [[.int .i64 (0)]]], .int .i64 (1)⟩
def k2148 : Memo := ⟨152, [g137, .lst 1 [[.int .i64 (0)]]], .bool false⟩
def k2149 : Memo := ⟨227, [g138, .lst 1 [[.int .i64 (0)]]], .int .i64 (1)⟩
def k2150 : Memo := ⟨152, [g138, .lst 1 [[.int .i64 (0)]]], .bool false⟩
def k2151 : Memo := ⟨227, [g139, .lst 1 [[.int .i64 (0)]]], .int .i64 (1)⟩
def k2152 : Memo := ⟨152, [g139, .lst 1 [[.int .i64 (0)]]], .bool false⟩
def k2153 : Memo := ⟨227, [g140, .lst 1 [[.int .i64 (0)]]], .int .i64 (1)⟩
def k2154 : Memo := ⟨152, [g140, .lst 1 [[.int .i64 (0)]]], .bool false⟩
def k2155 : Memo := ⟨227, [g141, .lst 1 [[.int .i64 (0)]]], .int .i64 (1)⟩
def k2156 : Memo := ⟨152, [g141, .lst 1 [[.int .i64 (0)]]], .bool false⟩
def k2157 : Memo := ⟨227, [g142, .lst 1 [[.int .i64 (0)]]], .int .i64 (1)⟩
def k2158 : Memo := ⟨152, [g142, .lst 1 [[.int .i64 (0)]]], .bool false⟩
def k2159 : Memo := ⟨227, [g143, .lst 1 [[.int .i64 (0)]]], .int .i64 (1)⟩
def k2160 : Memo := ⟨152, [g143, .lst 1 [[.int .i64 (0)]]], .bool false⟩
def k2161 : Memo := ⟨227, [g144, .lst 1 [[.int .i64 (0)]]], .int .i64 (1)⟩
def k2162 : Memo := ⟨152, [g144, .lst 1 [[.int .i64 (0)]]], .bool false⟩
def k2163 : Memo := ⟨227, [g145, .lst 1 [[.int .i64 (0)]]], .int .i64 (1)⟩
def k2164 : Memo := ⟨152, [g145, .lst 1 [[.int .i64 (0)]]], .bool false⟩
def k2165 : Memo := ⟨227, [.lst 1 [[.int .i64 (5)], [.int .i64 (6)], [.int .i64 (7)]], .lst 1 [[.int .i64 (0)]]], .int .i64 (1)⟩
def k2166 : Memo := ⟨152, [.lst 1 [[.int .i64 (5)], [.int .i64 (6)], [.int .i64 (7)]], .lst 1 [[.int .i64 (0)]]], .bool false⟩
def k2167 : Memo := ⟨227, [g146, .lst 1 [[.int .i64 (0)]]], .int .i64 (1)⟩
def k2168 : Memo := ⟨152, [g146, .lst 1 [[.int .i64 (0)]]], .bool false⟩
def k2169 : Memo := ⟨227, [g147, .lst 1 [[.int .i64 (0)]]], .int .i64 (1)⟩
def k2170 : Memo := ⟨152, [g147, .lst 1 [[.int .i64 (0)]]], .bool false⟩
def k2171 : Memo := ⟨227, [g148, .lst 1 [[.int .i64 (0)]]], .int .i64 (1)⟩
def k2172 : Memo := ⟨152, [g148, .lst 1 [[.int .i64 (0)]]], .bool false⟩
def k2173 : Memo := ⟨227, [g149, .lst 1 [[.int .i64 (0)]]], .int .i64 (1)⟩
def k2174 : Memo := ⟨152, [g149, .lst 1 [[.int .i64 (0)]]], .bool false⟩
def k2175 : Memo := ⟨227, [g150, .lst 1 [[.int .i64 (0)]]], .int .i64 (1)⟩
def k2176 : Memo := ⟨152, [g150, .lst 1 [[.int .i64 (0)]]], .bool false⟩
def k2177 : Memo := ⟨227, [g151, .lst 1 [[.int .i64 (0)]]], .int .i64 (1)⟩
def k2178 : Memo := ⟨152, [g151, .lst 1 [[.int .i64 (0)]]], .bool false⟩
def k2179 : Memo := ⟨227, [g152, .lst 1 [[.int .i64 (0)]]], .int .i64 (1)⟩
def k2180 : Memo := ⟨152, [g152, .lst 1 [[.int .i64 (0)]]], .bool false⟩
def k2181 : Memo := ⟨227, [g153, .lst 1 [[.int .i64 (0)]]], .int .i64 (1)⟩
def k2182 : Memo := ⟨152, [g153, .lst 1 [[.int .i64 (0)]]], .bool false⟩
def k2183 : Memo := ⟨227, [g154, .lst 1 [[.int .i64 (0)]]], .int .i64 (1)⟩
def k2184 : Memo := ⟨152, [g154, .lst 1 [[.int .i64 (0)]]], .bool false⟩
def k2185 : Memo := ⟨227, [g155, .lst 1 [[.int .i64 (0)]]], .int .i64 (1)⟩
def k2186 : Memo := ⟨152, [g155, .lst 1 [[.int .i64 (0)]]], .bool false⟩
def k2187 : Memo := ⟨227, [g156, .lst 1 [[.int .i64 (0)]]], .int .i64 (1)⟩
def k2188 : Memo := ⟨152, [g156, .lst 1 [[.int .i64 (0)]]], .bool false⟩
def k2189 : Memo := ⟨227, [g157, .lst 1 [[.int .i64 (0)]]], .int .i64 (1)⟩
def k2190 : Memo := ⟨152, [g157, .lst 1 [[.int .i64 (0)]]], .bool false⟩
def k2191 : Memo := ⟨227, [g158, .lst 1 [[.int .i64 (0)]]], .int .i64 (1)⟩
def k2192 : Memo := ⟨152, [g158, .lst 1 [[.int .i64 (0)]]], .bool false⟩
def k2193 : Memo := ⟨227, [g159, .lst 1 [[.int .i64 (0)]]], .int .i64 (1)⟩
def k2194 : Memo := ⟨152, [g159, .lst 1 [[.int .i64 (0)]]], .bool false⟩
def k2195 : Memo := ⟨227, [g160, .lst 1 [[.int .i64 (0)]]], .int .i64 (1)⟩
def k2196 : Memo := ⟨152, [g160, .lst 1 [[.int .i64 (0)]]], .bool false⟩
def k2197 : Memo := ⟨227, [g161, .lst 1 [[.int .i64 (0)]]], .int .i64 (1)⟩
def k2198 : Memo := ⟨152, [g161, .lst 1 [[.int .i64 (0)]]], .bool false⟩
def k2199 : Memo := ⟨227, [g162, .lst 1 [[.int .i64 (0)]]], .int .i64 (1)⟩
def k2200 : Memo := ⟨152, [g162, .lst 1 [[.int .i64 (0)]]], .bool false⟩
def k2201 : Memo := ⟨227, [g163, .lst 1 [[.int .i64 (0)]]], .int .i64 (1)⟩
def k2202 : Memo := ⟨152, [g163, .lst 1 [[.int .i64 (0)]]], .bool false⟩
def k2203 : Memo := ⟨227, [g164, .lst 1 [[.int .i64 (0)]]], .int .i64 (1)⟩
def k2204 : Memo := ⟨152, [g164, .lst 1 [[.int .i64 (0)]]], .bool false⟩
def k2205 : Memo := ⟨227, [g165, .lst 1 [[.int .i64 (0)]]], .int .i64 (1)⟩
def k2206 : Memo := ⟨152, [g165, .lst 1 [[.int .i64 (0)]]], .bool false⟩
def k2207 : Memo := ⟨227, [g166, .lst 1 [[.int .i64 (0)]]], .int .i64 (1)⟩
def k2208 : Memo := ⟨152, [g166, .lst 1 [[.int .i64 (0)]]], .bool false⟩
def k2209 : Memo := ⟨227, [g167, .lst 1 [[.int .i64 (0)]]], .int .i64 (1)⟩
def k2210 : Memo := ⟨152, [g167, .lst 1 [[.int .i64 (0)]]], .bool false⟩
def k2211 : Memo := ⟨227, [g168, .lst 1 [[.int .i64 (0)]]], .int .i64 (1)⟩
def k2212 : Memo := ⟨152, [g168, .lst 1 [[.int .i64 (0)]]], .bool false⟩
def k2213 : Memo := ⟨227, [g169, .lst 1 [[.int .i64 (0)]]], .int .i64 (1)⟩
def k2214 : Memo := ⟨152, [g169, .lst 1 [[.int .i64 (0)]]], .bool false⟩
def k2215 : Memo := ⟨227, [g170, .lst 1 [[.int .i64 (0)]]], .int .i64 (1)⟩
def k2216 : Memo := ⟨152, [g170, .lst 1 [[.int .i64 (0)]]], .bool false⟩
def k2217 : Memo := ⟨227, [g171, .lst 1 [[.int .i64 (0)]]], .int .i64 (1)⟩
def k2218 : Memo := ⟨152, [g171, .lst 1 [[.int .i64 (0)]]], .bool false⟩
def k2219 : Memo := ⟨227, [g172, .lst 1 [[.int .i64 (0)]]], .int .i64 (1)⟩
def k2220 : Memo := ⟨152, [g172, .lst 1 [[.int .i64 (0)]]], .bool false⟩
def k2221 : Memo := ⟨227, [g173, .lst 1 [[.int .i64 (0)]]], .int .i64 (1)⟩
def k2222 : Memo := ⟨152, [g173, .lst 1 [[.int .i64 (0)]]], .bool false⟩
def k2223 : Memo := ⟨227, [g174, .lst 1 [[.int .i64 (0)]]], .int .i64 (1)⟩
def k2224 : Memo := ⟨152, [g174, .lst 1 [[.int .i64 (0)]]], .bool false⟩
def k2225 : Memo := ⟨227, [g175, .lst 1 [[.int .i64 (0)]]], .int .i64 (1)⟩
def k2226 : Memo := ⟨152, [g175, .lst 1 [[.int .i64 (0)]]], .bool false⟩
def k2227 : Memo := ⟨227, [g176, .lst 1 [[.int .i64 (0)]]], .int .i64 (1)⟩
def k2228 : Memo := ⟨152, [g176, .lst 1 [[.int .i64 (0)]]], .bool false⟩
def k2229 : Memo := ⟨59, [g5, .int .i64 (4)], .tup [.fresh 1 [[.int .i64 (0)]], .bool true]⟩
theorem ok2069 : PuOK prog k2069.f k2069.args k2069.t := known (L := .nil) mN (by kernel_rfl)
theorem ok2070 : PuOK prog k2070.f k2070.args k2070.t := known (L := (.one k2069 .nil)) (mO ok2069 mN) (by kernel_rfl)
theorem ok2071 : PuOK prog k2071.f k2071.args k2071.t := known (L := .nil) mN (by kernel_rfl)
theorem ok2072 : PuOK prog k2072.f k2072.args k2072.t := known (L := (.one k2071 .nil)) (mO ok2071 mN) (by kernel_rfl)
theorem ok2073 : PuOK prog k2073.f k2073.args k2073.t := known (L := .nil) mN (by kernel_rfl)
theorem ok2074 : PuOK prog k2074.f k2074.args k2074.t := known (L := (.one k2073 .nil)) (mO ok2073 mN) (by kernel_rfl)
theorem ok2075 : PuOK prog k2075.f k2075.args k2075.t := known (L := .nil) mN (by kernel_rfl)
theorem ok2076 : PuOK prog k2076.f k2076.args k2076.t := known (L := (.one k2075 .nil)) (mO ok2075 mN) (by kernel_rfl)
theorem ok2077 : PuOK prog k2077.f k2077.args k2077.t := known (L := .nil) mN (by kernel_rfl)
theorem ok2078 : PuOK prog k2078.f k2078.args k2078.t := known (L := (.one k2077 .nil)) (mO ok2077 mN) (by kernel_rfl)
theorem ok2079 : PuOK prog k2079.f k2079.args k2079.t := known (L := .nil) mN (by kernel_rfl)
theorem ok2080 : PuOK prog k2080.f k2080.args k2080.t := known (L := (.one k2079 .nil)) (mO ok2079 mN) (by kernel_rfl)
theorem ok2081 : PuOK prog k2081.f k2081.args k2081.t := known (L := .nil) mN (by kernel_rfl)
theorem ok2082 : PuOK prog k2082.f k2082.args k2082.t := known (L := (.one k2081 .nil)) (mO ok2081 mN) (by kernel_rfl)
theorem ok2083 : PuOK prog k2083.f k2083.args k2083.t := known (L := .nil) mN (by kernel_rfl)
theorem ok2084 : PuOK prog k2084.f k2084.args k2084.t := known (L := (.one k2083 .nil)) (mO ok2083 mN) (by kernel_rfl)
theorem ok2085 : PuOK prog k2085.f k2085.args k2085.t := known (L := .nil) mN (by kernel_rfl)
theorem ok2086 : PuOK prog k2086.f k2086.args k2086.t := known (L := (.one k2085 .nil)) (mO ok2085 mN) (by kernel_rfl)
theorem ok2087 : PuOK prog k2087.f k2087.args k2087.t := known (L := .nil) mN (by kernel_rfl)
theorem ok2088 : PuOK prog k2088.f k2088.args k2088.t := known (L := (.one k2087 .nil)) (mO ok2087 mN) (by kernel_rfl)
theorem ok2089 : PuOK prog k2089.f k2089.args k2089.t := known (L := .nil) mN (by kernel_rfl)
theorem ok2090 : PuOK prog k2090.f k2090.args k2090.t := known (L := (.one k2089 .nil)) (mO ok2089 mN) (by kernel_rfl)
theorem ok2091 : PuOK prog k2091.f k2091.args k2091.t := known (L := .nil) mN (by kernel_rfl)
theorem ok2092 : PuOK prog k2092.f k2092.args k2092.t := known (L := (.one k2091 .nil)) (mO ok2091 mN) (by kernel_rfl)
theorem ok2093 : PuOK prog k2093.f k2093.args k2093.t := known (L := .nil) mN (by kernel_rfl)
theorem ok2094 : PuOK prog k2094.f k2094.args k2094.t := known (L := (.one k2093 .nil)) (mO ok2093 mN) (by kernel_rfl)
theorem ok2095 : PuOK prog k2095.f k2095.args k2095.t := known (L := .nil) mN (by kernel_rfl)
theorem ok2096 : PuOK prog k2096.f k2096.args k2096.t := known (L := (.one k2095 .nil)) (mO ok2095 mN) (by kernel_rfl)
theorem ok2097 : PuOK prog k2097.f k2097.args k2097.t := known (L := .nil) mN (by kernel_rfl)
theorem ok2098 : PuOK prog k2098.f k2098.args k2098.t := known (L := (.one k2097 .nil)) (mO ok2097 mN) (by kernel_rfl)
theorem ok2099 : PuOK prog k2099.f k2099.args k2099.t := known (L := .nil) mN (by kernel_rfl)
theorem ok2100 : PuOK prog k2100.f k2100.args k2100.t := known (L := (.one k2099 .nil)) (mO ok2099 mN) (by kernel_rfl)
theorem ok2101 : PuOK prog k2101.f k2101.args k2101.t := known (L := .nil) mN (by kernel_rfl)
theorem ok2102 : PuOK prog k2102.f k2102.args k2102.t := known (L := (.one k2101 .nil)) (mO ok2101 mN) (by kernel_rfl)
theorem ok2103 : PuOK prog k2103.f k2103.args k2103.t := known (L := .nil) mN (by kernel_rfl)
theorem ok2104 : PuOK prog k2104.f k2104.args k2104.t := known (L := (.one k2103 .nil)) (mO ok2103 mN) (by kernel_rfl)
theorem ok2105 : PuOK prog k2105.f k2105.args k2105.t := known (L := .nil) mN (by kernel_rfl)
theorem ok2106 : PuOK prog k2106.f k2106.args k2106.t := known (L := (.one k2105 .nil)) (mO ok2105 mN) (by kernel_rfl)
theorem ok2107 : PuOK prog k2107.f k2107.args k2107.t := known (L := .nil) mN (by kernel_rfl)
theorem ok2108 : PuOK prog k2108.f k2108.args k2108.t := known (L := (.one k2107 .nil)) (mO ok2107 mN) (by kernel_rfl)
theorem ok2109 : PuOK prog k2109.f k2109.args k2109.t := known (L := .nil) mN (by kernel_rfl)
theorem ok2110 : PuOK prog k2110.f k2110.args k2110.t := known (L := (.one k2109 .nil)) (mO ok2109 mN) (by kernel_rfl)
theorem ok2111 : PuOK prog k2111.f k2111.args k2111.t := known (L := .nil) mN (by kernel_rfl)
theorem ok2112 : PuOK prog k2112.f k2112.args k2112.t := known (L := (.one k2111 .nil)) (mO ok2111 mN) (by kernel_rfl)
theorem ok2113 : PuOK prog k2113.f k2113.args k2113.t := known (L := .nil) mN (by kernel_rfl)
theorem ok2114 : PuOK prog k2114.f k2114.args k2114.t := known (L := (.one k2113 .nil)) (mO ok2113 mN) (by kernel_rfl)
theorem ok2115 : PuOK prog k2115.f k2115.args k2115.t := known (L := .nil) mN (by kernel_rfl)
theorem ok2116 : PuOK prog k2116.f k2116.args k2116.t := known (L := (.one k2115 .nil)) (mO ok2115 mN) (by kernel_rfl)
theorem ok2117 : PuOK prog k2117.f k2117.args k2117.t := known (L := .nil) mN (by kernel_rfl)
theorem ok2118 : PuOK prog k2118.f k2118.args k2118.t := known (L := (.one k2117 .nil)) (mO ok2117 mN) (by kernel_rfl)
theorem ok2119 : PuOK prog k2119.f k2119.args k2119.t := known (L := .nil) mN (by kernel_rfl)
theorem ok2120 : PuOK prog k2120.f k2120.args k2120.t := known (L := (.one k2119 .nil)) (mO ok2119 mN) (by kernel_rfl)
theorem ok2121 : PuOK prog k2121.f k2121.args k2121.t := known (L := .nil) mN (by kernel_rfl)
theorem ok2122 : PuOK prog k2122.f k2122.args k2122.t := known (L := (.one k2121 .nil)) (mO ok2121 mN) (by kernel_rfl)
theorem ok2123 : PuOK prog k2123.f k2123.args k2123.t := known (L := .nil) mN (by kernel_rfl)
theorem ok2124 : PuOK prog k2124.f k2124.args k2124.t := known (L := (.one k2123 .nil)) (mO ok2123 mN) (by kernel_rfl)
theorem ok2125 : PuOK prog k2125.f k2125.args k2125.t := known (L := .nil) mN (by kernel_rfl)
theorem ok2126 : PuOK prog k2126.f k2126.args k2126.t := known (L := (.one k2125 .nil)) (mO ok2125 mN) (by kernel_rfl)
theorem ok2127 : PuOK prog k2127.f k2127.args k2127.t := known (L := .nil) mN (by kernel_rfl)
theorem ok2128 : PuOK prog k2128.f k2128.args k2128.t := known (L := (.one k2127 .nil)) (mO ok2127 mN) (by kernel_rfl)
theorem ok2129 : PuOK prog k2129.f k2129.args k2129.t := known (L := .nil) mN (by kernel_rfl)
theorem ok2130 : PuOK prog k2130.f k2130.args k2130.t := known (L := (.one k2129 .nil)) (mO ok2129 mN) (by kernel_rfl)
theorem ok2131 : PuOK prog k2131.f k2131.args k2131.t := known (L := .nil) mN (by kernel_rfl)
theorem ok2132 : PuOK prog k2132.f k2132.args k2132.t := known (L := (.one k2131 .nil)) (mO ok2131 mN) (by kernel_rfl)
theorem ok2133 : PuOK prog k2133.f k2133.args k2133.t := known (L := .nil) mN (by kernel_rfl)
theorem ok2134 : PuOK prog k2134.f k2134.args k2134.t := known (L := (.one k2133 .nil)) (mO ok2133 mN) (by kernel_rfl)
theorem ok2135 : PuOK prog k2135.f k2135.args k2135.t := known (L := .nil) mN (by kernel_rfl)
theorem ok2136 : PuOK prog k2136.f k2136.args k2136.t := known (L := (.one k2135 .nil)) (mO ok2135 mN) (by kernel_rfl)
theorem ok2137 : PuOK prog k2137.f k2137.args k2137.t := known (L := .nil) mN (by kernel_rfl)
theorem ok2138 : PuOK prog k2138.f k2138.args k2138.t := known (L := (.one k2137 .nil)) (mO ok2137 mN) (by kernel_rfl)
theorem ok2139 : PuOK prog k2139.f k2139.args k2139.t := known (L := .nil) mN (by kernel_rfl)
theorem ok2140 : PuOK prog k2140.f k2140.args k2140.t := known (L := (.one k2139 .nil)) (mO ok2139 mN) (by kernel_rfl)
theorem ok2141 : PuOK prog k2141.f k2141.args k2141.t := known (L := .nil) mN (by kernel_rfl)
theorem ok2142 : PuOK prog k2142.f k2142.args k2142.t := known (L := (.one k2141 .nil)) (mO ok2141 mN) (by kernel_rfl)
theorem ok2143 : PuOK prog k2143.f k2143.args k2143.t := known (L := .nil) mN (by kernel_rfl)
theorem ok2144 : PuOK prog k2144.f k2144.args k2144.t := known (L := (.one k2143 .nil)) (mO ok2143 mN) (by kernel_rfl)
theorem ok2145 : PuOK prog k2145.f k2145.args k2145.t := known (L := .nil) mN (by kernel_rfl)
theorem ok2146 : PuOK prog k2146.f k2146.args k2146.t := known (L := (.one k2145 .nil)) (mO ok2145 mN) (by kernel_rfl)
theorem ok2147 : PuOK prog k2147.f k2147.args k2147.t := known (L := .nil) mN (by kernel_rfl)
theorem ok2148 : PuOK prog k2148.f k2148.args k2148.t := known (L := (.one k2147 .nil)) (mO ok2147 mN) (by kernel_rfl)
theorem ok2149 : PuOK prog k2149.f k2149.args k2149.t := known (L := .nil) mN (by kernel_rfl)
theorem ok2150 : PuOK prog k2150.f k2150.args k2150.t := known (L := (.one k2149 .nil)) (mO ok2149 mN) (by kernel_rfl)
theorem ok2151 : PuOK prog k2151.f k2151.args k2151.t := known (L := .nil) mN (by kernel_rfl)
theorem ok2152 : PuOK prog k2152.f k2152.args k2152.t := known (L := (.one k2151 .nil)) (mO ok2151 mN) (by kernel_rfl)
theorem ok2153 : PuOK prog k2153.f k2153.args k2153.t := known (L := .nil) mN (by kernel_rfl)
theorem ok2154 : PuOK prog k2154.f k2154.args k2154.t := known (L := (.one k2153 .nil)) (mO ok2153 mN) (by kernel_rfl)
theorem ok2155 : PuOK prog k2155.f k2155.args k2155.t := known (L := .nil) mN (by kernel_rfl)
theorem ok2156 : PuOK prog k2156.f k2156.args k2156.t := known (L := (.one k2155 .nil)) (mO ok2155 mN) (by kernel_rfl)
theorem ok2157 : PuOK prog k2157.f k2157.args k2157.t := known (L := .nil) mN (by kernel_rfl)
theorem ok2158 : PuOK prog k2158.f k2158.args k2158.t := known (L := (.one k2157 .nil)) (mO ok2157 mN) (by kernel_rfl)
theorem ok2159 : PuOK prog k2159.f k2159.args k2159.t := known (L := .nil) mN (by kernel_rfl)
theorem ok2160 : PuOK prog k2160.f k2160.args k2160.t := known (L := (.one k2159 .nil)) (mO ok2159 mN) (by kernel_rfl)
theorem ok2161 : PuOK prog k2161.f k2161.args k2161.t := known (L := .nil) mN (by kernel_rfl)
theorem ok2162 : PuOK prog k2162.f k2162.args k2162.t := known (L := (.one k2161 .nil)) (mO ok2161 mN) (by kernel_rfl)
theorem ok2163 : PuOK prog k2163.f k2163.args k2163.t := known (L := .nil) mN (by kernel_rfl)
theorem ok2164 : PuOK prog k2164.f k2164.args k2164.t := known (L := (.one k2163 .nil)) (mO ok2163 mN) (by kernel_rfl)
theorem ok2165 : PuOK prog k2165.f k2165.args k2165.t := known (L := .nil) mN (by kernel_rfl)
theorem ok2166 : PuOK prog k2166.f k2166.args k2166.t := known (L := (.one k2165 .nil)) (mO ok2165 mN) (by kernel_rfl)
theorem ok2167 : PuOK prog k2167.f k2167.args k2167.t := known (L := .nil) mN (by kernel_rfl)
theorem ok2168 : PuOK prog k2168.f k2168.args k2168.t := known (L := (.one k2167 .nil)) (mO ok2167 mN) (by kernel_rfl)
theorem ok2169 : PuOK prog k2169.f k2169.args k2169.t := known (L := .nil) mN (by kernel_rfl)
theorem ok2170 : PuOK prog k2170.f k2170.args k2170.t := known (L := (.one k2169 .nil)) (mO ok2169 mN) (by kernel_rfl)
theorem ok2171 : PuOK prog k2171.f k2171.args k2171.t := known (L := .nil) mN (by kernel_rfl)
theorem ok2172 : PuOK prog k2172.f k2172.args k2172.t := known (L := (.one k2171 .nil)) (mO ok2171 mN) (by kernel_rfl)
theorem ok2173 : PuOK prog k2173.f k2173.args k2173.t := known (L := .nil) mN (by kernel_rfl)
theorem ok2174 : PuOK prog k2174.f k2174.args k2174.t := known (L := (.one k2173 .nil)) (mO ok2173 mN) (by kernel_rfl)
theorem ok2175 : PuOK prog k2175.f k2175.args k2175.t := known (L := .nil) mN (by kernel_rfl)
theorem ok2176 : PuOK prog k2176.f k2176.args k2176.t := known (L := (.one k2175 .nil)) (mO ok2175 mN) (by kernel_rfl)
theorem ok2177 : PuOK prog k2177.f k2177.args k2177.t := known (L := .nil) mN (by kernel_rfl)
theorem ok2178 : PuOK prog k2178.f k2178.args k2178.t := known (L := (.one k2177 .nil)) (mO ok2177 mN) (by kernel_rfl)
theorem ok2179 : PuOK prog k2179.f k2179.args k2179.t := known (L := .nil) mN (by kernel_rfl)
theorem ok2180 : PuOK prog k2180.f k2180.args k2180.t := known (L := (.one k2179 .nil)) (mO ok2179 mN) (by kernel_rfl)
theorem ok2181 : PuOK prog k2181.f k2181.args k2181.t := known (L := .nil) mN (by kernel_rfl)
theorem ok2182 : PuOK prog k2182.f k2182.args k2182.t := known (L := (.one k2181 .nil)) (mO ok2181 mN) (by kernel_rfl)
theorem ok2183 : PuOK prog k2183.f k2183.args k2183.t := known (L := .nil) mN (by kernel_rfl)
theorem ok2184 : PuOK prog k2184.f k2184.args k2184.t := known (L := (.one k2183 .nil)) (mO ok2183 mN) (by kernel_rfl)
theorem ok2185 : PuOK prog k2185.f k2185.args k2185.t := known (L := .nil) mN (by kernel_rfl)
theorem ok2186 : PuOK prog k2186.f k2186.args k2186.t := known (L := (.one k2185 .nil)) (mO ok2185 mN) (by kernel_rfl)
theorem ok2187 : PuOK prog k2187.f k2187.args k2187.t := known (L := .nil) mN (by kernel_rfl)
theorem ok2188 : PuOK prog k2188.f k2188.args k2188.t := known (L := (.one k2187 .nil)) (mO ok2187 mN) (by kernel_rfl)
theorem ok2189 : PuOK prog k2189.f k2189.args k2189.t := known (L := .nil) mN (by kernel_rfl)
theorem ok2190 : PuOK prog k2190.f k2190.args k2190.t := known (L := (.one k2189 .nil)) (mO ok2189 mN) (by kernel_rfl)
theorem ok2191 : PuOK prog k2191.f k2191.args k2191.t := known (L := .nil) mN (by kernel_rfl)
theorem ok2192 : PuOK prog k2192.f k2192.args k2192.t := known (L := (.one k2191 .nil)) (mO ok2191 mN) (by kernel_rfl)
theorem ok2193 : PuOK prog k2193.f k2193.args k2193.t := known (L := .nil) mN (by kernel_rfl)
theorem ok2194 : PuOK prog k2194.f k2194.args k2194.t := known (L := (.one k2193 .nil)) (mO ok2193 mN) (by kernel_rfl)
theorem ok2195 : PuOK prog k2195.f k2195.args k2195.t := known (L := .nil) mN (by kernel_rfl)
theorem ok2196 : PuOK prog k2196.f k2196.args k2196.t := known (L := (.one k2195 .nil)) (mO ok2195 mN) (by kernel_rfl)
theorem ok2197 : PuOK prog k2197.f k2197.args k2197.t := known (L := .nil) mN (by kernel_rfl)
theorem ok2198 : PuOK prog k2198.f k2198.args k2198.t := known (L := (.one k2197 .nil)) (mO ok2197 mN) (by kernel_rfl)
theorem ok2199 : PuOK prog k2199.f k2199.args k2199.t := known (L := .nil) mN (by kernel_rfl)
theorem ok2200 : PuOK prog k2200.f k2200.args k2200.t := known (L := (.one k2199 .nil)) (mO ok2199 mN) (by kernel_rfl)
theorem ok2201 : PuOK prog k2201.f k2201.args k2201.t := known (L := .nil) mN (by kernel_rfl)
theorem ok2202 : PuOK prog k2202.f k2202.args k2202.t := known (L := (.one k2201 .nil)) (mO ok2201 mN) (by kernel_rfl)
theorem ok2203 : PuOK prog k2203.f k2203.args k2203.t := known (L := .nil) mN (by kernel_rfl)
theorem ok2204 : PuOK prog k2204.f k2204.args k2204.t := known (L := (.one k2203 .nil)) (mO ok2203 mN) (by kernel_rfl)
theorem ok2205 : PuOK prog k2205.f k2205.args k2205.t := known (L := .nil) mN (by kernel_rfl)
theorem ok2206 : PuOK prog k2206.f k2206.args k2206.t := known (L := (.one k2205 .nil)) (mO ok2205 mN) (by kernel_rfl)
theorem ok2207 : PuOK prog k2207.f k2207.args k2207.t := known (L := .nil) mN (by kernel_rfl)
theorem ok2208 : PuOK prog k2208.f k2208.args k2208.t := known (L := (.one k2207 .nil)) (mO ok2207 mN) (by kernel_rfl)
theorem ok2209 : PuOK prog k2209.f k2209.args k2209.t := known (L := .nil) mN (by kernel_rfl)
theorem ok2210 : PuOK prog k2210.f k2210.args k2210.t := known (L := (.one k2209 .nil)) (mO ok2209 mN) (by kernel_rfl)
theorem ok2211 : PuOK prog k2211.f k2211.args k2211.t := known (L := .nil) mN (by kernel_rfl)
theorem ok2212 : PuOK prog k2212.f k2212.args k2212.t := known (L := (.one k2211 .nil)) (mO ok2211 mN) (by kernel_rfl)
theorem ok2213 : PuOK prog k2213.f k2213.args k2213.t := known (L := .nil) mN (by kernel_rfl)
theorem ok2214 : PuOK prog k2214.f k2214.args k2214.t := known (L := (.one k2213 .nil)) (mO ok2213 mN) (by kernel_rfl)
theorem ok2215 : PuOK prog k2215.f k2215.args k2215.t := known (L := .nil) mN (by kernel_rfl)
theorem ok2216 : PuOK prog k2216.f k2216.args k2216.t := known (L := (.one k2215 .nil)) (mO ok2215 mN) (by kernel_rfl)
theorem ok2217 : PuOK prog k2217.f k2217.args k2217.t := known (L := .nil) mN (by kernel_rfl)
theorem ok2218 : PuOK prog k2218.f k2218.args k2218.t := known (L := (.one k2217 .nil)) (mO ok2217 mN) (by kernel_rfl)
theorem ok2219 : PuOK prog k2219.f k2219.args k2219.t := known (L := .nil) mN (by kernel_rfl)
theorem ok2220 : PuOK prog k2220.f k2220.args k2220.t := known (L := (.one k2219 .nil)) (mO ok2219 mN) (by kernel_rfl)
theorem ok2221 : PuOK prog k2221.f k2221.args k2221.t := known (L := .nil) mN (by kernel_rfl)
theorem ok2222 : PuOK prog k2222.f k2222.args k2222.t := known (L := (.one k2221 .nil)) (mO ok2221 mN) (by kernel_rfl)
theorem ok2223 : PuOK prog k2223.f k2223.args k2223.t := known (L := .nil) mN (by kernel_rfl)
theorem ok2224 : PuOK prog k2224.f k2224.args k2224.t := known (L := (.one k2223 .nil)) (mO ok2223 mN) (by kernel_rfl)
theorem ok2225 : PuOK prog k2225.f k2225.args k2225.t := known (L := .nil) mN (by kernel_rfl)
theorem ok2226 : PuOK prog k2226.f k2226.args k2226.t := known (L := (.one k2225 .nil)) (mO ok2225 mN) (by kernel_rfl)
theorem ok2227 : PuOK prog k2227.f k2227.args k2227.t := known (L := .nil) mN (by kernel_rfl)
theorem ok2228 : PuOK prog k2228.f k2228.args k2228.t := known (L := (.one k2227 .nil)) (mO ok2227 mN) (by kernel_rfl)
theorem ok2229 : PuOK prog k2229.f k2229.args k2229.t := known (L := (.node 4914 (.node 4786 (.node 4724 (.node 4692 (.node 2838 (.node 1815 (.node 1596 (.node 635 (.node 604 (.one k1844 .nil) (.one k1908 .nil)) (.node 666 (.one k2036 .nil) (.one k1940 .nil))) (.node 1753 (.node 1627 (.one k2068 .nil) (.one k1746 .nil)) (.node 1784 (.one k1762 .nil) (.one k1794 .nil)))) (.node 2588 (.node 1877 (.node 1846 (.one k1858 .nil) (.one k1986 .nil)) (.node 2051 (.one k2216 .nil) (.one k2132 .nil))) (.node 2776 (.node 2745 (.one k1770 .nil) (.one k1802 .nil)) (.node 2807 (.one k1866 .nil) (.one k1994 .nil))))) (.node 4684 (.node 3799 (.node 3737 (.node 2876 (.one k2188 .nil) (.one k1818 .nil)) (.node 3768 (.one k1882 .nil) (.one k2010 .nil))) (.node 4682 (.node 4681 (.one k35 .nil) (.one k38 .nil)) (.node 4683 (.one k41 .nil) (.one k47 .nil)))) (.node 4688 (.node 4686 (.node 4685 (.one k53 .nil) (.one k58 .nil)) (.node 4687 (.one k61 .nil) (.one k64 .nil))) (.node 4690 (.node 4689 (.one k67 .nil) (.one k72 .nil)) (.node 4691 (.one k75 .nil) (.one k78 .nil)))))) (.node 4708 (.node 4700 (.node 4696 (.node 4694 (.node 4693 (.one k81 .nil) (.one k84 .nil)) (.node 4695 (.one k87 .nil) (.one k90 .nil))) (.node 4698 (.node 4697 (.one k93 .nil) (.one k98 .nil)) (.node 4699 (.one k101 .nil) (.one k104 .nil)))) (.node 4704 (.node 4702 (.node 4701 (.one k107 .nil) (.one k110 .nil)) (.node 4703 (.one k113 .nil) (.one k116 .nil))) (.node 4706 (.node 4705 (.one k119 .nil) (.one k122 .nil)) (.node 4707 (.one k125 .nil) (.one k128 .nil))))) (.node 4716 (.node 4712 (.node 4710 (.node 4709 (.one k131 .nil) (.one k134 .nil)) (.node 4711 (.one k137 .nil) (.one k140 .nil))) (.node 4714 (.node 4713 (.one k143 .nil) (.one k148 .nil)) (.node 4715 (.one k151 .nil) (.one k154 .nil)))) (.node 4720 (.node 4718 (.node 4717 (.one k157 .nil) (.one k160 .nil)) (.node 4719 (.one k163 .nil) (.one k166 .nil))) (.node 4722 (.node 4721 (.one k169 .nil) (.one k172 .nil)) (.node 4723 (.one k175 .nil) (.one k178 .nil))))))) (.node 4755 (.node 4739 (.node 4731 (.node 4728 (.node 4726 (.node 4725 (.one k181 .nil) (.one k184 .nil)) (.node 4727 (.one k187 .nil) (.one k190 .nil))) (.node 4729 (.one k193 (.one k1914 .nil)) (.node 4730 (.one k196 .nil) (.one k199 .nil)))) (.node 4735 (.node 4733 (.node 4732 (.one k202 .nil) (.one k205 .nil)) (.node 4734 (.one k208 .nil) (.one k211 .nil))) (.node 4737 (.node 4736 (.one k214 .nil) (.one k217 .nil)) (.node 4738 (.one k220 .nil) (.one k223 .nil))))) (.node 4747 (.node 4743 (.node 4741 (.node 4740 (.one k226 .nil) (.one k229 .nil)) (.node 4742 (.one k232 .nil) (.one k235 .nil))) (.node 4745 (.node 4744 (.one k238 .nil) (.one k241 .nil)) (.node 4746 (.one k246 .nil) (.one k249 .nil)))) (.node 4751 (.node 4749 (.node 4748 (.one k252 .nil) (.one k255 .nil)) (.node 4750 (.one k258 .nil) (.one k261 .nil))) (.node 4753 (.node 4752 (.one k264 .nil) (.one k267 .nil)) (.node 4754 (.one k270 .nil) (.one k273 .nil)))))) (.node 4770 (.node 4762 (.node 4759 (.node 4757 (.node 4756 (.one k276 .nil) (.one k279 .nil)) (.node 4758 (.one k282 .nil) (.one k285 .nil))) (.node 4760 (.one k288 (.one k2042 .nil)) (.node 4761 (.one k291 .nil) (.one k294 .nil)))) (.node 4766 (.node 4764 (.node 4763 (.one k297 .nil) (.one k300 .nil)) (.node 4765 (.one k303 .nil) (.one k306 .nil))) (.node 4768 (.node 4767 (.one k309 .nil) (.one k312 .nil)) (.node 4769 (.one k315 .nil) (.one k318 .nil))))) (.node 4778 (.node 4774 (.node 4772 (.node 4771 (.one k321 .nil) (.one k324 .nil)) (.node 4773 (.one k327 .nil) (.one k330 .nil))) (.node 4776 (.node 4775 (.one k333 .nil) (.one k336 .nil)) (.node 4777 (.one k339 .nil) (.one k342 .nil)))) (.node 4782 (.node 4780 (.node 4779 (.one k345 .nil) (.one k348 .nil)) (.node 4781 (.one k351 .nil) (.one k354 .nil))) (.node 4784 (.node 4783 (.one k357 .nil) (.one k360 .nil)) (.node 4785 (.one k363 .nil) (.one k366 .nil)))))))) (.node 4850 (.node 4818 (.node 4802 (.node 4794 (.node 4790 (.node 4788 (.node 4787 (.one k369 .nil) (.one k372 .nil)) (.node 4789 (.one k375 .nil) (.one k378 .nil))) (.node 4792 (.node 4791 (.one k381 .nil) (.one k384 .nil)) (.node 4793 (.one k387 .nil) (.one k390 .nil)))) (.node 4798 (.node 4796 (.node 4795 (.one k393 .nil) (.one k396 .nil)) (.node 4797 (.one k399 .nil) (.one k402 .nil))) (.node 4800 (.node 4799 (.one k405 .nil) (.one k408 .nil)) (.node 4801 (.one k411 .nil) (.one k414 .nil))))) (.node 4810 (.node 4806 (.node 4804 (.node 4803 (.one k417 .nil) (.one k420 .nil)) (.node 4805 (.one k423 .nil) (.one k426 .nil))) (.node 4808 (.node 4807 (.one k429 .nil) (.one k432 .nil)) (.node 4809 (.one k435 .nil) (.one k440 .nil)))) (.node 4814 (.node 4812 (.node 4811 (.one k443 .nil) (.one k446 .nil)) (.node 4813 (.one k449 .nil) (.one k452 .nil))) (.node 4816 (.node 4815 (.one k455 .nil) (.one k458 .nil)) (.node 4817 (.one k461 .nil) (.one k464 .nil)))))) (.node 4834 (.node 4826 (.node 4822 (.node 4820 (.node 4819 (.one k467 .nil) (.one k470 .nil)) (.node 4821 (.one k473 .nil) (.one k476 .nil))) (.node 4824 (.node 4823 (.one k479 .nil) (.one k482 .nil)) (.node 4825 (.one k485 .nil) (.one k488 .nil)))) (.node 4830 (.node 4828 (.node 4827 (.one k491 .nil) (.one k494 .nil)) (.node 4829 (.one k497 .nil) (.one k500 .nil))) (.node 4832 (.node 4831 (.one k503 .nil) (.one k506 .nil)) (.node 4833 (.one k509 .nil) (.one k512 .nil))))) (.node 4842 (.node 4838 (.node 4836 (.node 4835 (.one k515 .nil) (.one k518 .nil)) (.node 4837 (.one k521 .nil) (.one k524 .nil))) (.node 4840 (.node 4839 (.one k527 .nil) (.one k530 .nil)) (.node 4841 (.one k533 .nil) (.one k536 .nil)))) (.node 4846 (.node 4844 (.node 4843 (.one k539 .nil) (.one k542 .nil)) (.node 4845 (.one k545 .nil) (.one k548 .nil))) (.node 4848 (.node 4847 (.one k551 .nil) (.one k554 .nil)) (.node 4849 (.one k557 .nil) (.one k560 .nil))))))) (.node 4882 (.node 4866 (.node 4858 (.node 4854 (.node 4852 (.node 4851 (.one k563 .nil) (.one k566 .nil)) (.node 4853 (.one k569 .nil) (.one k572 .nil))) (.node 4856 (.node 4855 (.one k575 .nil) (.one k578 .nil)) (.node 4857 (.one k581 .nil) (.one k584 .nil)))) (.node 4862 (.node 4860 (.node 4859 (.one k587 .nil) (.one k590 .nil)) (.node 4861 (.one k593 .nil) (.one k596 .nil))) (.node 4864 (.node 4863 (.one k599 .nil) (.one k602 .nil)) (.node 4865 (.one k605 .nil) (.one k608 .nil))))) (.node 4874 (.node 4870 (.node 4868 (.node 4867 (.one k611 .nil) (.one k614 .nil)) (.node 4869 (.one k617 .nil) (.one k620 .nil))) (.node 4872 (.node 4871 (.one k623 .nil) (.one k626 .nil)) (.node 4873 (.one k629 .nil) (.one k632 .nil)))) (.node 4878 (.node 4876 (.node 4875 (.one k635 .nil) (.one k638 .nil)) (.node 4877 (.one k641 .nil) (.one k644 .nil))) (.node 4880 (.node 4879 (.one k647 .nil) (.one k650 .nil)) (.node 4881 (.one k653 .nil) (.one k656 .nil)))))) (.node 4898 (.node 4890 (.node 4886 (.node 4884 (.node 4883 (.one k659 .nil) (.one k662 .nil)) (.node 4885 (.one k665 .nil) (.one k668 .nil))) (.node 4888 (.node 4887 (.one k671 .nil) (.one k674 .nil)) (.node 4889 (.one k677 .nil) (.one k680 .nil)))) (.node 4894 (.node 4892 (.node 4891 (.one k683 .nil) (.one k686 .nil)) (.node 4893 (.one k689 .nil) (.one k692 .nil))) (.node 4896 (.node 4895 (.one k695 .nil) (.one k698 .nil)) (.node 4897 (.one k701 .nil) (.one k704 .nil))))) (.node 4906 (.node 4902 (.node 4900 (.node 4899 (.one k707 .nil) (.one k710 .nil)) (.node 4901 (.one k713 .nil) (.one k716 .nil))) (.node 4904 (.node 4903 (.one k719 .nil) (.one k722 .nil)) (.node 4905 (.one k725 .nil) (.one k728 .nil)))) (.node 4910 (.node 4908 (.node 4907 (.one k731 .nil) (.one k734 .nil)) (.node 4909 (.one k737 .nil) (.one k740 .nil))) (.node 4912 (.node 4911 (.one k743 .nil) (.one k746 .nil)) (.node 4913 (.one k749 .nil) (.one k752 .nil))))))))) (.node 35512 (.node 18972 (.node 13595 (.node 4930 (.node 4922 (.node 4918 (.node 4916 (.node 4915 (.one k755 .nil) (.one k758 .nil)) (.node 4917 (.one k761 .nil) (.one k764 .nil))) (.node 4920 (.node 4919 (.one k767 .nil) (.one k770 .nil)) (.node 4921 (.one k773 .nil) (.one k776 .nil)))) (.node 4926 (.node 4924 (.node 4923 (.one k779 .nil) (.one k782 .nil)) (.node 4925 (.one k785 .nil) (.one k788 .nil))) (.node 4928 (.node 4927 (.one k791 .nil) (.one k794 .nil)) (.node 4929 (.one k797 .nil) (.one k800 .nil))))) (.node 5721 (.node 4934 (.node 4932 (.node 4931 (.one k803 .nil) (.one k806 .nil)) (.node 4933 (.one k809 .nil) (.one k812 .nil))) (.node 4936 (.node 4935 (.one k815 .nil) (.one k818 .nil)) (.node 5577 (.one k2208 .nil) (.one k2106 .nil)))) (.node 12572 (.node 8617 (.node 7679 (.one k2224 .nil) (.one k2168 .nil)) (.node 9103 (.one k2204 .nil) (.one k1832 .nil))) (.node 12634 (.node 12603 (.one k1896 .nil) (.one k2024 .nil)) (.node 13564 (.one k1928 .nil) (.one k2056 .nil)))))) (.node 16892 (.node 16177 (.node 16053 (.node 14556 (.node 14191 (.one k2172 .nil) (.one k2120 .nil)) (.node 14844 (.one k2170 .nil) (.one k1722 .nil))) (.node 16115 (.node 16084 (.one k1726 .nil) (.one k1734 .nil)) (.node 16146 (.one k1750 .nil) (.one k1782 .nil)))) (.node 16558 (.node 16239 (.node 16208 (.one k1846 .nil) (.one k1974 .nil)) (.node 16527 (.one k1748 .nil) (.one k1764 .nil))) (.node 16620 (.node 16589 (.one k1796 .nil) (.one k1860 .nil)) (.node 16651 (.one k1988 .nil) (.one k2178 .nil))))) (.node 18177 (.node 17612 (.node 17550 (.node 17519 (.one k1772 .nil) (.one k1804 .nil)) (.node 17581 (.one k1868 .nil) (.one k1996 .nil))) (.node 18011 (.node 17980 (.one k1972 .nil) (.one k2100 .nil)) (.node 18146 (.one k1836 .nil) (.one k1900 .nil)))) (.node 18573 (.node 18511 (.node 18208 (.one k2028 .nil) (.one k1820 .nil)) (.node 18542 (.one k1884 .nil) (.one k2012 .nil))) (.node 18830 (.node 18799 (.one k1834 .nil) (.one k1898 .nil)) (.node 18861 (.one k2026 .nil) (.one k2164 .nil))))))) (.node 25396 (.node 21086 (.node 20130 (.node 19534 (.node 19169 (.node 19138 (.one k1932 .nil) (.one k2060 .nil)) (.node 19503 (.one k1916 .nil) (.one k2044 .nil))) (.node 19791 (.node 19593 (.one k2190 .nil) (.one k1930 .nil)) (.node 19822 (.one k2058 .nil) (.one k2124 .nil)))) (.node 20847 (.node 20495 (.node 20418 (.one k2176 .nil) (.one k2108 .nil)) (.node 20783 (.one k2122 .nil) (.one k1842 .nil))) (.node 20909 (.node 20878 (.one k1906 .nil) (.one k2034 .nil)) (.node 21071 (.one k2174 .nil) (.one k2194 .nil))))) (.node 23787 (.node 22638 (.node 21870 (.node 21839 (.one k1938 .nil) (.one k2066 .nil)) (.node 22294 (.one k2214 .nil) (.one k37 (.one k1717 .nil)))) (.node 22831 (.one k2130 .nil) (.node 23119 (.one k2186 .nil) (.one k2218 .nil)))) (.node 25026 (.node 24404 (.node 24373 (.one k1840 .nil) (.one k1904 .nil)) (.node 24435 (.one k2032 .nil) (.one k1838 .nil))) (.node 25088 (.node 25057 (.one k1902 .nil) (.one k2030 .nil)) (.node 25365 (.one k1936 .nil) (.one k2064 .nil)))))) (.node 32379 (.node 27298 (.node 26285 (.node 26018 (.node 25820 (.one k2206 .nil) (.one k1934 .nil)) (.node 26049 (.one k2062 .nil) (.one k2226 .nil))) (.node 26645 (.node 26357 (.one k2128 .nil) (.one k2184 .nil)) (.node 27010 (.one k2126 .nil) (.one k2182 .nil)))) (.node 29346 (.node 28581 (.node 27313 (.one k2210 .nil) (.one k1942 .nil)) (.node 28612 (.one k2070 .nil) (.one k2202 .nil))) (.node 31387 (.node 29573 (.one k2134 .nil) (.one k1956 .nil)) (.node 31418 (.one k2084 .nil) (.one k2148 .nil))))) (.node 33528 (.node 32598 (.node 32536 (.node 32499 (.one k2228 .nil) (.one k1774 .nil)) (.node 32567 (.one k1806 .nil) (.one k1870 .nil))) (.node 32872 (.node 32629 (.one k1998 .nil) (.one k2200 .nil)) (.node 33525 (.one k2198 .nil) (.one k1822 .nil)))) (.node 34119 (.node 33590 (.node 33559 (.one k1886 .nil) (.one k2014 .nil)) (.node 34088 (.one k1968 .nil) (.one k2096 .nil))) (.node 34551 (.node 34520 (.one k1918 .nil) (.one k2046 .nil)) (.node 35080 (.one k2160 .nil) (.one k2110 .nil)))))))) (.node 48364 (.node 39120 (.node 37545 (.node 37167 (.node 36584 (.node 36522 (.node 36491 (.one k1732 .nil) (.one k1740 .nil)) (.node 36553 (.one k1756 .nil) (.one k1788 .nil))) (.node 36646 (.node 36615 (.one k1852 .nil) (.one k1980 .nil)) (.node 37136 (.one k1724 .nil) (.one k1728 .nil)))) (.node 37291 (.node 37229 (.node 37198 (.one k1736 .nil) (.one k1752 .nil)) (.node 37260 (.one k1784 .nil) (.one k1848 .nil))) (.node 37483 (.node 37322 (.one k1976 .nil) (.one k1744 .nil)) (.node 37514 (.one k1760 .nil) (.one k1792 .nil))))) (.node 38221 (.node 37645 (.node 37607 (.node 37576 (.one k1856 .nil) (.one k1984 .nil)) (.node 37614 (.one k1964 .nil) (.one k2092 .nil))) (.node 38159 (.node 38128 (.one k1730 .nil) (.one k1738 .nil)) (.node 38190 (.one k1754 .nil) (.one k1786 .nil)))) (.node 38506 (.node 38283 (.node 38252 (.one k1850 .nil) (.one k1978 .nil)) (.node 38475 (.one k1768 .nil) (.one k1800 .nil))) (.node 38568 (.node 38537 (.one k1864 .nil) (.one k1992 .nil)) (.node 38606 (.one k2156 .nil) (.one k1742 .nil)))))) (.node 41135 (.node 39992 (.node 39244 (.node 39182 (.node 39151 (.one k1758 .nil) (.one k1790 .nil)) (.node 39213 (.one k1854 .nil) (.one k1982 .nil))) (.node 39498 (.node 39467 (.one k1816 .nil) (.one k1880 .nil)) (.node 39529 (.one k2008 .nil) (.one k1720 .nil)))) (.node 40205 (.node 40143 (.node 40112 (.one k1766 .nil) (.one k1798 .nil)) (.node 40174 (.one k1862 .nil) (.one k1990 .nil))) (.node 40490 (.node 40459 (.one k1912 .nil) (.one k2040 .nil)) (.node 41104 (.one k1814 .nil) (.one k1878 .nil))))) (.node 44347 (.node 42127 (.node 41451 (.node 41166 (.one k2006 .nil) (.one k2104 .nil)) (.node 42096 (.one k1910 .nil) (.one k2038 .nil))) (.node 43355 (.node 43088 (.one k2102 .nil) (.one k1944 .nil)) (.node 43386 (.one k2072 .nil) (.one k2136 .nil)))) (.node 47372 (.node 47310 (.node 45523 (.one k2222 .nil) (.one k1776 .nil)) (.node 47341 (.one k1808 .nil) (.one k1872 .nil))) (.node 48302 (.node 47403 (.one k2000 .nil) (.one k1824 .nil)) (.node 48333 (.one k1888 .nil) (.one k2016 .nil))))))) (.node 54899 (.node 52915 (.node 49921 (.node 49294 (.node 48929 (.node 48763 (.one k2196 .nil) (.one k1948 .nil)) (.node 48960 (.one k2076 .nil) (.one k1920 .nil))) (.node 49582 (.node 49325 (.one k2048 .nil) (.one k1946 .nil)) (.node 49613 (.one k2074 .nil) (.one k2140 .nil)))) (.node 51630 (.node 50574 (.node 50286 (.one k2112 .nil) (.one k2138 .nil)) (.node 51464 (.one k2220 .nil) (.one k1954 .nil))) (.node 52622 (.node 51661 (.one k2082 .nil) (.one k2146 .nil)) (.node 52884 (.one k1780 .nil) (.one k1812 .nil))))) (.node 53907 (.node 53568 (.node 52977 (.node 52946 (.one k1876 .nil) (.one k2004 .nil)) (.node 53537 (.one k1778 .nil) (.one k1810 .nil))) (.node 53630 (.node 53599 (.one k1874 .nil) (.one k2002 .nil)) (.node 53876 (.one k1828 .nil) (.one k1892 .nil)))) (.node 54529 (.node 54331 (.node 53938 (.one k2020 .nil) (.one k1966 .nil)) (.node 54362 (.one k2094 .nil) (.one k1826 .nil))) (.node 54591 (.node 54560 (.one k1890 .nil) (.one k2018 .nil)) (.node 54868 (.one k1924 .nil) (.one k2052 .nil)))))) (.node 57857 (.node 55824 (.node 55323 (.node 55156 (.node 54990 (.one k2212 .nil) (.one k1952 .nil)) (.node 55187 (.one k2080 .nil) (.one k2158 .nil))) (.node 55552 (.node 55521 (.one k1922 .nil) (.one k2050 .nil)) (.node 55809 (.one k1950 .nil) (.one k1970 .nil)))) (.node 56148 (.node 55855 (.node 55840 (.one k2078 .nil) (.one k2098 .nil)) (.node 55860 (.one k2116 .nil) (.one k2144 .nil))) (.node 56801 (.node 56513 (.one k2114 .nil) (.one k2142 .nil)) (.node 56816 (.one k2162 .nil) (.one k1962 .nil))))) (.node 62170 (.node 61383 (.node 58849 (.node 57888 (.one k2090 .nil) (.one k2154 .nil)) (.node 59364 (.one k2166 .nil) (.one k1960 .nil))) (.node 62036 (.node 61414 (.one k2088 .nil) (.one k1958 .nil)) (.node 62067 (.one k2086 .nil) (.one k2180 .nil)))) (.node 63350 (.node 63028 (.node 62375 (.one k2152 .nil) (.one k2150 .nil)) (.node 63319 (.one k1830 .nil) (.one k1894 .nil))) (.node 64311 (.node 63381 (.one k2022 .nil) (.one k1926 .nil)) (.node 64342 (.one k2054 .nil) (.node 64871 (.one k2192 .nil) (.one k2118 .nil)))))))))))) (mT (mT (mT (mT (mT (mT (mT (mT (mT (mO ok1844 mN) (mO ok1908 mN)) (mT (mO ok2036 mN) (mO ok1940 mN))) (mT (mT (mO ok2068 mN) (mO ok1746 mN)) (mT (mO ok1762 mN) (mO ok1794 mN)))) (mT (mT (mT (mO ok1858 mN) (mO ok1986 mN)) (mT (mO ok2216 mN) (mO ok2132 mN))) (mT (mT (mO ok1770 mN) (mO ok1802 mN)) (mT (mO ok1866 mN) (mO ok1994 mN))))) (mT (mT (mT (mT (mO ok2188 mN) (mO ok1818 mN)) (mT (mO ok1882 mN) (mO ok2010 mN))) (mT (mT (mO ok35 mN) (mO ok38 mN)) (mT (mO ok41 mN) (mO ok47 mN)))) (mT (mT (mT (mO ok53 mN) (mO ok58 mN)) (mT (mO ok61 mN) (mO ok64 mN))) (mT (mT (mO ok67 mN) (mO ok72 mN)) (mT (mO ok75 mN) (mO ok78 mN)))))) (mT (mT (mT (mT (mT (mO ok81 mN) (mO ok84 mN)) (mT (mO ok87 mN) (mO ok90 mN))) (mT (mT (mO ok93 mN) (mO ok98 mN)) (mT (mO ok101 mN) (mO ok104 mN)))) (mT (mT (mT (mO ok107 mN) (mO ok110 mN)) (mT (mO ok113 mN) (mO ok116 mN))) (mT (mT (mO ok119 mN) (mO ok122 mN)) (mT (mO ok125 mN) (mO ok128 mN))))) (mT (mT (mT (mT (mO ok131 mN) (mO ok134 mN)) (mT (mO ok137 mN) (mO ok140 mN))) (mT (mT (mO ok143 mN) (mO ok148 mN)) (mT (mO ok151 mN) (mO ok154 mN)))) (mT (mT (mT (mO ok157 mN) (mO ok160 mN)) (mT (mO ok163 mN) (mO ok166 mN))) (mT (mT (mO ok169 mN) (mO ok172 mN)) (mT (mO ok175 mN) (mO ok178 mN))))))) (mT (mT (mT (mT (mT (mT (mO ok181 mN) (mO ok184 mN)) (mT (mO ok187 mN) (mO ok190 mN))) (mT (mO ok193 (mO ok1914 mN)) (mT (mO ok196 mN) (mO ok199 mN)))) (mT (mT (mT (mO ok202 mN) (mO ok205 mN)) (mT (mO ok208 mN) (mO ok211 mN))) (mT (mT (mO ok214 mN) (mO ok217 mN)) (mT (mO ok220 mN) (mO ok223 mN))))) (mT (mT (mT (mT (mO ok226 mN) (mO ok229 mN)) (mT (mO ok232 mN) (mO ok235 mN))) (mT (mT (mO ok238 mN) (mO ok241 mN)) (mT (mO ok246 mN) (mO ok249 mN)))) (mT (mT (mT (mO ok252 mN) (mO ok255 mN)) (mT (mO ok258 mN) (mO ok261 mN))) (mT (mT (mO ok264 mN) (mO ok267 mN)) (mT (mO ok270 mN) (mO ok273 mN)))))) (mT (mT (mT (mT (mT (mO ok276 mN) (mO ok279 mN)) (mT (mO ok282 mN) (mO ok285 mN))) (mT (mO ok288 (mO ok2042 mN)) (mT (mO ok291 mN) (mO ok294 mN)))) (mT (mT (mT (mO ok297 mN) (mO ok300 mN)) (mT (mO ok303 mN) (mO ok306 mN))) (mT (mT (mO ok309 mN) (mO ok312 mN)) (mT (mO ok315 mN) (mO ok318 mN))))) (mT (mT (mT (mT (mO ok321 mN) (mO ok324 mN)) (mT (mO ok327 mN) (mO ok330 mN))) (mT (mT (mO ok333 mN) (mO ok336 mN)) (mT (mO ok339 mN) (mO ok342 mN)))) (mT (mT (mT (mO ok345 mN) (mO ok348 mN)) (mT (mO ok351 mN) (mO ok354 mN))) (mT (mT (mO ok357 mN) (mO ok360 mN)) (mT (mO ok363 mN) (mO ok366 mN)))))))) (mT (mT (mT (mT (mT (mT (mT (mO ok369 mN) (mO ok372 mN)) (mT (mO ok375 mN) (mO ok378 mN))) (mT (mT (mO ok381 mN) (mO ok384 mN)) (mT (mO ok387 mN) (mO ok390 mN)))) (mT (mT (mT (mO ok393 mN) (mO ok396 mN)) (mT (mO ok399 mN) (mO ok402 mN))) (mT (mT (mO ok405 mN) (mO ok408 mN)) (mT (mO ok411 mN) (mO ok414 mN))))) (mT (mT (mT (mT (mO ok417 mN) (mO ok420 mN)) (mT (mO ok423 mN) (mO ok426 mN))) (mT (mT (mO ok429 mN) (mO ok432 mN)) (mT (mO ok435 mN) (mO ok440 mN)))) (mT (mT (mT (mO ok443 mN) (mO ok446 mN)) (mT (mO ok449 mN) (mO ok452 mN))) (mT (mT (mO ok455 mN) (mO ok458 mN)) (mT (mO ok461 mN) (mO ok464 mN)))))) (mT (mT (mT (mT (mT (mO ok467 mN) (mO ok470 mN)) (mT (mO ok473 mN) (mO ok476 mN))) (mT (mT (mO ok479 mN) (mO ok482 mN)) (mT (mO ok485 mN) (mO ok488 mN)))) (mT (mT (mT (mO ok491 mN) (mO ok494 mN)) (mT (mO ok497 mN) (mO ok500 mN))) (mT (mT (mO ok503 mN) (mO ok506 mN)) (mT (mO ok509 mN) (mO ok512 mN))))) (mT (mT (mT (mT (mO ok515 mN) (mO ok518 mN)) (mT (mO ok521 mN) (mO ok524 mN))) (mT (mT (mO ok527 mN) (mO ok530 mN)) (mT (mO ok533 mN) (mO ok536 mN)))) (mT (mT (mT (mO ok539 mN) (mO ok542 mN)) (mT (mO ok545 mN) (mO ok548 mN))) (mT (mT (mO ok551 mN) (mO ok554 mN)) (mT (mO ok557 mN) (mO ok560 mN))))))) (mT (mT (mT (mT (mT (mT (mO ok563 mN) (mO ok566 mN)) (mT (mO ok569 mN) (mO ok572 mN))) (mT (mT (mO ok575 mN) (mO ok578 mN)) (mT (mO ok581 mN) (mO ok584 mN)))) (mT (mT (mT (mO ok587 mN) (mO ok590 mN)) (mT (mO ok593 mN) (mO ok596 mN))) (mT (mT (mO ok599 mN) (mO ok602 mN)) (mT (mO ok605 mN) (mO ok608 mN))))) (mT (mT (mT (mT (mO ok611 mN) (mO ok614 mN)) (mT (mO ok617 mN) (mO ok620 mN))) (mT (mT (mO ok623 mN) (mO ok626 mN)) (mT (mO ok629 mN) (mO ok632 mN)))) (mT (mT (mT (mO ok635 mN) (mO ok638 mN)) (mT (mO ok641 mN) (mO ok644 mN))) (mT (mT (mO ok647 mN) (mO ok650 mN)) (mT (mO ok653 mN) (mO ok656 mN)))))) (mT (mT (mT (mT (mT (mO ok659 mN) (mO ok662 mN)) (mT (mO ok665 mN) (mO ok668 mN))) (mT (mT (mO ok671 mN) (mO ok674 mN)) (mT (mO ok677 mN) (mO ok680 mN)))) (mT (mT (mT (mO ok683 mN) (mO ok686 mN)) (mT (mO ok689 mN) (mO ok692 mN))) (mT (mT (mO ok695 mN) (mO ok698 mN)) (mT (mO ok701 mN) (mO ok704 mN))))) (mT (mT (mT (mT (mO ok707 mN) (mO ok710 mN)) (mT (mO ok713 mN) (mO ok716 mN))) (mT (mT (mO ok719 mN) (mO ok722 mN)) (mT (mO ok725 mN) (mO ok728 mN)))) (mT (mT (mT (mO ok731 mN) (mO ok734 mN)) (mT (mO ok737 mN) (mO ok740 mN))) (mT (mT (mO ok743 mN) (mO ok746 mN)) (mT (mO ok749 mN) (mO ok752 mN))))))))) (mT (mT (mT (mT (mT (mT (mT (mT (mO ok755 mN) (mO ok758 mN)) (mT (mO ok761 mN) (mO ok764 mN))) (mT (mT (mO ok767 mN) (mO ok770 mN)) (mT (mO ok773 mN) (mO ok776 mN)))) (mT (mT (mT (mO ok779 mN) (mO ok782 mN)) (mT (mO ok785 mN) (mO ok788 mN))) (mT (mT (mO ok791 mN) (mO ok794 mN)) (mT (mO ok797 mN) (mO ok800 mN))))) (mT (mT (mT (mT (mO ok803 mN) (mO ok806 mN)) (mT (mO ok809 mN) (mO ok812 mN))) (mT (mT (mO ok815 mN) (mO ok818 mN)) (mT (mO ok2208 mN) (mO ok2106 mN)))) (mT (mT (mT (mO ok2224 mN) (mO ok2168 mN)) (mT (mO ok2204 mN) (mO ok1832 mN))) (mT (mT (mO ok1896 mN) (mO ok2024 mN)) (mT (mO ok1928 mN) (mO ok2056 mN)))))) (mT (mT (mT (mT (mT (mO ok2172 mN) (mO ok2120 mN)) (mT (mO ok2170 mN) (mO ok1722 mN))) (mT (mT (mO ok1726 mN) (mO ok1734 mN)) (mT (mO ok1750 mN) (mO ok1782 mN)))) (mT (mT (mT (mO ok1846 mN) (mO ok1974 mN)) (mT (mO ok1748 mN) (mO ok1764 mN))) (mT (mT (mO ok1796 mN) (mO ok1860 mN)) (mT (mO ok1988 mN) (mO ok2178 mN))))) (mT (mT (mT (mT (mO ok1772 mN) (mO ok1804 mN)) (mT (mO ok1868 mN) (mO ok1996 mN))) (mT (mT (mO ok1972 mN) (mO ok2100 mN)) (mT (mO ok1836 mN) (mO ok1900 mN)))) (mT (mT (mT (mO ok2028 mN) (mO ok1820 mN)) (mT (mO ok1884 mN) (mO ok2012 mN))) (mT (mT (mO ok1834 mN) (mO ok1898 mN)) (mT (mO ok2026 mN) (mO ok2164 mN))))))) (mT (mT (mT (mT (mT (mT (mO ok1932 mN) (mO ok2060 mN)) (mT (mO ok1916 mN) (mO ok2044 mN))) (mT (mT (mO ok2190 mN) (mO ok1930 mN)) (mT (mO ok2058 mN) (mO ok2124 mN)))) (mT (mT (mT (mO ok2176 mN) (mO ok2108 mN)) (mT (mO ok2122 mN) (mO ok1842 mN))) (mT (mT (mO ok1906 mN) (mO ok2034 mN)) (mT (mO ok2174 mN) (mO ok2194 mN))))) (mT (mT (mT (mT (mO ok1938 mN) (mO ok2066 mN)) (mT (mO ok2214 mN) (mO ok37 (mO ok1717 mN)))) (mT (mO ok2130 mN) (mT (mO ok2186 mN) (mO ok2218 mN)))) (mT (mT (mT (mO ok1840 mN) (mO ok1904 mN)) (mT (mO ok2032 mN) (mO ok1838 mN))) (mT (mT (mO ok1902 mN) (mO ok2030 mN)) (mT (mO ok1936 mN) (mO ok2064 mN)))))) (mT (mT (mT (mT (mT (mO ok2206 mN) (mO ok1934 mN)) (mT (mO ok2062 mN) (mO ok2226 mN))) (mT (mT (mO ok2128 mN) (mO ok2184 mN)) (mT (mO ok2126 mN) (mO ok2182 mN)))) (mT (mT (mT (mO ok2210 mN) (mO ok1942 mN)) (mT (mO ok2070 mN) (mO ok2202 mN))) (mT (mT (mO ok2134 mN) (mO ok1956 mN)) (mT (mO ok2084 mN) (mO ok2148 mN))))) (mT (mT (mT (mT (mO ok2228 mN) (mO ok1774 mN)) (mT (mO ok1806 mN) (mO ok1870 mN))) (mT (mT (mO ok1998 mN) (mO ok2200 mN)) (mT (mO ok2198 mN) (mO ok1822 mN)))) (mT (mT (mT (mO ok1886 mN) (mO ok2014 mN)) (mT (mO ok1968 mN) (mO ok2096 mN))) (mT (mT (mO ok1918 mN) (mO ok2046 mN)) (mT (mO ok2160 mN) (mO ok2110 mN)))))))) (mT (mT (mT (mT (mT (mT (mT (mO ok1732 mN) (mO ok1740 mN)) (mT (mO ok1756 mN) (mO ok1788 mN))) (mT (mT (mO ok1852 mN) (mO ok1980 mN)) (mT (mO ok1724 mN) (mO ok1728 mN)))) (mT (mT (mT (mO ok1736 mN) (mO ok1752 mN)) (mT (mO ok1784 mN) (mO ok1848 mN))) (mT (mT (mO ok1976 mN) (mO ok1744 mN)) (mT (mO ok1760 mN) (mO ok1792 mN))))) (mT (mT (mT (mT (mO ok1856 mN) (mO ok1984 mN)) (mT (mO ok1964 mN) (mO ok2092 mN))) (mT (mT (mO ok1730 mN) (mO ok1738 mN)) (mT (mO ok1754 mN) (mO ok1786 mN)))) (mT (mT (mT (mO ok1850 mN) (mO ok1978 mN)) (mT (mO ok1768 mN) (mO ok1800 mN))) (mT (mT (mO ok1864 mN) (mO ok1992 mN)) (mT (mO ok2156 mN) (mO ok1742 mN)))))) (mT (mT (mT (mT (mT (mO ok1758 mN) (mO ok1790 mN)) (mT (mO ok1854 mN) (mO ok1982 mN))) (mT (mT (mO ok1816 mN) (mO ok1880 mN)) (mT (mO ok2008 mN) (mO ok1720 mN)))) (mT (mT (mT (mO ok1766 mN) (mO ok1798 mN)) (mT (mO ok1862 mN) (mO ok1990 mN))) (mT (mT (mO ok1912 mN) (mO ok2040 mN)) (mT (mO ok1814 mN) (mO ok1878 mN))))) (mT (mT (mT (mT (mO ok2006 mN) (mO ok2104 mN)) (mT (mO ok1910 mN) (mO ok2038 mN))) (mT (mT (mO ok2102 mN) (mO ok1944 mN)) (mT (mO ok2072 mN) (mO ok2136 mN)))) (mT (mT (mT (mO ok2222 mN) (mO ok1776 mN)) (mT (mO ok1808 mN) (mO ok1872 mN))) (mT (mT (mO ok2000 mN) (mO ok1824 mN)) (mT (mO ok1888 mN) (mO ok2016 mN))))))) (mT (mT (mT (mT (mT (mT (mO ok2196 mN) (mO ok1948 mN)) (mT (mO ok2076 mN) (mO ok1920 mN))) (mT (mT (mO ok2048 mN) (mO ok1946 mN)) (mT (mO ok2074 mN) (mO ok2140 mN)))) (mT (mT (mT (mO ok2112 mN) (mO ok2138 mN)) (mT (mO ok2220 mN) (mO ok1954 mN))) (mT (mT (mO ok2082 mN) (mO ok2146 mN)) (mT (mO ok1780 mN) (mO ok1812 mN))))) (mT (mT (mT (mT (mO ok1876 mN) (mO ok2004 mN)) (mT (mO ok1778 mN) (mO ok1810 mN))) (mT (mT (mO ok1874 mN) (mO ok2002 mN)) (mT (mO ok1828 mN) (mO ok1892 mN)))) (mT (mT (mT (mO ok2020 mN) (mO ok1966 mN)) (mT (mO ok2094 mN) (mO ok1826 mN))) (mT (mT (mO ok1890 mN) (mO ok2018 mN)) (mT (mO ok1924 mN) (mO ok2052 mN)))))) (mT (mT (mT (mT (mT (mO ok2212 mN) (mO ok1952 mN)) (mT (mO ok2080 mN) (mO ok2158 mN))) (mT (mT (mO ok1922 mN) (mO ok2050 mN)) (mT (mO ok1950 mN) (mO ok1970 mN)))) (mT (mT (mT (mO ok2078 mN) (mO ok2098 mN)) (mT (mO ok2116 mN) (mO ok2144 mN))) (mT (mT (mO ok2114 mN) (mO ok2142 mN)) (mT (mO ok2162 mN) (mO ok1962 mN))))) (mT (mT (mT (mT (mO ok2090 mN) (mO ok2154 mN)) (mT (mO ok2166 mN) (mO ok1960 mN))) (mT (mT (mO ok2088 mN) (mO ok1958 mN)) (mT (mO ok2086 mN) (mO ok2180 mN)))) (mT (mT (mT (mO ok2152 mN) (mO ok2150 mN)) (mT (mO ok1830 mN) (mO ok1894 mN))) (mT (mT (mO ok2022 mN) (mO ok1926 mN)) (mT (mO ok2054 mN) (mT (mO ok2192 mN) (mO ok2118 mN))))))))))) (by kernel_rfl)
end Go.V
