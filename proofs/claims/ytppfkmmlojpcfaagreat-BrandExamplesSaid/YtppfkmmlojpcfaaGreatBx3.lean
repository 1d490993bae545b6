/- Calls, evaluated. -/
import Derived.Test.YtppfkmmlojpcfaaGreatBx0
set_option linter.unusedVariables false
set_option maxRecDepth 100000
namespace Go.V
open Go.Proofs.Tryz (prog)
def k274 : Memo := ⟨227, [.lst 1 [[.int .i64 (1)], [.int .i64 (3)], [.int .i64 (6)]], .lst 1 [[.int .i64 (0)], [.int .i64 (1)]]], .int .i64 (1)⟩
def k275 : Memo := ⟨152, [.lst 1 [[.int .i64 (1)], [.int .i64 (3)], [.int .i64 (6)]], .lst 1 [[.int .i64 (0)], [.int .i64 (1)]]], .bool false⟩
def k276 : Memo := ⟨151, [.int .i64 (75)], .fresh 1 [[.int .i64 (0)], [.int .i64 (1)], [.int .i64 (3)], [.int .i64 (6)]]⟩
def k277 : Memo := ⟨227, [g37, .lst 1 [[.int .i64 (0)], [.int .i64 (1)]]], .int .i64 (1)⟩
def k278 : Memo := ⟨152, [g37, .lst 1 [[.int .i64 (0)], [.int .i64 (1)]]], .bool false⟩
def k279 : Memo := ⟨151, [.int .i64 (76)], .fresh 1 [[.int .i64 (2)], [.int .i64 (3)], [.int .i64 (6)]]⟩
def k280 : Memo := ⟨227, [.lst 1 [[.int .i64 (2)], [.int .i64 (3)], [.int .i64 (6)]], .lst 1 [[.int .i64 (0)], [.int .i64 (1)]]], .int .i64 (1)⟩
def k281 : Memo := ⟨152, [.lst 1 [[.int .i64 (2)], [.int .i64 (3)], [.int .i64 (6)]], .lst 1 [[.int .i64 (0)], [.int .i64 (1)]]], .bool false⟩
def k282 : Memo := ⟨151, [.int .i64 (77)], .fresh 1 [[.int .i64 (0)], [.int .i64 (2)], [.int .i64 (3)], [.int .i64 (6)]]⟩
def k283 : Memo := ⟨227, [g38, .lst 1 [[.int .i64 (0)], [.int .i64 (1)]]], .int .i64 (1)⟩
def k284 : Memo := ⟨152, [g38, .lst 1 [[.int .i64 (0)], [.int .i64 (1)]]], .bool false⟩
def k285 : Memo := ⟨151, [.int .i64 (78)], .fresh 1 [[.int .i64 (1)], [.int .i64 (2)], [.int .i64 (3)], [.int .i64 (6)]]⟩
def k286 : Memo := ⟨227, [g39, .lst 1 [[.int .i64 (0)], [.int .i64 (1)]]], .int .i64 (1)⟩
def k287 : Memo := ⟨152, [g39, .lst 1 [[.int .i64 (0)], [.int .i64 (1)]]], .bool false⟩
def k288 : Memo := ⟨151, [.int .i64 (79)], .fresh 1 [[.int .i64 (0)], [.int .i64 (1)], [.int .i64 (2)], [.int .i64 (3)], [.int .i64 (6)]]⟩
def k289 : Memo := ⟨227, [g40, .lst 1 [[.int .i64 (0)], [.int .i64 (1)]]], .int .i64 (1)⟩
def k290 : Memo := ⟨152, [g40, .lst 1 [[.int .i64 (0)], [.int .i64 (1)]]], .bool false⟩
def k291 : Memo := ⟨151, [.int .i64 (80)], .fresh 1 [[.int .i64 (4)], [.int .i64 (6)]]⟩
def k292 : Memo := ⟨227, [.lst 1 [[.int .i64 (4)], [.int .i64 (6)]], .lst 1 [[.int .i64 (0)], [.int .i64 (1)]]], .int .i64 (1)⟩
def k293 : Memo := ⟨152, [.lst 1 [[.int .i64 (4)], [.int .i64 (6)]], .lst 1 [[.int .i64 (0)], [.int .i64 (1)]]], .bool false⟩
def k294 : Memo := ⟨151, [.int .i64 (81)], .fresh 1 [[.int .i64 (0)], [.int .i64 (4)], [.int .i64 (6)]]⟩
def k295 : Memo := ⟨227, [.lst 1 [[.int .i64 (0)], [.int .i64 (4)], [.int .i64 (6)]], .lst 1 [[.int .i64 (0)], [.int .i64 (1)]]], .int .i64 (1)⟩
def k296 : Memo := ⟨152, [.lst 1 [[.int .i64 (0)], [.int .i64 (4)], [.int .i64 (6)]], .lst 1 [[.int .i64 (0)], [.int .i64 (1)]]], .bool false⟩
def k297 : Memo := ⟨151, [.int .i64 (82)], .fresh 1 [[.int .i64 (1)], [.int .i64 (4)], [.int .i64 (6)]]⟩
def k298 : Memo := ⟨227, [.lst 1 [[.int .i64 (1)], [.int .i64 (4)], [.int .i64 (6)]], .lst 1 [[.int .i64 (0)], [.int .i64 (1)]]], .int .i64 (1)⟩
def k299 : Memo := ⟨152, [.lst 1 [[.int .i64 (1)], [.int .i64 (4)], [.int .i64 (6)]], .lst 1 [[.int .i64 (0)], [.int .i64 (1)]]], .bool false⟩
def k300 : Memo := ⟨151, [.int .i64 (83)], .fresh 1 [[.int .i64 (0)], [.int .i64 (1)], [.int .i64 (4)], [.int .i64 (6)]]⟩
def k301 : Memo := ⟨227, [g41, .lst 1 [[.int .i64 (0)], [.int .i64 (1)]]], .int .i64 (1)⟩
def k302 : Memo := ⟨152, [g41, .lst 1 [[.int .i64 (0)], [.int .i64 (1)]]], .bool false⟩
def k303 : Memo := ⟨151, [.int .i64 (84)], .fresh 1 [[.int .i64 (2)], [.int .i64 (4)], [.int .i64 (6)]]⟩
def k304 : Memo := ⟨227, [.lst 1 [[.int .i64 (2)], [.int .i64 (4)], [.int .i64 (6)]], .lst 1 [[.int .i64 (0)], [.int .i64 (1)]]], .int .i64 (1)⟩
def k305 : Memo := ⟨152, [.lst 1 [[.int .i64 (2)], [.int .i64 (4)], [.int .i64 (6)]], .lst 1 [[.int .i64 (0)], [.int .i64 (1)]]], .bool false⟩
def k306 : Memo := ⟨151, [.int .i64 (85)], .fresh 1 [[.int .i64 (0)], [.int .i64 (2)], [.int .i64 (4)], [.int .i64 (6)]]⟩
def k307 : Memo := ⟨227, [g42, .lst 1 [[.int .i64 (0)], [.int .i64 (1)]]], .int .i64 (1)⟩
def k308 : Memo := ⟨152, [g42, .lst 1 [[.int .i64 (0)], [.int .i64 (1)]]], .bool false⟩
def k309 : Memo := ⟨151, [.int .i64 (86)], .fresh 1 [[.int .i64 (1)], [.int .i64 (2)], [.int .i64 (4)], [.int .i64 (6)]]⟩
def k310 : Memo := ⟨227, [g43, .lst 1 [[.int .i64 (0)], [.int .i64 (1)]]], .int .i64 (1)⟩
def k311 : Memo := ⟨152, [g43, .lst 1 [[.int .i64 (0)], [.int .i64 (1)]]], .bool false⟩
def k312 : Memo := ⟨151, [.int .i64 (87)], .fresh 1 [[.int .i64 (0)], [.int .i64 (1)], [.int .i64 (2)], [.int .i64 (4)], [.int .i64 (6)]]⟩
def k313 : Memo := ⟨227, [g44, .lst 1 [[.int .i64 (0)], [.int .i64 (1)]]], .int .i64 (1)⟩
def k314 : Memo := ⟨152, [g44, .lst 1 [[.int .i64 (0)], [.int .i64 (1)]]], .bool false⟩
def k315 : Memo := ⟨151, [.int .i64 (88)], .fresh 1 [[.int .i64 (3)], [.int .i64 (4)], [.int .i64 (6)]]⟩
def k316 : Memo := ⟨227, [.lst 1 [[.int .i64 (3)], [.int .i64 (4)], [.int .i64 (6)]], .lst 1 [[.int .i64 (0)], [.int .i64 (1)]]], .int .i64 (1)⟩
def k317 : Memo := ⟨152, [.lst 1 [[.int .i64 (3)], [.int .i64 (4)], [.int .i64 (6)]], .lst 1 [[.int .i64 (0)], [.int .i64 (1)]]], .bool false⟩
def k318 : Memo := ⟨151, [.int .i64 (89)], .fresh 1 [[.int .i64 (0)], [.int .i64 (3)], [.int .i64 (4)], [.int .i64 (6)]]⟩
def k319 : Memo := ⟨227, [g45, .lst 1 [[.int .i64 (0)], [.int .i64 (1)]]], .int .i64 (1)⟩
def k320 : Memo := ⟨152, [g45, .lst 1 [[.int .i64 (0)], [.int .i64 (1)]]], .bool false⟩
def k321 : Memo := ⟨151, [.int .i64 (90)], .fresh 1 [[.int .i64 (1)], [.int .i64 (3)], [.int .i64 (4)], [.int .i64 (6)]]⟩
def k322 : Memo := ⟨227, [g46, .lst 1 [[.int .i64 (0)], [.int .i64 (1)]]], .int .i64 (1)⟩
def k323 : Memo := ⟨152, [g46, .lst 1 [[.int .i64 (0)], [.int .i64 (1)]]], .bool false⟩
def k324 : Memo := ⟨151, [.int .i64 (91)], .fresh 1 [[.int .i64 (0)], [.int .i64 (1)], [.int .i64 (3)], [.int .i64 (4)], [.int .i64 (6)]]⟩
def k325 : Memo := ⟨227, [g47, .lst 1 [[.int .i64 (0)], [.int .i64 (1)]]], .int .i64 (1)⟩
def k326 : Memo := ⟨152, [g47, .lst 1 [[.int .i64 (0)], [.int .i64 (1)]]], .bool false⟩
def k327 : Memo := ⟨151, [.int .i64 (92)], .fresh 1 [[.int .i64 (2)], [.int .i64 (3)], [.int .i64 (4)], [.int .i64 (6)]]⟩
def k328 : Memo := ⟨227, [g48, .lst 1 [[.int .i64 (0)], [.int .i64 (1)]]], .int .i64 (1)⟩
def k329 : Memo := ⟨152, [g48, .lst 1 [[.int .i64 (0)], [.int .i64 (1)]]], .bool false⟩
def k330 : Memo := ⟨151, [.int .i64 (93)], .fresh 1 [[.int .i64 (0)], [.int .i64 (2)], [.int .i64 (3)], [.int .i64 (4)], [.int .i64 (6)]]⟩
def k331 : Memo := ⟨227, [g49, .lst 1 [[.int .i64 (0)], [.int .i64 (1)]]], .int .i64 (1)⟩
def k332 : Memo := ⟨152, [g49, .lst 1 [[.int .i64 (0)], [.int .i64 (1)]]], .bool false⟩
def k333 : Memo := ⟨151, [.int .i64 (94)], .fresh 1 [[.int .i64 (1)], [.int .i64 (2)], [.int .i64 (3)], [.int .i64 (4)], [.int .i64 (6)]]⟩
def k334 : Memo := ⟨227, [g50, .lst 1 [[.int .i64 (0)], [.int .i64 (1)]]], .int .i64 (1)⟩
def k335 : Memo := ⟨152, [g50, .lst 1 [[.int .i64 (0)], [.int .i64 (1)]]], .bool false⟩
def k336 : Memo := ⟨151, [.int .i64 (95)], .fresh 1 [[.int .i64 (0)], [.int .i64 (1)], [.int .i64 (2)], [.int .i64 (3)], [.int .i64 (4)], [.int .i64 (6)]]⟩
def k337 : Memo := ⟨227, [g51, .lst 1 [[.int .i64 (0)], [.int .i64 (1)]]], .int .i64 (1)⟩
def k338 : Memo := ⟨152, [g51, .lst 1 [[.int .i64 (0)], [.int .i64 (1)]]], .bool false⟩
def k339 : Memo := ⟨151, [.int .i64 (96)], .fresh 1 [[.int .i64 (5)], [.int .i64 (6)]]⟩
def k340 : Memo := ⟨227, [.lst 1 [[.int .i64 (5)], [.int .i64 (6)]], .lst 1 [[.int .i64 (0)], [.int .i64 (1)]]], .int .i64 (1)⟩
def k341 : Memo := ⟨152, [.lst 1 [[.int .i64 (5)], [.int .i64 (6)]], .lst 1 [[.int .i64 (0)], [.int .i64 (1)]]], .bool false⟩
def k342 : Memo := ⟨151, [.int .i64 (97)], .fresh 1 [[.int .i64 (0)], [.int .i64 (5)], [.int .i64 (6)]]⟩
def k343 : Memo := ⟨227, [.lst 1 [[.int .i64 (0)], [.int .i64 (5)], [.int .i64 (6)]], .lst 1 [[.int .i64 (0)], [.int .i64 (1)]]], .int .i64 (1)⟩
def k344 : Memo := ⟨152, [.lst 1 [[.int .i64 (0)], [.int .i64 (5)], [.int .i64 (6)]], .lst 1 [[.int .i64 (0)], [.int .i64 (1)]]], .bool false⟩
def k345 : Memo := ⟨151, [.int .i64 (98)], .fresh 1 [[.int .i64 (1)], [.int .i64 (5)], [.int .i64 (6)]]⟩
def k346 : Memo := ⟨227, [.lst 1 [[.int .i64 (1)], [.int .i64 (5)], [.int .i64 (6)]], .lst 1 [[.int .i64 (0)], [.int .i64 (1)]]], .int .i64 (1)⟩
def k347 : Memo := ⟨152, [.lst 1 [[.int .i64 (1)], [.int .i64 (5)], [.int .i64 (6)]], .lst 1 [[.int .i64 (0)], [.int .i64 (1)]]], .bool false⟩
def k348 : Memo := ⟨151, [.int .i64 (99)], .fresh 1 [[.int .i64 (0)], [.int .i64 (1)], [.int .i64 (5)], [.int .i64 (6)]]⟩
def k349 : Memo := ⟨227, [g52, .lst 1 [[.int .i64 (0)], [.int .i64 (1)]]], .int .i64 (1)⟩
def k350 : Memo := ⟨152, [g52, .lst 1 [[.int .i64 (0)], [.int .i64 (1)]]], .bool false⟩
def k351 : Memo := ⟨151, [.int .i64 (100)], .fresh 1 [[.int .i64 (2)], [.int .i64 (5)], [.int .i64 (6)]]⟩
def k352 : Memo := ⟨227, [.lst 1 [[.int .i64 (2)], [.int .i64 (5)], [.int .i64 (6)]], .lst 1 [[.int .i64 (0)], [.int .i64 (1)]]], .int .i64 (1)⟩
def k353 : Memo := ⟨152, [.lst 1 [[.int .i64 (2)], [.int .i64 (5)], [.int .i64 (6)]], .lst 1 [[.int .i64 (0)], [.int .i64 (1)]]], .bool false⟩
def k354 : Memo := ⟨151, [.int .i64 (101)], .fresh 1 [[.int .i64 (0)], [.int .i64 (2)], [.int .i64 (5)], [.int .i64 (6)]]⟩
def k355 : Memo := ⟨227, [g53, .lst 1 [[.int .i64 (0)], [.int .i64 (1)]]], .int .i64 (1)⟩
def k356 : Memo := ⟨152, [g53, .lst 1 [[.int .i64 (0)], [.int .i64 (1)]]], .bool false⟩
def k357 : Memo := ⟨151, [.int .i64 (102)], .fresh 1 [[.int .i64 (1)], [.int .i64 (2)], [.int .i64 (5)], [.int .i64 (6)]]⟩
def k358 : Memo := ⟨227, [g54, .lst 1 [[.int .i64 (0)], [.int .i64 (1)]]], .int .i64 (1)⟩
def k359 : Memo := ⟨152, [g54, .lst 1 [[.int .i64 (0)], [.int .i64 (1)]]], .bool false⟩
def k360 : Memo := ⟨151, [.int .i64 (103)], .fresh 1 [[.int .i64 (0)], [.int .i64 (1)], [.int .i64 (2)], [.int .i64 (5)], [.int .i64 (6)]]⟩
def k361 : Memo := ⟨227, [g55, .lst 1 [[.int .i64 (0)], [.int .i64 (1)]]], .int .i64 (1)⟩
def k362 : Memo := ⟨152, [g55, .lst 1 [[.int .i64 (0)], [.int .i64 (1)]]], .bool false⟩
def k363 : Memo := ⟨151, [.int .i64 (104)], .fresh 1 [[.int .i64 (3)], [.int .i64 (5)], [.int .i64 (6)]]⟩
def k364 : Memo := ⟨227, [.lst 1 [[.int .i64 (3)], [.int .i64 (5)], [.int .i64 (6)]], .lst 1 [[.int .i64 (0)], [.int .i64 (1)]]], .int .i64 (1)⟩
def k365 : Memo := ⟨152, [.lst 1 [[.int .i64 (3)], [.int .i64 (5)], [.int .i64 (6)]], .lst 1 [[.int .i64 (0)], [.int .i64 (1)]]], .bool false⟩
def k366 : Memo := ⟨151, [.int .i64 (105)], .fresh 1 [[.int .i64 (0)], [.int .i64 (3)], [.int .i64 (5)], [.int .i64 (6)]]⟩
def k367 : Memo := ⟨227, [g56, .lst 1 [[.int .i64 (0)], [.int .i64 (1)]]], .int .i64 (1)⟩
def k368 : Memo := ⟨152, [g56, .lst 1 [[.int .i64 (0)], [.int .i64 (1)]]], .bool false⟩
def k369 : Memo := ⟨151, [.int .i64 (106)], .fresh 1 [[.int .i64 (1)], [.int .i64 (3)], [.int .i64 (5)], [.int .i64 (6)]]⟩
def k370 : Memo := ⟨227, [g57, .lst 1 [[.int .i64 (0)], [.int .i64 (1)]]], .int .i64 (1)⟩
def k371 : Memo := ⟨152, [g57, .lst 1 [[.int .i64 (0)], [.int .i64 (1)]]], .bool false⟩
def k372 : Memo := ⟨151, [.int .i64 (107)], .fresh 1 [[.int .i64 (0)], [.int .i64 (1)], [.int .i64 (3)], [.int .i64 (5)], [.int .i64 (6)]]⟩
def k373 : Memo := ⟨227, [g58, .lst 1 [[.int .i64 (0)], [.int .i64 (1)]]], .int .i64 (1)⟩
def k374 : Memo := ⟨152, [g58, .lst 1 [[.int .i64 (0)], [.int .i64 (1)]]], .bool false⟩
def k375 : Memo := ⟨151, [.int .i64 (108)], .fresh 1 [[.int .i64 (2)], [.int .i64 (3)], [.int .i64 (5)], [.int .i64 (6)]]⟩
def k376 : Memo := ⟨227, [g59, .lst 1 [[.int .i64 (0)], [.int .i64 (1)]]], .int .i64 (1)⟩
def k377 : Memo := ⟨152, [g59, .lst 1 [[.int .i64 (0)], [.int .i64 (1)]]], .bool false⟩
def k378 : Memo := ⟨151, [.int .i64 (109)], .fresh 1 [[.int .i64 (0)], [.int .i64 (2)], [.int .i64 (3)], [.int .i64 (5)], [.int .i64 (6)]]⟩
def k379 : Memo := ⟨227, [g60, .lst 1 [[.int .i64 (0)], [.int .i64 (1)]]], .int .i64 (1)⟩
def k380 : Memo := ⟨152, [g60, .lst 1 [[.int .i64 (0)], [.int .i64 (1)]]], .bool false⟩
def k381 : Memo := ⟨151, [.int .i64 (110)], .fresh 1 [[.int .i64 (1)], [.int .i64 (2)], [.int .i64 (3)], [.int .i64 (5)], [.int .i64 (6)]]⟩
def k382 : Memo := ⟨227, [g61, .lst 1 [[.int .i64 (0)], [.int .i64 (1)]]], .int .i64 (1)⟩
def k383 : Memo := ⟨152, [g61, .lst 1 [[.int .i64 (0)], [.int .i64 (1)]]], .bool false⟩
def k384 : Memo := ⟨151, [.int .i64 (111)], .fresh 1 [[.int .i64 (0)], [.int .i64 (1)], [.int .i64 (2)], [.int .i64 (3)], [.int .i64 (5)], [.int .i64 (6)]]⟩
def k385 : Memo := ⟨227, [g62, .lst 1 [[.int .i64 (0)], [.int .i64 (1)]]], .int .i64 (1)⟩
def k386 : Memo := ⟨152, [g62, .lst 1 [[.int .i64 (0)], [.int .i64 (1)]]], .bool false⟩
def k387 : Memo := ⟨151, [.int .i64 (112)], .fresh 1 [[.int .i64 (4)], [.int .i64 (5)], [.int .i64 (6)]]⟩
def k388 : Memo := ⟨227, [.lst 1 [[.int .i64 (4)], [.int .i64 (5)], [.int .i64 (6)]], .lst 1 [[.int .i64 (0)], [.int .i64 (1)]]], .int .i64 (1)⟩
def k389 : Memo := ⟨152, [.lst 1 [[.int .i64 (4)], [.int .i64 (5)], [.int .i64 (6)]], .lst 1 [[.int .i64 (0)], [.int .i64 (1)]]], .bool false⟩
def k390 : Memo := ⟨151, [.int .i64 (113)], .fresh 1 [[.int .i64 (0)], [.int .i64 (4)], [.int .i64 (5)], [.int .i64 (6)]]⟩
def k391 : Memo := ⟨227, [g63, .lst 1 [[.int .i64 (0)], [.int .i64 (1)]]], .int .i64 (1)⟩
def k392 : Memo := ⟨152, [g63, .lst 1 [[.int .i64 (0)], [.int .i64 (1)]]], .bool false⟩
def k393 : Memo := ⟨151, [.int .i64 (114)], .fresh 1 [[.int .i64 (1)], [.int .i64 (4)], [.int .i64 (5)], [.int .i64 (6)]]⟩
def k394 : Memo := ⟨227, [g64, .lst 1 [[.int .i64 (0)], [.int .i64 (1)]]], .int .i64 (1)⟩
def k395 : Memo := ⟨152, [g64, .lst 1 [[.int .i64 (0)], [.int .i64 (1)]]], .bool false⟩
def k396 : Memo := ⟨151, [.int .i64 (115)], .fresh 1 [[.int .i64 (0)], [.int .i64 (1)], [.int .i64 (4)], [.int .i64 (5)], [.int .i64 (6)]]⟩
def k397 : Memo := ⟨227, [g65, .lst 1 [[.int .i64 (0)], [.int .i64 (1)]]], .int .i64 (1)⟩
def k398 : Memo := ⟨152, [g65, .lst 1 [[.int .i64 (0)], [.int .i64 (1)]]], .bool false⟩
def k399 : Memo := ⟨151, [.int .i64 (116)], .fresh 1 [[.int .i64 (2)], [.int .i64 (4)], [.int .i64 (5)], [.int .i64 (6)]]⟩
def k400 : Memo := ⟨227, [g66, .lst 1 [[.int .i64 (0)], [.int .i64 (1)]]], .int .i64 (1)⟩
def k401 : Memo := ⟨152, [g66, .lst 1 [[.int .i64 (0)], [.int .i64 (1)]]], .bool false⟩
def k402 : Memo := ⟨151, [.int .i64 (117)], .fresh 1 [[.int .i64 (0)], [.int .i64 (2)], [.int .i64 (4)], [.int .i64 (5)], [.int .i64 (6)]]⟩
def k403 : Memo := ⟨227, [g67, .lst 1 [[.int .i64 (0)], [.int .i64 (1)]]], .int .i64 (1)⟩
def k404 : Memo := ⟨152, [g67, .lst 1 [[.int .i64 (0)], [.int .i64 (1)]]], .bool false⟩
def k405 : Memo := ⟨151, [.int .i64 (118)], .fresh 1 [[.int .i64 (1)], [.int .i64 (2)], [.int .i64 (4)], [.int .i64 (5)], [.int .i64 (6)]]⟩
def k406 : Memo := ⟨227, [g68, .lst 1 [[.int .i64 (0)], [.int .i64 (1)]]], .int .i64 (1)⟩
def k407 : Memo := ⟨152, [g68, .lst 1 [[.int .i64 (0)], [.int .i64 (1)]]], .bool false⟩
def k408 : Memo := ⟨151, [.int .i64 (119)], .fresh 1 [[.int .i64 (0)], [.int .i64 (1)], [.int .i64 (2)], [.int .i64 (4)], [.int .i64 (5)], [.int .i64 (6)]]⟩
def k409 : Memo := ⟨227, [g69, .lst 1 [[.int .i64 (0)], [.int .i64 (1)]]], .int .i64 (1)⟩
def k410 : Memo := ⟨152, [g69, .lst 1 [[.int .i64 (0)], [.int .i64 (1)]]], .bool false⟩
def k411 : Memo := ⟨151, [.int .i64 (120)], .fresh 1 [[.int .i64 (3)], [.int .i64 (4)], [.int .i64 (5)], [.int .i64 (6)]]⟩
def k412 : Memo := ⟨227, [g70, .lst 1 [[.int .i64 (0)], [.int .i64 (1)]]], .int .i64 (1)⟩
def k413 : Memo := ⟨152, [g70, .lst 1 [[.int .i64 (0)], [.int .i64 (1)]]], .bool false⟩
def k414 : Memo := ⟨151, [.int .i64 (121)], .fresh 1 [[.int .i64 (0)], [.int .i64 (3)], [.int .i64 (4)], [.int .i64 (5)], [.int .i64 (6)]]⟩
def k415 : Memo := ⟨227, [g71, .lst 1 [[.int .i64 (0)], [.int .i64 (1)]]], .int .i64 (1)⟩
def k416 : Memo := ⟨152, [g71, .lst 1 [[.int .i64 (0)], [.int .i64 (1)]]], .bool false⟩
def k417 : Memo := ⟨151, [.int .i64 (122)], .fresh 1 [[.int .i64 (1)], [.int .i64 (3)], [.int .i64 (4)], [.int .i64 (5)], [.int .i64 (6)]]⟩
def k418 : Memo := ⟨227, [g72, .lst 1 [[.int .i64 (0)], [.int .i64 (1)]]], .int .i64 (1)⟩
def k419 : Memo := ⟨152, [g72, .lst 1 [[.int .i64 (0)], [.int .i64 (1)]]], .bool false⟩
def k420 : Memo := ⟨151, [.int .i64 (123)], .fresh 1 [[.int .i64 (0)], [.int .i64 (1)], [.int .i64 (3)], [.int .i64 (4)], [.int .i64 (5)], [.int .i64 (6)]]⟩
def k421 : Memo := ⟨227, [g73, .lst 1 [[.int .i64 (0)], [.int .i64 (1)]]], .int .i64 (1)⟩
def k422 : Memo := ⟨152, [g73, .lst 1 [[.int .i64 (0)], [.int .i64 (1)]]], .bool false⟩
def k423 : Memo := ⟨151, [.int .i64 (124)], .fresh 1 [[.int .i64 (2)], [.int .i64 (3)], [.int .i64 (4)], [.int .i64 (5)], [.int .i64 (6)]]⟩
def k424 : Memo := ⟨227, [g74, .lst 1 [[.int .i64 (0)], [.int .i64 (1)]]], .int .i64 (1)⟩
def k425 : Memo := ⟨152, [g74, .lst 1 [[.int .i64 (0)], [.int .i64 (1)]]], .bool false⟩
def k426 : Memo := ⟨151, [.int .i64 (125)], .fresh 1 [[.int .i64 (0)], [.int .i64 (2)], [.int .i64 (3)], [.int .i64 (4)], [.int .i64 (5)], [.int .i64 (6)]]⟩
def k427 : Memo := ⟨227, [g75, .lst 1 [[.int .i64 (0)], [.int .i64 (1)]]], .int .i64 (1)⟩
def k428 : Memo := ⟨152, [g75, .lst 1 [[.int .i64 (0)], [.int .i64 (1)]]], .bool false⟩
def k429 : Memo := ⟨151, [.int .i64 (126)], .fresh 1 [[.int .i64 (1)], [.int .i64 (2)], [.int .i64 (3)], [.int .i64 (4)], [.int .i64 (5)], [.int .i64 (6)]]⟩
def k430 : Memo := ⟨227, [g76, .lst 1 [[.int .i64 (0)], [.int .i64 (1)]]], .int .i64 (1)⟩
def k431 : Memo := ⟨152, [g76, .lst 1 [[.int .i64 (0)], [.int .i64 (1)]]], .bool false⟩
def k432 : Memo := ⟨151, [.int .i64 (127)], .fresh 1 [[.int .i64 (0)], [.int .i64 (1)], [.int .i64 (2)], [.int .i64 (3)], [.int .i64 (4)], [.int .i64 (5)], [.int .i64 (6)]]⟩
def k433 : Memo := ⟨227, [g77, .lst 1 [[.int .i64 (0)], [.int .i64 (1)]]], .int .i64 (1)⟩
def k434 : Memo := ⟨152, [g77, .lst 1 [[.int .i64 (0)], [.int .i64 (1)]]], .bool false⟩
def k435 : Memo := ⟨151, [.int .i64 (128)], .fresh 1 [[.int .i64 (7)]]⟩
def k436 : Memo := ⟨227, [.lst 1 [[.int .i64 (7)]], .lst 1 [[.int .i64 (0)], [.int .i64 (1)]]], .int .i64 (1)⟩
def k437 : Memo := ⟨152, [.lst 1 [[.int .i64 (7)]], .lst 1 [[.int .i64 (0)], [.int .i64 (1)]]], .bool true⟩
def k438 : Memo := ⟨228, [g2, .int .i64 (128)], g10⟩
def k439 : Memo := ⟨228, [g1, .int .i64 (128)], g10⟩
def k440 : Memo := ⟨151, [.int .i64 (129)], .fresh 1 [[.int .i64 (0)], [.int .i64 (7)]]⟩
def k441 : Memo := ⟨227, [.lst 1 [[.int .i64 (0)], [.int .i64 (7)]], .lst 1 [[.int .i64 (0)], [.int .i64 (1)]]], .int .i64 (1)⟩
def k442 : Memo := ⟨152, [.lst 1 [[.int .i64 (0)], [.int .i64 (7)]], .lst 1 [[.int .i64 (0)], [.int .i64 (1)]]], .bool false⟩
def k443 : Memo := ⟨151, [.int .i64 (130)], .fresh 1 [[.int .i64 (1)], [.int .i64 (7)]]⟩
def k444 : Memo := ⟨227, [.lst 1 [[.int .i64 (1)], [.int .i64 (7)]], .lst 1 [[.int .i64 (0)], [.int .i64 (1)]]], .int .i64 (1)⟩
def k445 : Memo := ⟨152, [.lst 1 [[.int .i64 (1)], [.int .i64 (7)]], .lst 1 [[.int .i64 (0)], [.int .i64 (1)]]], .bool false⟩
def k446 : Memo := ⟨151, [.int .i64 (131)], .fresh 1 [[.int .i64 (0)], [.int .i64 (1)], [.int .i64 (7)]]⟩
def k447 : Memo := ⟨227, [.lst 1 [[.int .i64 (0)], [.int .i64 (1)], [.int .i64 (7)]], .lst 1 [[.int .i64 (0)], [.int .i64 (1)]]], .int .i64 (1)⟩
def k448 : Memo := ⟨152, [.lst 1 [[.int .i64 (0)], [.int .i64 (1)], [.int .i64 (7)]], .lst 1 [[.int .i64 (0)], [.int .i64 (1)]]], .bool false⟩
def k449 : Memo := ⟨151, [.int .i64 (132)], .fresh 1 [[.int .i64 (2)], [.int .i64 (7)]]⟩
def k450 : Memo := ⟨227, [.lst 1 [[.int .i64 (2)], [.int .i64 (7)]], .lst 1 [[.int .i64 (0)], [.int .i64 (1)]]], .int .i64 (1)⟩
def k451 : Memo := ⟨152, [.lst 1 [[.int .i64 (2)], [.int .i64 (7)]], .lst 1 [[.int .i64 (0)], [.int .i64 (1)]]], .bool false⟩
def k452 : Memo := ⟨151, [.int .i64 (133)], .fresh 1 [[.int .i64 (0)], [.int .i64 (2)], [.int .i64 (7)]]⟩
def k453 : Memo := ⟨227, [.lst 1 [[.int .i64 (0)], [.int .i64 (2)], [.int .i64 (7)]], .lst 1 [[.int .i64 (0)], [.int .i64 (1)]]], .int .i64 (1)⟩
def k454 : Memo := ⟨152, [.lst 1 [[.int .i64 (0)], [.int .i64 (2)], [.int .i64 (7)]], .lst 1 [[.int .i64 (0)], [.int .i64 (1)]]], .bool false⟩
def k455 : Memo := ⟨151, [.int .i64 (134)], .fresh 1 [[.int .i64 (1)], [.int .i64 (2)], [.int .i64 (7)]]⟩
theorem ok274 : PuOK prog k274.f k274.args k274.t := known (L := .nil) mN (by kernel_rfl)
theorem ok275 : PuOK prog k275.f k275.args k275.t := known (L := (.one k274 .nil)) (mO ok274 mN) (by kernel_rfl)
theorem ok276 : PuOK prog k276.f k276.args k276.t := known (L := .nil) mN (by kernel_rfl)
theorem ok277 : PuOK prog k277.f k277.args k277.t := known (L := .nil) mN (by kernel_rfl)
theorem ok278 : PuOK prog k278.f k278.args k278.t := known (L := (.one k277 .nil)) (mO ok277 mN) (by kernel_rfl)
theorem ok279 : PuOK prog k279.f k279.args k279.t := known (L := .nil) mN (by kernel_rfl)
theorem ok280 : PuOK prog k280.f k280.args k280.t := known (L := .nil) mN (by kernel_rfl)
theorem ok281 : PuOK prog k281.f k281.args k281.t := known (L := (.one k280 .nil)) (mO ok280 mN) (by kernel_rfl)
theorem ok282 : PuOK prog k282.f k282.args k282.t := known (L := .nil) mN (by kernel_rfl)
theorem ok283 : PuOK prog k283.f k283.args k283.t := known (L := .nil) mN (by kernel_rfl)
theorem ok284 : PuOK prog k284.f k284.args k284.t := known (L := (.one k283 .nil)) (mO ok283 mN) (by kernel_rfl)
theorem ok285 : PuOK prog k285.f k285.args k285.t := known (L := .nil) mN (by kernel_rfl)
theorem ok286 : PuOK prog k286.f k286.args k286.t := known (L := .nil) mN (by kernel_rfl)
theorem ok287 : PuOK prog k287.f k287.args k287.t := known (L := (.one k286 .nil)) (mO ok286 mN) (by kernel_rfl)
theorem ok288 : PuOK prog k288.f k288.args k288.t := known (L := .nil) mN (by kernel_rfl)
theorem ok289 : PuOK prog k289.f k289.args k289.t := known (L := .nil) mN (by kernel_rfl)
theorem ok290 : PuOK prog k290.f k290.args k290.t := known (L := (.one k289 .nil)) (mO ok289 mN) (by kernel_rfl)
theorem ok291 : PuOK prog k291.f k291.args k291.t := known (L := .nil) mN (by kernel_rfl)
theorem ok292 : PuOK prog k292.f k292.args k292.t := known (L := .nil) mN (by kernel_rfl)
theorem ok293 : PuOK prog k293.f k293.args k293.t := known (L := (.one k292 .nil)) (mO ok292 mN) (by kernel_rfl)
theorem ok294 : PuOK prog k294.f k294.args k294.t := known (L := .nil) mN (by kernel_rfl)
theorem ok295 : PuOK prog k295.f k295.args k295.t := known (L := .nil) mN (by kernel_rfl)
theorem ok296 : PuOK prog k296.f k296.args k296.t := known (L := (.one k295 .nil)) (mO ok295 mN) (by kernel_rfl)
theorem ok297 : PuOK prog k297.f k297.args k297.t := known (L := .nil) mN (by kernel_rfl)
theorem ok298 : PuOK prog k298.f k298.args k298.t := known (L := .nil) mN (by kernel_rfl)
theorem ok299 : PuOK prog k299.f k299.args k299.t := known (L := (.one k298 .nil)) (mO ok298 mN) (by kernel_rfl)
theorem ok300 : PuOK prog k300.f k300.args k300.t := known (L := .nil) mN (by kernel_rfl)
theorem ok301 : PuOK prog k301.f k301.args k301.t := known (L := .nil) mN (by kernel_rfl)
theorem ok302 : PuOK prog k302.f k302.args k302.t := known (L := (.one k301 .nil)) (mO ok301 mN) (by kernel_rfl)
theorem ok303 : PuOK prog k303.f k303.args k303.t := known (L := .nil) mN (by kernel_rfl)
theorem ok304 : PuOK prog k304.f k304.args k304.t := known (L := .nil) mN (by kernel_rfl)
theorem ok305 : PuOK prog k305.f k305.args k305.t := known (L := (.one k304 .nil)) (mO ok304 mN) (by kernel_rfl)
theorem ok306 : PuOK prog k306.f k306.args k306.t := known (L := .nil) mN (by kernel_rfl)
theorem ok307 : PuOK prog k307.f k307.args k307.t := known (L := .nil) mN (by kernel_rfl)
theorem ok308 : PuOK prog k308.f k308.args k308.t := known (L := (.one k307 .nil)) (mO ok307 mN) (by kernel_rfl)
theorem ok309 : PuOK prog k309.f k309.args k309.t := known (L := .nil) mN (by kernel_rfl)
theorem ok310 : PuOK prog k310.f k310.args k310.t := known (L := .nil) mN (by kernel_rfl)
theorem ok311 : PuOK prog k311.f k311.args k311.t := known (L := (.one k310 .nil)) (mO ok310 mN) (by kernel_rfl)
theorem ok312 : PuOK prog k312.f k312.args k312.t := known (L := .nil) mN (by kernel_rfl)
theorem ok313 : PuOK prog k313.f k313.args k313.t := known (L := .nil) mN (by kernel_rfl)
theorem ok314 : PuOK prog k314.f k314.args k314.t := known (L := (.one k313 .nil)) (mO ok313 mN) (by kernel_rfl)
theorem ok315 : PuOK prog k315.f k315.args k315.t := known (L := .nil) mN (by kernel_rfl)
theorem ok316 : PuOK prog k316.f k316.args k316.t := known (L := .nil) mN (by kernel_rfl)
theorem ok317 : PuOK prog k317.f k317.args k317.t := known (L := (.one k316 .nil)) (mO ok316 mN) (by kernel_rfl)
theorem ok318 : PuOK prog k318.f k318.args k318.t := known (L := .nil) mN (by kernel_rfl)
theorem ok319 : PuOK prog k319.f k319.args k319.t := known (L := .nil) mN (by kernel_rfl)
theorem ok320 : PuOK prog k320.f k320.args k320.t := known (L := (.one k319 .nil)) (mO ok319 mN) (by kernel_rfl)
theorem ok321 : PuOK prog k321.f k321.args k321.t := known (L := .nil) mN (by kernel_rfl)
theorem ok322 : PuOK prog k322.f k322.args k322.t := known (L := .nil) mN (by kernel_rfl)
theorem ok323 : PuOK prog k323.f k323.args k323.t := known (L := (.one k322 .nil)) (mO ok322 mN) (by kernel_rfl)
theorem ok324 : PuOK prog k324.f k324.args k324.t := known (L := .nil) mN (by kernel_rfl)
theorem ok325 : PuOK prog k325.f k325.args k325.t := known (L := .nil) mN (by kernel_rfl)
theorem ok326 : PuOK prog k326.f k326.args k326.t := known (L := (.one k325 .nil)) (mO ok325 mN) (by kernel_rfl)
theorem ok327 : PuOK prog k327.f k327.args k327.t := known (L := .nil) mN (by kernel_rfl)
theorem ok328 : PuOK prog k328.f k328.args k328.t := known (L := .nil) mN (by kernel_rfl)
theorem ok329 : PuOK prog k329.f k329.args k329.t := known (L := (.one k328 .nil)) (mO ok328 mN) (by kernel_rfl)
theorem ok330 : PuOK prog k330.f k330.args k330.t := known (L := .nil) mN (by kernel_rfl)
theorem ok331 : PuOK prog k331.f k331.args k331.t := known (L := .nil) mN (by kernel_rfl)
theorem ok332 : PuOK prog k332.f k332.args k332.t := known (L := (.one k331 .nil)) (mO ok331 mN) (by kernel_rfl)
theorem ok333 : PuOK prog k333.f k333.args k333.t := known (L := .nil) mN (by kernel_rfl)
theorem ok334 : PuOK prog k334.f k334.args k334.t := known (L := .nil) mN (by kernel_rfl)
theorem ok335 : PuOK prog k335.f k335.args k335.t := known (L := (.one k334 .nil)) (mO ok334 mN) (by kernel_rfl)
theorem ok336 : PuOK prog k336.f k336.args k336.t := known (L := .nil) mN (by kernel_rfl)
theorem ok337 : PuOK prog k337.f k337.args k337.t := known (L := .nil) mN (by kernel_rfl)
theorem ok338 : PuOK prog k338.f k338.args k338.t := known (L := (.one k337 .nil)) (mO ok337 mN) (by kernel_rfl)
theorem ok339 : PuOK prog k339.f k339.args k339.t := known (L := .nil) mN (by kernel_rfl)
theorem ok340 : PuOK prog k340.f k340.args k340.t := known (L := .nil) mN (by kernel_rfl)
theorem ok341 : PuOK prog k341.f k341.args k341.t := known (L := (.one k340 .nil)) (mO ok340 mN) (by kernel_rfl)
theorem ok342 : PuOK prog k342.f k342.args k342.t := known (L := .nil) mN (by kernel_rfl)
theorem ok343 : PuOK prog k343.f k343.args k343.t := known (L := .nil) mN (by kernel_rfl)
theorem ok344 : PuOK prog k344.f k344.args k344.t := known (L := (.one k343 .nil)) (mO ok343 mN) (by kernel_rfl)
theorem ok345 : PuOK prog k345.f k345.args k345.t := known (L := .nil) mN (by kernel_rfl)
theorem ok346 : PuOK prog k346.f k346.args k346.t := known (L := .nil) mN (by kernel_rfl)
theorem ok347 : PuOK prog k347.f k347.args k347.t := known (L := (.one k346 .nil)) (mO ok346 mN) (by kernel_rfl)
theorem ok348 : PuOK prog k348.f k348.args k348.t := known (L := .nil) mN (by kernel_rfl)
theorem ok349 : PuOK prog k349.f k349.args k349.t := known (L := .nil) mN (by kernel_rfl)
theorem ok350 : PuOK prog k350.f k350.args k350.t := known (L := (.one k349 .nil)) (mO ok349 mN) (by kernel_rfl)
theorem ok351 : PuOK prog k351.f k351.args k351.t := known (L := .nil) mN (by kernel_rfl)
theorem ok352 : PuOK prog k352.f k352.args k352.t := known (L := .nil) mN (by kernel_rfl)
theorem ok353 : PuOK prog k353.f k353.args k353.t := known (L := (.one k352 .nil)) (mO ok352 mN) (by kernel_rfl)
theorem ok354 : PuOK prog k354.f k354.args k354.t := known (L := .nil) mN (by kernel_rfl)
theorem ok355 : PuOK prog k355.f k355.args k355.t := known (L := .nil) mN (by kernel_rfl)
theorem ok356 : PuOK prog k356.f k356.args k356.t := known (L := (.one k355 .nil)) (mO ok355 mN) (by kernel_rfl)
theorem ok357 : PuOK prog k357.f k357.args k357.t := known (L := .nil) mN (by kernel_rfl)
theorem ok358 : PuOK prog k358.f k358.args k358.t := known (L := .nil) mN (by kernel_rfl)
theorem ok359 : PuOK prog k359.f k359.args k359.t := known (L := (.one k358 .nil)) (mO ok358 mN) (by kernel_rfl)
theorem ok360 : PuOK prog k360.f k360.args k360.t := known (L := .nil) mN (by kernel_rfl)
theorem ok361 : PuOK prog k361.f k361.args k361.t := known (L := .nil) mN (by kernel_rfl)
theorem ok362 : PuOK prog k362.f k362.args k362.t := known (L := (.one k361 .nil)) (mO ok361 mN) (by kernel_rfl)
theorem ok363 : PuOK prog k363.f k363.args k363.t := known (L := .nil) mN (by kernel_rfl)
theorem ok364 : PuOK prog k364.f k364.args k364.t := known (L := .nil) mN (by kernel_rfl)
theorem ok365 : PuOK prog k365.f k365.args k365.t := known (L := (.one k364 .nil)) (mO ok364 mN) (by kernel_rfl)
theorem ok366 : PuOK prog k366.f k366.args k366.t := known (L := .nil) mN (by kernel_rfl)
theorem ok367 : PuOK prog k367.f k367.args k367.t := known (L := .nil) mN (by kernel_rfl)
theorem ok368 : PuOK prog k368.f k368.args k368.t := known (L := (.one k367 .nil)) (mO ok367 mN) (by kernel_rfl)
theorem ok369 : PuOK prog k369.f k369.args k369.t := known (L := .nil) mN (by kernel_rfl)
theorem ok370 : PuOK prog k370.f k370.args k370.t := known (L := .nil) mN (by kernel_rfl)
theorem ok371 : PuOK prog k371.f k371.args k371.t := known (L := (.one k370 .nil)) (mO ok370 mN) (by kernel_rfl)
theorem ok372 : PuOK prog k372.f k372.args k372.t := known (L := .nil) mN (by kernel_rfl)
theorem ok373 : PuOK prog k373.f k373.args k373.t := known (L := .nil) mN (by kernel_rfl)
theorem ok374 : PuOK prog k374.f k374.args k374.t := known (L := (.one k373 .nil)) (mO ok373 mN) (by kernel_rfl)
theorem ok375 : PuOK prog k375.f k375.args k375.t := known (L := .nil) mN (by kernel_rfl)
theorem ok376 : PuOK prog k376.f k376.args k376.t := known (L := .nil) mN (by kernel_rfl)
theorem ok377 : PuOK prog k377.f k377.args k377.t := known (L := (.one k376 .nil)) (mO ok376 mN) (by kernel_rfl)
theorem ok378 : PuOK prog k378.f k378.args k378.t := known (L := .nil) mN (by kernel_rfl)
theorem ok379 : PuOK prog k379.f k379.args k379.t := known (L := .nil) mN (by kernel_rfl)
theorem ok380 : PuOK prog k380.f k380.args k380.t := known (L := (.one k379 .nil)) (mO ok379 mN) (by kernel_rfl)
theorem ok381 : PuOK prog k381.f k381.args k381.t := known (L := .nil) mN (by kernel_rfl)
theorem ok382 : PuOK prog k382.f k382.args k382.t := known (L := .nil) mN (by kernel_rfl)
theorem ok383 : PuOK prog k383.f k383.args k383.t := known (L := (.one k382 .nil)) (mO ok382 mN) (by kernel_rfl)
theorem ok384 : PuOK prog k384.f k384.args k384.t := known (L := .nil) mN (by kernel_rfl)
theorem ok385 : PuOK prog k385.f k385.args k385.t := known (L := .nil) mN (by kernel_rfl)
theorem ok386 : PuOK prog k386.f k386.args k386.t := known (L := (.one k385 .nil)) (mO ok385 mN) (by kernel_rfl)
theorem ok387 : PuOK prog k387.f k387.args k387.t := known (L := .nil) mN (by kernel_rfl)
theorem ok388 : PuOK prog k388.f k388.args k388.t := known (L := .nil) mN (by kernel_rfl)
theorem ok389 : PuOK prog k389.f k389.args k389.t := known (L := (.one k388 .nil)) (mO ok388 mN) (by kernel_rfl)
theorem ok390 : PuOK prog k390.f k390.args k390.t := known (L := .nil) mN (by kernel_rfl)
theorem ok391 : PuOK prog k391.f k391.args k391.t := known (L := .nil) mN (by kernel_rfl)
theorem ok392 : PuOK prog k392.f k392.args k392.t := known (L := (.one k391 .nil)) (mO ok391 mN) (by kernel_rfl)
theorem ok393 : PuOK prog k393.f k393.args k393.t := known (L := .nil) mN (by kernel_rfl)
theorem ok394 : PuOK prog k394.f k394.args k394.t := known (L := .nil) mN (by kernel_rfl)
theorem ok395 : PuOK prog k395.f k395.args k395.t := known (L := (.one k394 .nil)) (mO ok394 mN) (by kernel_rfl)
theorem ok396 : PuOK prog k396.f k396.args k396.t := known (L := .nil) mN (by kernel_rfl)
theorem ok397 : PuOK prog k397.f k397.args k397.t := known (L := .nil) mN (by kernel_rfl)
theorem ok398 : PuOK prog k398.f k398.args k398.t := known (L := (.one k397 .nil)) (mO ok397 mN) (by kernel_rfl)
theorem ok399 : PuOK prog k399.f k399.args k399.t := known (L := .nil) mN (by kernel_rfl)
theorem ok400 : PuOK prog k400.f k400.args k400.t := known (L := .nil) mN (by kernel_rfl)
theorem ok401 : PuOK prog k401.f k401.args k401.t := known (L := (.one k400 .nil)) (mO ok400 mN) (by kernel_rfl)
theorem ok402 : PuOK prog k402.f k402.args k402.t := known (L := .nil) mN (by kernel_rfl)
theorem ok403 : PuOK prog k403.f k403.args k403.t := known (L := .nil) mN (by kernel_rfl)
theorem ok404 : PuOK prog k404.f k404.args k404.t := known (L := (.one k403 .nil)) (mO ok403 mN) (by kernel_rfl)
theorem ok405 : PuOK prog k405.f k405.args k405.t := known (L := .nil) mN (by kernel_rfl)
theorem ok406 : PuOK prog k406.f k406.args k406.t := known (L := .nil) mN (by kernel_rfl)
theorem ok407 : PuOK prog k407.f k407.args k407.t := known (L := (.one k406 .nil)) (mO ok406 mN) (by kernel_rfl)
theorem ok408 : PuOK prog k408.f k408.args k408.t := known (L := .nil) mN (by kernel_rfl)
theorem ok409 : PuOK prog k409.f k409.args k409.t := known (L := .nil) mN (by kernel_rfl)
theorem ok410 : PuOK prog k410.f k410.args k410.t := known (L := (.one k409 .nil)) (mO ok409 mN) (by kernel_rfl)
theorem ok411 : PuOK prog k411.f k411.args k411.t := known (L := .nil) mN (by kernel_rfl)
theorem ok412 : PuOK prog k412.f k412.args k412.t := known (L := .nil) mN (by kernel_rfl)
theorem ok413 : PuOK prog k413.f k413.args k413.t := known (L := (.one k412 .nil)) (mO ok412 mN) (by kernel_rfl)
theorem ok414 : PuOK prog k414.f k414.args k414.t := known (L := .nil) mN (by kernel_rfl)
theorem ok415 : PuOK prog k415.f k415.args k415.t := known (L := .nil) mN (by kernel_rfl)
theorem ok416 : PuOK prog k416.f k416.args k416.t := known (L := (.one k415 .nil)) (mO ok415 mN) (by kernel_rfl)
theorem ok417 : PuOK prog k417.f k417.args k417.t := known (L := .nil) mN (by kernel_rfl)
theorem ok418 : PuOK prog k418.f k418.args k418.t := known (L := .nil) mN (by kernel_rfl)
theorem ok419 : PuOK prog k419.f k419.args k419.t := known (L := (.one k418 .nil)) (mO ok418 mN) (by kernel_rfl)
theorem ok420 : PuOK prog k420.f k420.args k420.t := known (L := .nil) mN (by kernel_rfl)
theorem ok421 : PuOK prog k421.f k421.args k421.t := known (L := .nil) mN (by kernel_rfl)
theorem ok422 : PuOK prog k422.f k422.args k422.t := known (L := (.one k421 .nil)) (mO ok421 mN) (by kernel_rfl)
theorem ok423 : PuOK prog k423.f k423.args k423.t := known (L := .nil) mN (by kernel_rfl)
theorem ok424 : PuOK prog k424.f k424.args k424.t := known (L := .nil) mN (by kernel_rfl)
theorem ok425 : PuOK prog k425.f k425.args k425.t := known (L := (.one k424 .nil)) (mO ok424 mN) (by kernel_rfl)
theorem ok426 : PuOK prog k426.f k426.args k426.t := known (L := .nil) mN (by kernel_rfl)
theorem ok427 : PuOK prog k427.f k427.args k427.t := known (L := .nil) mN (by kernel_rfl)
theorem ok428 : PuOK prog k428.f k428.args k428.t := known (L := (.one k427 .nil)) (mO ok427 mN) (by kernel_rfl)
theorem ok429 : PuOK prog k429.f k429.args k429.t := known (L := .nil) mN (by kernel_rfl)
theorem ok430 : PuOK prog k430.f k430.args k430.t := known (L := .nil) mN (by kernel_rfl)
theorem ok431 : PuOK prog k431.f k431.args k431.t := known (L := (.one k430 .nil)) (mO ok430 mN) (by kernel_rfl)
theorem ok432 : PuOK prog k432.f k432.args k432.t := known (L := .nil) mN (by kernel_rfl)
theorem ok433 : PuOK prog k433.f k433.args k433.t := known (L := .nil) mN (by kernel_rfl)
theorem ok434 : PuOK prog k434.f k434.args k434.t := known (L := (.one k433 .nil)) (mO ok433 mN) (by kernel_rfl)
theorem ok435 : PuOK prog k435.f k435.args k435.t := known (L := .nil) mN (by kernel_rfl)
theorem ok436 : PuOK prog k436.f k436.args k436.t := known (L := .nil) mN (by kernel_rfl)
theorem ok437 : PuOK prog k437.f k437.args k437.t := known (L := (.one k436 .nil)) (mO ok436 mN) (by kernel_rfl)
theorem ok438 : PuOK prog k438.f k438.args k438.t := known (L := .nil) mN (by kernel_rfl)
theorem ok439 : PuOK prog k439.f k439.args k439.t := known (L := .nil) mN (by kernel_rfl)
theorem ok440 : PuOK prog k440.f k440.args k440.t := known (L := .nil) mN (by kernel_rfl)
theorem ok441 : PuOK prog k441.f k441.args k441.t := known (L := .nil) mN (by kernel_rfl)
theorem ok442 : PuOK prog k442.f k442.args k442.t := known (L := (.one k441 .nil)) (mO ok441 mN) (by kernel_rfl)
theorem ok443 : PuOK prog k443.f k443.args k443.t := known (L := .nil) mN (by kernel_rfl)
theorem ok444 : PuOK prog k444.f k444.args k444.t := known (L := .nil) mN (by kernel_rfl)
theorem ok445 : PuOK prog k445.f k445.args k445.t := known (L := (.one k444 .nil)) (mO ok444 mN) (by kernel_rfl)
theorem ok446 : PuOK prog k446.f k446.args k446.t := known (L := .nil) mN (by kernel_rfl)
theorem ok447 : PuOK prog k447.f k447.args k447.t := known (L := .nil) mN (by kernel_rfl)
theorem ok448 : PuOK prog k448.f k448.args k448.t := known (L := (.one k447 .nil)) (mO ok447 mN) (by kernel_rfl)
theorem ok449 : PuOK prog k449.f k449.args k449.t := known (L := .nil) mN (by kernel_rfl)
theorem ok450 : PuOK prog k450.f k450.args k450.t := known (L := .nil) mN (by kernel_rfl)
theorem ok451 : PuOK prog k451.f k451.args k451.t := known (L := (.one k450 .nil)) (mO ok450 mN) (by kernel_rfl)
theorem ok452 : PuOK prog k452.f k452.args k452.t := known (L := .nil) mN (by kernel_rfl)
theorem ok453 : PuOK prog k453.f k453.args k453.t := known (L := .nil) mN (by kernel_rfl)
theorem ok454 : PuOK prog k454.f k454.args k454.t := known (L := (.one k453 .nil)) (mO ok453 mN) (by kernel_rfl)
theorem ok455 : PuOK prog k455.f k455.args k455.t := known (L := .nil) mN (by kernel_rfl)
end Go.V
