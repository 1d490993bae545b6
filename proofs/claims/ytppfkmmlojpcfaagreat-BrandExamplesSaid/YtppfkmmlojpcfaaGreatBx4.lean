/- Calls, evaluated. -/
import Derived.Test.YtppfkmmlojpcfaaGreatBx0
set_option linter.unusedVariables false
set_option maxRecDepth 100000
namespace Go.V
open Go.Proofs.Tryz (prog)
def k456 : Memo := ⟨227, [.lst 1 [[.int .i64 (1)], [.int .i64 (2)], [.int .i64 (7)]], .lst 1 [[.int .i64 (0)], [.int .i64 (1)]]], .int .i64 (1)⟩
def k457 : Memo := ⟨152, [.lst 1 [[.int .i64 (1)], [.int .i64 (2)], [.int .i64 (7)]], .lst 1 [[.int .i64 (0)], [.int .i64 (1)]]], .bool false⟩
def k458 : Memo := ⟨151, [.int .i64 (135)], .fresh 1 [[.int .i64 (0)], [.int .i64 (1)], [.int .i64 (2)], [.int .i64 (7)]]⟩
def k459 : Memo := ⟨227, [g78, .lst 1 [[.int .i64 (0)], [.int .i64 (1)]]], .int .i64 (1)⟩
def k460 : Memo := ⟨152, [g78, .lst 1 [[.int .i64 (0)], [.int .i64 (1)]]], .bool false⟩
def k461 : Memo := ⟨151, [.int .i64 (136)], .fresh 1 [[.int .i64 (3)], [.int .i64 (7)]]⟩
def k462 : Memo := ⟨227, [.lst 1 [[.int .i64 (3)], [.int .i64 (7)]], .lst 1 [[.int .i64 (0)], [.int .i64 (1)]]], .int .i64 (1)⟩
def k463 : Memo := ⟨152, [.lst 1 [[.int .i64 (3)], [.int .i64 (7)]], .lst 1 [[.int .i64 (0)], [.int .i64 (1)]]], .bool false⟩
def k464 : Memo := ⟨151, [.int .i64 (137)], .fresh 1 [[.int .i64 (0)], [.int .i64 (3)], [.int .i64 (7)]]⟩
def k465 : Memo := ⟨227, [.lst 1 [[.int .i64 (0)], [.int .i64 (3)], [.int .i64 (7)]], .lst 1 [[.int .i64 (0)], [.int .i64 (1)]]], .int .i64 (1)⟩
def k466 : Memo := ⟨152, [.lst 1 [[.int .i64 (0)], [.int .i64 (3)], [.int .i64 (7)]], .lst 1 [[.int .i64 (0)], [.int .i64 (1)]]], .bool false⟩
def k467 : Memo := ⟨151, [.int .i64 (138)], .fresh 1 [[.int .i64 (1)], [.int .i64 (3)], [.int .i64 (7)]]⟩
def k468 : Memo := ⟨227, [.lst 1 [[.int .i64 (1)], [.int .i64 (3)], [.int .i64 (7)]], .lst 1 [[.int .i64 (0)], [.int .i64 (1)]]], .int .i64 (1)⟩
def k469 : Memo := ⟨152, [.lst 1 [[.int .i64 (1)], [.int .i64 (3)], [.int .i64 (7)]], .lst 1 [[.int .i64 (0)], [.int .i64 (1)]]], .bool false⟩
def k470 : Memo := ⟨151, [.int .i64 (139)], .fresh 1 [[.int .i64 (0)], [.int .i64 (1)], [.int .i64 (3)], [.int .i64 (7)]]⟩
def k471 : Memo := ⟨227, [g79, .lst 1 [[.int .i64 (0)], [.int .i64 (1)]]], .int .i64 (1)⟩
def k472 : Memo := ⟨152, [g79, .lst 1 [[.int .i64 (0)], [.int .i64 (1)]]], .bool false⟩
def k473 : Memo := ⟨151, [.int .i64 (140)], .fresh 1 [[.int .i64 (2)], [.int .i64 (3)], [.int .i64 (7)]]⟩
def k474 : Memo := ⟨227, [.lst 1 [[.int .i64 (2)], [.int .i64 (3)], [.int .i64 (7)]], .lst 1 [[.int .i64 (0)], [.int .i64 (1)]]], .int .i64 (1)⟩
def k475 : Memo := ⟨152, [.lst 1 [[.int .i64 (2)], [.int .i64 (3)], [.int .i64 (7)]], .lst 1 [[.int .i64 (0)], [.int .i64 (1)]]], .bool false⟩
def k476 : Memo := ⟨151, [.int .i64 (141)], .fresh 1 [[.int .i64 (0)], [.int .i64 (2)], [.int .i64 (3)], [.int .i64 (7)]]⟩
def k477 : Memo := ⟨227, [g80, .lst 1 [[.int .i64 (0)], [.int .i64 (1)]]], .int .i64 (1)⟩
def k478 : Memo := ⟨152, [g80, .lst 1 [[.int .i64 (0)], [.int .i64 (1)]]], .bool false⟩
def k479 : Memo := ⟨151, [.int .i64 (142)], .fresh 1 [[.int .i64 (1)], [.int .i64 (2)], [.int .i64 (3)], [.int .i64 (7)]]⟩
def k480 : Memo := ⟨227, [g81, .lst 1 [[.int .i64 (0)], [.int .i64 (1)]]], .int .i64 (1)⟩
def k481 : Memo := ⟨152, [g81, .lst 1 [[.int .i64 (0)], [.int .i64 (1)]]], .bool false⟩
def k482 : Memo := ⟨151, [.int .i64 (143)], .fresh 1 [[.int .i64 (0)], [.int .i64 (1)], [.int .i64 (2)], [.int .i64 (3)], [.int .i64 (7)]]⟩
def k483 : Memo := ⟨227, [g82, .lst 1 [[.int .i64 (0)], [.int .i64 (1)]]], .int .i64 (1)⟩
def k484 : Memo := ⟨152, [g82, .lst 1 [[.int .i64 (0)], [.int .i64 (1)]]], .bool false⟩
def k485 : Memo := ⟨151, [.int .i64 (144)], .fresh 1 [[.int .i64 (4)], [.int .i64 (7)]]⟩
def k486 : Memo := ⟨227, [.lst 1 [[.int .i64 (4)], [.int .i64 (7)]], .lst 1 [[.int .i64 (0)], [.int .i64 (1)]]], .int .i64 (1)⟩
def k487 : Memo := ⟨152, [.lst 1 [[.int .i64 (4)], [.int .i64 (7)]], .lst 1 [[.int .i64 (0)], [.int .i64 (1)]]], .bool false⟩
def k488 : Memo := ⟨151, [.int .i64 (145)], .fresh 1 [[.int .i64 (0)], [.int .i64 (4)], [.int .i64 (7)]]⟩
def k489 : Memo := ⟨227, [.lst 1 [[.int .i64 (0)], [.int .i64 (4)], [.int .i64 (7)]], .lst 1 [[.int .i64 (0)], [.int .i64 (1)]]], .int .i64 (1)⟩
def k490 : Memo := ⟨152, [.lst 1 [[.int .i64 (0)], [.int .i64 (4)], [.int .i64 (7)]], .lst 1 [[.int .i64 (0)], [.int .i64 (1)]]], .bool false⟩
def k491 : Memo := ⟨151, [.int .i64 (146)], .fresh 1 [[.int .i64 (1)], [.int .i64 (4)], [.int .i64 (7)]]⟩
def k492 : Memo := ⟨227, [.lst 1 [[.int .i64 (1)], [.int .i64 (4)], [.int .i64 (7)]], .lst 1 [[.int .i64 (0)], [.int .i64 (1)]]], .int .i64 (1)⟩
def k493 : Memo := ⟨152, [.lst 1 [[.int .i64 (1)], [.int .i64 (4)], [.int .i64 (7)]], .lst 1 [[.int .i64 (0)], [.int .i64 (1)]]], .bool false⟩
def k494 : Memo := ⟨151, [.int .i64 (147)], .fresh 1 [[.int .i64 (0)], [.int .i64 (1)], [.int .i64 (4)], [.int .i64 (7)]]⟩
def k495 : Memo := ⟨227, [g83, .lst 1 [[.int .i64 (0)], [.int .i64 (1)]]], .int .i64 (1)⟩
def k496 : Memo := ⟨152, [g83, .lst 1 [[.int .i64 (0)], [.int .i64 (1)]]], .bool false⟩
def k497 : Memo := ⟨151, [.int .i64 (148)], .fresh 1 [[.int .i64 (2)], [.int .i64 (4)], [.int .i64 (7)]]⟩
def k498 : Memo := ⟨227, [.lst 1 [[.int .i64 (2)], [.int .i64 (4)], [.int .i64 (7)]], .lst 1 [[.int .i64 (0)], [.int .i64 (1)]]], .int .i64 (1)⟩
def k499 : Memo := ⟨152, [.lst 1 [[.int .i64 (2)], [.int .i64 (4)], [.int .i64 (7)]], .lst 1 [[.int .i64 (0)], [.int .i64 (1)]]], .bool false⟩
def k500 : Memo := ⟨151, [.int .i64 (149)], .fresh 1 [[.int .i64 (0)], [.int .i64 (2)], [.int .i64 (4)], [.int .i64 (7)]]⟩
def k501 : Memo := ⟨227, [g84, .lst 1 [[.int .i64 (0)], [.int .i64 (1)]]], .int .i64 (1)⟩
def k502 : Memo := ⟨152, [g84, .lst 1 [[.int .i64 (0)], [.int .i64 (1)]]], .bool false⟩
def k503 : Memo := ⟨151, [.int .i64 (150)], .fresh 1 [[.int .i64 (1)], [.int .i64 (2)], [.int .i64 (4)], [.int .i64 (7)]]⟩
def k504 : Memo := ⟨227, [g85, .lst 1 [[.int .i64 (0)], [.int .i64 (1)]]], .int .i64 (1)⟩
def k505 : Memo := ⟨152, [g85, .lst 1 [[.int .i64 (0)], [.int .i64 (1)]]], .bool false⟩
def k506 : Memo := ⟨151, [.int .i64 (151)], .fresh 1 [[.int .i64 (0)], [.int .i64 (1)], [.int .i64 (2)], [.int .i64 (4)], [.int .i64 (7)]]⟩
def k507 : Memo := ⟨227, [g86, .lst 1 [[.int .i64 (0)], [.int .i64 (1)]]], .int .i64 (1)⟩
def k508 : Memo := ⟨152, [g86, .lst 1 [[.int .i64 (0)], [.int .i64 (1)]]], .bool false⟩
def k509 : Memo := ⟨151, [.int .i64 (152)], .fresh 1 [[.int .i64 (3)], [.int .i64 (4)], [.int .i64 (7)]]⟩
def k510 : Memo := ⟨227, [.lst 1 [[.int .i64 (3)], [.int .i64 (4)], [.int .i64 (7)]], .lst 1 [[.int .i64 (0)], [.int .i64 (1)]]], .int .i64 (1)⟩
def k511 : Memo := ⟨152, [.lst 1 [[.int .i64 (3)], [.int .i64 (4)], [.int .i64 (7)]], .lst 1 [[.int .i64 (0)], [.int .i64 (1)]]], .bool false⟩
def k512 : Memo := ⟨151, [.int .i64 (153)], .fresh 1 [[.int .i64 (0)], [.int .i64 (3)], [.int .i64 (4)], [.int .i64 (7)]]⟩
def k513 : Memo := ⟨227, [g87, .lst 1 [[.int .i64 (0)], [.int .i64 (1)]]], .int .i64 (1)⟩
def k514 : Memo := ⟨152, [g87, .lst 1 [[.int .i64 (0)], [.int .i64 (1)]]], .bool false⟩
def k515 : Memo := ⟨151, [.int .i64 (154)], .fresh 1 [[.int .i64 (1)], [.int .i64 (3)], [.int .i64 (4)], [.int .i64 (7)]]⟩
def k516 : Memo := ⟨227, [g88, .lst 1 [[.int .i64 (0)], [.int .i64 (1)]]], .int .i64 (1)⟩
def k517 : Memo := ⟨152, [g88, .lst 1 [[.int .i64 (0)], [.int .i64 (1)]]], .bool false⟩
def k518 : Memo := ⟨151, [.int .i64 (155)], .fresh 1 [[.int .i64 (0)], [.int .i64 (1)], [.int .i64 (3)], [.int .i64 (4)], [.int .i64 (7)]]⟩
def k519 : Memo := ⟨227, [g89, .lst 1 [[.int .i64 (0)], [.int .i64 (1)]]], .int .i64 (1)⟩
def k520 : Memo := ⟨152, [g89, .lst 1 [[.int .i64 (0)], [.int .i64 (1)]]], .bool false⟩
def k521 : Memo := ⟨151, [.int .i64 (156)], .fresh 1 [[.int .i64 (2)], [.int .i64 (3)], [.int .i64 (4)], [.int .i64 (7)]]⟩
def k522 : Memo := ⟨227, [g90, .lst 1 [[.int .i64 (0)], [.int .i64 (1)]]], .int .i64 (1)⟩
def k523 : Memo := ⟨152, [g90, .lst 1 [[.int .i64 (0)], [.int .i64 (1)]]], .bool false⟩
def k524 : Memo := ⟨151, [.int .i64 (157)], .fresh 1 [[.int .i64 (0)], [.int .i64 (2)], [.int .i64 (3)], [.int .i64 (4)], [.int .i64 (7)]]⟩
def k525 : Memo := ⟨227, [g91, .lst 1 [[.int .i64 (0)], [.int .i64 (1)]]], .int .i64 (1)⟩
def k526 : Memo := ⟨152, [g91, .lst 1 [[.int .i64 (0)], [.int .i64 (1)]]], .bool false⟩
def k527 : Memo := ⟨151, [.int .i64 (158)], .fresh 1 [[.int .i64 (1)], [.int .i64 (2)], [.int .i64 (3)], [.int .i64 (4)], [.int .i64 (7)]]⟩
def k528 : Memo := ⟨227, [g92, .lst 1 [[.int .i64 (0)], [.int .i64 (1)]]], .int .i64 (1)⟩
def k529 : Memo := ⟨152, [g92, .lst 1 [[.int .i64 (0)], [.int .i64 (1)]]], .bool false⟩
def k530 : Memo := ⟨151, [.int .i64 (159)], .fresh 1 [[.int .i64 (0)], [.int .i64 (1)], [.int .i64 (2)], [.int .i64 (3)], [.int .i64 (4)], [.int .i64 (7)]]⟩
def k531 : Memo := ⟨227, [g93, .lst 1 [[.int .i64 (0)], [.int .i64 (1)]]], .int .i64 (1)⟩
def k532 : Memo := ⟨152, [g93, .lst 1 [[.int .i64 (0)], [.int .i64 (1)]]], .bool false⟩
def k533 : Memo := ⟨151, [.int .i64 (160)], .fresh 1 [[.int .i64 (5)], [.int .i64 (7)]]⟩
def k534 : Memo := ⟨227, [.lst 1 [[.int .i64 (5)], [.int .i64 (7)]], .lst 1 [[.int .i64 (0)], [.int .i64 (1)]]], .int .i64 (1)⟩
def k535 : Memo := ⟨152, [.lst 1 [[.int .i64 (5)], [.int .i64 (7)]], .lst 1 [[.int .i64 (0)], [.int .i64 (1)]]], .bool false⟩
def k536 : Memo := ⟨151, [.int .i64 (161)], .fresh 1 [[.int .i64 (0)], [.int .i64 (5)], [.int .i64 (7)]]⟩
def k537 : Memo := ⟨227, [.lst 1 [[.int .i64 (0)], [.int .i64 (5)], [.int .i64 (7)]], .lst 1 [[.int .i64 (0)], [.int .i64 (1)]]], .int .i64 (1)⟩
def k538 : Memo := ⟨152, [.lst 1 [[.int .i64 (0)], [.int .i64 (5)], [.int .i64 (7)]], .lst 1 [[.int .i64 (0)], [.int .i64 (1)]]], .bool false⟩
def k539 : Memo := ⟨151, [.int .i64 (162)], .fresh 1 [[.int .i64 (1)], [.int .i64 (5)], [.int .i64 (7)]]⟩
def k540 : Memo := ⟨227, [.lst 1 [[.int .i64 (1)], [.int .i64 (5)], [.int .i64 (7)]], .lst 1 [[.int .i64 (0)], [.int .i64 (1)]]], .int .i64 (1)⟩
def k541 : Memo := ⟨152, [.lst 1 [[.int .i64 (1)], [.int .i64 (5)], [.int .i64 (7)]], .lst 1 [[.int .i64 (0)], [.int .i64 (1)]]], .bool false⟩
def k542 : Memo := ⟨151, [.int .i64 (163)], .fresh 1 [[.int .i64 (0)], [.int .i64 (1)], [.int .i64 (5)], [.int .i64 (7)]]⟩
def k543 : Memo := ⟨227, [g94, .lst 1 [[.int .i64 (0)], [.int .i64 (1)]]], .int .i64 (1)⟩
def k544 : Memo := ⟨152, [g94, .lst 1 [[.int .i64 (0)], [.int .i64 (1)]]], .bool false⟩
def k545 : Memo := ⟨151, [.int .i64 (164)], .fresh 1 [[.int .i64 (2)], [.int .i64 (5)], [.int .i64 (7)]]⟩
def k546 : Memo := ⟨227, [.lst 1 [[.int .i64 (2)], [.int .i64 (5)], [.int .i64 (7)]], .lst 1 [[.int .i64 (0)], [.int .i64 (1)]]], .int .i64 (1)⟩
def k547 : Memo := ⟨152, [.lst 1 [[.int .i64 (2)], [.int .i64 (5)], [.int .i64 (7)]], .lst 1 [[.int .i64 (0)], [.int .i64 (1)]]], .bool false⟩
def k548 : Memo := ⟨151, [.int .i64 (165)], .fresh 1 [[.int .i64 (0)], [.int .i64 (2)], [.int .i64 (5)], [.int .i64 (7)]]⟩
def k549 : Memo := ⟨227, [g95, .lst 1 [[.int .i64 (0)], [.int .i64 (1)]]], .int .i64 (1)⟩
def k550 : Memo := ⟨152, [g95, .lst 1 [[.int .i64 (0)], [.int .i64 (1)]]], .bool false⟩
def k551 : Memo := ⟨151, [.int .i64 (166)], .fresh 1 [[.int .i64 (1)], [.int .i64 (2)], [.int .i64 (5)], [.int .i64 (7)]]⟩
def k552 : Memo := ⟨227, [g96, .lst 1 [[.int .i64 (0)], [.int .i64 (1)]]], .int .i64 (1)⟩
def k553 : Memo := ⟨152, [g96, .lst 1 [[.int .i64 (0)], [.int .i64 (1)]]], .bool false⟩
def k554 : Memo := ⟨151, [.int .i64 (167)], .fresh 1 [[.int .i64 (0)], [.int .i64 (1)], [.int .i64 (2)], [.int .i64 (5)], [.int .i64 (7)]]⟩
def k555 : Memo := ⟨227, [g97, .lst 1 [[.int .i64 (0)], [.int .i64 (1)]]], .int .i64 (1)⟩
def k556 : Memo := ⟨152, [g97, .lst 1 [[.int .i64 (0)], [.int .i64 (1)]]], .bool false⟩
def k557 : Memo := ⟨151, [.int .i64 (168)], .fresh 1 [[.int .i64 (3)], [.int .i64 (5)], [.int .i64 (7)]]⟩
def k558 : Memo := ⟨227, [.lst 1 [[.int .i64 (3)], [.int .i64 (5)], [.int .i64 (7)]], .lst 1 [[.int .i64 (0)], [.int .i64 (1)]]], .int .i64 (1)⟩
def k559 : Memo := ⟨152, [.lst 1 [[.int .i64 (3)], [.int .i64 (5)], [.int .i64 (7)]], .lst 1 [[.int .i64 (0)], [.int .i64 (1)]]], .bool false⟩
def k560 : Memo := ⟨151, [.int .i64 (169)], .fresh 1 [[.int .i64 (0)], [.int .i64 (3)], [.int .i64 (5)], [.int .i64 (7)]]⟩
def k561 : Memo := ⟨227, [g98, .lst 1 [[.int .i64 (0)], [.int .i64 (1)]]], .int .i64 (1)⟩
def k562 : Memo := ⟨152, [g98, .lst 1 [[.int .i64 (0)], [.int .i64 (1)]]], .bool false⟩
def k563 : Memo := ⟨151, [.int .i64 (170)], .fresh 1 [[.int .i64 (1)], [.int .i64 (3)], [.int .i64 (5)], [.int .i64 (7)]]⟩
def k564 : Memo := ⟨227, [g99, .lst 1 [[.int .i64 (0)], [.int .i64 (1)]]], .int .i64 (1)⟩
def k565 : Memo := ⟨152, [g99, .lst 1 [[.int .i64 (0)], [.int .i64 (1)]]], .bool false⟩
def k566 : Memo := ⟨151, [.int .i64 (171)], .fresh 1 [[.int .i64 (0)], [.int .i64 (1)], [.int .i64 (3)], [.int .i64 (5)], [.int .i64 (7)]]⟩
def k567 : Memo := ⟨227, [g100, .lst 1 [[.int .i64 (0)], [.int .i64 (1)]]], .int .i64 (1)⟩
def k568 : Memo := ⟨152, [g100, .lst 1 [[.int .i64 (0)], [.int .i64 (1)]]], .bool false⟩
def k569 : Memo := ⟨151, [.int .i64 (172)], .fresh 1 [[.int .i64 (2)], [.int .i64 (3)], [.int .i64 (5)], [.int .i64 (7)]]⟩
def k570 : Memo := ⟨227, [g101, .lst 1 [[.int .i64 (0)], [.int .i64 (1)]]], .int .i64 (1)⟩
def k571 : Memo := ⟨152, [g101, .lst 1 [[.int .i64 (0)], [.int .i64 (1)]]], .bool false⟩
def k572 : Memo := ⟨151, [.int .i64 (173)], .fresh 1 [[.int .i64 (0)], [.int .i64 (2)], [.int .i64 (3)], [.int .i64 (5)], [.int .i64 (7)]]⟩
def k573 : Memo := ⟨227, [g102, .lst 1 [[.int .i64 (0)], [.int .i64 (1)]]], .int .i64 (1)⟩
def k574 : Memo := ⟨152, [g102, .lst 1 [[.int .i64 (0)], [.int .i64 (1)]]], .bool false⟩
def k575 : Memo := ⟨151, [.int .i64 (174)], .fresh 1 [[.int .i64 (1)], [.int .i64 (2)], [.int .i64 (3)], [.int .i64 (5)], [.int .i64 (7)]]⟩
def k576 : Memo := ⟨227, [g103, .lst 1 [[.int .i64 (0)], [.int .i64 (1)]]], .int .i64 (1)⟩
def k577 : Memo := ⟨152, [g103, .lst 1 [[.int .i64 (0)], [.int .i64 (1)]]], .bool false⟩
def k578 : Memo := ⟨151, [.int .i64 (175)], .fresh 1 [[.int .i64 (0)], [.int .i64 (1)], [.int .i64 (2)], [.int .i64 (3)], [.int .i64 (5)], [.int .i64 (7)]]⟩
def k579 : Memo := ⟨227, [g104, .lst 1 [[.int .i64 (0)], [.int .i64 (1)]]], .int .i64 (1)⟩
def k580 : Memo := ⟨152, [g104, .lst 1 [[.int .i64 (0)], [.int .i64 (1)]]], .bool false⟩
def k581 : Memo := ⟨151, [.int .i64 (176)], .fresh 1 [[.int .i64 (4)], [.int .i64 (5)], [.int .i64 (7)]]⟩
def k582 : Memo := ⟨227, [.lst 1 [[.int .i64 (4)], [.int .i64 (5)], [.int .i64 (7)]], .lst 1 [[.int .i64 (0)], [.int .i64 (1)]]], .int .i64 (1)⟩
def k583 : Memo := ⟨152, [.lst 1 [[.int .i64 (4)], [.int .i64 (5)], [.int .i64 (7)]], .lst 1 [[.int .i64 (0)], [.int .i64 (1)]]], .bool false⟩
def k584 : Memo := ⟨151, [.int .i64 (177)], .fresh 1 [[.int .i64 (0)], [.int .i64 (4)], [.int .i64 (5)], [.int .i64 (7)]]⟩
def k585 : Memo := ⟨227, [g105, .lst 1 [[.int .i64 (0)], [.int .i64 (1)]]], .int .i64 (1)⟩
def k586 : Memo := ⟨152, [g105, .lst 1 [[.int .i64 (0)], [.int .i64 (1)]]], .bool false⟩
def k587 : Memo := ⟨151, [.int .i64 (178)], .fresh 1 [[.int .i64 (1)], [.int .i64 (4)], [.int .i64 (5)], [.int .i64 (7)]]⟩
def k588 : Memo := ⟨227, [g106, .lst 1 [[.int .i64 (0)], [.int .i64 (1)]]], .int .i64 (1)⟩
def k589 : Memo := ⟨152, [g106, .lst 1 [[.int .i64 (0)], [.int .i64 (1)]]], .bool false⟩
def k590 : Memo := ⟨151, [.int .i64 (179)], .fresh 1 [[.int .i64 (0)], [.int .i64 (1)], [.int .i64 (4)], [.int .i64 (5)], [.int .i64 (7)]]⟩
def k591 : Memo := ⟨227, [g107, .lst 1 [[.int .i64 (0)], [.int .i64 (1)]]], .int .i64 (1)⟩
def k592 : Memo := ⟨152, [g107, .lst 1 [[.int .i64 (0)], [.int .i64 (1)]]], .bool false⟩
def k593 : Memo := ⟨151, [.int .i64 (180)], .fresh 1 [[.int .i64 (2)], [.int .i64 (4)], [.int .i64 (5)], [.int .i64 (7)]]⟩
def k594 : Memo := ⟨227, [g108, .lst 1 [[.int .i64 (0)], [.int .i64 (1)]]], .int .i64 (1)⟩
def k595 : Memo := ⟨152, [g108, .lst 1 [[.int .i64 (0)], [.int .i64 (1)]]], .bool false⟩
def k596 : Memo := ⟨151, [.int .i64 (181)], .fresh 1 [[.int .i64 (0)], [.int .i64 (2)], [.int .i64 (4)], [.int .i64 (5)], [.int .i64 (7)]]⟩
def k597 : Memo := ⟨227, [g109, .lst 1 [[.int .i64 (0)], [.int .i64 (1)]]], .int .i64 (1)⟩
def k598 : Memo := ⟨152, [g109, .lst 1 [[.int .i64 (0)], [.int .i64 (1)]]], .bool false⟩
def k599 : Memo := ⟨151, [.int .i64 (182)], .fresh 1 [[.int .i64 (1)], [.int .i64 (2)], [.int .i64 (4)], [.int .i64 (5)], [.int .i64 (7)]]⟩
def k600 : Memo := ⟨227, [g110, .lst 1 [[.int .i64 (0)], [.int .i64 (1)]]], .int .i64 (1)⟩
def k601 : Memo := ⟨152, [g110, .lst 1 [[.int .i64 (0)], [.int .i64 (1)]]], .bool false⟩
def k602 : Memo := ⟨151, [.int .i64 (183)], .fresh 1 [[.int .i64 (0)], [.int .i64 (1)], [.int .i64 (2)], [.int .i64 (4)], [.int .i64 (5)], [.int .i64 (7)]]⟩
def k603 : Memo := ⟨227, [g111, .lst 1 [[.int .i64 (0)], [.int .i64 (1)]]], .int .i64 (1)⟩
def k604 : Memo := ⟨152, [g111, .lst 1 [[.int .i64 (0)], [.int .i64 (1)]]], .bool false⟩
def k605 : Memo := ⟨151, [.int .i64 (184)], .fresh 1 [[.int .i64 (3)], [.int .i64 (4)], [.int .i64 (5)], [.int .i64 (7)]]⟩
def k606 : Memo := ⟨227, [g112, .lst 1 [[.int .i64 (0)], [.int .i64 (1)]]], .int .i64 (1)⟩
def k607 : Memo := ⟨152, [g112, .lst 1 [[.int .i64 (0)], [.int .i64 (1)]]], .bool false⟩
def k608 : Memo := ⟨151, [.int .i64 (185)], .fresh 1 [[.int .i64 (0)], [.int .i64 (3)], [.int .i64 (4)], [.int .i64 (5)], [.int .i64 (7)]]⟩
def k609 : Memo := ⟨227, [g113, .lst 1 [[.int .i64 (0)], [.int .i64 (1)]]], .int .i64 (1)⟩
def k610 : Memo := ⟨152, [g113, .lst 1 [[.int .i64 (0)], [.int .i64 (1)]]], .bool false⟩
def k611 : Memo := ⟨151, [.int .i64 (186)], .fresh 1 [[.int .i64 (1)], [.int .i64 (3)], [.int .i64 (4)], [.int .i64 (5)], [.int .i64 (7)]]⟩
def k612 : Memo := ⟨227, [g114, .lst 1 [[.int .i64 (0)], [.int .i64 (1)]]], .int .i64 (1)⟩
def k613 : Memo := ⟨152, [g114, .lst 1 [[.int .i64 (0)], [.int .i64 (1)]]], .bool false⟩
def k614 : Memo := ⟨151, [.int .i64 (187)], .fresh 1 [[.int .i64 (0)], [.int .i64 (1)], [.int .i64 (3)], [.int .i64 (4)], [.int .i64 (5)], [.int .i64 (7)]]⟩
def k615 : Memo := ⟨227, [g115, .lst 1 [[.int .i64 (0)], [.int .i64 (1)]]], .int .i64 (1)⟩
def k616 : Memo := ⟨152, [g115, .lst 1 [[.int .i64 (0)], [.int .i64 (1)]]], .bool false⟩
def k617 : Memo := ⟨151, [.int .i64 (188)], .fresh 1 [[.int .i64 (2)], [.int .i64 (3)], [.int .i64 (4)], [.int .i64 (5)], [.int .i64 (7)]]⟩
def k618 : Memo := ⟨227, [g116, .lst 1 [[.int .i64 (0)], [.int .i64 (1)]]], .int .i64 (1)⟩
def k619 : Memo := ⟨152, [g116, .lst 1 [[.int .i64 (0)], [.int .i64 (1)]]], .bool false⟩
def k620 : Memo := ⟨151, [.int .i64 (189)], .fresh 1 [[.int .i64 (0)], [.int .i64 (2)], [.int .i64 (3)], [.int .i64 (4)], [.int .i64 (5)], [.int .i64 (7)]]⟩
def k621 : Memo := ⟨227, [g117, .lst 1 [[.int .i64 (0)], [.int .i64 (1)]]], .int .i64 (1)⟩
def k622 : Memo := ⟨152, [g117, .lst 1 [[.int .i64 (0)], [.int .i64 (1)]]], .bool false⟩
def k623 : Memo := ⟨151, [.int .i64 (190)], .fresh 1 [[.int .i64 (1)], [.int .i64 (2)], [.int .i64 (3)], [.int .i64 (4)], [.int .i64 (5)], [.int .i64 (7)]]⟩
def k624 : Memo := ⟨227, [g118, .lst 1 [[.int .i64 (0)], [.int .i64 (1)]]], .int .i64 (1)⟩
def k625 : Memo := ⟨152, [g118, .lst 1 [[.int .i64 (0)], [.int .i64 (1)]]], .bool false⟩
def k626 : Memo := ⟨151, [.int .i64 (191)], .fresh 1 [[.int .i64 (0)], [.int .i64 (1)], [.int .i64 (2)], [.int .i64 (3)], [.int .i64 (4)], [.int .i64 (5)], [.int .i64 (7)]]⟩
def k627 : Memo := ⟨227, [g119, .lst 1 [[.int .i64 (0)], [.int .i64 (1)]]], .int .i64 (1)⟩
def k628 : Memo := ⟨152, [g119, .lst 1 [[.int .i64 (0)], [.int .i64 (1)]]], .bool false⟩
def k629 : Memo := ⟨151, [.int .i64 (192)], .fresh 1 [[.int .i64 (6)], [.int .i64 (7)]]⟩
def k630 : Memo := ⟨227, [.lst 1 [[.int .i64 (6)], [.int .i64 (7)]], .lst 1 [[.int .i64 (0)], [.int .i64 (1)]]], .int .i64 (1)⟩
def k631 : Memo := ⟨152, [.lst 1 [[.int .i64 (6)], [.int .i64 (7)]], .lst 1 [[.int .i64 (0)], [.int .i64 (1)]]], .bool false⟩
def k632 : Memo := ⟨151, [.int .i64 (193)], .fresh 1 [[.int .i64 (0)], [.int .i64 (6)], [.int .i64 (7)]]⟩
def k633 : Memo := ⟨227, [.lst 1 [[.int .i64 (0)], [.int .i64 (6)], [.int .i64 (7)]], .lst 1 [[.int .i64 (0)], [.int .i64 (1)]]], .int .i64 (1)⟩
def k634 : Memo := ⟨152, [.lst 1 [[.int .i64 (0)], [.int .i64 (6)], [.int .i64 (7)]], .lst 1 [[.int .i64 (0)], [.int .i64 (1)]]], .bool false⟩
def k635 : Memo := ⟨151, [.int .i64 (194)], .fresh 1 [[.int .i64 (1)], [.int .i64 (6)], [.int .i64 (7)]]⟩
def k636 : Memo := ⟨227, [.lst 1 [[.int .i64 (1)], [.int .i64 (6)], [.int .i64 (7)]], .lst 1 [[.int .i64 (0)], [.int .i64 (1)]]], .int .i64 (1)⟩
def k637 : Memo := ⟨152, [.lst 1 [[.int .i64 (1)], [.int .i64 (6)], [.int .i64 (7)]], .lst 1 [[.int .i64 (0)], [.int .i64 (1)]]], .bool false⟩
def k638 : Memo := ⟨151, [.int .i64 (195)], .fresh 1 [[.int .i64 (0)], [.int .i64 (1)], [.int .i64 (6)], [.int .i64 (7)]]⟩
theorem ok456 : PuOK prog k456.f k456.args k456.t := known (L := .nil) mN (by kernel_rfl)
theorem ok457 : PuOK prog k457.f k457.args k457.t := known (L := (.one k456 .nil)) (mO ok456 mN) (by kernel_rfl)
theorem ok458 : PuOK prog k458.f k458.args k458.t := known (L := .nil) mN (by kernel_rfl)
theorem ok459 : PuOK prog k459.f k459.args k459.t := known (L := .nil) mN (by kernel_rfl)
theorem ok460 : PuOK prog k460.f k460.args k460.t := known (L := (.one k459 .nil)) (mO ok459 mN) (by kernel_rfl)
theorem ok461 : PuOK prog k461.f k461.args k461.t := known (L := .nil) mN (by kernel_rfl)
theorem ok462 : PuOK prog k462.f k462.args k462.t := known (L := .nil) mN (by kernel_rfl)
theorem ok463 : PuOK prog k463.f k463.args k463.t := known (L := (.one k462 .nil)) (mO ok462 mN) (by kernel_rfl)
theorem ok464 : PuOK prog k464.f k464.args k464.t := known (L := .nil) mN (by kernel_rfl)
theorem ok465 : PuOK prog k465.f k465.args k465.t := known (L := .nil) mN (by kernel_rfl)
theorem ok466 : PuOK prog k466.f k466.args k466.t := known (L := (.one k465 .nil)) (mO ok465 mN) (by kernel_rfl)
theorem ok467 : PuOK prog k467.f k467.args k467.t := known (L := .nil) mN (by kernel_rfl)
theorem ok468 : PuOK prog k468.f k468.args k468.t := known (L := .nil) mN (by kernel_rfl)
theorem ok469 : PuOK prog k469.f k469.args k469.t := known (L := (.one k468 .nil)) (mO ok468 mN) (by kernel_rfl)
theorem ok470 : PuOK prog k470.f k470.args k470.t := known (L := .nil) mN (by kernel_rfl)
theorem ok471 : PuOK prog k471.f k471.args k471.t := known (L := .nil) mN (by kernel_rfl)
theorem ok472 : PuOK prog k472.f k472.args k472.t := known (L := (.one k471 .nil)) (mO ok471 mN) (by kernel_rfl)
theorem ok473 : PuOK prog k473.f k473.args k473.t := known (L := .nil) mN (by kernel_rfl)
theorem ok474 : PuOK prog k474.f k474.args k474.t := known (L := .nil) mN (by kernel_rfl)
theorem ok475 : PuOK prog k475.f k475.args k475.t := known (L := (.one k474 .nil)) (mO ok474 mN) (by kernel_rfl)
theorem ok476 : PuOK prog k476.f k476.args k476.t := known (L := .nil) mN (by kernel_rfl)
theorem ok477 : PuOK prog k477.f k477.args k477.t := known (L := .nil) mN (by kernel_rfl)
theorem ok478 : PuOK prog k478.f k478.args k478.t := known (L := (.one k477 .nil)) (mO ok477 mN) (by kernel_rfl)
theorem ok479 : PuOK prog k479.f k479.args k479.t := known (L := .nil) mN (by kernel_rfl)
theorem ok480 : PuOK prog k480.f k480.args k480.t := known (L := .nil) mN (by kernel_rfl)
theorem ok481 : PuOK prog k481.f k481.args k481.t := known (L := (.one k480 .nil)) (mO ok480 mN) (by kernel_rfl)
theorem ok482 : PuOK prog k482.f k482.args k482.t := known (L := .nil) mN (by kernel_rfl)
theorem ok483 : PuOK prog k483.f k483.args k483.t := known (L := .nil) mN (by kernel_rfl)
theorem ok484 : PuOK prog k484.f k484.args k484.t := known (L := (.one k483 .nil)) (mO ok483 mN) (by kernel_rfl)
theorem ok485 : PuOK prog k485.f k485.args k485.t := known (L := .nil) mN (by kernel_rfl)
theorem ok486 : PuOK prog k486.f k486.args k486.t := known (L := .nil) mN (by kernel_rfl)
theorem ok487 : PuOK prog k487.f k487.args k487.t := known (L := (.one k486 .nil)) (mO ok486 mN) (by kernel_rfl)
theorem ok488 : PuOK prog k488.f k488.args k488.t := known (L := .nil) mN (by kernel_rfl)
theorem ok489 : PuOK prog k489.f k489.args k489.t := known (L := .nil) mN (by kernel_rfl)
theorem ok490 : PuOK prog k490.f k490.args k490.t := known (L := (.one k489 .nil)) (mO ok489 mN) (by kernel_rfl)
theorem ok491 : PuOK prog k491.f k491.args k491.t := known (L := .nil) mN (by kernel_rfl)
theorem ok492 : PuOK prog k492.f k492.args k492.t := known (L := .nil) mN (by kernel_rfl)
theorem ok493 : PuOK prog k493.f k493.args k493.t := known (L := (.one k492 .nil)) (mO ok492 mN) (by kernel_rfl)
theorem ok494 : PuOK prog k494.f k494.args k494.t := known (L := .nil) mN (by kernel_rfl)
theorem ok495 : PuOK prog k495.f k495.args k495.t := known (L := .nil) mN (by kernel_rfl)
theorem ok496 : PuOK prog k496.f k496.args k496.t := known (L := (.one k495 .nil)) (mO ok495 mN) (by kernel_rfl)
theorem ok497 : PuOK prog k497.f k497.args k497.t := known (L := .nil) mN (by kernel_rfl)
theorem ok498 : PuOK prog k498.f k498.args k498.t := known (L := .nil) mN (by kernel_rfl)
theorem ok499 : PuOK prog k499.f k499.args k499.t := known (L := (.one k498 .nil)) (mO ok498 mN) (by kernel_rfl)
theorem ok500 : PuOK prog k500.f k500.args k500.t := known (L := .nil) mN (by kernel_rfl)
theorem ok501 : PuOK prog k501.f k501.args k501.t := known (L := .nil) mN (by kernel_rfl)
theorem ok502 : PuOK prog k502.f k502.args k502.t := known (L := (.one k501 .nil)) (mO ok501 mN) (by kernel_rfl)
theorem ok503 : PuOK prog k503.f k503.args k503.t := known (L := .nil) mN (by kernel_rfl)
theorem ok504 : PuOK prog k504.f k504.args k504.t := known (L := .nil) mN (by kernel_rfl)
theorem ok505 : PuOK prog k505.f k505.args k505.t := known (L := (.one k504 .nil)) (mO ok504 mN) (by kernel_rfl)
theorem ok506 : PuOK prog k506.f k506.args k506.t := known (L := .nil) mN (by kernel_rfl)
theorem ok507 : PuOK prog k507.f k507.args k507.t := known (L := .nil) mN (by kernel_rfl)
theorem ok508 : PuOK prog k508.f k508.args k508.t := known (L := (.one k507 .nil)) (mO ok507 mN) (by kernel_rfl)
theorem ok509 : PuOK prog k509.f k509.args k509.t := known (L := .nil) mN (by kernel_rfl)
theorem ok510 : PuOK prog k510.f k510.args k510.t := known (L := .nil) mN (by kernel_rfl)
theorem ok511 : PuOK prog k511.f k511.args k511.t := known (L := (.one k510 .nil)) (mO ok510 mN) (by kernel_rfl)
theorem ok512 : PuOK prog k512.f k512.args k512.t := known (L := .nil) mN (by kernel_rfl)
theorem ok513 : PuOK prog k513.f k513.args k513.t := known (L := .nil) mN (by kernel_rfl)
theorem ok514 : PuOK prog k514.f k514.args k514.t := known (L := (.one k513 .nil)) (mO ok513 mN) (by kernel_rfl)
theorem ok515 : PuOK prog k515.f k515.args k515.t := known (L := .nil) mN (by kernel_rfl)
theorem ok516 : PuOK prog k516.f k516.args k516.t := known (L := .nil) mN (by kernel_rfl)
theorem ok517 : PuOK prog k517.f k517.args k517.t := known (L := (.one k516 .nil)) (mO ok516 mN) (by kernel_rfl)
theorem ok518 : PuOK prog k518.f k518.args k518.t := known (L := .nil) mN (by kernel_rfl)
theorem ok519 : PuOK prog k519.f k519.args k519.t := known (L := .nil) mN (by kernel_rfl)
theorem ok520 : PuOK prog k520.f k520.args k520.t := known (L := (.one k519 .nil)) (mO ok519 mN) (by kernel_rfl)
theorem ok521 : PuOK prog k521.f k521.args k521.t := known (L := .nil) mN (by kernel_rfl)
theorem ok522 : PuOK prog k522.f k522.args k522.t := known (L := .nil) mN (by kernel_rfl)
theorem ok523 : PuOK prog k523.f k523.args k523.t := known (L := (.one k522 .nil)) (mO ok522 mN) (by kernel_rfl)
theorem ok524 : PuOK prog k524.f k524.args k524.t := known (L := .nil) mN (by kernel_rfl)
theorem ok525 : PuOK prog k525.f k525.args k525.t := known (L := .nil) mN (by kernel_rfl)
theorem ok526 : PuOK prog k526.f k526.args k526.t := known (L := (.one k525 .nil)) (mO ok525 mN) (by kernel_rfl)
theorem ok527 : PuOK prog k527.f k527.args k527.t := known (L := .nil) mN (by kernel_rfl)
theorem ok528 : PuOK prog k528.f k528.args k528.t := known (L := .nil) mN (by kernel_rfl)
theorem ok529 : PuOK prog k529.f k529.args k529.t := known (L := (.one k528 .nil)) (mO ok528 mN) (by kernel_rfl)
theorem ok530 : PuOK prog k530.f k530.args k530.t := known (L := .nil) mN (by kernel_rfl)
theorem ok531 : PuOK prog k531.f k531.args k531.t := known (L := .nil) mN (by kernel_rfl)
theorem ok532 : PuOK prog k532.f k532.args k532.t := known (L := (.one k531 .nil)) (mO ok531 mN) (by kernel_rfl)
theorem ok533 : PuOK prog k533.f k533.args k533.t := known (L := .nil) mN (by kernel_rfl)
theorem ok534 : PuOK prog k534.f k534.args k534.t := known (L := .nil) mN (by kernel_rfl)
theorem ok535 : PuOK prog k535.f k535.args k535.t := known (L := (.one k534 .nil)) (mO ok534 mN) (by kernel_rfl)
theorem ok536 : PuOK prog k536.f k536.args k536.t := known (L := .nil) mN (by kernel_rfl)
theorem ok537 : PuOK prog k537.f k537.args k537.t := known (L := .nil) mN (by kernel_rfl)
theorem ok538 : PuOK prog k538.f k538.args k538.t := known (L := (.one k537 .nil)) (mO ok537 mN) (by kernel_rfl)
theorem ok539 : PuOK prog k539.f k539.args k539.t := known (L := .nil) mN (by kernel_rfl)
theorem ok540 : PuOK prog k540.f k540.args k540.t := known (L := .nil) mN (by kernel_rfl)
theorem ok541 : PuOK prog k541.f k541.args k541.t := known (L := (.one k540 .nil)) (mO ok540 mN) (by kernel_rfl)
theorem ok542 : PuOK prog k542.f k542.args k542.t := known (L := .nil) mN (by kernel_rfl)
theorem ok543 : PuOK prog k543.f k543.args k543.t := known (L := .nil) mN (by kernel_rfl)
theorem ok544 : PuOK prog k544.f k544.args k544.t := known (L := (.one k543 .nil)) (mO ok543 mN) (by kernel_rfl)
theorem ok545 : PuOK prog k545.f k545.args k545.t := known (L := .nil) mN (by kernel_rfl)
theorem ok546 : PuOK prog k546.f k546.args k546.t := known (L := .nil) mN (by kernel_rfl)
theorem ok547 : PuOK prog k547.f k547.args k547.t := known (L := (.one k546 .nil)) (mO ok546 mN) (by kernel_rfl)
theorem ok548 : PuOK prog k548.f k548.args k548.t := known (L := .nil) mN (by kernel_rfl)
theorem ok549 : PuOK prog k549.f k549.args k549.t := known (L := .nil) mN (by kernel_rfl)
theorem ok550 : PuOK prog k550.f k550.args k550.t := known (L := (.one k549 .nil)) (mO ok549 mN) (by kernel_rfl)
theorem ok551 : PuOK prog k551.f k551.args k551.t := known (L := .nil) mN (by kernel_rfl)
theorem ok552 : PuOK prog k552.f k552.args k552.t := known (L := .nil) mN (by kernel_rfl)
theorem ok553 : PuOK prog k553.f k553.args k553.t := known (L := (.one k552 .nil)) (mO ok552 mN) (by kernel_rfl)
theorem ok554 : PuOK prog k554.f k554.args k554.t := known (L := .nil) mN (by kernel_rfl)
theorem ok555 : PuOK prog k555.f k555.args k555.t := known (L := .nil) mN (by kernel_rfl)
theorem ok556 : PuOK prog k556.f k556.args k556.t := known (L := (.one k555 .nil)) (mO ok555 mN) (by kernel_rfl)
theorem ok557 : PuOK prog k557.f k557.args k557.t := known (L := .nil) mN (by kernel_rfl)
theorem ok558 : PuOK prog k558.f k558.args k558.t := known (L := .nil) mN (by kernel_rfl)
theorem ok559 : PuOK prog k559.f k559.args k559.t := known (L := (.one k558 .nil)) (mO ok558 mN) (by kernel_rfl)
theorem ok560 : PuOK prog k560.f k560.args k560.t := known (L := .nil) mN (by kernel_rfl)
theorem ok561 : PuOK prog k561.f k561.args k561.t := known (L := .nil) mN (by kernel_rfl)
theorem ok562 : PuOK prog k562.f k562.args k562.t := known (L := (.one k561 .nil)) (mO ok561 mN) (by kernel_rfl)
theorem ok563 : PuOK prog k563.f k563.args k563.t := known (L := .nil) mN (by kernel_rfl)
theorem ok564 : PuOK prog k564.f k564.args k564.t := known (L := .nil) mN (by kernel_rfl)
theorem ok565 : PuOK prog k565.f k565.args k565.t := known (L := (.one k564 .nil)) (mO ok564 mN) (by kernel_rfl)
theorem ok566 : PuOK prog k566.f k566.args k566.t := known (L := .nil) mN (by kernel_rfl)
theorem ok567 : PuOK prog k567.f k567.args k567.t := known (L := .nil) mN (by kernel_rfl)
theorem ok568 : PuOK prog k568.f k568.args k568.t := known (L := (.one k567 .nil)) (mO ok567 mN) (by kernel_rfl)
theorem ok569 : PuOK prog k569.f k569.args k569.t := known (L := .nil) mN (by kernel_rfl)
theorem ok570 : PuOK prog k570.f k570.args k570.t := known (L := .nil) mN (by kernel_rfl)
theorem ok571 : PuOK prog k571.f k571.args k571.t := known (L := (.one k570 .nil)) (mO ok570 mN) (by kernel_rfl)
theorem ok572 : PuOK prog k572.f k572.args k572.t := known (L := .nil) mN (by kernel_rfl)
theorem ok573 : PuOK prog k573.f k573.args k573.t := known (L := .nil) mN (by kernel_rfl)
theorem ok574 : PuOK prog k574.f k574.args k574.t := known (L := (.one k573 .nil)) (mO ok573 mN) (by kernel_rfl)
theorem ok575 : PuOK prog k575.f k575.args k575.t := known (L := .nil) mN (by kernel_rfl)
theorem ok576 : PuOK prog k576.f k576.args k576.t := known (L := .nil) mN (by kernel_rfl)
theorem ok577 : PuOK prog k577.f k577.args k577.t := known (L := (.one k576 .nil)) (mO ok576 mN) (by kernel_rfl)
theorem ok578 : PuOK prog k578.f k578.args k578.t := known (L := .nil) mN (by kernel_rfl)
theorem ok579 : PuOK prog k579.f k579.args k579.t := known (L := .nil) mN (by kernel_rfl)
theorem ok580 : PuOK prog k580.f k580.args k580.t := known (L := (.one k579 .nil)) (mO ok579 mN) (by kernel_rfl)
theorem ok581 : PuOK prog k581.f k581.args k581.t := known (L := .nil) mN (by kernel_rfl)
theorem ok582 : PuOK prog k582.f k582.args k582.t := known (L := .nil) mN (by kernel_rfl)
theorem ok583 : PuOK prog k583.f k583.args k583.t := known (L := (.one k582 .nil)) (mO ok582 mN) (by kernel_rfl)
theorem ok584 : PuOK prog k584.f k584.args k584.t := known (L := .nil) mN (by kernel_rfl)
theorem ok585 : PuOK prog k585.f k585.args k585.t := known (L := .nil) mN (by kernel_rfl)
theorem ok586 : PuOK prog k586.f k586.args k586.t := known (L := (.one k585 .nil)) (mO ok585 mN) (by kernel_rfl)
theorem ok587 : PuOK prog k587.f k587.args k587.t := known (L := .nil) mN (by kernel_rfl)
theorem ok588 : PuOK prog k588.f k588.args k588.t := known (L := .nil) mN (by kernel_rfl)
theorem ok589 : PuOK prog k589.f k589.args k589.t := known (L := (.one k588 .nil)) (mO ok588 mN) (by kernel_rfl)
theorem ok590 : PuOK prog k590.f k590.args k590.t := known (L := .nil) mN (by kernel_rfl)
theorem ok591 : PuOK prog k591.f k591.args k591.t := known (L := .nil) mN (by kernel_rfl)
theorem ok592 : PuOK prog k592.f k592.args k592.t := known (L := (.one k591 .nil)) (mO ok591 mN) (by kernel_rfl)
theorem ok593 : PuOK prog k593.f k593.args k593.t := known (L := .nil) mN (by kernel_rfl)
theorem ok594 : PuOK prog k594.f k594.args k594.t := known (L := .nil) mN (by kernel_rfl)
theorem ok595 : PuOK prog k595.f k595.args k595.t := known (L := (.one k594 .nil)) (mO ok594 mN) (by kernel_rfl)
theorem ok596 : PuOK prog k596.f k596.args k596.t := known (L := .nil) mN (by kernel_rfl)
theorem ok597 : PuOK prog k597.f k597.args k597.t := known (L := .nil) mN (by kernel_rfl)
theorem ok598 : PuOK prog k598.f k598.args k598.t := known (L := (.one k597 .nil)) (mO ok597 mN) (by kernel_rfl)
theorem ok599 : PuOK prog k599.f k599.args k599.t := known (L := .nil) mN (by kernel_rfl)
theorem ok600 : PuOK prog k600.f k600.args k600.t := known (L := .nil) mN (by kernel_rfl)
theorem ok601 : PuOK prog k601.f k601.args k601.t := known (L := (.one k600 .nil)) (mO ok600 mN) (by kernel_rfl)
theorem ok602 : PuOK prog k602.f k602.args k602.t := known (L := .nil) mN (by kernel_rfl)
theorem ok603 : PuOK prog k603.f k603.args k603.t := known (L := .nil) mN (by kernel_rfl)
theorem ok604 : PuOK prog k604.f k604.args k604.t := known (L := (.one k603 .nil)) (mO ok603 mN) (by kernel_rfl)
theorem ok605 : PuOK prog k605.f k605.args k605.t := known (L := .nil) mN (by kernel_rfl)
theorem ok606 : PuOK prog k606.f k606.args k606.t := known (L := .nil) mN (by kernel_rfl)
theorem ok607 : PuOK prog k607.f k607.args k607.t := known (L := (.one k606 .nil)) (mO ok606 mN) (by kernel_rfl)
theorem ok608 : PuOK prog k608.f k608.args k608.t := known (L := .nil) mN (by kernel_rfl)
theorem ok609 : PuOK prog k609.f k609.args k609.t := known (L := .nil) mN (by kernel_rfl)
theorem ok610 : PuOK prog k610.f k610.args k610.t := known (L := (.one k609 .nil)) (mO ok609 mN) (by kernel_rfl)
theorem ok611 : PuOK prog k611.f k611.args k611.t := known (L := .nil) mN (by kernel_rfl)
theorem ok612 : PuOK prog k612.f k612.args k612.t := known (L := .nil) mN (by kernel_rfl)
theorem ok613 : PuOK prog k613.f k613.args k613.t := known (L := (.one k612 .nil)) (mO ok612 mN) (by kernel_rfl)
theorem ok614 : PuOK prog k614.f k614.args k614.t := known (L := .nil) mN (by kernel_rfl)
theorem ok615 : PuOK prog k615.f k615.args k615.t := known (L := .nil) mN (by kernel_rfl)
theorem ok616 : PuOK prog k616.f k616.args k616.t := known (L := (.one k615 .nil)) (mO ok615 mN) (by kernel_rfl)
theorem ok617 : PuOK prog k617.f k617.args k617.t := known (L := .nil) mN (by kernel_rfl)
theorem ok618 : PuOK prog k618.f k618.args k618.t := known (L := .nil) mN (by kernel_rfl)
theorem ok619 : PuOK prog k619.f k619.args k619.t := known (L := (.one k618 .nil)) (mO ok618 mN) (by kernel_rfl)
theorem ok620 : PuOK prog k620.f k620.args k620.t := known (L := .nil) mN (by kernel_rfl)
theorem ok621 : PuOK prog k621.f k621.args k621.t := known (L := .nil) mN (by kernel_rfl)
theorem ok622 : PuOK prog k622.f k622.args k622.t := known (L := (.one k621 .nil)) (mO ok621 mN) (by kernel_rfl)
theorem ok623 : PuOK prog k623.f k623.args k623.t := known (L := .nil) mN (by kernel_rfl)
theorem ok624 : PuOK prog k624.f k624.args k624.t := known (L := .nil) mN (by kernel_rfl)
theorem ok625 : PuOK prog k625.f k625.args k625.t := known (L := (.one k624 .nil)) (mO ok624 mN) (by kernel_rfl)
theorem ok626 : PuOK prog k626.f k626.args k626.t := known (L := .nil) mN (by kernel_rfl)
theorem ok627 : PuOK prog k627.f k627.args k627.t := known (L := .nil) mN (by kernel_rfl)
theorem ok628 : PuOK prog k628.f k628.args k628.t := known (L := (.one k627 .nil)) (mO ok627 mN) (by kernel_rfl)
theorem ok629 : PuOK prog k629.f k629.args k629.t := known (L := .nil) mN (by kernel_rfl)
theorem ok630 : PuOK prog k630.f k630.args k630.t := known (L := .nil) mN (by kernel_rfl)
theorem ok631 : PuOK prog k631.f k631.args k631.t := known (L := (.one k630 .nil)) (mO ok630 mN) (by kernel_rfl)
theorem ok632 : PuOK prog k632.f k632.args k632.t := known (L := .nil) mN (by kernel_rfl)
theorem ok633 : PuOK prog k633.f k633.args k633.t := known (L := .nil) mN (by kernel_rfl)
theorem ok634 : PuOK prog k634.f k634.args k634.t := known (L := (.one k633 .nil)) (mO ok633 mN) (by kernel_rfl)
theorem ok635 : PuOK prog k635.f k635.args k635.t := known (L := .nil) mN (by kernel_rfl)
theorem ok636 : PuOK prog k636.f k636.args k636.t := known (L := .nil) mN (by kernel_rfl)
theorem ok637 : PuOK prog k637.f k637.args k637.t := known (L := (.one k636 .nil)) (mO ok636 mN) (by kernel_rfl)
theorem ok638 : PuOK prog k638.f k638.args k638.t := known (L := .nil) mN (by kernel_rfl)
end Go.V
