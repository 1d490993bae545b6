/- Calls, evaluated. -/
import Derived.Test.YtppfkmmlojpcfaaGreatBx0
set_option linter.unusedVariables false
set_option maxRecDepth 100000
namespace Go.V
open Go.Proofs.Tryz (prog)
def k639 : Memo := ⟨227, [g120, .lst 1 [[.int .i64 (0)], [.int .i64 (1)]]], .int .i64 (1)⟩
def k640 : Memo := ⟨152, [g120, .lst 1 [[.int .i64 (0)], [.int .i64 (1)]]], .bool false⟩
def k641 : Memo := ⟨151, [.int .i64 (196)], .fresh 1 [[.int .i64 (2)], [.int .i64 (6)], [.int .i64 (7)]]⟩
def k642 : Memo := ⟨227, [.lst 1 [[.int .i64 (2)], [.int .i64 (6)], [.int .i64 (7)]], .lst 1 [[.int .i64 (0)], [.int .i64 (1)]]], .int .i64 (1)⟩
def k643 : Memo := ⟨152, [.lst 1 [[.int .i64 (2)], [.int .i64 (6)], [.int .i64 (7)]], .lst 1 [[.int .i64 (0)], [.int .i64 (1)]]], .bool false⟩
def k644 : Memo := ⟨151, [.int .i64 (197)], .fresh 1 [[.int .i64 (0)], [.int .i64 (2)], [.int .i64 (6)], [.int .i64 (7)]]⟩
def k645 : Memo := ⟨227, [g121, .lst 1 [[.int .i64 (0)], [.int .i64 (1)]]], .int .i64 (1)⟩
def k646 : Memo := ⟨152, [g121, .lst 1 [[.int .i64 (0)], [.int .i64 (1)]]], .bool false⟩
def k647 : Memo := ⟨151, [.int .i64 (198)], .fresh 1 [[.int .i64 (1)], [.int .i64 (2)], [.int .i64 (6)], [.int .i64 (7)]]⟩
def k648 : Memo := ⟨227, [g122, .lst 1 [[.int .i64 (0)], [.int .i64 (1)]]], .int .i64 (1)⟩
def k649 : Memo := ⟨152, [g122, .lst 1 [[.int .i64 (0)], [.int .i64 (1)]]], .bool false⟩
def k650 : Memo := ⟨151, [.int .i64 (199)], .fresh 1 [[.int .i64 (0)], [.int .i64 (1)], [.int .i64 (2)], [.int .i64 (6)], [.int .i64 (7)]]⟩
def k651 : Memo := ⟨227, [g123, .lst 1 [[.int .i64 (0)], [.int .i64 (1)]]], .int .i64 (1)⟩
def k652 : Memo := ⟨152, [g123, .lst 1 [[.int .i64 (0)], [.int .i64 (1)]]], .bool false⟩
def k653 : Memo := ⟨151, [.int .i64 (200)], .fresh 1 [[.int .i64 (3)], [.int .i64 (6)], [.int .i64 (7)]]⟩
def k654 : Memo := ⟨227, [.lst 1 [[.int .i64 (3)], [.int .i64 (6)], [.int .i64 (7)]], .lst 1 [[.int .i64 (0)], [.int .i64 (1)]]], .int .i64 (1)⟩
def k655 : Memo := ⟨152, [.lst 1 [[.int .i64 (3)], [.int .i64 (6)], [.int .i64 (7)]], .lst 1 [[.int .i64 (0)], [.int .i64 (1)]]], .bool false⟩
def k656 : Memo := ⟨151, [.int .i64 (201)], .fresh 1 [[.int .i64 (0)], [.int .i64 (3)], [.int .i64 (6)], [.int .i64 (7)]]⟩
def k657 : Memo := ⟨227, [g124, .lst 1 [[.int .i64 (0)], [.int .i64 (1)]]], .int .i64 (1)⟩
def k658 : Memo := ⟨152, [g124, .lst 1 [[.int .i64 (0)], [.int .i64 (1)]]], .bool false⟩
def k659 : Memo := ⟨151, [.int .i64 (202)], .fresh 1 [[.int .i64 (1)], [.int .i64 (3)], [.int .i64 (6)], [.int .i64 (7)]]⟩
def k660 : Memo := ⟨227, [g125, .lst 1 [[.int .i64 (0)], [.int .i64 (1)]]], .int .i64 (1)⟩
def k661 : Memo := ⟨152, [g125, .lst 1 [[.int .i64 (0)], [.int .i64 (1)]]], .bool false⟩
def k662 : Memo := ⟨151, [.int .i64 (203)], .fresh 1 [[.int .i64 (0)], [.int .i64 (1)], [.int .i64 (3)], [.int .i64 (6)], [.int .i64 (7)]]⟩
def k663 : Memo := ⟨227, [g126, .lst 1 [[.int .i64 (0)], [.int .i64 (1)]]], .int .i64 (1)⟩
def k664 : Memo := ⟨152, [g126, .lst 1 [[.int .i64 (0)], [.int .i64 (1)]]], .bool false⟩
def k665 : Memo := ⟨151, [.int .i64 (204)], .fresh 1 [[.int .i64 (2)], [.int .i64 (3)], [.int .i64 (6)], [.int .i64 (7)]]⟩
def k666 : Memo := ⟨227, [g127, .lst 1 [[.int .i64 (0)], [.int .i64 (1)]]], .int .i64 (1)⟩
def k667 : Memo := ⟨152, [g127, .lst 1 [[.int .i64 (0)], [.int .i64 (1)]]], .bool false⟩
def k668 : Memo := ⟨151, [.int .i64 (205)], .fresh 1 [[.int .i64 (0)], [.int .i64 (2)], [.int .i64 (3)], [.int .i64 (6)], [.int .i64 (7)]]⟩
def k669 : Memo := ⟨227, [g128, .lst 1 [[.int .i64 (0)], [.int .i64 (1)]]], .int .i64 (1)⟩
def k670 : Memo := ⟨152, [g128, .lst 1 [[.int .i64 (0)], [.int .i64 (1)]]], .bool false⟩
def k671 : Memo := ⟨151, [.int .i64 (206)], .fresh 1 [[.int .i64 (1)], [.int .i64 (2)], [.int .i64 (3)], [.int .i64 (6)], [.int .i64 (7)]]⟩
def k672 : Memo := ⟨227, [g129, .lst 1 [[.int .i64 (0)], [.int .i64 (1)]]], .int .i64 (1)⟩
def k673 : Memo := ⟨152, [g129, .lst 1 [[.int .i64 (0)], [.int .i64 (1)]]], .bool false⟩
def k674 : Memo := ⟨151, [.int .i64 (207)], .fresh 1 [[.int .i64 (0)], [.int .i64 (1)], [.int .i64 (2)], [.int .i64 (3)], [.int .i64 (6)], [.int .i64 (7)]]⟩
def k675 : Memo := ⟨227, [g130, .lst 1 [[.int .i64 (0)], [.int .i64 (1)]]], .int .i64 (1)⟩
def k676 : Memo := ⟨152, [g130, .lst 1 [[.int .i64 (0)], [.int .i64 (1)]]], .bool false⟩
def k677 : Memo := ⟨151, [.int .i64 (208)], .fresh 1 [[.int .i64 (4)], [.int .i64 (6)], [.int .i64 (7)]]⟩
def k678 : Memo := ⟨227, [.lst 1 [[.int .i64 (4)], [.int .i64 (6)], [.int .i64 (7)]], .lst 1 [[.int .i64 (0)], [.int .i64 (1)]]], .int .i64 (1)⟩
def k679 : Memo := ⟨152, [.lst 1 [[.int .i64 (4)], [.int .i64 (6)], [.int .i64 (7)]], .lst 1 [[.int .i64 (0)], [.int .i64 (1)]]], .bool false⟩
def k680 : Memo := ⟨151, [.int .i64 (209)], .fresh 1 [[.int .i64 (0)], [.int .i64 (4)], [.int .i64 (6)], [.int .i64 (7)]]⟩
def k681 : Memo := ⟨227, [g131, .lst 1 [[.int .i64 (0)], [.int .i64 (1)]]], .int .i64 (1)⟩
def k682 : Memo := ⟨152, [g131, .lst 1 [[.int .i64 (0)], [.int .i64 (1)]]], .bool false⟩
def k683 : Memo := ⟨151, [.int .i64 (210)], .fresh 1 [[.int .i64 (1)], [.int .i64 (4)], [.int .i64 (6)], [.int .i64 (7)]]⟩
def k684 : Memo := ⟨227, [g132, .lst 1 [[.int .i64 (0)], [.int .i64 (1)]]], .int .i64 (1)⟩
def k685 : Memo := ⟨152, [g132, .lst 1 [[.int .i64 (0)], [.int .i64 (1)]]], .bool false⟩
def k686 : Memo := ⟨151, [.int .i64 (211)], .fresh 1 [[.int .i64 (0)], [.int .i64 (1)], [.int .i64 (4)], [.int .i64 (6)], [.int .i64 (7)]]⟩
def k687 : Memo := ⟨227, [g133, .lst 1 [[.int .i64 (0)], [.int .i64 (1)]]], .int .i64 (1)⟩
def k688 : Memo := ⟨152, [g133, .lst 1 [[.int .i64 (0)], [.int .i64 (1)]]], .bool false⟩
def k689 : Memo := ⟨151, [.int .i64 (212)], .fresh 1 [[.int .i64 (2)], [.int .i64 (4)], [.int .i64 (6)], [.int .i64 (7)]]⟩
def k690 : Memo := ⟨227, [g134, .lst 1 [[.int .i64 (0)], [.int .i64 (1)]]], .int .i64 (1)⟩
def k691 : Memo := ⟨152, [g134, .lst 1 [[.int .i64 (0)], [.int .i64 (1)]]], .bool false⟩
def k692 : Memo := ⟨151, [.int .i64 (213)], .fresh 1 [[.int .i64 (0)], [.int .i64 (2)], [.int .i64 (4)], [.int .i64 (6)], [.int .i64 (7)]]⟩
def k693 : Memo := ⟨227, [g135, .lst 1 [[.int .i64 (0)], [.int .i64 (1)]]], .int .i64 (1)⟩
def k694 : Memo := ⟨152, [g135, .lst 1 [[.int .i64 (0)], [.int .i64 (1)]]], .bool false⟩
def k695 : Memo := ⟨151, [.int .i64 (214)], .fresh 1 [[.int .i64 (1)], [.int .i64 (2)], [.int .i64 (4)], [.int .i64 (6)], [.int .i64 (7)]]⟩
def k696 : Memo := ⟨227, [g136, .lst 1 [[.int .i64 (0)], [.int .i64 (1)]]], .int .i64 (1)⟩
def k697 : Memo := ⟨152, [g136, .lst 1 [[.int .i64 (0)], [.int .i64 (1)]]], .bool false⟩
def k698 : Memo := ⟨151, [.int .i64 (215)], .fresh 1 [[.int .i64 (0)], [.int .i64 (1)], [.int .i64 (2)], [.int .i64 (4)], [.int .i64 (6)], [.int .i64 (7)]]⟩
def k699 : Memo := ⟨227, [g137, .lst 1 [[.int .i64 (0)], [.int .i64 (1)]]], .int .i64 (1)⟩
def k700 : Memo := ⟨152, [g137, .lst 1 [[.int .i64 (0)], [.int .i64 (1)]]], .bool false⟩
def k701 : Memo := ⟨151, [.int .i64 (216)], .fresh 1 [[.int .i64 (3)], [.int .i64 (4)], [.int .i64 (6)], [.int .i64 (7)]]⟩
def k702 : Memo := ⟨227, [g138, .lst 1 [[.int .i64 (0)], [.int .i64 (1)]]], .int .i64 (1)⟩
def k703 : Memo := ⟨152, [g138, .lst 1 [[.int .i64 (0)], [.int .i64 (1)]]], .bool false⟩
def k704 : Memo := ⟨151, [.int .i64 (217)], .fresh 1 [[.int .i64 (0)], [.int .i64 (3)], [.int .i64 (4)], [.int .i64 (6)], [.int .i64 (7)]]⟩
def k705 : Memo := ⟨227, [g139, .lst 1 [[.int .i64 (0)], [.int .i64 (1)]]], .int .i64 (1)⟩
def k706 : Memo := ⟨152, [g139, .lst 1 [[.int .i64 (0)], [.int .i64 (1)]]], .bool false⟩
def k707 : Memo := ⟨151, [.int .i64 (218)], .fresh 1 [[.int .i64 (1)], [.int .i64 (3)], [.int .i64 (4)], [.int .i64 (6)], [.int .i64 (7)]]⟩
def k708 : Memo := ⟨227, [g140, .lst 1 [[.int .i64 (0)], [.int .i64 (1)]]], .int .i64 (1)⟩
def k709 : Memo := ⟨152, [g140, .lst 1 [[.int .i64 (0)], [.int .i64 (1)]]], .bool false⟩
def k710 : Memo := ⟨151, [.int .i64 (219)], .fresh 1 [[.int .i64 (0)], [.int .i64 (1)], [.int .i64 (3)], [.int .i64 (4)], [.int .i64 (6)], [.int .i64 (7)]]⟩
def k711 : Memo := ⟨227, [g141, .lst 1 [[.int .i64 (0)], [.int .i64 (1)]]], .int .i64 (1)⟩
def k712 : Memo := ⟨152, [g141, .lst 1 [[.int .i64 (0)], [.int .i64 (1)]]], .bool false⟩
def k713 : Memo := ⟨151, [.int .i64 (220)], .fresh 1 [[.int .i64 (2)], [.int .i64 (3)], [.int .i64 (4)], [.int .i64 (6)], [.int .i64 (7)]]⟩
def k714 : Memo := ⟨227, [g142, .lst 1 [[.int .i64 (0)], [.int .i64 (1)]]], .int .i64 (1)⟩
def k715 : Memo := ⟨152, [g142, .lst 1 [[.int .i64 (0)], [.int .i64 (1)]]], .bool false⟩
def k716 : Memo := ⟨151, [.int .i64 (221)], .fresh 1 [[.int .i64 (0)], [.int .i64 (2)], [.int .i64 (3)], [.int .i64 (4)], [.int .i64 (6)], [.int .i64 (7)]]⟩
def k717 : Memo := ⟨227, [g143, .lst 1 [[.int .i64 (0)], [.int .i64 (1)]]], .int .i64 (1)⟩
def k718 : Memo := ⟨152, [g143, .lst 1 [[.int .i64 (0)], [.int .i64 (1)]]], .bool false⟩
def k719 : Memo := ⟨151, [.int .i64 (222)], .fresh 1 [[.int .i64 (1)], [.int .i64 (2)], [.int .i64 (3)], [.int .i64 (4)], [.int .i64 (6)], [.int .i64 (7)]]⟩
def k720 : Memo := ⟨227, [g144, .lst 1 [[.int .i64 (0)], [.int .i64 (1)]]], .int .i64 (1)⟩
def k721 : Memo := ⟨152, [g144, .lst 1 [[.int .i64 (0)], [.int .i64 (1)]]], .bool false⟩
def k722 : Memo := ⟨151, [.int .i64 (223)], .fresh 1 [[.int .i64 (0)], [.int .i64 (1)], [.int .i64 (2)], [.int .i64 (3)], [.int .i64 (4)], [.int .i64 (6)], [.int .i64 (7)]]⟩
def k723 : Memo := ⟨227, [g145, .lst 1 [[.int .i64 (0)], [.int .i64 (1)]]], .int .i64 (1)⟩
def k724 : Memo := ⟨152, [g145, .lst 1 [[.int .i64 (0)], [.int .i64 (1)]]], .bool false⟩
def k725 : Memo := ⟨151, [.int .i64 (224)], .fresh 1 [[.int .i64 (5)], [.int .i64 (6)], [.int .i64 (7)]]⟩
def k726 : Memo := ⟨227, [.lst 1 [[.int .i64 (5)], [.int .i64 (6)], [.int .i64 (7)]], .lst 1 [[.int .i64 (0)], [.int .i64 (1)]]], .int .i64 (1)⟩
def k727 : Memo := ⟨152, [.lst 1 [[.int .i64 (5)], [.int .i64 (6)], [.int .i64 (7)]], .lst 1 [[.int .i64 (0)], [.int .i64 (1)]]], .bool false⟩
def k728 : Memo := ⟨151, [.int .i64 (225)], .fresh 1 [[.int .i64 (0)], [.int .i64 (5)], [.int .i64 (6)], [.int .i64 (7)]]⟩
def k729 : Memo := ⟨227, [g146, .lst 1 [[.int .i64 (0)], [.int .i64 (1)]]], .int .i64 (1)⟩
def k730 : Memo := ⟨152, [g146, .lst 1 [[.int .i64 (0)], [.int .i64 (1)]]], .bool false⟩
def k731 : Memo := ⟨151, [.int .i64 (226)], .fresh 1 [[.int .i64 (1)], [.int .i64 (5)], [.int .i64 (6)], [.int .i64 (7)]]⟩
def k732 : Memo := ⟨227, [g147, .lst 1 [[.int .i64 (0)], [.int .i64 (1)]]], .int .i64 (1)⟩
def k733 : Memo := ⟨152, [g147, .lst 1 [[.int .i64 (0)], [.int .i64 (1)]]], .bool false⟩
def k734 : Memo := ⟨151, [.int .i64 (227)], .fresh 1 [[.int .i64 (0)], [.int .i64 (1)], [.int .i64 (5)], [.int .i64 (6)], [.int .i64 (7)]]⟩
def k735 : Memo := ⟨227, [g148, .lst 1 [[.int .i64 (0)], [.int .i64 (1)]]], .int .i64 (1)⟩
def k736 : Memo := ⟨152, [g148, .lst 1 [[.int .i64 (0)], [.int .i64 (1)]]], .bool false⟩
def k737 : Memo := ⟨151, [.int .i64 (228)], .fresh 1 [[.int .i64 (2)], [.int .i64 (5)], [.int .i64 (6)], [.int .i64 (7)]]⟩
def k738 : Memo := ⟨227, [g149, .lst 1 [[.int .i64 (0)], [.int .i64 (1)]]], .int .i64 (1)⟩
def k739 : Memo := ⟨152, [g149, .lst 1 [[.int .i64 (0)], [.int .i64 (1)]]], .bool false⟩
def k740 : Memo := ⟨151, [.int .i64 (229)], .fresh 1 [[.int .i64 (0)], [.int .i64 (2)], [.int .i64 (5)], [.int .i64 (6)], [.int .i64 (7)]]⟩
def k741 : Memo := ⟨227, [g150, .lst 1 [[.int .i64 (0)], [.int .i64 (1)]]], .int .i64 (1)⟩
def k742 : Memo := ⟨152, [g150, .lst 1 [[.int .i64 (0)], [.int .i64 (1)]]], .bool false⟩
def k743 : Memo := ⟨151, [.int .i64 (230)], .fresh 1 [[.int .i64 (1)], [.int .i64 (2)], [.int .i64 (5)], [.int .i64 (6)], [.int .i64 (7)]]⟩
def k744 : Memo := ⟨227, [g151, .lst 1 [[.int .i64 (0)], [.int .i64 (1)]]], .int .i64 (1)⟩
def k745 : Memo := ⟨152, [g151, .lst 1 [[.int .i64 (0)], [.int .i64 (1)]]], .bool false⟩
def k746 : Memo := ⟨151, [.int .i64 (231)], .fresh 1 [[.int .i64 (0)], [.int .i64 (1)], [.int .i64 (2)], [.int .i64 (5)], [.int .i64 (6)], [.int .i64 (7)]]⟩
def k747 : Memo := ⟨227, [g152, .lst 1 [[.int .i64 (0)], [.int .i64 (1)]]], .int .i64 (1)⟩
def k748 : Memo := ⟨152, [g152, .lst 1 [[.int .i64 (0)], [.int .i64 (1)]]], .bool false⟩
def k749 : Memo := ⟨151, [.int .i64 (232)], .fresh 1 [[.int .i64 (3)], [.int .i64 (5)], [.int .i64 (6)], [.int .i64 (7)]]⟩
def k750 : Memo := ⟨227, [g153, .lst 1 [[.int .i64 (0)], [.int .i64 (1)]]], .int .i64 (1)⟩
def k751 : Memo := ⟨152, [g153, .lst 1 [[.int .i64 (0)], [.int .i64 (1)]]], .bool false⟩
def k752 : Memo := ⟨151, [.int .i64 (233)], .fresh 1 [[.int .i64 (0)], [.int .i64 (3)], [.int .i64 (5)], [.int .i64 (6)], [.int .i64 (7)]]⟩
def k753 : Memo := ⟨227, [g154, .lst 1 [[.int .i64 (0)], [.int .i64 (1)]]], .int .i64 (1)⟩
def k754 : Memo := ⟨152, [g154, .lst 1 [[.int .i64 (0)], [.int .i64 (1)]]], .bool false⟩
def k755 : Memo := ⟨151, [.int .i64 (234)], .fresh 1 [[.int .i64 (1)], [.int .i64 (3)], [.int .i64 (5)], [.int .i64 (6)], [.int .i64 (7)]]⟩
def k756 : Memo := ⟨227, [g155, .lst 1 [[.int .i64 (0)], [.int .i64 (1)]]], .int .i64 (1)⟩
def k757 : Memo := ⟨152, [g155, .lst 1 [[.int .i64 (0)], [.int .i64 (1)]]], .bool false⟩
def k758 : Memo := ⟨151, [.int .i64 (235)], .fresh 1 [[.int .i64 (0)], [.int .i64 (1)], [.int .i64 (3)], [.int .i64 (5)], [.int .i64 (6)], [.int .i64 (7)]]⟩
def k759 : Memo := ⟨227, [g156, .lst 1 [[.int .i64 (0)], [.int .i64 (1)]]], .int .i64 (1)⟩
def k760 : Memo := ⟨152, [g156, .lst 1 [[.int .i64 (0)], [.int .i64 (1)]]], .bool false⟩
def k761 : Memo := ⟨151, [.int .i64 (236)], .fresh 1 [[.int .i64 (2)], [.int .i64 (3)], [.int .i64 (5)], [.int .i64 (6)], [.int .i64 (7)]]⟩
def k762 : Memo := ⟨227, [g157, .lst 1 [[.int .i64 (0)], [.int .i64 (1)]]], .int .i64 (1)⟩
def k763 : Memo := ⟨152, [g157, .lst 1 [[.int .i64 (0)], [.int .i64 (1)]]], .bool false⟩
def k764 : Memo := ⟨151, [.int .i64 (237)], .fresh 1 [[.int .i64 (0)], [.int .i64 (2)], [.int .i64 (3)], [.int .i64 (5)], [.int .i64 (6)], [.int .i64 (7)]]⟩
def k765 : Memo := ⟨227, [g158, .lst 1 [[.int .i64 (0)], [.int .i64 (1)]]], .int .i64 (1)⟩
def k766 : Memo := ⟨152, [g158, .lst 1 [[.int .i64 (0)], [.int .i64 (1)]]], .bool false⟩
def k767 : Memo := ⟨151, [.int .i64 (238)], .fresh 1 [[.int .i64 (1)], [.int .i64 (2)], [.int .i64 (3)], [.int .i64 (5)], [.int .i64 (6)], [.int .i64 (7)]]⟩
def k768 : Memo := ⟨227, [g159, .lst 1 [[.int .i64 (0)], [.int .i64 (1)]]], .int .i64 (1)⟩
def k769 : Memo := ⟨152, [g159, .lst 1 [[.int .i64 (0)], [.int .i64 (1)]]], .bool false⟩
def k770 : Memo := ⟨151, [.int .i64 (239)], .fresh 1 [[.int .i64 (0)], [.int .i64 (1)], [.int .i64 (2)], [.int .i64 (3)], [.int .i64 (5)], [.int .i64 (6)], [.int .i64 (7)]]⟩
def k771 : Memo := ⟨227, [g160, .lst 1 [[.int .i64 (0)], [.int .i64 (1)]]], .int .i64 (1)⟩
def k772 : Memo := ⟨152, [g160, .lst 1 [[.int .i64 (0)], [.int .i64 (1)]]], .bool false⟩
def k773 : Memo := ⟨151, [.int .i64 (240)], .fresh 1 [[.int .i64 (4)], [.int .i64 (5)], [.int .i64 (6)], [.int .i64 (7)]]⟩
def k774 : Memo := ⟨227, [g161, .lst 1 [[.int .i64 (0)], [.int .i64 (1)]]], .int .i64 (1)⟩
def k775 : Memo := ⟨152, [g161, .lst 1 [[.int .i64 (0)], [.int .i64 (1)]]], .bool false⟩
def k776 : Memo := ⟨151, [.int .i64 (241)], .fresh 1 [[.int .i64 (0)], [.int .i64 (4)], [.int .i64 (5)], [.int .i64 (6)], [.int .i64 (7)]]⟩
def k777 : Memo := ⟨227, [g162, .lst 1 [[.int .i64 (0)], [.int .i64 (1)]]], .int .i64 (1)⟩
def k778 : Memo := ⟨152, [g162, .lst 1 [[.int .i64 (0)], [.int .i64 (1)]]], .bool false⟩
def k779 : Memo := ⟨151, [.int .i64 (242)], .fresh 1 [[.int .i64 (1)], [.int .i64 (4)], [.int .i64 (5)], [.int .i64 (6)], [.int .i64 (7)]]⟩
def k780 : Memo := ⟨227, [g163, .lst 1 [[.int .i64 (0)], [.int .i64 (1)]]], .int .i64 (1)⟩
def k781 : Memo := ⟨152, [g163, .lst 1 [[.int .i64 (0)], [.int .i64 (1)]]], .bool false⟩
def k782 : Memo := ⟨151, [.int .i64 (243)], .fresh 1 [[.int .i64 (0)], [.int .i64 (1)], [.int .i64 (4)], [.int .i64 (5)], [.int .i64 (6)], [.int .i64 (7)]]⟩
def k783 : Memo := ⟨227, [g164, .lst 1 [[.int .i64 (0)], [.int .i64 (1)]]], .int .i64 (1)⟩
def k784 : Memo := ⟨152, [g164, .lst 1 [[.int .i64 (0)], [.int .i64 (1)]]], .bool false⟩
def k785 : Memo := ⟨151, [.int .i64 (244)], .fresh 1 [[.int .i64 (2)], [.int .i64 (4)], [.int .i64 (5)], [.int .i64 (6)], [.int .i64 (7)]]⟩
def k786 : Memo := ⟨227, [g165, .lst 1 [[.int .i64 (0)], [.int .i64 (1)]]], .int .i64 (1)⟩
def k787 : Memo := ⟨152, [g165, .lst 1 [[.int .i64 (0)], [.int .i64 (1)]]], .bool false⟩
def k788 : Memo := ⟨151, [.int .i64 (245)], .fresh 1 [[.int .i64 (0)], [.int .i64 (2)], [.int .i64 (4)], [.int .i64 (5)], [.int .i64 (6)], [.int .i64 (7)]]⟩
def k789 : Memo := ⟨227, [g166, .lst 1 [[.int .i64 (0)], [.int .i64 (1)]]], .int .i64 (1)⟩
def k790 : Memo := ⟨152, [g166, .lst 1 [[.int .i64 (0)], [.int .i64 (1)]]], .bool false⟩
def k791 : Memo := ⟨151, [.int .i64 (246)], .fresh 1 [[.int .i64 (1)], [.int .i64 (2)], [.int .i64 (4)], [.int .i64 (5)], [.int .i64 (6)], [.int .i64 (7)]]⟩
def k792 : Memo := ⟨227, [g167, .lst 1 [[.int .i64 (0)], [.int .i64 (1)]]], .int .i64 (1)⟩
def k793 : Memo := ⟨152, [g167, .lst 1 [[.int .i64 (0)], [.int .i64 (1)]]], .bool false⟩
def k794 : Memo := ⟨151, [.int .i64 (247)], .fresh 1 [[.int .i64 (0)], [.int .i64 (1)], [.int .i64 (2)], [.int .i64 (4)], [.int .i64 (5)], [.int .i64 (6)], [.int .i64 (7)]]⟩
def k795 : Memo := ⟨227, [g168, .lst 1 [[.int .i64 (0)], [.int .i64 (1)]]], .int .i64 (1)⟩
def k796 : Memo := ⟨152, [g168, .lst 1 [[.int .i64 (0)], [.int .i64 (1)]]], .bool false⟩
def k797 : Memo := ⟨151, [.int .i64 (248)], .fresh 1 [[.int .i64 (3)], [.int .i64 (4)], [.int .i64 (5)], [.int .i64 (6)], [.int .i64 (7)]]⟩
def k798 : Memo := ⟨227, [g169, .lst 1 [[.int .i64 (0)], [.int .i64 (1)]]], .int .i64 (1)⟩
def k799 : Memo := ⟨152, [g169, .lst 1 [[.int .i64 (0)], [.int .i64 (1)]]], .bool false⟩
def k800 : Memo := ⟨151, [.int .i64 (249)], .fresh 1 [[.int .i64 (0)], [.int .i64 (3)], [.int .i64 (4)], [.int .i64 (5)], [.int .i64 (6)], [.int .i64 (7)]]⟩
def k801 : Memo := ⟨227, [g170, .lst 1 [[.int .i64 (0)], [.int .i64 (1)]]], .int .i64 (1)⟩
def k802 : Memo := ⟨152, [g170, .lst 1 [[.int .i64 (0)], [.int .i64 (1)]]], .bool false⟩
def k803 : Memo := ⟨151, [.int .i64 (250)], .fresh 1 [[.int .i64 (1)], [.int .i64 (3)], [.int .i64 (4)], [.int .i64 (5)], [.int .i64 (6)], [.int .i64 (7)]]⟩
def k804 : Memo := ⟨227, [g171, .lst 1 [[.int .i64 (0)], [.int .i64 (1)]]], .int .i64 (1)⟩
def k805 : Memo := ⟨152, [g171, .lst 1 [[.int .i64 (0)], [.int .i64 (1)]]], .bool false⟩
def k806 : Memo := ⟨151, [.int .i64 (251)], .fresh 1 [[.int .i64 (0)], [.int .i64 (1)], [.int .i64 (3)], [.int .i64 (4)], [.int .i64 (5)], [.int .i64 (6)], [.int .i64 (7)]]⟩
def k807 : Memo := ⟨227, [g172, .lst 1 [[.int .i64 (0)], [.int .i64 (1)]]], .int .i64 (1)⟩
def k808 : Memo := ⟨152, [g172, .lst 1 [[.int .i64 (0)], [.int .i64 (1)]]], .bool false⟩
def k809 : Memo := ⟨151, [.int .i64 (252)], .fresh 1 [[.int .i64 (2)], [.int .i64 (3)], [.int .i64 (4)], [.int .i64 (5)], [.int .i64 (6)], [.int .i64 (7)]]⟩
def k810 : Memo := ⟨227, [g173, .lst 1 [[.int .i64 (0)], [.int .i64 (1)]]], .int .i64 (1)⟩
def k811 : Memo := ⟨152, [g173, .lst 1 [[.int .i64 (0)], [.int .i64 (1)]]], .bool false⟩
def k812 : Memo := ⟨151, [.int .i64 (253)], .fresh 1 [[.int .i64 (0)], [.int .i64 (2)], [.int .i64 (3)], [.int .i64 (4)], [.int .i64 (5)], [.int .i64 (6)], [.int .i64 (7)]]⟩
def k813 : Memo := ⟨227, [g174, .lst 1 [[.int .i64 (0)], [.int .i64 (1)]]], .int .i64 (1)⟩
def k814 : Memo := ⟨152, [g174, .lst 1 [[.int .i64 (0)], [.int .i64 (1)]]], .bool false⟩
def k815 : Memo := ⟨151, [.int .i64 (254)], .fresh 1 [[.int .i64 (1)], [.int .i64 (2)], [.int .i64 (3)], [.int .i64 (4)], [.int .i64 (5)], [.int .i64 (6)], [.int .i64 (7)]]⟩
def k816 : Memo := ⟨227, [g175, .lst 1 [[.int .i64 (0)], [.int .i64 (1)]]], .int .i64 (1)⟩
def k817 : Memo := ⟨152, [g175, .lst 1 [[.int .i64 (0)], [.int .i64 (1)]]], .bool false⟩
def k818 : Memo := ⟨151, [.int .i64 (255)], .fresh 1 [[.int .i64 (0)], [.int .i64 (1)], [.int .i64 (2)], [.int .i64 (3)], [.int .i64 (4)], [.int .i64 (5)], [.int .i64 (6)], [.int .i64 (7)]]⟩
theorem ok639 : PuOK prog k639.f k639.args k639.t := known (L := .nil) mN (by kernel_rfl)
theorem ok640 : PuOK prog k640.f k640.args k640.t := known (L := (.one k639 .nil)) (mO ok639 mN) (by kernel_rfl)
theorem ok641 : PuOK prog k641.f k641.args k641.t := known (L := .nil) mN (by kernel_rfl)
theorem ok642 : PuOK prog k642.f k642.args k642.t := known (L := .nil) mN (by kernel_rfl)
theorem ok643 : PuOK prog k643.f k643.args k643.t := known (L := (.one k642 .nil)) (mO ok642 mN) (by kernel_rfl)
theorem ok644 : PuOK prog k644.f k644.args k644.t := known (L := .nil) mN (by kernel_rfl)
theorem ok645 : PuOK prog k645.f k645.args k645.t := known (L := .nil) mN (by kernel_rfl)
theorem ok646 : PuOK prog k646.f k646.args k646.t := known (L := (.one k645 .nil)) (mO ok645 mN) (by kernel_rfl)
theorem ok647 : PuOK prog k647.f k647.args k647.t := known (L := .nil) mN (by kernel_rfl)
theorem ok648 : PuOK prog k648.f k648.args k648.t := known (L := .nil) mN (by kernel_rfl)
theorem ok649 : PuOK prog k649.f k649.args k649.t := known (L := (.one k648 .nil)) (mO ok648 mN) (by kernel_rfl)
theorem ok650 : PuOK prog k650.f k650.args k650.t := known (L := .nil) mN (by kernel_rfl)
theorem ok651 : PuOK prog k651.f k651.args k651.t := known (L := .nil) mN (by kernel_rfl)
theorem ok652 : PuOK prog k652.f k652.args k652.t := known (L := (.one k651 .nil)) (mO ok651 mN) (by kernel_rfl)
theorem ok653 : PuOK prog k653.f k653.args k653.t := known (L := .nil) mN (by kernel_rfl)
theorem ok654 : PuOK prog k654.f k654.args k654.t := known (L := .nil) mN (by kernel_rfl)
theorem ok655 : PuOK prog k655.f k655.args k655.t := known (L := (.one k654 .nil)) (mO ok654 mN) (by kernel_rfl)
theorem ok656 : PuOK prog k656.f k656.args k656.t := known (L := .nil) mN (by kernel_rfl)
theorem ok657 : PuOK prog k657.f k657.args k657.t := known (L := .nil) mN (by kernel_rfl)
theorem ok658 : PuOK prog k658.f k658.args k658.t := known (L := (.one k657 .nil)) (mO ok657 mN) (by kernel_rfl)
theorem ok659 : PuOK prog k659.f k659.args k659.t := known (L := .nil) mN (by kernel_rfl)
theorem ok660 : PuOK prog k660.f k660.args k660.t := known (L := .nil) mN (by kernel_rfl)
theorem ok661 : PuOK prog k661.f k661.args k661.t := known (L := (.one k660 .nil)) (mO ok660 mN) (by kernel_rfl)
theorem ok662 : PuOK prog k662.f k662.args k662.t := known (L := .nil) mN (by kernel_rfl)
theorem ok663 : PuOK prog k663.f k663.args k663.t := known (L := .nil) mN (by kernel_rfl)
theorem ok664 : PuOK prog k664.f k664.args k664.t := known (L := (.one k663 .nil)) (mO ok663 mN) (by kernel_rfl)
theorem ok665 : PuOK prog k665.f k665.args k665.t := known (L := .nil) mN (by kernel_rfl)
theorem ok666 : PuOK prog k666.f k666.args k666.t := known (L := .nil) mN (by kernel_rfl)
theorem ok667 : PuOK prog k667.f k667.args k667.t := known (L := (.one k666 .nil)) (mO ok666 mN) (by kernel_rfl)
theorem ok668 : PuOK prog k668.f k668.args k668.t := known (L := .nil) mN (by kernel_rfl)
theorem ok669 : PuOK prog k669.f k669.args k669.t := known (L := .nil) mN (by kernel_rfl)
theorem ok670 : PuOK prog k670.f k670.args k670.t := known (L := (.one k669 .nil)) (mO ok669 mN) (by kernel_rfl)
theorem ok671 : PuOK prog k671.f k671.args k671.t := known (L := .nil) mN (by kernel_rfl)
theorem ok672 : PuOK prog k672.f k672.args k672.t := known (L := .nil) mN (by kernel_rfl)
theorem ok673 : PuOK prog k673.f k673.args k673.t := known (L := (.one k672 .nil)) (mO ok672 mN) (by kernel_rfl)
theorem ok674 : PuOK prog k674.f k674.args k674.t := known (L := .nil) mN (by kernel_rfl)
theorem ok675 : PuOK prog k675.f k675.args k675.t := known (L := .nil) mN (by kernel_rfl)
theorem ok676 : PuOK prog k676.f k676.args k676.t := known (L := (.one k675 .nil)) (mO ok675 mN) (by kernel_rfl)
theorem ok677 : PuOK prog k677.f k677.args k677.t := known (L := .nil) mN (by kernel_rfl)
theorem ok678 : PuOK prog k678.f k678.args k678.t := known (L := .nil) mN (by kernel_rfl)
theorem ok679 : PuOK prog k679.f k679.args k679.t := known (L := (.one k678 .nil)) (mO ok678 mN) (by kernel_rfl)
theorem ok680 : PuOK prog k680.f k680.args k680.t := known (L := .nil) mN (by kernel_rfl)
theorem ok681 : PuOK prog k681.f k681.args k681.t := known (L := .nil) mN (by kernel_rfl)
theorem ok682 : PuOK prog k682.f k682.args k682.t := known (L := (.one k681 .nil)) (mO ok681 mN) (by kernel_rfl)
theorem ok683 : PuOK prog k683.f k683.args k683.t := known (L := .nil) mN (by kernel_rfl)
theorem ok684 : PuOK prog k684.f k684.args k684.t := known (L := .nil) mN (by kernel_rfl)
theorem ok685 : PuOK prog k685.f k685.args k685.t := known (L := (.one k684 .nil)) (mO ok684 mN) (by kernel_rfl)
theorem ok686 : PuOK prog k686.f k686.args k686.t := known (L := .nil) mN (by kernel_rfl)
theorem ok687 : PuOK prog k687.f k687.args k687.t := known (L := .nil) mN (by kernel_rfl)
theorem ok688 : PuOK prog k688.f k688.args k688.t := known (L := (.one k687 .nil)) (mO ok687 mN) (by kernel_rfl)
theorem ok689 : PuOK prog k689.f k689.args k689.t := known (L := .nil) mN (by kernel_rfl)
theorem ok690 : PuOK prog k690.f k690.args k690.t := known (L := .nil) mN (by kernel_rfl)
theorem ok691 : PuOK prog k691.f k691.args k691.t := known (L := (.one k690 .nil)) (mO ok690 mN) (by kernel_rfl)
theorem ok692 : PuOK prog k692.f k692.args k692.t := known (L := .nil) mN (by kernel_rfl)
theorem ok693 : PuOK prog k693.f k693.args k693.t := known (L := .nil) mN (by kernel_rfl)
theorem ok694 : PuOK prog k694.f k694.args k694.t := known (L := (.one k693 .nil)) (mO ok693 mN) (by kernel_rfl)
theorem ok695 : PuOK prog k695.f k695.args k695.t := known (L := .nil) mN (by kernel_rfl)
theorem ok696 : PuOK prog k696.f k696.args k696.t := known (L := .nil) mN (by kernel_rfl)
theorem ok697 : PuOK prog k697.f k697.args k697.t := known (L := (.one k696 .nil)) (mO ok696 mN) (by kernel_rfl)
theorem ok698 : PuOK prog k698.f k698.args k698.t := known (L := .nil) mN (by kernel_rfl)
theorem ok699 : PuOK prog k699.f k699.args k699.t := known (L := .nil) mN (by kernel_rfl)
theorem ok700 : PuOK prog k700.f k700.args k700.t := known (L := (.one k699 .nil)) (mO ok699 mN) (by kernel_rfl)
theorem ok701 : PuOK prog k701.f k701.args k701.t := known (L := .nil) mN (by kernel_rfl)
theorem ok702 : PuOK prog k702.f k702.args k702.t := known (L := .nil) mN (by kernel_rfl)
theorem ok703 : PuOK prog k703.f k703.args k703.t := known (L := (.one k702 .nil)) (mO ok702 mN) (by kernel_rfl)
theorem ok704 : PuOK prog k704.f k704.args k704.t := known (L := .nil) mN (by kernel_rfl)
theorem ok705 : PuOK prog k705.f k705.args k705.t := known (L := .nil) mN (by kernel_rfl)
theorem ok706 : PuOK prog k706.f k706.args k706.t := known (L := (.one k705 .nil)) (mO ok705 mN) (by kernel_rfl)
theorem ok707 : PuOK prog k707.f k707.args k707.t := known (L := .nil) mN (by kernel_rfl)
theorem ok708 : PuOK prog k708.f k708.args k708.t := known (L := .nil) mN (by kernel_rfl)
theorem ok709 : PuOK prog k709.f k709.args k709.t := known (L := (.one k708 .nil)) (mO ok708 mN) (by kernel_rfl)
theorem ok710 : PuOK prog k710.f k710.args k710.t := known (L := .nil) mN (by kernel_rfl)
theorem ok711 : PuOK prog k711.f k711.args k711.t := known (L := .nil) mN (by kernel_rfl)
theorem ok712 : PuOK prog k712.f k712.args k712.t := known (L := (.one k711 .nil)) (mO ok711 mN) (by kernel_rfl)
theorem ok713 : PuOK prog k713.f k713.args k713.t := known (L := .nil) mN (by kernel_rfl)
theorem ok714 : PuOK prog k714.f k714.args k714.t := known (L := .nil) mN (by kernel_rfl)
theorem ok715 : PuOK prog k715.f k715.args k715.t := known (L := (.one k714 .nil)) (mO ok714 mN) (by kernel_rfl)
theorem ok716 : PuOK prog k716.f k716.args k716.t := known (L := .nil) mN (by kernel_rfl)
theorem ok717 : PuOK prog k717.f k717.args k717.t := known (L := .nil) mN (by kernel_rfl)
theorem ok718 : PuOK prog k718.f k718.args k718.t := known (L := (.one k717 .nil)) (mO ok717 mN) (by kernel_rfl)
theorem ok719 : PuOK prog k719.f k719.args k719.t := known (L := .nil) mN (by kernel_rfl)
theorem ok720 : PuOK prog k720.f k720.args k720.t := known (L := .nil) mN (by kernel_rfl)
theorem ok721 : PuOK prog k721.f k721.args k721.t := known (L := (.one k720 .nil)) (mO ok720 mN) (by kernel_rfl)
theorem ok722 : PuOK prog k722.f k722.args k722.t := known (L := .nil) mN (by kernel_rfl)
theorem ok723 : PuOK prog k723.f k723.args k723.t := known (L := .nil) mN (by kernel_rfl)
theorem ok724 : PuOK prog k724.f k724.args k724.t := known (L := (.one k723 .nil)) (mO ok723 mN) (by kernel_rfl)
theorem ok725 : PuOK prog k725.f k725.args k725.t := known (L := .nil) mN (by kernel_rfl)
theorem ok726 : PuOK prog k726.f k726.args k726.t := known (L := .nil) mN (by kernel_rfl)
theorem ok727 : PuOK prog k727.f k727.args k727.t := known (L := (.one k726 .nil)) (mO ok726 mN) (by kernel_rfl)
theorem ok728 : PuOK prog k728.f k728.args k728.t := known (L := .nil) mN (by kernel_rfl)
theorem ok729 : PuOK prog k729.f k729.args k729.t := known (L := .nil) mN (by kernel_rfl)
theorem ok730 : PuOK prog k730.f k730.args k730.t := known (L := (.one k729 .nil)) (mO ok729 mN) (by kernel_rfl)
theorem ok731 : PuOK prog k731.f k731.args k731.t := known (L := .nil) mN (by kernel_rfl)
theorem ok732 : PuOK prog k732.f k732.args k732.t := known (L := .nil) mN (by kernel_rfl)
theorem ok733 : PuOK prog k733.f k733.args k733.t := known (L := (.one k732 .nil)) (mO ok732 mN) (by kernel_rfl)
theorem ok734 : PuOK prog k734.f k734.args k734.t := known (L := .nil) mN (by kernel_rfl)
theorem ok735 : PuOK prog k735.f k735.args k735.t := known (L := .nil) mN (by kernel_rfl)
theorem ok736 : PuOK prog k736.f k736.args k736.t := known (L := (.one k735 .nil)) (mO ok735 mN) (by kernel_rfl)
theorem ok737 : PuOK prog k737.f k737.args k737.t := known (L := .nil) mN (by kernel_rfl)
theorem ok738 : PuOK prog k738.f k738.args k738.t := known (L := .nil) mN (by kernel_rfl)
theorem ok739 : PuOK prog k739.f k739.args k739.t := known (L := (.one k738 .nil)) (mO ok738 mN) (by kernel_rfl)
theorem ok740 : PuOK prog k740.f k740.args k740.t := known (L := .nil) mN (by kernel_rfl)
theorem ok741 : PuOK prog k741.f k741.args k741.t := known (L := .nil) mN (by kernel_rfl)
theorem ok742 : PuOK prog k742.f k742.args k742.t := known (L := (.one k741 .nil)) (mO ok741 mN) (by kernel_rfl)
theorem ok743 : PuOK prog k743.f k743.args k743.t := known (L := .nil) mN (by kernel_rfl)
theorem ok744 : PuOK prog k744.f k744.args k744.t := known (L := .nil) mN (by kernel_rfl)
theorem ok745 : PuOK prog k745.f k745.args k745.t := known (L := (.one k744 .nil)) (mO ok744 mN) (by kernel_rfl)
theorem ok746 : PuOK prog k746.f k746.args k746.t := known (L := .nil) mN (by kernel_rfl)
theorem ok747 : PuOK prog k747.f k747.args k747.t := known (L := .nil) mN (by kernel_rfl)
theorem ok748 : PuOK prog k748.f k748.args k748.t := known (L := (.one k747 .nil)) (mO ok747 mN) (by kernel_rfl)
theorem ok749 : PuOK prog k749.f k749.args k749.t := known (L := .nil) mN (by kernel_rfl)
theorem ok750 : PuOK prog k750.f k750.args k750.t := known (L := .nil) mN (by kernel_rfl)
theorem ok751 : PuOK prog k751.f k751.args k751.t := known (L := (.one k750 .nil)) (mO ok750 mN) (by kernel_rfl)
theorem ok752 : PuOK prog k752.f k752.args k752.t := known (L := .nil) mN (by kernel_rfl)
theorem ok753 : PuOK prog k753.f k753.args k753.t := known (L := .nil) mN (by kernel_rfl)
theorem ok754 : PuOK prog k754.f k754.args k754.t := known (L := (.one k753 .nil)) (mO ok753 mN) (by kernel_rfl)
theorem ok755 : PuOK prog k755.f k755.args k755.t := known (L := .nil) mN (by kernel_rfl)
theorem ok756 : PuOK prog k756.f k756.args k756.t := known (L := .nil) mN (by kernel_rfl)
theorem ok757 : PuOK prog k757.f k757.args k757.t := known (L := (.one k756 .nil)) (mO ok756 mN) (by kernel_rfl)
theorem ok758 : PuOK prog k758.f k758.args k758.t := known (L := .nil) mN (by kernel_rfl)
theorem ok759 : PuOK prog k759.f k759.args k759.t := known (L := .nil) mN (by kernel_rfl)
theorem ok760 : PuOK prog k760.f k760.args k760.t := known (L := (.one k759 .nil)) (mO ok759 mN) (by kernel_rfl)
theorem ok761 : PuOK prog k761.f k761.args k761.t := known (L := .nil) mN (by kernel_rfl)
theorem ok762 : PuOK prog k762.f k762.args k762.t := known (L := .nil) mN (by kernel_rfl)
theorem ok763 : PuOK prog k763.f k763.args k763.t := known (L := (.one k762 .nil)) (mO ok762 mN) (by kernel_rfl)
theorem ok764 : PuOK prog k764.f k764.args k764.t := known (L := .nil) mN (by kernel_rfl)
theorem ok765 : PuOK prog k765.f k765.args k765.t := known (L := .nil) mN (by kernel_rfl)
theorem ok766 : PuOK prog k766.f k766.args k766.t := known (L := (.one k765 .nil)) (mO ok765 mN) (by kernel_rfl)
theorem ok767 : PuOK prog k767.f k767.args k767.t := known (L := .nil) mN (by kernel_rfl)
theorem ok768 : PuOK prog k768.f k768.args k768.t := known (L := .nil) mN (by kernel_rfl)
theorem ok769 : PuOK prog k769.f k769.args k769.t := known (L := (.one k768 .nil)) (mO ok768 mN) (by kernel_rfl)
theorem ok770 : PuOK prog k770.f k770.args k770.t := known (L := .nil) mN (by kernel_rfl)
theorem ok771 : PuOK prog k771.f k771.args k771.t := known (L := .nil) mN (by kernel_rfl)
theorem ok772 : PuOK prog k772.f k772.args k772.t := known (L := (.one k771 .nil)) (mO ok771 mN) (by kernel_rfl)
theorem ok773 : PuOK prog k773.f k773.args k773.t := known (L := .nil) mN (by kernel_rfl)
theorem ok774 : PuOK prog k774.f k774.args k774.t := known (L := .nil) mN (by kernel_rfl)
theorem ok775 : PuOK prog k775.f k775.args k775.t := known (L := (.one k774 .nil)) (mO ok774 mN) (by kernel_rfl)
theorem ok776 : PuOK prog k776.f k776.args k776.t := known (L := .nil) mN (by kernel_rfl)
theorem ok777 : PuOK prog k777.f k777.args k777.t := known (L := .nil) mN (by kernel_rfl)
theorem ok778 : PuOK prog k778.f k778.args k778.t := known (L := (.one k777 .nil)) (mO ok777 mN) (by kernel_rfl)
theorem ok779 : PuOK prog k779.f k779.args k779.t := known (L := .nil) mN (by kernel_rfl)
theorem ok780 : PuOK prog k780.f k780.args k780.t := known (L := .nil) mN (by kernel_rfl)
theorem ok781 : PuOK prog k781.f k781.args k781.t := known (L := (.one k780 .nil)) (mO ok780 mN) (by kernel_rfl)
theorem ok782 : PuOK prog k782.f k782.args k782.t := known (L := .nil) mN (by kernel_rfl)
theorem ok783 : PuOK prog k783.f k783.args k783.t := known (L := .nil) mN (by kernel_rfl)
theorem ok784 : PuOK prog k784.f k784.args k784.t := known (L := (.one k783 .nil)) (mO ok783 mN) (by kernel_rfl)
theorem ok785 : PuOK prog k785.f k785.args k785.t := known (L := .nil) mN (by kernel_rfl)
theorem ok786 : PuOK prog k786.f k786.args k786.t := known (L := .nil) mN (by kernel_rfl)
theorem ok787 : PuOK prog k787.f k787.args k787.t := known (L := (.one k786 .nil)) (mO ok786 mN) (by kernel_rfl)
theorem ok788 : PuOK prog k788.f k788.args k788.t := known (L := .nil) mN (by kernel_rfl)
theorem ok789 : PuOK prog k789.f k789.args k789.t := known (L := .nil) mN (by kernel_rfl)
theorem ok790 : PuOK prog k790.f k790.args k790.t := known (L := (.one k789 .nil)) (mO ok789 mN) (by kernel_rfl)
theorem ok791 : PuOK prog k791.f k791.args k791.t := known (L := .nil) mN (by kernel_rfl)
theorem ok792 : PuOK prog k792.f k792.args k792.t := known (L := .nil) mN (by kernel_rfl)
theorem ok793 : PuOK prog k793.f k793.args k793.t := known (L := (.one k792 .nil)) (mO ok792 mN) (by kernel_rfl)
theorem ok794 : PuOK prog k794.f k794.args k794.t := known (L := .nil) mN (by kernel_rfl)
theorem ok795 : PuOK prog k795.f k795.args k795.t := known (L := .nil) mN (by kernel_rfl)
theorem ok796 : PuOK prog k796.f k796.args k796.t := known (L := (.one k795 .nil)) (mO ok795 mN) (by kernel_rfl)
theorem ok797 : PuOK prog k797.f k797.args k797.t := known (L := .nil) mN (by kernel_rfl)
theorem ok798 : PuOK prog k798.f k798.args k798.t := known (L := .nil) mN (by kernel_rfl)
theorem ok799 : PuOK prog k799.f k799.args k799.t := known (L := (.one k798 .nil)) (mO ok798 mN) (by kernel_rfl)
theorem ok800 : PuOK prog k800.f k800.args k800.t := known (L := .nil) mN (by kernel_rfl)
theorem ok801 : PuOK prog k801.f k801.args k801.t := known (L := .nil) mN (by kernel_rfl)
theorem ok802 : PuOK prog k802.f k802.args k802.t := known (L := (.one k801 .nil)) (mO ok801 mN) (by kernel_rfl)
theorem ok803 : PuOK prog k803.f k803.args k803.t := known (L := .nil) mN (by kernel_rfl)
theorem ok804 : PuOK prog k804.f k804.args k804.t := known (L := .nil) mN (by kernel_rfl)
theorem ok805 : PuOK prog k805.f k805.args k805.t := known (L := (.one k804 .nil)) (mO ok804 mN) (by kernel_rfl)
theorem ok806 : PuOK prog k806.f k806.args k806.t := known (L := .nil) mN (by kernel_rfl)
theorem ok807 : PuOK prog k807.f k807.args k807.t := known (L := .nil) mN (by kernel_rfl)
theorem ok808 : PuOK prog k808.f k808.args k808.t := known (L := (.one k807 .nil)) (mO ok807 mN) (by kernel_rfl)
theorem ok809 : PuOK prog k809.f k809.args k809.t := known (L := .nil) mN (by kernel_rfl)
theorem ok810 : PuOK prog k810.f k810.args k810.t := known (L := .nil) mN (by kernel_rfl)
theorem ok811 : PuOK prog k811.f k811.args k811.t := known (L := (.one k810 .nil)) (mO ok810 mN) (by kernel_rfl)
theorem ok812 : PuOK prog k812.f k812.args k812.t := known (L := .nil) mN (by kernel_rfl)
theorem ok813 : PuOK prog k813.f k813.args k813.t := known (L := .nil) mN (by kernel_rfl)
theorem ok814 : PuOK prog k814.f k814.args k814.t := known (L := (.one k813 .nil)) (mO ok813 mN) (by kernel_rfl)
theorem ok815 : PuOK prog k815.f k815.args k815.t := known (L := .nil) mN (by kernel_rfl)
theorem ok816 : PuOK prog k816.f k816.args k816.t := known (L := .nil) mN (by kernel_rfl)
theorem ok817 : PuOK prog k817.f k817.args k817.t := known (L := (.one k816 .nil)) (mO ok816 mN) (by kernel_rfl)
theorem ok818 : PuOK prog k818.f k818.args k818.t := known (L := .nil) mN (by kernel_rfl)
end Go.V
