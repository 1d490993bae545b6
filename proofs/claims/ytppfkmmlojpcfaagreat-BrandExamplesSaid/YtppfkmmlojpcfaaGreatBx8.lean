/- Calls, evaluated. -/
import Derived.Test.YtppfkmmlojpcfaaGreatBx0
import Derived.Test.YtppfkmmlojpcfaaGreatBx2
import Derived.Test.YtppfkmmlojpcfaaGreatBx7
set_option linter.unusedVariables false
set_option maxRecDepth 100000
namespace Go.V
open Go.Proofs.Tryz (prog)
def k1002 : Memo := ⟨228, [g2, .int .i64 (51)], g13⟩
def k1003 : Memo := ⟨228, [g3, .int .i64 (51)], g11⟩
def k1004 : Memo := ⟨153, [g5, .int .i64 (51), .int .i64 (1)], .bool false⟩
def k1005 : Memo := ⟨228, [g1, .int .i64 (52)], g10⟩
def k1006 : Memo := ⟨228, [g2, .int .i64 (52)], g10⟩
def k1007 : Memo := ⟨153, [g5, .int .i64 (52), .int .i64 (1)], .bool false⟩
def k1008 : Memo := ⟨228, [g1, .int .i64 (53)], g11⟩
def k1009 : Memo := ⟨228, [g2, .int .i64 (53)], g11⟩
def k1010 : Memo := ⟨153, [g5, .int .i64 (53), .int .i64 (1)], .bool false⟩
def k1011 : Memo := ⟨228, [g1, .int .i64 (54)], g10⟩
def k1012 : Memo := ⟨228, [g2, .int .i64 (54)], g12⟩
def k1013 : Memo := ⟨228, [g3, .int .i64 (54)], g10⟩
def k1014 : Memo := ⟨153, [g5, .int .i64 (54), .int .i64 (1)], .bool false⟩
def k1015 : Memo := ⟨228, [g1, .int .i64 (55)], g11⟩
def k1016 : Memo := ⟨228, [g2, .int .i64 (55)], g13⟩
def k1017 : Memo := ⟨228, [g3, .int .i64 (55)], g11⟩
def k1018 : Memo := ⟨153, [g5, .int .i64 (55), .int .i64 (1)], .bool false⟩
def k1019 : Memo := ⟨228, [g1, .int .i64 (56)], g10⟩
def k1020 : Memo := ⟨228, [g2, .int .i64 (56)], g10⟩
def k1021 : Memo := ⟨153, [g5, .int .i64 (56), .int .i64 (1)], .bool false⟩
def k1022 : Memo := ⟨228, [g1, .int .i64 (57)], g11⟩
def k1023 : Memo := ⟨228, [g2, .int .i64 (57)], g11⟩
def k1024 : Memo := ⟨153, [g5, .int .i64 (57), .int .i64 (1)], .bool false⟩
def k1025 : Memo := ⟨228, [g1, .int .i64 (58)], g10⟩
def k1026 : Memo := ⟨228, [g2, .int .i64 (58)], g12⟩
def k1027 : Memo := ⟨228, [g3, .int .i64 (58)], g10⟩
def k1028 : Memo := ⟨153, [g5, .int .i64 (58), .int .i64 (1)], .bool false⟩
def k1029 : Memo := ⟨228, [g1, .int .i64 (59)], g11⟩
def k1030 : Memo := ⟨228, [g2, .int .i64 (59)], g13⟩
def k1031 : Memo := ⟨228, [g3, .int .i64 (59)], g11⟩
def k1032 : Memo := ⟨153, [g5, .int .i64 (59), .int .i64 (1)], .bool false⟩
def k1033 : Memo := ⟨228, [g1, .int .i64 (60)], g10⟩
def k1034 : Memo := ⟨228, [g2, .int .i64 (60)], g10⟩
def k1035 : Memo := ⟨153, [g5, .int .i64 (60), .int .i64 (1)], .bool false⟩
def k1036 : Memo := ⟨228, [g1, .int .i64 (61)], g11⟩
def k1037 : Memo := ⟨228, [g2, .int .i64 (61)], g11⟩
def k1038 : Memo := ⟨153, [g5, .int .i64 (61), .int .i64 (1)], .bool false⟩
def k1039 : Memo := ⟨228, [g1, .int .i64 (62)], g10⟩
def k1040 : Memo := ⟨228, [g2, .int .i64 (62)], g12⟩
def k1041 : Memo := ⟨228, [g3, .int .i64 (62)], g10⟩
def k1042 : Memo := ⟨153, [g5, .int .i64 (62), .int .i64 (1)], .bool false⟩
def k1043 : Memo := ⟨228, [g1, .int .i64 (63)], g11⟩
def k1044 : Memo := ⟨228, [g2, .int .i64 (63)], g13⟩
def k1045 : Memo := ⟨228, [g3, .int .i64 (63)], g11⟩
def k1046 : Memo := ⟨153, [g5, .int .i64 (63), .int .i64 (1)], .bool false⟩
def k1047 : Memo := ⟨153, [g5, .int .i64 (64), .int .i64 (1)], .bool false⟩
def k1048 : Memo := ⟨228, [g1, .int .i64 (65)], g11⟩
def k1049 : Memo := ⟨228, [g2, .int .i64 (65)], g11⟩
def k1050 : Memo := ⟨153, [g5, .int .i64 (65), .int .i64 (1)], .bool false⟩
def k1051 : Memo := ⟨228, [g1, .int .i64 (66)], g10⟩
def k1052 : Memo := ⟨228, [g2, .int .i64 (66)], g12⟩
def k1053 : Memo := ⟨228, [g3, .int .i64 (66)], g10⟩
def k1054 : Memo := ⟨153, [g5, .int .i64 (66), .int .i64 (1)], .bool false⟩
def k1055 : Memo := ⟨228, [g1, .int .i64 (67)], g11⟩
def k1056 : Memo := ⟨228, [g2, .int .i64 (67)], g13⟩
def k1057 : Memo := ⟨228, [g3, .int .i64 (67)], g11⟩
def k1058 : Memo := ⟨153, [g5, .int .i64 (67), .int .i64 (1)], .bool false⟩
def k1059 : Memo := ⟨228, [g1, .int .i64 (68)], g10⟩
def k1060 : Memo := ⟨228, [g2, .int .i64 (68)], g10⟩
def k1061 : Memo := ⟨153, [g5, .int .i64 (68), .int .i64 (1)], .bool false⟩
def k1062 : Memo := ⟨228, [g1, .int .i64 (69)], g11⟩
def k1063 : Memo := ⟨228, [g2, .int .i64 (69)], g11⟩
def k1064 : Memo := ⟨153, [g5, .int .i64 (69), .int .i64 (1)], .bool false⟩
def k1065 : Memo := ⟨228, [g1, .int .i64 (70)], g10⟩
def k1066 : Memo := ⟨228, [g2, .int .i64 (70)], g12⟩
def k1067 : Memo := ⟨228, [g3, .int .i64 (70)], g10⟩
def k1068 : Memo := ⟨153, [g5, .int .i64 (70), .int .i64 (1)], .bool false⟩
def k1069 : Memo := ⟨228, [g1, .int .i64 (71)], g11⟩
def k1070 : Memo := ⟨228, [g2, .int .i64 (71)], g13⟩
def k1071 : Memo := ⟨228, [g3, .int .i64 (71)], g11⟩
def k1072 : Memo := ⟨153, [g5, .int .i64 (71), .int .i64 (1)], .bool false⟩
def k1073 : Memo := ⟨228, [g1, .int .i64 (72)], g10⟩
def k1074 : Memo := ⟨228, [g2, .int .i64 (72)], g10⟩
def k1075 : Memo := ⟨153, [g5, .int .i64 (72), .int .i64 (1)], .bool false⟩
def k1076 : Memo := ⟨228, [g1, .int .i64 (73)], g11⟩
def k1077 : Memo := ⟨228, [g2, .int .i64 (73)], g11⟩
def k1078 : Memo := ⟨153, [g5, .int .i64 (73), .int .i64 (1)], .bool false⟩
def k1079 : Memo := ⟨228, [g1, .int .i64 (74)], g10⟩
def k1080 : Memo := ⟨228, [g2, .int .i64 (74)], g12⟩
def k1081 : Memo := ⟨228, [g3, .int .i64 (74)], g10⟩
def k1082 : Memo := ⟨153, [g5, .int .i64 (74), .int .i64 (1)], .bool false⟩
def k1083 : Memo := ⟨228, [g1, .int .i64 (75)], g11⟩
def k1084 : Memo := ⟨228, [g2, .int .i64 (75)], g13⟩
def k1085 : Memo := ⟨228, [g3, .int .i64 (75)], g11⟩
def k1086 : Memo := ⟨153, [g5, .int .i64 (75), .int .i64 (1)], .bool false⟩
def k1087 : Memo := ⟨228, [g1, .int .i64 (76)], g10⟩
def k1088 : Memo := ⟨228, [g2, .int .i64 (76)], g10⟩
def k1089 : Memo := ⟨153, [g5, .int .i64 (76), .int .i64 (1)], .bool false⟩
def k1090 : Memo := ⟨228, [g1, .int .i64 (77)], g11⟩
def k1091 : Memo := ⟨228, [g2, .int .i64 (77)], g11⟩
def k1092 : Memo := ⟨153, [g5, .int .i64 (77), .int .i64 (1)], .bool false⟩
def k1093 : Memo := ⟨228, [g1, .int .i64 (78)], g10⟩
def k1094 : Memo := ⟨228, [g2, .int .i64 (78)], g12⟩
def k1095 : Memo := ⟨228, [g3, .int .i64 (78)], g10⟩
def k1096 : Memo := ⟨153, [g5, .int .i64 (78), .int .i64 (1)], .bool false⟩
def k1097 : Memo := ⟨228, [g1, .int .i64 (79)], g11⟩
def k1098 : Memo := ⟨228, [g2, .int .i64 (79)], g13⟩
def k1099 : Memo := ⟨228, [g3, .int .i64 (79)], g11⟩
def k1100 : Memo := ⟨153, [g5, .int .i64 (79), .int .i64 (1)], .bool false⟩
def k1101 : Memo := ⟨228, [g1, .int .i64 (80)], g10⟩
def k1102 : Memo := ⟨228, [g2, .int .i64 (80)], g10⟩
def k1103 : Memo := ⟨153, [g5, .int .i64 (80), .int .i64 (1)], .bool false⟩
def k1104 : Memo := ⟨228, [g1, .int .i64 (81)], g11⟩
def k1105 : Memo := ⟨228, [g2, .int .i64 (81)], g11⟩
def k1106 : Memo := ⟨153, [g5, .int .i64 (81), .int .i64 (1)], .bool false⟩
def k1107 : Memo := ⟨228, [g1, .int .i64 (82)], g10⟩
def k1108 : Memo := ⟨228, [g2, .int .i64 (82)], g12⟩
def k1109 : Memo := ⟨228, [g3, .int .i64 (82)], g10⟩
def k1110 : Memo := ⟨153, [g5, .int .i64 (82), .int .i64 (1)], .bool false⟩
def k1111 : Memo := ⟨228, [g1, .int .i64 (83)], g11⟩
def k1112 : Memo := ⟨228, [g2, .int .i64 (83)], g13⟩
def k1113 : Memo := ⟨228, [g3, .int .i64 (83)], g11⟩
def k1114 : Memo := ⟨153, [g5, .int .i64 (83), .int .i64 (1)], .bool false⟩
def k1115 : Memo := ⟨228, [g1, .int .i64 (84)], g10⟩
def k1116 : Memo := ⟨228, [g2, .int .i64 (84)], g10⟩
def k1117 : Memo := ⟨153, [g5, .int .i64 (84), .int .i64 (1)], .bool false⟩
def k1118 : Memo := ⟨228, [g1, .int .i64 (85)], g11⟩
def k1119 : Memo := ⟨228, [g2, .int .i64 (85)], g11⟩
def k1120 : Memo := ⟨153, [g5, .int .i64 (85), .int .i64 (1)], .bool false⟩
def k1121 : Memo := ⟨228, [g1, .int .i64 (86)], g10⟩
def k1122 : Memo := ⟨228, [g2, .int .i64 (86)], g12⟩
def k1123 : Memo := ⟨228, [g3, .int .i64 (86)], g10⟩
def k1124 : Memo := ⟨153, [g5, .int .i64 (86), .int .i64 (1)], .bool false⟩
def k1125 : Memo := ⟨228, [g1, .int .i64 (87)], g11⟩
def k1126 : Memo := ⟨228, [g2, .int .i64 (87)], g13⟩
def k1127 : Memo := ⟨228, [g3, .int .i64 (87)], g11⟩
def k1128 : Memo := ⟨153, [g5, .int .i64 (87), .int .i64 (1)], .bool false⟩
def k1129 : Memo := ⟨228, [g1, .int .i64 (88)], g10⟩
def k1130 : Memo := ⟨228, [g2, .int .i64 (88)], g10⟩
def k1131 : Memo := ⟨153, [g5, .int .i64 (88), .int .i64 (1)], .bool false⟩
def k1132 : Memo := ⟨228, [g1, .int .i64 (89)], g11⟩
def k1133 : Memo := ⟨228, [g2, .int .i64 (89)], g11⟩
def k1134 : Memo := ⟨153, [g5, .int .i64 (89), .int .i64 (1)], .bool false⟩
def k1135 : Memo := ⟨228, [g1, .int .i64 (90)], g10⟩
def k1136 : Memo := ⟨228, [g2, .int .i64 (90)], g12⟩
def k1137 : Memo := ⟨228, [g3, .int .i64 (90)], g10⟩
def k1138 : Memo := ⟨153, [g5, .int .i64 (90), .int .i64 (1)], .bool false⟩
theorem ok1002 : PuOK prog k1002.f k1002.args k1002.t := known (L := .nil) mN (by kernel_rfl)
theorem ok1003 : PuOK prog k1003.f k1003.args k1003.t := known (L := .nil) mN (by kernel_rfl)
theorem ok1004 : PuOK prog k1004.f k1004.args k1004.t := known (L := (.one k1001 (.one k1002 (.one k1003 .nil)))) (mO ok1001 (mO ok1002 (mO ok1003 mN))) (by kernel_rfl)
theorem ok1005 : PuOK prog k1005.f k1005.args k1005.t := known (L := .nil) mN (by kernel_rfl)
theorem ok1006 : PuOK prog k1006.f k1006.args k1006.t := known (L := .nil) mN (by kernel_rfl)
theorem ok1007 : PuOK prog k1007.f k1007.args k1007.t := known (L := (.one k1005 (.one k1006 .nil))) (mO ok1005 (mO ok1006 mN)) (by kernel_rfl)
theorem ok1008 : PuOK prog k1008.f k1008.args k1008.t := known (L := .nil) mN (by kernel_rfl)
theorem ok1009 : PuOK prog k1009.f k1009.args k1009.t := known (L := .nil) mN (by kernel_rfl)
theorem ok1010 : PuOK prog k1010.f k1010.args k1010.t := known (L := (.one k1008 (.one k1009 .nil))) (mO ok1008 (mO ok1009 mN)) (by kernel_rfl)
theorem ok1011 : PuOK prog k1011.f k1011.args k1011.t := known (L := .nil) mN (by kernel_rfl)
theorem ok1012 : PuOK prog k1012.f k1012.args k1012.t := known (L := .nil) mN (by kernel_rfl)
theorem ok1013 : PuOK prog k1013.f k1013.args k1013.t := known (L := .nil) mN (by kernel_rfl)
theorem ok1014 : PuOK prog k1014.f k1014.args k1014.t := known (L := (.one k1011 (.one k1012 (.one k1013 .nil)))) (mO ok1011 (mO ok1012 (mO ok1013 mN))) (by kernel_rfl)
theorem ok1015 : PuOK prog k1015.f k1015.args k1015.t := known (L := .nil) mN (by kernel_rfl)
theorem ok1016 : PuOK prog k1016.f k1016.args k1016.t := known (L := .nil) mN (by kernel_rfl)
theorem ok1017 : PuOK prog k1017.f k1017.args k1017.t := known (L := .nil) mN (by kernel_rfl)
theorem ok1018 : PuOK prog k1018.f k1018.args k1018.t := known (L := (.one k1015 (.one k1016 (.one k1017 .nil)))) (mO ok1015 (mO ok1016 (mO ok1017 mN))) (by kernel_rfl)
theorem ok1019 : PuOK prog k1019.f k1019.args k1019.t := known (L := .nil) mN (by kernel_rfl)
theorem ok1020 : PuOK prog k1020.f k1020.args k1020.t := known (L := .nil) mN (by kernel_rfl)
theorem ok1021 : PuOK prog k1021.f k1021.args k1021.t := known (L := (.one k1019 (.one k1020 .nil))) (mO ok1019 (mO ok1020 mN)) (by kernel_rfl)
theorem ok1022 : PuOK prog k1022.f k1022.args k1022.t := known (L := .nil) mN (by kernel_rfl)
theorem ok1023 : PuOK prog k1023.f k1023.args k1023.t := known (L := .nil) mN (by kernel_rfl)
theorem ok1024 : PuOK prog k1024.f k1024.args k1024.t := known (L := (.one k1022 (.one k1023 .nil))) (mO ok1022 (mO ok1023 mN)) (by kernel_rfl)
theorem ok1025 : PuOK prog k1025.f k1025.args k1025.t := known (L := .nil) mN (by kernel_rfl)
theorem ok1026 : PuOK prog k1026.f k1026.args k1026.t := known (L := .nil) mN (by kernel_rfl)
theorem ok1027 : PuOK prog k1027.f k1027.args k1027.t := known (L := .nil) mN (by kernel_rfl)
theorem ok1028 : PuOK prog k1028.f k1028.args k1028.t := known (L := (.one k1025 (.one k1026 (.one k1027 .nil)))) (mO ok1025 (mO ok1026 (mO ok1027 mN))) (by kernel_rfl)
theorem ok1029 : PuOK prog k1029.f k1029.args k1029.t := known (L := .nil) mN (by kernel_rfl)
theorem ok1030 : PuOK prog k1030.f k1030.args k1030.t := known (L := .nil) mN (by kernel_rfl)
theorem ok1031 : PuOK prog k1031.f k1031.args k1031.t := known (L := .nil) mN (by kernel_rfl)
theorem ok1032 : PuOK prog k1032.f k1032.args k1032.t := known (L := (.one k1029 (.one k1030 (.one k1031 .nil)))) (mO ok1029 (mO ok1030 (mO ok1031 mN))) (by kernel_rfl)
theorem ok1033 : PuOK prog k1033.f k1033.args k1033.t := known (L := .nil) mN (by kernel_rfl)
theorem ok1034 : PuOK prog k1034.f k1034.args k1034.t := known (L := .nil) mN (by kernel_rfl)
theorem ok1035 : PuOK prog k1035.f k1035.args k1035.t := known (L := (.one k1033 (.one k1034 .nil))) (mO ok1033 (mO ok1034 mN)) (by kernel_rfl)
theorem ok1036 : PuOK prog k1036.f k1036.args k1036.t := known (L := .nil) mN (by kernel_rfl)
theorem ok1037 : PuOK prog k1037.f k1037.args k1037.t := known (L := .nil) mN (by kernel_rfl)
theorem ok1038 : PuOK prog k1038.f k1038.args k1038.t := known (L := (.one k1036 (.one k1037 .nil))) (mO ok1036 (mO ok1037 mN)) (by kernel_rfl)
theorem ok1039 : PuOK prog k1039.f k1039.args k1039.t := known (L := .nil) mN (by kernel_rfl)
theorem ok1040 : PuOK prog k1040.f k1040.args k1040.t := known (L := .nil) mN (by kernel_rfl)
theorem ok1041 : PuOK prog k1041.f k1041.args k1041.t := known (L := .nil) mN (by kernel_rfl)
theorem ok1042 : PuOK prog k1042.f k1042.args k1042.t := known (L := (.one k1039 (.one k1040 (.one k1041 .nil)))) (mO ok1039 (mO ok1040 (mO ok1041 mN))) (by kernel_rfl)
theorem ok1043 : PuOK prog k1043.f k1043.args k1043.t := known (L := .nil) mN (by kernel_rfl)
theorem ok1044 : PuOK prog k1044.f k1044.args k1044.t := known (L := .nil) mN (by kernel_rfl)
theorem ok1045 : PuOK prog k1045.f k1045.args k1045.t := known (L := .nil) mN (by kernel_rfl)
theorem ok1046 : PuOK prog k1046.f k1046.args k1046.t := known (L := (.one k1043 (.one k1044 (.one k1045 .nil)))) (mO ok1043 (mO ok1044 (mO ok1045 mN))) (by kernel_rfl)
theorem ok1047 : PuOK prog k1047.f k1047.args k1047.t := known (L := (.one k244 (.one k245 .nil))) (mO ok244 (mO ok245 mN)) (by kernel_rfl)
theorem ok1048 : PuOK prog k1048.f k1048.args k1048.t := known (L := .nil) mN (by kernel_rfl)
theorem ok1049 : PuOK prog k1049.f k1049.args k1049.t := known (L := .nil) mN (by kernel_rfl)
theorem ok1050 : PuOK prog k1050.f k1050.args k1050.t := known (L := (.one k1048 (.one k1049 .nil))) (mO ok1048 (mO ok1049 mN)) (by kernel_rfl)
theorem ok1051 : PuOK prog k1051.f k1051.args k1051.t := known (L := .nil) mN (by kernel_rfl)
theorem ok1052 : PuOK prog k1052.f k1052.args k1052.t := known (L := .nil) mN (by kernel_rfl)
theorem ok1053 : PuOK prog k1053.f k1053.args k1053.t := known (L := .nil) mN (by kernel_rfl)
theorem ok1054 : PuOK prog k1054.f k1054.args k1054.t := known (L := (.one k1051 (.one k1052 (.one k1053 .nil)))) (mO ok1051 (mO ok1052 (mO ok1053 mN))) (by kernel_rfl)
theorem ok1055 : PuOK prog k1055.f k1055.args k1055.t := known (L := .nil) mN (by kernel_rfl)
theorem ok1056 : PuOK prog k1056.f k1056.args k1056.t := known (L := .nil) mN (by kernel_rfl)
theorem ok1057 : PuOK prog k1057.f k1057.args k1057.t := known (L := .nil) mN (by kernel_rfl)
theorem ok1058 : PuOK prog k1058.f k1058.args k1058.t := known (L := (.one k1055 (.one k1056 (.one k1057 .nil)))) (mO ok1055 (mO ok1056 (mO ok1057 mN))) (by kernel_rfl)
theorem ok1059 : PuOK prog k1059.f k1059.args k1059.t := known (L := .nil) mN (by kernel_rfl)
theorem ok1060 : PuOK prog k1060.f k1060.args k1060.t := known (L := .nil) mN (by kernel_rfl)
theorem ok1061 : PuOK prog k1061.f k1061.args k1061.t := known (L := (.one k1059 (.one k1060 .nil))) (mO ok1059 (mO ok1060 mN)) (by kernel_rfl)
theorem ok1062 : PuOK prog k1062.f k1062.args k1062.t := known (L := .nil) mN (by kernel_rfl)
theorem ok1063 : PuOK prog k1063.f k1063.args k1063.t := known (L := .nil) mN (by kernel_rfl)
theorem ok1064 : PuOK prog k1064.f k1064.args k1064.t := known (L := (.one k1062 (.one k1063 .nil))) (mO ok1062 (mO ok1063 mN)) (by kernel_rfl)
theorem ok1065 : PuOK prog k1065.f k1065.args k1065.t := known (L := .nil) mN (by kernel_rfl)
theorem ok1066 : PuOK prog k1066.f k1066.args k1066.t := known (L := .nil) mN (by kernel_rfl)
theorem ok1067 : PuOK prog k1067.f k1067.args k1067.t := known (L := .nil) mN (by kernel_rfl)
theorem ok1068 : PuOK prog k1068.f k1068.args k1068.t := known (L := (.one k1065 (.one k1066 (.one k1067 .nil)))) (mO ok1065 (mO ok1066 (mO ok1067 mN))) (by kernel_rfl)
theorem ok1069 : PuOK prog k1069.f k1069.args k1069.t := known (L := .nil) mN (by kernel_rfl)
theorem ok1070 : PuOK prog k1070.f k1070.args k1070.t := known (L := .nil) mN (by kernel_rfl)
theorem ok1071 : PuOK prog k1071.f k1071.args k1071.t := known (L := .nil) mN (by kernel_rfl)
theorem ok1072 : PuOK prog k1072.f k1072.args k1072.t := known (L := (.one k1069 (.one k1070 (.one k1071 .nil)))) (mO ok1069 (mO ok1070 (mO ok1071 mN))) (by kernel_rfl)
theorem ok1073 : PuOK prog k1073.f k1073.args k1073.t := known (L := .nil) mN (by kernel_rfl)
theorem ok1074 : PuOK prog k1074.f k1074.args k1074.t := known (L := .nil) mN (by kernel_rfl)
theorem ok1075 : PuOK prog k1075.f k1075.args k1075.t := known (L := (.one k1073 (.one k1074 .nil))) (mO ok1073 (mO ok1074 mN)) (by kernel_rfl)
theorem ok1076 : PuOK prog k1076.f k1076.args k1076.t := known (L := .nil) mN (by kernel_rfl)
theorem ok1077 : PuOK prog k1077.f k1077.args k1077.t := known (L := .nil) mN (by kernel_rfl)
theorem ok1078 : PuOK prog k1078.f k1078.args k1078.t := known (L := (.one k1076 (.one k1077 .nil))) (mO ok1076 (mO ok1077 mN)) (by kernel_rfl)
theorem ok1079 : PuOK prog k1079.f k1079.args k1079.t := known (L := .nil) mN (by kernel_rfl)
theorem ok1080 : PuOK prog k1080.f k1080.args k1080.t := known (L := .nil) mN (by kernel_rfl)
theorem ok1081 : PuOK prog k1081.f k1081.args k1081.t := known (L := .nil) mN (by kernel_rfl)
theorem ok1082 : PuOK prog k1082.f k1082.args k1082.t := known (L := (.one k1079 (.one k1080 (.one k1081 .nil)))) (mO ok1079 (mO ok1080 (mO ok1081 mN))) (by kernel_rfl)
theorem ok1083 : PuOK prog k1083.f k1083.args k1083.t := known (L := .nil) mN (by kernel_rfl)
theorem ok1084 : PuOK prog k1084.f k1084.args k1084.t := known (L := .nil) mN (by kernel_rfl)
theorem ok1085 : PuOK prog k1085.f k1085.args k1085.t := known (L := .nil) mN (by kernel_rfl)
theorem ok1086 : PuOK prog k1086.f k1086.args k1086.t := known (L := (.one k1083 (.one k1084 (.one k1085 .nil)))) (mO ok1083 (mO ok1084 (mO ok1085 mN))) (by kernel_rfl)
theorem ok1087 : PuOK prog k1087.f k1087.args k1087.t := known (L := .nil) mN (by kernel_rfl)
theorem ok1088 : PuOK prog k1088.f k1088.args k1088.t := known (L := .nil) mN (by kernel_rfl)
theorem ok1089 : PuOK prog k1089.f k1089.args k1089.t := known (L := (.one k1087 (.one k1088 .nil))) (mO ok1087 (mO ok1088 mN)) (by kernel_rfl)
theorem ok1090 : PuOK prog k1090.f k1090.args k1090.t := known (L := .nil) mN (by kernel_rfl)
theorem ok1091 : PuOK prog k1091.f k1091.args k1091.t := known (L := .nil) mN (by kernel_rfl)
theorem ok1092 : PuOK prog k1092.f k1092.args k1092.t := known (L := (.one k1090 (.one k1091 .nil))) (mO ok1090 (mO ok1091 mN)) (by kernel_rfl)
theorem ok1093 : PuOK prog k1093.f k1093.args k1093.t := known (L := .nil) mN (by kernel_rfl)
theorem ok1094 : PuOK prog k1094.f k1094.args k1094.t := known (L := .nil) mN (by kernel_rfl)
theorem ok1095 : PuOK prog k1095.f k1095.args k1095.t := known (L := .nil) mN (by kernel_rfl)
theorem ok1096 : PuOK prog k1096.f k1096.args k1096.t := known (L := (.one k1093 (.one k1094 (.one k1095 .nil)))) (mO ok1093 (mO ok1094 (mO ok1095 mN))) (by kernel_rfl)
theorem ok1097 : PuOK prog k1097.f k1097.args k1097.t := known (L := .nil) mN (by kernel_rfl)
theorem ok1098 : PuOK prog k1098.f k1098.args k1098.t := known (L := .nil) mN (by kernel_rfl)
theorem ok1099 : PuOK prog k1099.f k1099.args k1099.t := known (L := .nil) mN (by kernel_rfl)
theorem ok1100 : PuOK prog k1100.f k1100.args k1100.t := known (L := (.one k1097 (.one k1098 (.one k1099 .nil)))) (mO ok1097 (mO ok1098 (mO ok1099 mN))) (by kernel_rfl)
theorem ok1101 : PuOK prog k1101.f k1101.args k1101.t := known (L := .nil) mN (by kernel_rfl)
theorem ok1102 : PuOK prog k1102.f k1102.args k1102.t := known (L := .nil) mN (by kernel_rfl)
theorem ok1103 : PuOK prog k1103.f k1103.args k1103.t := known (L := (.one k1101 (.one k1102 .nil))) (mO ok1101 (mO ok1102 mN)) (by kernel_rfl)
theorem ok1104 : PuOK prog k1104.f k1104.args k1104.t := known (L := .nil) mN (by kernel_rfl)
theorem ok1105 : PuOK prog k1105.f k1105.args k1105.t := known (L := .nil) mN (by kernel_rfl)
theorem ok1106 : PuOK prog k1106.f k1106.args k1106.t := known (L := (.one k1104 (.one k1105 .nil))) (mO ok1104 (mO ok1105 mN)) (by kernel_rfl)
theorem ok1107 : PuOK prog k1107.f k1107.args k1107.t := known (L := .nil) mN (by kernel_rfl)
theorem ok1108 : PuOK prog k1108.f k1108.args k1108.t := known (L := .nil) mN (by kernel_rfl)
theorem ok1109 : PuOK prog k1109.f k1109.args k1109.t := known (L := .nil) mN (by kernel_rfl)
theorem ok1110 : PuOK prog k1110.f k1110.args k1110.t := known (L := (.one k1107 (.one k1108 (.one k1109 .nil)))) (mO ok1107 (mO ok1108 (mO ok1109 mN))) (by kernel_rfl)
theorem ok1111 : PuOK prog k1111.f k1111.args k1111.t := known (L := .nil) mN (by kernel_rfl)
theorem ok1112 : PuOK prog k1112.f k1112.args k1112.t := known (L := .nil) mN (by kernel_rfl)
theorem ok1113 : PuOK prog k1113.f k1113.args k1113.t := known (L := .nil) mN (by kernel_rfl)
theorem ok1114 : PuOK prog k1114.f k1114.args k1114.t := known (L := (.one k1111 (.one k1112 (.one k1113 .nil)))) (mO ok1111 (mO ok1112 (mO ok1113 mN))) (by kernel_rfl)
theorem ok1115 : PuOK prog k1115.f k1115.args k1115.t := known (L := .nil) mN (by kernel_rfl)
theorem ok1116 : PuOK prog k1116.f k1116.args k1116.t := known (L := .nil) mN (by kernel_rfl)
theorem ok1117 : PuOK prog k1117.f k1117.args k1117.t := known (L := (.one k1115 (.one k1116 .nil))) (mO ok1115 (mO ok1116 mN)) (by kernel_rfl)
theorem ok1118 : PuOK prog k1118.f k1118.args k1118.t := known (L := .nil) mN (by kernel_rfl)
theorem ok1119 : PuOK prog k1119.f k1119.args k1119.t := known (L := .nil) mN (by kernel_rfl)
theorem ok1120 : PuOK prog k1120.f k1120.args k1120.t := known (L := (.one k1118 (.one k1119 .nil))) (mO ok1118 (mO ok1119 mN)) (by kernel_rfl)
theorem ok1121 : PuOK prog k1121.f k1121.args k1121.t := known (L := .nil) mN (by kernel_rfl)
theorem ok1122 : PuOK prog k1122.f k1122.args k1122.t := known (L := .nil) mN (by kernel_rfl)
theorem ok1123 : PuOK prog k1123.f k1123.args k1123.t := known (L := .nil) mN (by kernel_rfl)
theorem ok1124 : PuOK prog k1124.f k1124.args k1124.t := known (L := (.one k1121 (.one k1122 (.one k1123 .nil)))) (mO ok1121 (mO ok1122 (mO ok1123 mN))) (by kernel_rfl)
theorem ok1125 : PuOK prog k1125.f k1125.args k1125.t := known (L := .nil) mN (by kernel_rfl)
theorem ok1126 : PuOK prog k1126.f k1126.args k1126.t := known (L := .nil) mN (by kernel_rfl)
theorem ok1127 : PuOK prog k1127.f k1127.args k1127.t := known (L := .nil) mN (by kernel_rfl)
theorem ok1128 : PuOK prog k1128.f k1128.args k1128.t := known (L := (.one k1125 (.one k1126 (.one k1127 .nil)))) (mO ok1125 (mO ok1126 (mO ok1127 mN))) (by kernel_rfl)
theorem ok1129 : PuOK prog k1129.f k1129.args k1129.t := known (L := .nil) mN (by kernel_rfl)
theorem ok1130 : PuOK prog k1130.f k1130.args k1130.t := known (L := .nil) mN (by kernel_rfl)
theorem ok1131 : PuOK prog k1131.f k1131.args k1131.t := known (L := (.one k1129 (.one k1130 .nil))) (mO ok1129 (mO ok1130 mN)) (by kernel_rfl)
theorem ok1132 : PuOK prog k1132.f k1132.args k1132.t := known (L := .nil) mN (by kernel_rfl)
theorem ok1133 : PuOK prog k1133.f k1133.args k1133.t := known (L := .nil) mN (by kernel_rfl)
theorem ok1134 : PuOK prog k1134.f k1134.args k1134.t := known (L := (.one k1132 (.one k1133 .nil))) (mO ok1132 (mO ok1133 mN)) (by kernel_rfl)
theorem ok1135 : PuOK prog k1135.f k1135.args k1135.t := known (L := .nil) mN (by kernel_rfl)
theorem ok1136 : PuOK prog k1136.f k1136.args k1136.t := known (L := .nil) mN (by kernel_rfl)
theorem ok1137 : PuOK prog k1137.f k1137.args k1137.t := known (L := .nil) mN (by kernel_rfl)
theorem ok1138 : PuOK prog k1138.f k1138.args k1138.t := known (L := (.one k1135 (.one k1136 (.one k1137 .nil)))) (mO ok1135 (mO ok1136 (mO ok1137 mN))) (by kernel_rfl)
end Go.V
