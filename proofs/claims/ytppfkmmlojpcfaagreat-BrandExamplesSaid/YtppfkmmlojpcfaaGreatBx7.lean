/- Calls, evaluated. -/
import Derived.Test.YtppfkmmlojpcfaaGreatBx0
import Derived.Test.YtppfkmmlojpcfaaGreatBx2
import Derived.Test.YtppfkmmlojpcfaaGreatBx6
set_option linter.unusedVariables false
set_option maxRecDepth 100000
namespace Go.V
open Go.Proofs.Tryz (prog)
def k866 : Memo := ⟨228, [g2, .int .i64 (11)], g13⟩
def k867 : Memo := ⟨228, [g3, .int .i64 (11)], g11⟩
def k868 : Memo := ⟨153, [g5, .int .i64 (11), .int .i64 (1)], .bool false⟩
def k869 : Memo := ⟨228, [g1, .int .i64 (12)], g10⟩
def k870 : Memo := ⟨228, [g2, .int .i64 (12)], g10⟩
def k871 : Memo := ⟨153, [g5, .int .i64 (12), .int .i64 (1)], .bool false⟩
def k872 : Memo := ⟨228, [g1, .int .i64 (13)], g11⟩
def k873 : Memo := ⟨228, [g2, .int .i64 (13)], g11⟩
def k874 : Memo := ⟨153, [g5, .int .i64 (13), .int .i64 (1)], .bool false⟩
def k875 : Memo := ⟨228, [g1, .int .i64 (14)], g10⟩
def k876 : Memo := ⟨228, [g2, .int .i64 (14)], g12⟩
def k877 : Memo := ⟨228, [g3, .int .i64 (14)], g10⟩
def k878 : Memo := ⟨153, [g5, .int .i64 (14), .int .i64 (1)], .bool false⟩
def k879 : Memo := ⟨228, [g1, .int .i64 (15)], g11⟩
def k880 : Memo := ⟨228, [g2, .int .i64 (15)], g13⟩
def k881 : Memo := ⟨228, [g3, .int .i64 (15)], g11⟩
def k882 : Memo := ⟨153, [g5, .int .i64 (15), .int .i64 (1)], .bool false⟩
def k883 : Memo := ⟨153, [g5, .int .i64 (16), .int .i64 (1)], .bool false⟩
def k884 : Memo := ⟨228, [g1, .int .i64 (17)], g11⟩
def k885 : Memo := ⟨228, [g2, .int .i64 (17)], g11⟩
def k886 : Memo := ⟨153, [g5, .int .i64 (17), .int .i64 (1)], .bool false⟩
def k887 : Memo := ⟨228, [g1, .int .i64 (18)], g10⟩
def k888 : Memo := ⟨228, [g2, .int .i64 (18)], g12⟩
def k889 : Memo := ⟨228, [g3, .int .i64 (18)], g10⟩
def k890 : Memo := ⟨153, [g5, .int .i64 (18), .int .i64 (1)], .bool false⟩
def k891 : Memo := ⟨228, [g1, .int .i64 (19)], g11⟩
def k892 : Memo := ⟨228, [g2, .int .i64 (19)], g13⟩
def k893 : Memo := ⟨228, [g3, .int .i64 (19)], g11⟩
def k894 : Memo := ⟨153, [g5, .int .i64 (19), .int .i64 (1)], .bool false⟩
def k895 : Memo := ⟨228, [g1, .int .i64 (20)], g10⟩
def k896 : Memo := ⟨228, [g2, .int .i64 (20)], g10⟩
def k897 : Memo := ⟨153, [g5, .int .i64 (20), .int .i64 (1)], .bool false⟩
def k898 : Memo := ⟨228, [g1, .int .i64 (21)], g11⟩
def k899 : Memo := ⟨228, [g2, .int .i64 (21)], g11⟩
def k900 : Memo := ⟨153, [g5, .int .i64 (21), .int .i64 (1)], .bool false⟩
def k901 : Memo := ⟨228, [g1, .int .i64 (22)], g10⟩
def k902 : Memo := ⟨228, [g2, .int .i64 (22)], g12⟩
def k903 : Memo := ⟨228, [g3, .int .i64 (22)], g10⟩
def k904 : Memo := ⟨153, [g5, .int .i64 (22), .int .i64 (1)], .bool false⟩
def k905 : Memo := ⟨228, [g1, .int .i64 (23)], g11⟩
def k906 : Memo := ⟨228, [g2, .int .i64 (23)], g13⟩
def k907 : Memo := ⟨228, [g3, .int .i64 (23)], g11⟩
def k908 : Memo := ⟨153, [g5, .int .i64 (23), .int .i64 (1)], .bool false⟩
def k909 : Memo := ⟨228, [g1, .int .i64 (24)], g10⟩
def k910 : Memo := ⟨228, [g2, .int .i64 (24)], g10⟩
def k911 : Memo := ⟨153, [g5, .int .i64 (24), .int .i64 (1)], .bool false⟩
def k912 : Memo := ⟨228, [g1, .int .i64 (25)], g11⟩
def k913 : Memo := ⟨228, [g2, .int .i64 (25)], g11⟩
def k914 : Memo := ⟨153, [g5, .int .i64 (25), .int .i64 (1)], .bool false⟩
def k915 : Memo := ⟨228, [g1, .int .i64 (26)], g10⟩
def k916 : Memo := ⟨228, [g2, .int .i64 (26)], g12⟩
def k917 : Memo := ⟨228, [g3, .int .i64 (26)], g10⟩
def k918 : Memo := ⟨153, [g5, .int .i64 (26), .int .i64 (1)], .bool false⟩
def k919 : Memo := ⟨228, [g1, .int .i64 (27)], g11⟩
def k920 : Memo := ⟨228, [g2, .int .i64 (27)], g13⟩
def k921 : Memo := ⟨228, [g3, .int .i64 (27)], g11⟩
def k922 : Memo := ⟨153, [g5, .int .i64 (27), .int .i64 (1)], .bool false⟩
def k923 : Memo := ⟨228, [g1, .int .i64 (28)], g10⟩
def k924 : Memo := ⟨228, [g2, .int .i64 (28)], g10⟩
def k925 : Memo := ⟨153, [g5, .int .i64 (28), .int .i64 (1)], .bool false⟩
def k926 : Memo := ⟨228, [g1, .int .i64 (29)], g11⟩
def k927 : Memo := ⟨228, [g2, .int .i64 (29)], g11⟩
def k928 : Memo := ⟨153, [g5, .int .i64 (29), .int .i64 (1)], .bool false⟩
def k929 : Memo := ⟨228, [g1, .int .i64 (30)], g10⟩
def k930 : Memo := ⟨228, [g2, .int .i64 (30)], g12⟩
def k931 : Memo := ⟨228, [g3, .int .i64 (30)], g10⟩
def k932 : Memo := ⟨153, [g5, .int .i64 (30), .int .i64 (1)], .bool false⟩
def k933 : Memo := ⟨228, [g1, .int .i64 (31)], g11⟩
def k934 : Memo := ⟨228, [g2, .int .i64 (31)], g13⟩
def k935 : Memo := ⟨228, [g3, .int .i64 (31)], g11⟩
def k936 : Memo := ⟨153, [g5, .int .i64 (31), .int .i64 (1)], .bool false⟩
def k937 : Memo := ⟨153, [g5, .int .i64 (32), .int .i64 (1)], .bool false⟩
def k938 : Memo := ⟨228, [g1, .int .i64 (33)], g11⟩
def k939 : Memo := ⟨228, [g2, .int .i64 (33)], g11⟩
def k940 : Memo := ⟨153, [g5, .int .i64 (33), .int .i64 (1)], .bool false⟩
def k941 : Memo := ⟨228, [g1, .int .i64 (34)], g10⟩
def k942 : Memo := ⟨228, [g2, .int .i64 (34)], g12⟩
def k943 : Memo := ⟨228, [g3, .int .i64 (34)], g10⟩
def k944 : Memo := ⟨153, [g5, .int .i64 (34), .int .i64 (1)], .bool false⟩
def k945 : Memo := ⟨228, [g1, .int .i64 (35)], g11⟩
def k946 : Memo := ⟨228, [g2, .int .i64 (35)], g13⟩
def k947 : Memo := ⟨228, [g3, .int .i64 (35)], g11⟩
def k948 : Memo := ⟨153, [g5, .int .i64 (35), .int .i64 (1)], .bool false⟩
def k949 : Memo := ⟨228, [g1, .int .i64 (36)], g10⟩
def k950 : Memo := ⟨228, [g2, .int .i64 (36)], g10⟩
def k951 : Memo := ⟨153, [g5, .int .i64 (36), .int .i64 (1)], .bool false⟩
def k952 : Memo := ⟨228, [g1, .int .i64 (37)], g11⟩
def k953 : Memo := ⟨228, [g2, .int .i64 (37)], g11⟩
def k954 : Memo := ⟨153, [g5, .int .i64 (37), .int .i64 (1)], .bool false⟩
def k955 : Memo := ⟨228, [g1, .int .i64 (38)], g10⟩
def k956 : Memo := ⟨228, [g2, .int .i64 (38)], g12⟩
def k957 : Memo := ⟨228, [g3, .int .i64 (38)], g10⟩
def k958 : Memo := ⟨153, [g5, .int .i64 (38), .int .i64 (1)], .bool false⟩
def k959 : Memo := ⟨228, [g1, .int .i64 (39)], g11⟩
def k960 : Memo := ⟨228, [g2, .int .i64 (39)], g13⟩
def k961 : Memo := ⟨228, [g3, .int .i64 (39)], g11⟩
def k962 : Memo := ⟨153, [g5, .int .i64 (39), .int .i64 (1)], .bool false⟩
def k963 : Memo := ⟨228, [g1, .int .i64 (40)], g10⟩
def k964 : Memo := ⟨228, [g2, .int .i64 (40)], g10⟩
def k965 : Memo := ⟨153, [g5, .int .i64 (40), .int .i64 (1)], .bool false⟩
def k966 : Memo := ⟨228, [g1, .int .i64 (41)], g11⟩
def k967 : Memo := ⟨228, [g2, .int .i64 (41)], g11⟩
def k968 : Memo := ⟨153, [g5, .int .i64 (41), .int .i64 (1)], .bool false⟩
def k969 : Memo := ⟨228, [g1, .int .i64 (42)], g10⟩
def k970 : Memo := ⟨228, [g2, .int .i64 (42)], g12⟩
def k971 : Memo := ⟨228, [g3, .int .i64 (42)], g10⟩
def k972 : Memo := ⟨153, [g5, .int .i64 (42), .int .i64 (1)], .bool false⟩
def k973 : Memo := ⟨228, [g1, .int .i64 (43)], g11⟩
def k974 : Memo := ⟨228, [g2, .int .i64 (43)], g13⟩
def k975 : Memo := ⟨228, [g3, .int .i64 (43)], g11⟩
def k976 : Memo := ⟨153, [g5, .int .i64 (43), .int .i64 (1)], .bool false⟩
def k977 : Memo := ⟨228, [g1, .int .i64 (44)], g10⟩
def k978 : Memo := ⟨228, [g2, .int .i64 (44)], g10⟩
def k979 : Memo := ⟨153, [g5, .int .i64 (44), .int .i64 (1)], .bool false⟩
def k980 : Memo := ⟨228, [g1, .int .i64 (45)], g11⟩
def k981 : Memo := ⟨228, [g2, .int .i64 (45)], g11⟩
def k982 : Memo := ⟨153, [g5, .int .i64 (45), .int .i64 (1)], .bool false⟩
def k983 : Memo := ⟨228, [g1, .int .i64 (46)], g10⟩
def k984 : Memo := ⟨228, [g2, .int .i64 (46)], g12⟩
def k985 : Memo := ⟨228, [g3, .int .i64 (46)], g10⟩
def k986 : Memo := ⟨153, [g5, .int .i64 (46), .int .i64 (1)], .bool false⟩
def k987 : Memo := ⟨228, [g1, .int .i64 (47)], g11⟩
def k988 : Memo := ⟨228, [g2, .int .i64 (47)], g13⟩
def k989 : Memo := ⟨228, [g3, .int .i64 (47)], g11⟩
def k990 : Memo := ⟨153, [g5, .int .i64 (47), .int .i64 (1)], .bool false⟩
def k991 : Memo := ⟨228, [g1, .int .i64 (48)], g10⟩
def k992 : Memo := ⟨228, [g2, .int .i64 (48)], g10⟩
def k993 : Memo := ⟨153, [g5, .int .i64 (48), .int .i64 (1)], .bool false⟩
def k994 : Memo := ⟨228, [g1, .int .i64 (49)], g11⟩
def k995 : Memo := ⟨228, [g2, .int .i64 (49)], g11⟩
def k996 : Memo := ⟨153, [g5, .int .i64 (49), .int .i64 (1)], .bool false⟩
def k997 : Memo := ⟨228, [g1, .int .i64 (50)], g10⟩
def k998 : Memo := ⟨228, [g2, .int .i64 (50)], g12⟩
def k999 : Memo := ⟨228, [g3, .int .i64 (50)], g10⟩
def k1000 : Memo := ⟨153, [g5, .int .i64 (50), .int .i64 (1)], .bool false⟩
def k1001 : Memo := ⟨228, [g1, .int .i64 (51)], g11⟩
theorem ok866 : PuOK prog k866.f k866.args k866.t := known (L := .nil) mN (by kernel_rfl)
theorem ok867 : PuOK prog k867.f k867.args k867.t := known (L := .nil) mN (by kernel_rfl)
theorem ok868 : PuOK prog k868.f k868.args k868.t := known (L := (.one k865 (.one k866 (.one k867 .nil)))) (mO ok865 (mO ok866 (mO ok867 mN))) (by kernel_rfl)
theorem ok869 : PuOK prog k869.f k869.args k869.t := known (L := .nil) mN (by kernel_rfl)
theorem ok870 : PuOK prog k870.f k870.args k870.t := known (L := .nil) mN (by kernel_rfl)
theorem ok871 : PuOK prog k871.f k871.args k871.t := known (L := (.one k869 (.one k870 .nil))) (mO ok869 (mO ok870 mN)) (by kernel_rfl)
theorem ok872 : PuOK prog k872.f k872.args k872.t := known (L := .nil) mN (by kernel_rfl)
theorem ok873 : PuOK prog k873.f k873.args k873.t := known (L := .nil) mN (by kernel_rfl)
theorem ok874 : PuOK prog k874.f k874.args k874.t := known (L := (.one k872 (.one k873 .nil))) (mO ok872 (mO ok873 mN)) (by kernel_rfl)
theorem ok875 : PuOK prog k875.f k875.args k875.t := known (L := .nil) mN (by kernel_rfl)
theorem ok876 : PuOK prog k876.f k876.args k876.t := known (L := .nil) mN (by kernel_rfl)
theorem ok877 : PuOK prog k877.f k877.args k877.t := known (L := .nil) mN (by kernel_rfl)
theorem ok878 : PuOK prog k878.f k878.args k878.t := known (L := (.one k875 (.one k876 (.one k877 .nil)))) (mO ok875 (mO ok876 (mO ok877 mN))) (by kernel_rfl)
theorem ok879 : PuOK prog k879.f k879.args k879.t := known (L := .nil) mN (by kernel_rfl)
theorem ok880 : PuOK prog k880.f k880.args k880.t := known (L := .nil) mN (by kernel_rfl)
theorem ok881 : PuOK prog k881.f k881.args k881.t := known (L := .nil) mN (by kernel_rfl)
theorem ok882 : PuOK prog k882.f k882.args k882.t := known (L := (.one k879 (.one k880 (.one k881 .nil)))) (mO ok879 (mO ok880 (mO ok881 mN))) (by kernel_rfl)
theorem ok883 : PuOK prog k883.f k883.args k883.t := known (L := (.one k96 (.one k97 .nil))) (mO ok96 (mO ok97 mN)) (by kernel_rfl)
theorem ok884 : PuOK prog k884.f k884.args k884.t := known (L := .nil) mN (by kernel_rfl)
theorem ok885 : PuOK prog k885.f k885.args k885.t := known (L := .nil) mN (by kernel_rfl)
theorem ok886 : PuOK prog k886.f k886.args k886.t := known (L := (.one k884 (.one k885 .nil))) (mO ok884 (mO ok885 mN)) (by kernel_rfl)
theorem ok887 : PuOK prog k887.f k887.args k887.t := known (L := .nil) mN (by kernel_rfl)
theorem ok888 : PuOK prog k888.f k888.args k888.t := known (L := .nil) mN (by kernel_rfl)
theorem ok889 : PuOK prog k889.f k889.args k889.t := known (L := .nil) mN (by kernel_rfl)
theorem ok890 : PuOK prog k890.f k890.args k890.t := known (L := (.one k887 (.one k888 (.one k889 .nil)))) (mO ok887 (mO ok888 (mO ok889 mN))) (by kernel_rfl)
theorem ok891 : PuOK prog k891.f k891.args k891.t := known (L := .nil) mN (by kernel_rfl)
theorem ok892 : PuOK prog k892.f k892.args k892.t := known (L := .nil) mN (by kernel_rfl)
theorem ok893 : PuOK prog k893.f k893.args k893.t := known (L := .nil) mN (by kernel_rfl)
theorem ok894 : PuOK prog k894.f k894.args k894.t := known (L := (.one k891 (.one k892 (.one k893 .nil)))) (mO ok891 (mO ok892 (mO ok893 mN))) (by kernel_rfl)
theorem ok895 : PuOK prog k895.f k895.args k895.t := known (L := .nil) mN (by kernel_rfl)
theorem ok896 : PuOK prog k896.f k896.args k896.t := known (L := .nil) mN (by kernel_rfl)
theorem ok897 : PuOK prog k897.f k897.args k897.t := known (L := (.one k895 (.one k896 .nil))) (mO ok895 (mO ok896 mN)) (by kernel_rfl)
theorem ok898 : PuOK prog k898.f k898.args k898.t := known (L := .nil) mN (by kernel_rfl)
theorem ok899 : PuOK prog k899.f k899.args k899.t := known (L := .nil) mN (by kernel_rfl)
theorem ok900 : PuOK prog k900.f k900.args k900.t := known (L := (.one k898 (.one k899 .nil))) (mO ok898 (mO ok899 mN)) (by kernel_rfl)
theorem ok901 : PuOK prog k901.f k901.args k901.t := known (L := .nil) mN (by kernel_rfl)
theorem ok902 : PuOK prog k902.f k902.args k902.t := known (L := .nil) mN (by kernel_rfl)
theorem ok903 : PuOK prog k903.f k903.args k903.t := known (L := .nil) mN (by kernel_rfl)
theorem ok904 : PuOK prog k904.f k904.args k904.t := known (L := (.one k901 (.one k902 (.one k903 .nil)))) (mO ok901 (mO ok902 (mO ok903 mN))) (by kernel_rfl)
theorem ok905 : PuOK prog k905.f k905.args k905.t := known (L := .nil) mN (by kernel_rfl)
theorem ok906 : PuOK prog k906.f k906.args k906.t := known (L := .nil) mN (by kernel_rfl)
theorem ok907 : PuOK prog k907.f k907.args k907.t := known (L := .nil) mN (by kernel_rfl)
theorem ok908 : PuOK prog k908.f k908.args k908.t := known (L := (.one k905 (.one k906 (.one k907 .nil)))) (mO ok905 (mO ok906 (mO ok907 mN))) (by kernel_rfl)
theorem ok909 : PuOK prog k909.f k909.args k909.t := known (L := .nil) mN (by kernel_rfl)
theorem ok910 : PuOK prog k910.f k910.args k910.t := known (L := .nil) mN (by kernel_rfl)
theorem ok911 : PuOK prog k911.f k911.args k911.t := known (L := (.one k909 (.one k910 .nil))) (mO ok909 (mO ok910 mN)) (by kernel_rfl)
theorem ok912 : PuOK prog k912.f k912.args k912.t := known (L := .nil) mN (by kernel_rfl)
theorem ok913 : PuOK prog k913.f k913.args k913.t := known (L := .nil) mN (by kernel_rfl)
theorem ok914 : PuOK prog k914.f k914.args k914.t := known (L := (.one k912 (.one k913 .nil))) (mO ok912 (mO ok913 mN)) (by kernel_rfl)
theorem ok915 : PuOK prog k915.f k915.args k915.t := known (L := .nil) mN (by kernel_rfl)
theorem ok916 : PuOK prog k916.f k916.args k916.t := known (L := .nil) mN (by kernel_rfl)
theorem ok917 : PuOK prog k917.f k917.args k917.t := known (L := .nil) mN (by kernel_rfl)
theorem ok918 : PuOK prog k918.f k918.args k918.t := known (L := (.one k915 (.one k916 (.one k917 .nil)))) (mO ok915 (mO ok916 (mO ok917 mN))) (by kernel_rfl)
theorem ok919 : PuOK prog k919.f k919.args k919.t := known (L := .nil) mN (by kernel_rfl)
theorem ok920 : PuOK prog k920.f k920.args k920.t := known (L := .nil) mN (by kernel_rfl)
theorem ok921 : PuOK prog k921.f k921.args k921.t := known (L := .nil) mN (by kernel_rfl)
theorem ok922 : PuOK prog k922.f k922.args k922.t := known (L := (.one k919 (.one k920 (.one k921 .nil)))) (mO ok919 (mO ok920 (mO ok921 mN))) (by kernel_rfl)
theorem ok923 : PuOK prog k923.f k923.args k923.t := known (L := .nil) mN (by kernel_rfl)
theorem ok924 : PuOK prog k924.f k924.args k924.t := known (L := .nil) mN (by kernel_rfl)
theorem ok925 : PuOK prog k925.f k925.args k925.t := known (L := (.one k923 (.one k924 .nil))) (mO ok923 (mO ok924 mN)) (by kernel_rfl)
theorem ok926 : PuOK prog k926.f k926.args k926.t := known (L := .nil) mN (by kernel_rfl)
theorem ok927 : PuOK prog k927.f k927.args k927.t := known (L := .nil) mN (by kernel_rfl)
theorem ok928 : PuOK prog k928.f k928.args k928.t := known (L := (.one k926 (.one k927 .nil))) (mO ok926 (mO ok927 mN)) (by kernel_rfl)
theorem ok929 : PuOK prog k929.f k929.args k929.t := known (L := .nil) mN (by kernel_rfl)
theorem ok930 : PuOK prog k930.f k930.args k930.t := known (L := .nil) mN (by kernel_rfl)
theorem ok931 : PuOK prog k931.f k931.args k931.t := known (L := .nil) mN (by kernel_rfl)
theorem ok932 : PuOK prog k932.f k932.args k932.t := known (L := (.one k929 (.one k930 (.one k931 .nil)))) (mO ok929 (mO ok930 (mO ok931 mN))) (by kernel_rfl)
theorem ok933 : PuOK prog k933.f k933.args k933.t := known (L := .nil) mN (by kernel_rfl)
theorem ok934 : PuOK prog k934.f k934.args k934.t := known (L := .nil) mN (by kernel_rfl)
theorem ok935 : PuOK prog k935.f k935.args k935.t := known (L := .nil) mN (by kernel_rfl)
theorem ok936 : PuOK prog k936.f k936.args k936.t := known (L := (.one k933 (.one k934 (.one k935 .nil)))) (mO ok933 (mO ok934 (mO ok935 mN))) (by kernel_rfl)
theorem ok937 : PuOK prog k937.f k937.args k937.t := known (L := (.one k146 (.one k147 .nil))) (mO ok146 (mO ok147 mN)) (by kernel_rfl)
theorem ok938 : PuOK prog k938.f k938.args k938.t := known (L := .nil) mN (by kernel_rfl)
theorem ok939 : PuOK prog k939.f k939.args k939.t := known (L := .nil) mN (by kernel_rfl)
theorem ok940 : PuOK prog k940.f k940.args k940.t := known (L := (.one k938 (.one k939 .nil))) (mO ok938 (mO ok939 mN)) (by kernel_rfl)
theorem ok941 : PuOK prog k941.f k941.args k941.t := known (L := .nil) mN (by kernel_rfl)
theorem ok942 : PuOK prog k942.f k942.args k942.t := known (L := .nil) mN (by kernel_rfl)
theorem ok943 : PuOK prog k943.f k943.args k943.t := known (L := .nil) mN (by kernel_rfl)
theorem ok944 : PuOK prog k944.f k944.args k944.t := known (L := (.one k941 (.one k942 (.one k943 .nil)))) (mO ok941 (mO ok942 (mO ok943 mN))) (by kernel_rfl)
theorem ok945 : PuOK prog k945.f k945.args k945.t := known (L := .nil) mN (by kernel_rfl)
theorem ok946 : PuOK prog k946.f k946.args k946.t := known (L := .nil) mN (by kernel_rfl)
theorem ok947 : PuOK prog k947.f k947.args k947.t := known (L := .nil) mN (by kernel_rfl)
theorem ok948 : PuOK prog k948.f k948.args k948.t := known (L := (.one k945 (.one k946 (.one k947 .nil)))) (mO ok945 (mO ok946 (mO ok947 mN))) (by kernel_rfl)
theorem ok949 : PuOK prog k949.f k949.args k949.t := known (L := .nil) mN (by kernel_rfl)
theorem ok950 : PuOK prog k950.f k950.args k950.t := known (L := .nil) mN (by kernel_rfl)
theorem ok951 : PuOK prog k951.f k951.args k951.t := known (L := (.one k949 (.one k950 .nil))) (mO ok949 (mO ok950 mN)) (by kernel_rfl)
theorem ok952 : PuOK prog k952.f k952.args k952.t := known (L := .nil) mN (by kernel_rfl)
theorem ok953 : PuOK prog k953.f k953.args k953.t := known (L := .nil) mN (by kernel_rfl)
theorem ok954 : PuOK prog k954.f k954.args k954.t := known (L := (.one k952 (.one k953 .nil))) (mO ok952 (mO ok953 mN)) (by kernel_rfl)
theorem ok955 : PuOK prog k955.f k955.args k955.t := known (L := .nil) mN (by kernel_rfl)
theorem ok956 : PuOK prog k956.f k956.args k956.t := known (L := .nil) mN (by kernel_rfl)
theorem ok957 : PuOK prog k957.f k957.args k957.t := known (L := .nil) mN (by kernel_rfl)
theorem ok958 : PuOK prog k958.f k958.args k958.t := known (L := (.one k955 (.one k956 (.one k957 .nil)))) (mO ok955 (mO ok956 (mO ok957 mN))) (by kernel_rfl)
theorem ok959 : PuOK prog k959.f k959.args k959.t := known (L := .nil) mN (by kernel_rfl)
theorem ok960 : PuOK prog k960.f k960.args k960.t := known (L := .nil) mN (by kernel_rfl)
theorem ok961 : PuOK prog k961.f k961.args k961.t := known (L := .nil) mN (by kernel_rfl)
theorem ok962 : PuOK prog k962.f k962.args k962.t := known (L := (.one k959 (.one k960 (.one k961 .nil)))) (mO ok959 (mO ok960 (mO ok961 mN))) (by kernel_rfl)
theorem ok963 : PuOK prog k963.f k963.args k963.t := known (L := .nil) mN (by kernel_rfl)
theorem ok964 : PuOK prog k964.f k964.args k964.t := known (L := .nil) mN (by kernel_rfl)
theorem ok965 : PuOK prog k965.f k965.args k965.t := known (L := (.one k963 (.one k964 .nil))) (mO ok963 (mO ok964 mN)) (by kernel_rfl)
theorem ok966 : PuOK prog k966.f k966.args k966.t := known (L := .nil) mN (by kernel_rfl)
theorem ok967 : PuOK prog k967.f k967.args k967.t := known (L := .nil) mN (by kernel_rfl)
theorem ok968 : PuOK prog k968.f k968.args k968.t := known (L := (.one k966 (.one k967 .nil))) (mO ok966 (mO ok967 mN)) (by kernel_rfl)
theorem ok969 : PuOK prog k969.f k969.args k969.t := known (L := .nil) mN (by kernel_rfl)
theorem ok970 : PuOK prog k970.f k970.args k970.t := known (L := .nil) mN (by kernel_rfl)
theorem ok971 : PuOK prog k971.f k971.args k971.t := known (L := .nil) mN (by kernel_rfl)
theorem ok972 : PuOK prog k972.f k972.args k972.t := known (L := (.one k969 (.one k970 (.one k971 .nil)))) (mO ok969 (mO ok970 (mO ok971 mN))) (by kernel_rfl)
theorem ok973 : PuOK prog k973.f k973.args k973.t := known (L := .nil) mN (by kernel_rfl)
theorem ok974 : PuOK prog k974.f k974.args k974.t := known (L := .nil) mN (by kernel_rfl)
theorem ok975 : PuOK prog k975.f k975.args k975.t := known (L := .nil) mN (by kernel_rfl)
theorem ok976 : PuOK prog k976.f k976.args k976.t := known (L := (.one k973 (.one k974 (.one k975 .nil)))) (mO ok973 (mO ok974 (mO ok975 mN))) (by kernel_rfl)
theorem ok977 : PuOK prog k977.f k977.args k977.t := known (L := .nil) mN (by kernel_rfl)
theorem ok978 : PuOK prog k978.f k978.args k978.t := known (L := .nil) mN (by kernel_rfl)
theorem ok979 : PuOK prog k979.f k979.args k979.t := known (L := (.one k977 (.one k978 .nil))) (mO ok977 (mO ok978 mN)) (by kernel_rfl)
theorem ok980 : PuOK prog k980.f k980.args k980.t := known (L := .nil) mN (by kernel_rfl)
theorem ok981 : PuOK prog k981.f k981.args k981.t := known (L := .nil) mN (by kernel_rfl)
theorem ok982 : PuOK prog k982.f k982.args k982.t := known (L := (.one k980 (.one k981 .nil))) (mO ok980 (mO ok981 mN)) (by kernel_rfl)
theorem ok983 : PuOK prog k983.f k983.args k983.t := known (L := .nil) mN (by kernel_rfl)
theorem ok984 : PuOK prog k984.f k984.args k984.t := known (L := .nil) mN (by kernel_rfl)
theorem ok985 : PuOK prog k985.f k985.args k985.t := known (L := .nil) mN (by kernel_rfl)
theorem ok986 : PuOK prog k986.f k986.args k986.t := known (L := (.one k983 (.one k984 (.one k985 .nil)))) (mO ok983 (mO ok984 (mO ok985 mN))) (by kernel_rfl)
theorem ok987 : PuOK prog k987.f k987.args k987.t := known (L := .nil) mN (by kernel_rfl)
theorem ok988 : PuOK prog k988.f k988.args k988.t := known (L := .nil) mN (by kernel_rfl)
theorem ok989 : PuOK prog k989.f k989.args k989.t := known (L := .nil) mN (by kernel_rfl)
theorem ok990 : PuOK prog k990.f k990.args k990.t := known (L := (.one k987 (.one k988 (.one k989 .nil)))) (mO ok987 (mO ok988 (mO ok989 mN))) (by kernel_rfl)
theorem ok991 : PuOK prog k991.f k991.args k991.t := known (L := .nil) mN (by kernel_rfl)
theorem ok992 : PuOK prog k992.f k992.args k992.t := known (L := .nil) mN (by kernel_rfl)
theorem ok993 : PuOK prog k993.f k993.args k993.t := known (L := (.one k991 (.one k992 .nil))) (mO ok991 (mO ok992 mN)) (by kernel_rfl)
theorem ok994 : PuOK prog k994.f k994.args k994.t := known (L := .nil) mN (by kernel_rfl)
theorem ok995 : PuOK prog k995.f k995.args k995.t := known (L := .nil) mN (by kernel_rfl)
theorem ok996 : PuOK prog k996.f k996.args k996.t := known (L := (.one k994 (.one k995 .nil))) (mO ok994 (mO ok995 mN)) (by kernel_rfl)
theorem ok997 : PuOK prog k997.f k997.args k997.t := known (L := .nil) mN (by kernel_rfl)
theorem ok998 : PuOK prog k998.f k998.args k998.t := known (L := .nil) mN (by kernel_rfl)
theorem ok999 : PuOK prog k999.f k999.args k999.t := known (L := .nil) mN (by kernel_rfl)
theorem ok1000 : PuOK prog k1000.f k1000.args k1000.t := known (L := (.one k997 (.one k998 (.one k999 .nil)))) (mO ok997 (mO ok998 (mO ok999 mN))) (by kernel_rfl)
theorem ok1001 : PuOK prog k1001.f k1001.args k1001.t := known (L := .nil) mN (by kernel_rfl)
end Go.V
