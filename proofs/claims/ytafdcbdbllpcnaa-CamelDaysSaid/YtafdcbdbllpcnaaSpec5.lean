/- How many days like one an animal lasts: plain. -/
import Derived.Test.YtafdcbdbllpcnaaSpec3
namespace Go.Proofs.Ytafdcbdbllpcnaa

/-- From day i on, so many days left, with the first day that isn't sure. -/
def lastsGo (b : Br) (m : Mr) : Nat → Int → Cm → Int → Int × Int
  | 0, _, _, lo => (lo, 60)
  | n + 1, i, c, lo => if diesS b c m = true then (mn lo i, i) else lastsGo b m n (i + 1) (eveC b c m) (if openS b c m = true then mn lo i else lo)
theorem lastsGo_dies {b : Br} {m : Mr} {n : Nat} {i : Int} {c : Cm} {lo : Int} (h : diesS b c m = true) : lastsGo b m (n + 1) i c lo = (mn lo i, i) := by simp [lastsGo, h]
theorem lastsGo_open {b : Br} {m : Mr} {n : Nat} {i : Int} {c : Cm} {lo : Int} (h : diesS b c m = false) (h2 : openS b c m = true) : lastsGo b m (n + 1) i c lo = lastsGo b m n (i + 1) (eveC b c m) (mn lo i) := by simp [lastsGo, h, h2]
theorem lastsGo_lives {b : Br} {m : Mr} {n : Nat} {i : Int} {c : Cm} {lo : Int} (h : diesS b c m = false) (h2 : openS b c m = false) : lastsGo b m (n + 1) i c lo = lastsGo b m n (i + 1) (eveC b c m) lo := by simp [lastsGo, h, h2]
end Go.Proofs.Ytafdcbdbllpcnaa
