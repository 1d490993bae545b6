/- An animal in the evening as the reference reckons it is the same. -/
import Derived.Test.YtafdcbdbllpcnaaBigT
set_option linter.unusedVariables false
set_option linter.unusedSimpArgs false
namespace Go.Proofs.Ytafdcbdbllpcnaa

/-- Water, fat and sores in the evening, as the reference reckons them. -/
def waR (most : Int) (h k g : Int × Int) : Int × Int := (mn most (mx 0 (h.1 - k.2) + g.1), mn most (h.2 - k.1 + g.2))
def soR (b : Br) (c : Cm) (m : Mr) : Int × Int := (mn 1000 (c.sore.1 + b.rub.1 * (m.hours * m.load) / 1000000), mn 1000 (c.sore.2 + (b.rub.2 * (m.hours * m.load) + 1000000 - 1) / 1000000))
def heR (b : Br) (c : Cm) : Int × Int := (mx 0 (c.sore.1 - b.heal), mx 0 (c.sore.2 - b.heal))

theorem waR_eq {most : Int} {h k g : Int × Int} (h1 : 0 ≤ h.1) (h2 : h.1 ≤ h.2) (h3 : h.2 ≤ most) (k1 : 0 ≤ k.1) (k2 : k.1 ≤ k.2) (g1 : 0 ≤ g.1) (g2 : g.1 ≤ g.2) (hd : k.1 ≤ h.2) : waR most h k g = refS most h k g := by
  simp only [waR, refS, cl, ad, ls, mn_min, mx_max]
  ext <;> simp only <;> omega
theorem soR_eq {b : Br} {c : Cm} {m : Mr} (hb : BdB b) (hc : BdC b c) (hm : BdM m) (hh : m.hours ≠ 0) : soR b c m = soreS b c m := by
  obtain ⟨s1, s2, s3⟩ := soS_bd hb hm
  obtain ⟨z1, z2, z3⟩ := hc.sore
  simp only [soR, soreS, healS, if_neg hh, soS, ruS, sc] at *
  simp only [cl, ad, ls, mn_min, mx_max]
  ext <;> simp only <;> omega
theorem heR_eq {b : Br} {c : Cm} {m : Mr} (hb : BdB b) (hc : BdC b c) (hh : m.hours = 0) : heR b c = soreS b c m := by
  obtain ⟨z1, z2, z3⟩ := hc.sore
  have := hb.heal
  simp only [heR, soreS, healS, soS, ruS, sc, hh, Int.zero_mul, Int.mul_zero, if_true]
  simp only [cl, ad, ls, mn_min, mx_max]
  ext <;> simp only <;> omega
end Go.Proofs.Ytafdcbdbllpcnaa
