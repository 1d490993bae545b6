/- Load: what a pack weighed in truth -/
import Derived.Test.YtiailejekbnkgaaGreatLz1
set_option linter.unusedVariables false
set_option linter.unusedSimpArgs false
set_option maxRecDepth 100000
namespace Go.Q
open Go.V
/-- Words: numbers below 2^32. -/
structure Wd where
  n : Int
  h0 : 0 ≤ n
  h1 : n ≤ 4294967295
def wds (ws : List Wd) : D := .list (ws.map fun w => [U32 w.n])
def cho (ws : List Wd) (i : Nat) : Int := ((ws[i]?).map Wd.n).getD 0
theorem cho_bd (ws : List Wd) (i : Nat) : 0 ≤ cho ws i ∧ cho ws i ≤ 4294967295 := by
  unfold cho
  cases ws[i]? with
  | none => exact ⟨Int.le_refl _, by decide⟩
  | some w => exact ⟨w.h0, w.h1⟩
theorem e14 (ws : List Wd) (i : Nat) : evL FN 14 [wds ws, I i] = some (U32 (cho ws i)) := by
  refine evL_of (F := F14) rfl ?_
  unfold cho
  by_cases h : i < ws.length
  · have h' : (i : Int) < ws.length := by omega
    simp [F14, Fn.denV, fits, T.denV, denVK, denL, E.den, D.cells, D.den1, binD, wds, h, h', D.idx, partD]
  · have h' : ¬ (i : Int) < ws.length := by omega
    simp [F14, Fn.denV, fits, T.denV, denVK, denL, E.den, D.cells, D.den1, binD, wds, h, h']
def ins (a b n : Int) : Int := a + n % (b - a + 1)
theorem ins_bd {a b : Int} (h : a ≤ b) (n : Int) : a ≤ ins a b n ∧ ins a b n ≤ b := by
  unfold ins
  have h1 := Int.emod_nonneg n (b := b - a + 1) (by omega)
  have h2 := Int.emod_lt_of_pos n (b := b - a + 1) (by omega)
  omega
theorem e13 {a b n : Int} (h0 : 0 ≤ a) (h1 : a ≤ b) (h2 : b ≤ 1000000000) (hn : 0 ≤ n ∧ n ≤ 4294967295) : evL FN 13 [.node [I a, I b], U32 n] = some (I (ins a b n)) := by
  refine evL_of (F := F13) rfl ?_
  have w1 : IntKind.i64.wrap n = n := wrapI (by omega)
  have w2 : IntKind.i64.wrap (b - a) = b - a := wrapI (by omega)
  have w3 : IntKind.i64.wrap (b - a + 1) = b - a + 1 := wrapI (by omega)
  have w4 : n.tmod (b - a + 1) = n % (b - a + 1) := Int.tmod_eq_emod_of_nonneg hn.1
  have hb := ins_bd h1 n
  have w5 : IntKind.i64.wrap (a + n % (b - a + 1)) = a + n % (b - a + 1) := wrapI (by unfold ins at hb; omega)
  have hz : ¬ (b - a + 1 = 0) := by omega
  simp [F13, Fn.denV, fits, T.denV, denVK, denL, E.den, D.cells, D.den1, binD, w1, w2, w3, w4, w5, hz, ins]
/-- The mass, and what is lost of it, in thousandths. -/
def Pk.mas (p : Pk) (ws : List Wd) (i : Nat) : Int := ins p.ml p.mh (cho ws i)
def Pk.gon (p : Pk) (ws : List Wd) (i : Nat) : Int := if p.kd = 1 then (if ins p.hl p.hh (cho ws (i + 1)) ≤ p.hurt then p.mas ws i * ins p.cl p.ch (cho ws (i + 2)) else 0)
  else if p.kd = 3 then min (1000 * p.mas ws i) (1000 * ins p.kl p.kh (cho ws (i + 2)) * p.days) else 0
theorem e12 {p : Pk} (h : p.Ok) (ws : List Wd) {i : Nat} (hi : i < 4611686018427387904) : evL FN 12 [.node p.d, wds ws, I i] = some (.node [I (1000 * p.mas ws i), I (p.gon ws i)]) := by
  refine evL_of (F := F12) rfl ?_
  obtain ⟨m0, m1, m2, u0, u1, d0, d1, k⟩ := h
  have c0 := e14 ws i
  have c1 := e14 ws (i + 1)
  have c2 := e14 ws (i + 2)
  have g0 := e13 m0 m1 (by omega) (cho_bd ws i)
  have wi1 : IntKind.i64.wrap ((i : Int) + 1) = (i : Int) + 1 := wrapI (by omega)
  have wi2 : IntKind.i64.wrap ((i : Int) + 2) = (i : Int) + 2 := wrapI (by omega)
  have hm := ins_bd m1 (cho ws i)
  have w0 : IntKind.i64.wrap (1000 * ins p.ml p.mh (cho ws i)) = 1000 * ins p.ml p.mh (cho ws i) := wrapI (by omega)
  have t0 : (1000 * ins p.ml p.mh (cho ws i)).tdiv 1000 = ins p.ml p.mh (cho ws i) := by rw [tdivN (by omega)]; omega
  have w00 : IntKind.i64.wrap (ins p.ml p.mh (cho ws i)) = ins p.ml p.mh (cho ws i) := wrapI (by omega)
  simp only [Int.natCast_add, Int.cast_ofNat_Int] at c1 c2
  unfold Pk.gon Pk.mas
  rcases k with ⟨k, h1, h2, _⟩ | ⟨k, _⟩ | ⟨k, _, _, _, _, h2⟩
  · rw [inS_iff] at h1 h2
    have g1 := e13 (a := p.hl) (b := p.hh) (by omega) h1.2.1 (by omega) (cho_bd ws (i + 1))
    have g2 := e13 h2.1 h2.2.1 (by omega) (cho_bd ws (i + 2))
    have hc := ins_bd h2.2.1 (cho ws (i + 2))
    obtain ⟨b1, b2⟩ := mulB (a := ins p.ml p.mh (cho ws i)) (A := 1000000) ⟨by omega, by omega⟩ (b := ins p.cl p.ch (cho ws (i + 2))) (B := 1000) ⟨by omega, by omega⟩
    have w1 : IntKind.i64.wrap (ins p.ml p.mh (cho ws i) * ins p.cl p.ch (cho ws (i + 2))) = ins p.ml p.mh (cho ws i) * ins p.cl p.ch (cho ws (i + 2)) := wrapI (by omega)
    simp only [Pk.d, I, U8, U32] at c0 c1 c2 g0 g1 g2 ⊢
    by_cases hb : ins p.hl p.hh (cho ws (i + 1)) ≤ p.hurt
    · simp [F12, Fn.denV, fits, T.denV, denVK, denL, E.den, D.cells, D.den1, unD, binD, outOf, wds, k, hb, wi1, wi2, w0, t0, w00, w1]
      simp only [wds] at c0 c1 c2
      simp [c0, c1, c2, g0, g1, g2, wi1, wi2, w0, t0, w00, w1, hb, k, outOf, denVK, T.denV, denL, E.den, D.cells, D.den1, binD]
    · simp [F12, Fn.denV, fits, T.denV, denVK, denL, E.den, D.cells, D.den1, unD, binD, outOf, wds, k, hb, wi1, wi2, w0, t0, w00, w1]
      simp only [wds] at c0 c1 c2
      simp [c0, c1, c2, g0, g1, g2, wi1, wi2, w0, t0, w00, w1, hb, k, outOf, denVK, T.denV, denL, E.den, D.cells, D.den1, binD]
  · simp only [Pk.d, I, U8, U32] at c0 g0 ⊢
    simp only [wds] at c0
    simp [F12, Fn.denV, fits, T.denV, denVK, denL, E.den, D.cells, D.den1, unD, binD, outOf, wds, k, c0, g0, w0]
  · rw [inS_iff] at h2
    have g2 := e13 h2.1 h2.2.1 (by omega) (cho_bd ws (i + 2))
    have hc := ins_bd h2.2.1 (cho ws (i + 2))
    have w1 : IntKind.i64.wrap (1000 * ins p.kl p.kh (cho ws (i + 2))) = 1000 * ins p.kl p.kh (cho ws (i + 2)) := wrapI (by omega)
    obtain ⟨b1, b2⟩ := mulB (a := 1000 * ins p.kl p.kh (cho ws (i + 2))) (A := 1000000000) ⟨by omega, by omega⟩ (b := p.days) (B := 100000) ⟨d0, d1⟩
    have w2 : IntKind.i64.wrap (1000 * ins p.kl p.kh (cho ws (i + 2)) * p.days) = 1000 * ins p.kl p.kh (cho ws (i + 2)) * p.days := wrapI (by omega)
    simp only [Pk.d, I, U8, U32] at c0 c2 g0 g2 ⊢
    simp only [wds] at c0 c2
    simp [F12, Fn.denV, fits, T.denV, denVK, denL, E.den, D.cells, D.den1, unD, binD, outOf, wds, k, c0, c2, g0, g2, w0, w1, w2, wi2, mxLD, mxD, min_if]
/-! What is told is so -/
theorem mulL {a b c : Int} (hc : 0 ≤ c) (h : a ≤ b) : c * a ≤ c * b := Int.mul_le_mul_of_nonneg_left h hc
theorem gon_bd {p : Pk} (h : p.Ok) (ws : List Wd) (i : Nat) : 1000 * (p.los (p.mas ws i)).1 ≤ p.gon ws i ∧ p.gon ws i ≤ 1000 * (p.los (p.mas ws i)).2 := by
  have hm := ins_bd h.m1 (cho ws i)
  have m0 := h.m0
  unfold Pk.gon Pk.los
  generalize hmm : p.mas ws i = m
  have hm0 : 0 ≤ m := by rw [← hmm]; unfold Pk.mas; omega
  rcases h.k with ⟨k, h1, h2, _⟩ | ⟨k, _⟩ | ⟨k, _, _, _, _, h2⟩
  · rw [inS_iff] at h1 h2
    have hh := ins_bd h1.2.1 (cho ws (i + 1))
    have hc := ins_bd h2.2.1 (cho ws (i + 2))
    generalize ins p.hl p.hh (cho ws (i + 1)) = hd at hh ⊢
    generalize ins p.cl p.ch (cho ws (i + 2)) = c at hc ⊢
    have a1 := mulL hm0 hc.1
    have a2 := mulL hm0 hc.2
    have a3 := mulB (a := m) (A := m) ⟨hm0, Int.le_refl _⟩ (b := p.cl) (B := p.cl) ⟨h2.1, Int.le_refl _⟩
    rw [if_pos k, if_pos k]
    unfold Pk.cr Pk.brk
    simp only [k, ne_eq, not_true_eq_false, false_or]
    by_cases k1 : p.hurt < p.hl
    · have : ¬ hd ≤ p.hurt := by omega
      simp [k1, this]
    · by_cases k2 : p.hurt < p.hh
      · simp only [k1, k2, if_true, if_false]
        by_cases k3 : hd ≤ p.hurt
        · simp [k3]; omega
        · simp [k3]; omega
      · have k3 : hd ≤ p.hurt := by omega
        simp [k1, k2, k3]; omega
  · simp [k]
  · rw [inS_iff] at h2
    have hc := ins_bd h2.2.1 (cho ws (i + 2))
    generalize ins p.kl p.kh (cho ws (i + 2)) = c at hc ⊢
    have a1 := mulL h.d0 hc.1
    have a2 := mulL h.d0 hc.2
    have e : 1000 * c * p.days = 1000 * (p.days * c) := by rw [Int.mul_assoc, Int.mul_comm c]
    simp only [k, e]
    unfold Pk.lk
    simp
    omega
/-- Of a greater mass no less is lost, and no less left. -/
theorem los_mono {p : Pk} (h : p.Ok) {a b : Int} (h0 : 0 ≤ a) (hab : a ≤ b) : (p.los a).1 ≤ (p.los b).1 ∧ (p.los a).2 ≤ (p.los b).2 ∧ a - (p.los a).2 ≤ b - (p.los b).2 ∧ a - (p.los a).1 ≤ b - (p.los b).1 := by
  unfold Pk.los
  rcases h.k with ⟨k, h1, h2, _⟩ | ⟨k, _⟩ | ⟨k, _, _, _, _, h2⟩
  · rw [inS_iff] at h2
    have a1 := mulL (c := p.cl) h2.1 hab
    have a2 := mulL (c := p.ch) (by omega) hab
    have a3 := mulL (c := b - a) (by omega) h2.2.2
    have a4 := mulL (c := b - a) (by omega) (show p.cl ≤ 1000 by omega)
    have e1 : (b - a) * p.ch = b * p.ch - a * p.ch := Int.sub_mul ..
    have e2 : (b - a) * p.cl = b * p.cl - a * p.cl := Int.sub_mul ..
    rw [Int.mul_comm p.cl, Int.mul_comm p.cl] at a1
    rw [Int.mul_comm p.ch, Int.mul_comm p.ch] at a2
    simp only [k, if_true]
    unfold Pk.cr
    split
    · exact ⟨by simp, by simp, by simpa using hab, by simpa using hab⟩
    · split <;> dsimp only <;> omega
  · rw [if_neg (by omega), if_pos k, if_neg (by omega), if_pos k]
    exact ⟨by simp, by simp, by simpa using hab, by simpa using hab⟩
  · rw [if_neg (by omega), if_neg (by omega), if_neg (by omega), if_neg (by omega)]
    unfold Pk.lk
    dsimp only
    omega
end Go.Q
