/- Load: what is lost of a pack, and what is left -/
import Derived.Test.YtiailejekbnkgaaGreatLz0
set_option linter.unusedVariables false
set_option linter.unusedSimpArgs false
set_option maxRecDepth 100000
namespace Go.Q
open Go.V
/-- What is known of whether it breaks. -/
def Pk.brk (p : Pk) : Int := if p.kd ≠ 1 ∨ p.hurt < p.hl then 0 else if p.hurt < p.hh then 1 else 2
theorem e43 (p : Pk) : evL FN 43 [.node p.d] = some (U8 p.brk) := by
  refine evL_of (F := F43) rfl ?_
  simp only [Pk.d, I, U8, Pk.brk]
  by_cases k1 : p.kd = 1
  · by_cases k2 : p.hurt < p.hl
    · simp [F43, Fn.denV, fits, T.denV, denVK, denL, E.den, D.cells, D.den1, unD, binD, outOf, k1, k2]
    · by_cases k3 : p.hurt < p.hh
      · simp [F43, Fn.denV, fits, T.denV, denVK, denL, E.den, D.cells, D.den1, unD, binD, outOf, k1, k2, k3]
      · simp [F43, Fn.denV, fits, T.denV, denVK, denL, E.den, D.cells, D.den1, unD, binD, outOf, k1, k2, k3]
  · simp [F43, Fn.denV, fits, T.denV, denVK, denL, E.den, D.cells, D.den1, unD, binD, outOf, k1]
theorem brk_cases (p : Pk) : p.brk = 0 ∨ p.brk = 1 ∨ p.brk = 2 := by
  unfold Pk.brk
  split
  · simp
  · split <;> simp
/-- What is lost of a slab with a mass. -/
def Pk.cr (p : Pk) (m : Int) : Int × Int := if p.brk = 0 then (0, 0) else (if p.brk = 1 then 0 else m * p.cl / 1000, (m * p.ch + 999) / 1000)
/-- ... of a skin. -/
def Pk.lk (p : Pk) (m : Int) : Int × Int := (min m (p.days * p.kl), min m (p.days * p.kh))
def Pk.los (p : Pk) (m : Int) : Int × Int := if p.kd = 1 then p.cr m else if p.kd = 2 then (0, 0) else p.lk m
theorem tdivN {a : Int} (h : 0 ≤ a) (b : Int) : a.tdiv b = a / b := Int.tdiv_eq_ediv_of_nonneg h
theorem e142 (p : Pk) {m : Int} (hm : 0 ≤ m ∧ m ≤ 1000000) (hc : inS p.cl p.ch 0 1000 = true) : evL FN 142 [.node p.d, I m] = some (.node [I (p.cr m).1, I (p.cr m).2]) := by
  refine evL_of (F := F142) rfl ?_
  have h40 := e43 p
  rw [inS_iff] at hc
  obtain ⟨a1, a2⟩ := mulB hm (b := p.cl) (B := 1000) ⟨by omega, by omega⟩
  obtain ⟨b1, b2⟩ := mulB hm (b := p.ch) (B := 1000) ⟨by omega, by omega⟩
  have w1 : IntKind.i64.wrap (m * p.cl) = m * p.cl := wrapI (by omega)
  have w2 : IntKind.i64.wrap (m * p.ch) = m * p.ch := wrapI (by omega)
  have w3 : IntKind.i64.wrap (m * p.ch + 1000) = m * p.ch + 1000 := wrapI (by omega)
  have w4 : IntKind.i64.wrap (m * p.ch + 1000 - 1) = m * p.ch + 999 := by rw [wrapI (by omega)]; omega
  have t1 := tdivN a1 1000
  have t2 := tdivN (a := m * p.ch + 999) (by omega) 1000
  have w5 : IntKind.i64.wrap (m * p.cl / 1000) = m * p.cl / 1000 := wrapI (by omega)
  have w6 : IntKind.i64.wrap ((m * p.ch + 999) / 1000) = (m * p.ch + 999) / 1000 := wrapI (by omega)
  have hb := brk_cases p
  simp only [Pk.d, I, U8, Pk.cr] at h40 ⊢
  generalize p.brk = b at h40 hb ⊢
  rcases hb with rfl | rfl | rfl <;> simp [F142, Fn.denV, fits, T.denV, denVK, denL, E.den, D.cells, D.den1, unD, binD, outOf, h40, w1, w2, w3, w4, t1, t2, w5, w6]
theorem e144 (p : Pk) (m : Int) : evL FN 144 [.node p.d, I m] = some (.node [I 0, I 0]) := by
  refine evL_of (F := F144) rfl ?_
  simp [F144, Fn.denV, fits, T.denV, denL, E.den, Pk.d]
theorem min_if (a b : Int) : (if b < a then b else a) = min a b := by
  split <;> omega
theorem e146 (p : Pk) (m : Int) (hd : 0 ≤ p.days ∧ p.days ≤ 100000) (hk : inS p.kl p.kh 0 1000000 = true) : evL FN 146 [.node p.d, I m] = some (.node [I (p.lk m).1, I (p.lk m).2]) := by
  refine evL_of (F := F146) rfl ?_
  rw [inS_iff] at hk
  obtain ⟨a1, a2⟩ := mulB hd (b := p.kl) (B := 1000000) ⟨by omega, by omega⟩
  obtain ⟨b1, b2⟩ := mulB hd (b := p.kh) (B := 1000000) ⟨by omega, by omega⟩
  have w1 : IntKind.i64.wrap (p.days * p.kl) = p.days * p.kl := wrapI (by omega)
  have w2 : IntKind.i64.wrap (p.days * p.kh) = p.days * p.kh := wrapI (by omega)
  simp [F146, Fn.denV, fits, T.denV, denL, E.den, Pk.d, Pk.lk, D.cells, D.den1, binD, mxLD, mxD, w1, w2, min_if]
structure Pk.Ok (p : Pk) : Prop where
  m0 : 0 ≤ p.ml
  m1 : p.ml ≤ p.mh
  m2 : p.mh ≤ 1000000
  u0 : 0 ≤ p.hurt
  u1 : p.hurt ≤ 6000000
  d0 : 0 ≤ p.days
  d1 : p.days ≤ 100000
  k : (p.kd = 1 ∧ inS p.hl p.hh 1 100000 = true ∧ inS p.cl p.ch 0 1000 = true ∧ p.kl = 0 ∧ p.kh = 0) ∨ (p.kd = 2 ∧ p.hl = 0 ∧ p.hh = 0 ∧ p.cl = 0 ∧ p.ch = 0 ∧ p.kl = 0 ∧ p.kh = 0) ∨ (p.kd = 3 ∧ p.hl = 0 ∧ p.hh = 0 ∧ p.cl = 0 ∧ p.ch = 0 ∧ inS p.kl p.kh 0 1000000 = true)
theorem Pk.ok_iff {p : Pk} (h : p.ok = true) : p.Ok := by
  simp only [Pk.ok, Bool.and_eq_true, inS_iff, inR_iff] at h
  obtain ⟨⟨⟨⟨a1, a2, a3⟩, b1, b2⟩, c1, c2⟩, h⟩ := h
  refine ⟨a1, a2, a3, b1, b2, c1, c2, ?_⟩
  unfold Pk.own at h
  split at h
  · rename_i hk
    simp only [Bool.and_eq_true, z2_iff] at h
    exact .inl ⟨hk, h.1.1, h.1.2, h.2.1, h.2.2⟩
  · split at h
    · rename_i hk
      simp only [Bool.and_eq_true, z2_iff] at h
      obtain ⟨⟨⟨h1, h2⟩, h3, h4⟩, h5, h6⟩ := h
      exact .inr (.inl ⟨hk, h1, h2, h3, h4, h5, h6⟩)
    · simp only [Bool.and_eq_true, z2_iff, decide_eq_true_eq] at h
      obtain ⟨⟨⟨h0, h1, h2⟩, h3, h4⟩, h5⟩ := h
      exact .inr (.inr ⟨h0, h1, h2, h3, h4, h5⟩)
/-- What is lost lies between nothing and all (and, of a slab, not above what is rounded up). -/
theorem cr_bd (p : Pk) {m : Int} (hm : 0 ≤ m ∧ m ≤ 1000000) (hc : inS p.cl p.ch 0 1000 = true) : 0 ≤ (p.cr m).1 ∧ (p.cr m).1 ≤ (p.cr m).2 ∧ (p.cr m).2 ≤ m := by
  rw [inS_iff] at hc
  obtain ⟨a1, a2⟩ := mulB hm (b := p.cl) (B := 1000) ⟨by omega, by omega⟩
  have h1 : m * p.cl ≤ m * p.ch := Int.mul_le_mul_of_nonneg_left hc.2.1 hm.1
  have h2 : m * p.ch ≤ m * 1000 := Int.mul_le_mul_of_nonneg_left hc.2.2 hm.1
  unfold Pk.cr
  split
  · exact ⟨by omega, by omega, by show (0 : Int) ≤ m; omega⟩
  · refine ⟨?_, ?_, ?_⟩ <;> dsimp only
    · split <;> omega
    · split <;> omega
    · omega
theorem lk_bd (p : Pk) {m : Int} (hm : 0 ≤ m) (hd : 0 ≤ p.days ∧ p.days ≤ 100000) (hk : inS p.kl p.kh 0 1000000 = true) : 0 ≤ (p.lk m).1 ∧ (p.lk m).1 ≤ (p.lk m).2 ∧ (p.lk m).2 ≤ m := by
  rw [inS_iff] at hk
  obtain ⟨a1, a2⟩ := mulB hd (b := p.kl) (B := 1000000) ⟨by omega, by omega⟩
  have h1 : p.days * p.kl ≤ p.days * p.kh := Int.mul_le_mul_of_nonneg_left hk.2.1 hd.1
  unfold Pk.lk
  refine ⟨?_, ?_, ?_⟩ <;> dsimp only <;> omega
theorem los_bd {p : Pk} (h : p.Ok) {m : Int} (hm : 0 ≤ m ∧ m ≤ 1000000) : 0 ≤ (p.los m).1 ∧ (p.los m).1 ≤ (p.los m).2 ∧ (p.los m).2 ≤ m := by
  unfold Pk.los
  rcases h.k with ⟨k, h1, h2, _⟩ | ⟨k, _⟩ | ⟨k, _, _, _, _, h2⟩
  · rw [if_pos k]; exact cr_bd p hm h2
  · rw [if_neg (by omega), if_pos k]; exact ⟨by omega, by omega, hm.1⟩
  · rw [if_neg (by omega), if_neg (by omega)]; exact lk_bd p hm.1 ⟨h.d0, h.d1⟩ h2
/-- What is left. -/
def Pk.lef (p : Pk) : Int × Int := (p.ml - (p.los p.ml).2, p.mh - (p.los p.mh).1)
def Pk.lst (p : Pk) : Int × Int := ((p.los p.ml).1, (p.los p.mh).2)
theorem e42 {p : Pk} (h : p.Ok) : evL FN 42 [.node p.d] = some (.node [.node [I p.lef.1, I p.lef.2], .node [I p.lst.1, I p.lst.2]]) := by
  refine evL_of (F := F42) rfl ?_
  have h0 := e98
  obtain ⟨m0, m1, m2, u0, u1, d0, d1, k⟩ := h
  have l1 := los_bd ⟨m0, m1, m2, u0, u1, d0, d1, k⟩ (m := p.ml) ⟨m0, by omega⟩
  have l2 := los_bd ⟨m0, m1, m2, u0, u1, d0, d1, k⟩ (m := p.mh) ⟨by omega, m2⟩
  have w1 : IntKind.i64.wrap (p.ml - (p.los p.ml).2) = p.ml - (p.los p.ml).2 := wrapI (by omega)
  have w2 : IntKind.i64.wrap (p.mh - (p.los p.mh).1) = p.mh - (p.los p.mh).1 := wrapI (by omega)
  unfold Pk.lef Pk.lst
  dsimp only
  rcases k with ⟨k, h1, h2, _⟩ | ⟨k, _⟩ | ⟨k, _, _, _, _, h2⟩
  · have g1 := e142 p (m := p.ml) ⟨m0, by omega⟩ h2
    have g2 := e142 p (m := p.mh) ⟨by omega, m2⟩ h2
    have hl : ∀ m, p.los m = p.cr m := fun m => by simp [Pk.los, k]
    simp only [hl] at w1 w2 ⊢
    simp only [Pk.d, I, U8, k] at h0 g1 g2 ⊢
    simp [F42, Fn.denV, fits, T.denV, denVK, denL, E.den, D.cells, D.den1, unD, binD, outOf, h0, g1, g2, w1, w2, k]
  · have g1 := e144 p p.ml
    have g2 := e144 p p.mh
    have hl : ∀ m, p.los m = (0, 0) := fun m => by simp [Pk.los, k]
    simp only [hl] at w1 w2 ⊢
    simp only [Pk.d, I, U8, k] at h0 g1 g2 ⊢
    simp at w1 w2
    simp [F42, Fn.denV, fits, T.denV, denVK, denL, E.den, D.cells, D.den1, unD, binD, outOf, h0, g1, g2, w1, w2, k]
  · have g1 := e146 p p.ml ⟨d0, d1⟩ h2
    have g2 := e146 p p.mh ⟨d0, d1⟩ h2
    have hl : ∀ m, p.los m = p.lk m := fun m => by simp [Pk.los, k]
    simp only [hl] at w1 w2 ⊢
    simp only [Pk.d, I, U8, k] at h0 g1 g2 ⊢
    simp [F42, Fn.denV, fits, T.denV, denVK, denL, E.den, D.cells, D.den1, unD, binD, outOf, h0, g1, g2, w1, w2, k]
theorem e11 (p : Pk) : evL FN 11 [.node p.d] = some (if p.ok then .node [.node [I p.lef.1, I p.lef.2], .node [I p.lst.1, I p.lst.2], U8 p.brk, I 0] else .node [.node [I 0, I 0], .node [I 0, I 0], U8 0, I 50]) := by
  refine evL_of (F := F11) rfl ?_
  have h1 := e41 p
  have h2 := e43 p
  cases hok : p.ok with
  | false =>
    rw [hok] at h1
    simp only [Pk.d, I, U8] at h1 ⊢
    simp [F11, Fn.denV, fits, T.denV, denVK, denL, E.den, D.cells, D.den1, unD, binD, outOf, h1]
  | true =>
    have h3 := e42 (Pk.ok_iff hok)
    rw [hok] at h1
    simp only [Pk.d, I, U8] at h1 h2 h3 ⊢
    simp [F11, Fn.denV, fits, T.denV, denVK, denL, E.den, D.cells, D.den1, unD, binD, outOf, h1, h2, h3]
end Go.Q
