/- What is known better is told no wider: what the reckoning keeps. -/
import Derived.Test.YtafdcbdbllpcnaaShapeW
import Derived.Test.YtafdcbdbllpcnaaShapeL
set_option linter.unusedVariables false
set_option linter.unusedSimpArgs false
namespace Go.Proofs.Ytafdcbdbllpcnaa

/-- A span in another one. -/
structure InnS (s t : Int × Int) : Prop where
  lo : t.1 ≤ s.1
  ok : s.1 ≤ s.2
  hi : s.2 ≤ t.2
/-- d, a and n are known better than b, c and m. -/
structure Nar (b d : Br) (c a : Cm) (m n : Mr) : Prop where
  full : d.full = b.full
  fed : d.fed = b.fed
  heal : d.heal = b.heal
  milks : a.milks = c.milks
  hours : n.hours = m.hours
  load : n.load = m.load
  rest : InnS d.rest b.rest
  heat : InnS d.heat b.heat
  toil : InnS d.toil b.toil
  burn : InnS d.burn b.burn
  rub : InnS d.rub b.rub
  milk : InnS d.milk b.milk
  strong : InnS d.strong b.strong
  water : InnS a.water c.water
  fat : InnS a.fat c.fat
  sore : InnS a.sore c.sore
  warm : InnS n.heat m.heat
  grass : InnS n.grass m.grass
  drinks : InnS n.drinks m.drinks
theorem InnS.bd {s t : Int × Int} {y : Int} (h : InnS s t) (ht : 0 ≤ t.1 ∧ t.1 ≤ t.2 ∧ t.2 ≤ y) : 0 ≤ s.1 ∧ s.1 ≤ s.2 ∧ s.2 ≤ y := by
  have := h.lo; have := h.ok; have := h.hi; omega
section
variable {b d : Br} {c a : Cm} {m n : Mr}
theorem Nar.bdB (h : Nar b d c a m n) (hb : BdB b) : BdB d :=
  ⟨h.full ▸ hb.full, h.fed ▸ hb.fed, h.rest.bd hb.rest, h.heat.bd hb.heat, h.toil.bd hb.toil, h.burn.bd hb.burn, h.rub.bd hb.rub, h.milk.bd hb.milk, h.heal ▸ hb.heal, h.strong.bd hb.strong⟩
theorem Nar.bdC (h : Nar b d c a m n) (hc : BdC b c) : BdC d a :=
  ⟨h.water.bd (h.full ▸ hc.water), h.fat.bd (h.fed ▸ hc.fat), h.sore.bd hc.sore⟩
theorem Nar.bdM (h : Nar b d c a m n) (hm : BdM m) : BdM n :=
  ⟨h.hours ▸ hm.hours, h.load ▸ hm.load, h.warm.bd hm.heat, h.grass.bd hm.grass, h.drinks.bd hm.drinks⟩
theorem okB_of (h : BdB b) : okB b = true := by
  obtain ⟨⟨a1, a2⟩, ⟨a3, a4⟩, ⟨b1, b2, b3⟩, ⟨c1, c2, c3⟩, ⟨d1, d2, d3⟩, ⟨e1, e2, e3⟩, ⟨f1, f2, f3⟩, ⟨g1, g2, g3⟩, ⟨h1, h2⟩, ⟨i1, i2, i3⟩⟩ := h
  simp [okB, okB1, okB2, okB3, okB4, okSpan, *]
theorem okC_of (h : BdC b c) : okC b c = true := by
  obtain ⟨⟨a1, a2, a3⟩, ⟨b1, b2, b3⟩, ⟨c1, c2, c3⟩⟩ := h
  simp [okC, okSpan, *]
theorem chkC_of (hb : BdB b) (hc : BdC b c) : chkC b c = 0 := by simp [chkC, okB_of hb, okC_of hc]
theorem chkM_of (hb : BdB b) (hm : BdM m) : chkM b m = 0 := by simp [chkM, okB_of hb, okM_of hm]
theorem Nar.lo (h : Nar b d c a m n) : Lo b d m n := ⟨h.rest.lo, h.heat.lo, h.toil.lo, h.burn.lo, h.rub.lo, h.milk.lo, by rw [h.hours]; exact Int.le_refl _, by rw [h.load]; exact Int.le_refl _, h.warm.lo⟩
theorem Nar.hiL (h : Nar b d c a m n) : Hi d b n m := ⟨h.rest.hi, h.heat.hi, h.toil.hi, h.burn.hi, h.rub.hi, h.milk.hi, by rw [h.hours]; exact Int.le_refl _, by rw [h.load]; exact Int.le_refl _, h.warm.hi⟩
theorem Nar.fit (h : Nar b d c a m n) (hb : BdB b) : (fitS b c).1 ≤ (fitS d a).1 ∧ (fitS d a).2 ≤ (fitS b c).2 := by
  have w1 := h.water.lo; have w2 := h.water.hi; have f1 := h.fat.lo; have f2 := h.fat.hi; have s1 := h.sore.lo; have s2 := h.sore.hi
  have k1 := hb.full; have k2 := hb.fed
  have q1 : 2000 * c.water.1 / b.full ≤ 2000 * a.water.1 / b.full := Int.ediv_le_ediv (by omega) (by omega)
  have q2 : 2000 * c.fat.1 / b.fed ≤ 2000 * a.fat.1 / b.fed := Int.ediv_le_ediv (by omega) (by omega)
  have q3 : (2000 * a.water.2 + b.full - 1) / b.full ≤ (2000 * c.water.2 + b.full - 1) / b.full := Int.ediv_le_ediv (by omega) (by omega)
  have q4 : (2000 * a.fat.2 + b.fed - 1) / b.fed ≤ (2000 * c.fat.2 + b.fed - 1) / b.fed := Int.ediv_le_ediv (by omega) (by omega)
  simp only [fitS, h.full, h.fed, mn_min]
  omega
theorem Nar.car (h : Nar b d c a m n) (hb : BdB b) (hc : BdC b c) : (carS b c).1 ≤ (carS d a).1 ∧ (carS d a).2 ≤ (carS b c).2 := by
  obtain ⟨f1, f2⟩ := h.fit hb
  obtain ⟨g1, -, -, -⟩ := fitS_bd hb hc
  obtain ⟨-, -, g2, -⟩ := fitS_bd (h.bdB hb) (h.bdC hc)
  have s := hb.strong; have t := h.strong
  have t1 := t.lo; have t2 := t.ok; have t3 := t.hi
  have m1 := mul_mono s.1 t1 g1 f1
  have m2 := mul_mono (by omega : 0 ≤ d.strong.2) t3 g2 f2
  exact ⟨Int.ediv_le_ediv (by omega) m1, Int.ediv_le_ediv (by omega) (by omega)⟩
theorem Nar.healE (h : Nar b d c a m n) : healS d n = healS b m := by unfold healS; rw [h.hours, h.heal]
theorem Nar.eve (h : Nar b d c a m n) (hb : BdB b) (hm : BdM m) :
    ((eveC b c m).water.1 ≤ (eveC d a n).water.1 ∧ (eveC d a n).water.2 ≤ (eveC b c m).water.2) ∧ ((eveC b c m).fat.1 ≤ (eveC d a n).fat.1 ∧ (eveC d a n).fat.2 ≤ (eveC b c m).fat.2) ∧ ((eveC b c m).sore.1 ≤ (eveC d a n).sore.1 ∧ (eveC d a n).sore.2 ≤ (eveC b c m).sore.2) := by
  have hd := h.bdB hb
  have hn := h.bdM hm
  have e1 : (eveC b c m).water = refS b.full c.water (waS b c.milks m) m.drinks := rfl
  have e2 : (eveC d a n).water = refS b.full a.water (waS d c.milks n) n.drinks := by rw [← h.full, ← h.milks]; rfl
  have e3 : (eveC b c m).fat = refS b.fed c.fat (faS b m) m.grass := rfl
  have e4 : (eveC d a n).fat = refS b.fed a.fat (faS d n) n.grass := by rw [← h.fed]; rfl
  rw [e1, e2, e3, e4]
  exact ⟨⟨refS_lo h.water.lo (waS_hi hd hn h.hiL _) h.drinks.lo, refS_hi h.water.hi (waS_lo hb hm h.lo _) h.drinks.hi⟩,
    ⟨refS_lo h.fat.lo (faS_hi hd hn h.hiL) h.grass.lo, refS_hi h.fat.hi (faS_lo hb hm h.lo) h.grass.hi⟩,
    ⟨soreS_lo h.sore.lo (soS_lo hb hm h.lo) h.healE.symm, soreS_hi h.sore.hi (soS_hi hd hn h.hiL) h.healE⟩⟩
theorem Nar.dies (h : Nar b d c a m n) (hb : BdB b) (hm : BdM m) (hd : diesS b c m = true) : diesS d a n = true := by
  have h1 := waS_lo hb hm h.lo c.milks
  have h2 := faS_lo hb hm h.lo
  have h3 := h.water.hi
  have h4 := h.fat.hi
  simp only [diesS, Bool.or_eq_true, decide_eq_true_eq, h.milks] at *
  omega
theorem Nar.opens (h : Nar b d c a m n) (hb : BdB b) (hm : BdM m) (hd : openS d a n = true) : openS b c m = true := by
  have h1 := waS_hi (h.bdB hb) (h.bdM hm) h.hiL c.milks
  have h2 := faS_hi (h.bdB hb) (h.bdM hm) h.hiL
  have h3 := h.water.lo
  have h4 := h.fat.lo
  simp only [openS, Bool.or_eq_true, decide_eq_true_eq, h.milks] at *
  omega
theorem Nar.half (h : Nar b d c a m n) (hb : BdB b) (hm : BdM m) (hd : diesS d a n = true) : openS b c m = true := by
  refine h.opens hb hm ?_
  have h1 := waS_bd a.milks (h.bdB hb) (h.bdM hm)
  have h2 := faS_bd (h.bdB hb) (h.bdM hm)
  have h3 := h.water.ok
  have h4 := h.fat.ok
  simp only [diesS, openS, Bool.or_eq_true, decide_eq_true_eq] at *
  omega
theorem inn_yes {s t : Int × Int} (h : t.1 ≤ s.1 ∧ s.2 ≤ t.2) : (decide (t.1 ≤ s.1) && decide (s.2 ≤ t.2)) = true := by simp [h.1, h.2]
/-- What is said of both. -/
theorem narrow_said (h : Nar b d c a m n) (hc : chkC b c = 0) (hm : okM m = true) :
    chkC d a = 0 ∧ chkM b m = 0 ∧ chkM d n = 0 ∧
    ((decide ((carR b c).1 ≤ (carR d a).1) && decide ((carR d a).2 ≤ (carR b c).2)) = true) ∧
    ((decide ((coW b c.milks m).1 ≤ (coW d a.milks n).1) && decide ((coW d a.milks n).2 ≤ (coW b c.milks m).2)) = true) ∧
    ((decide ((coF b m).1 ≤ (coF d n).1) && decide ((coF d n).2 ≤ (coF b m).2)) = true) ∧
    ((chkA b c m = 13 ∧ chkA d a n = 13) ∨ (chkA b c m = 0 ∧ chkA d a n = 13 ∧ aftF b c m = 1) ∨
      (chkA b c m = 0 ∧ chkA d a n = 0 ∧ (aftF b c m = 0 → aftF d a n = 0) ∧
        ((decide ((aftC b c m).water.1 ≤ (aftC d a n).water.1) && decide ((aftC d a n).water.2 ≤ (aftC b c m).water.2)) = true) ∧
        ((decide ((aftC b c m).fat.1 ≤ (aftC d a n).fat.1) && decide ((aftC d a n).fat.2 ≤ (aftC b c m).fat.2)) = true) ∧
        ((decide ((aftC b c m).sore.1 ≤ (aftC d a n).sore.1) && decide ((aftC d a n).sore.2 ≤ (aftC b c m).sore.2)) = true))) := by
  obtain ⟨hb, hcc⟩ := chkC_ok hc
  have hbm := okM_bd hm
  have hd := h.bdB hb
  have hn := h.bdM hbm
  have h1 := chkC_of hd (h.bdC hcc)
  have h2 := chkM_of hb hbm
  have h3 := chkM_of hd hn
  have hon := okM_of hn
  refine ⟨h1, h2, h3, inn_yes ?_, inn_yes ?_, inn_yes ?_, ?_⟩
  · rw [carR, if_pos hc, carR, if_pos h1]; exact h.car hb hcc
  · rw [coW, if_pos h2, coW, if_pos h3, h.milks]; exact ⟨waS_lo hb hbm h.lo _, waS_hi hd hn h.hiL _⟩
  · rw [coF, if_pos h2, coF, if_pos h3]; exact ⟨faS_lo hb hbm h.lo, faS_hi hd hn h.hiL⟩
  · cases hx : diesS b c m with
    | true => left; exact ⟨by simp [chkA, hc, hm, hx], by simp [chkA, h1, hon, h.dies hb hbm hx]⟩
    | false =>
      have e1 : chkA b c m = 0 := by simp [chkA, hc, hm, hx]
      right
      cases hy : diesS d a n with
      | true => left; exact ⟨e1, by simp [chkA, h1, hon, hy], by simp [aftF, e1, h.half hb hbm hy]⟩
      | false =>
        right
        have e2 : chkA d a n = 0 := by simp [chkA, h1, hon, hy]
        obtain ⟨p1, p2, p3⟩ := h.eve hb hbm
        refine ⟨e1, e2, fun hf => ?_, ?_⟩
        · cases ho : openS d a n with
          | false => simp [aftF, e2, ho]
          | true => simp [aftF, e1, h.opens hb hbm ho] at hf
        · rw [aftC, if_pos e1, aftC, if_pos e2]
          exact ⟨inn_yes p1, inn_yes p2, inn_yes p3⟩
end
/-- The parts that are chosen. -/
def prt (xs : List Int) (k : Nat) (s : Int × Int) : Int × Int := partS s (atS xs k) (atS xs (k + 1))
def nB (xs : List Int) (b : Br) : Br := ⟨b.full, b.fed, prt xs 0 b.rest, prt xs 2 b.heat, prt xs 4 b.toil, prt xs 6 b.burn, prt xs 8 b.rub, prt xs 10 b.milk, b.heal, prt xs 12 b.strong⟩
def nC (xs : List Int) (c : Cm) : Cm := ⟨prt xs 14 c.water, prt xs 16 c.fat, prt xs 18 c.sore, c.milks⟩
def nM (xs : List Int) (m : Mr) : Mr := ⟨m.hours, m.load, prt xs 20 m.heat, prt xs 22 m.grass, prt xs 24 m.drinks⟩
theorem prt_in {xs : List Int} {k : Nat} {s : Int × Int} {y : Int} (h : 0 ≤ s.1 ∧ s.1 ≤ s.2 ∧ s.2 ≤ y) : InnS (prt xs k s) s := by
  obtain ⟨h1, h2, h3⟩ := partS_in h.2.1 (atS xs k) (atS xs (k + 1))
  exact ⟨h1, h2, h3⟩
theorem nar_of {xs : List Int} {b : Br} {c : Cm} {m : Mr} (hb : BdB b) (hc : BdC b c) (hm : BdM m) : Nar b (nB xs b) c (nC xs c) m (nM xs m) :=
  ⟨rfl, rfl, rfl, rfl, rfl, rfl, prt_in hb.rest, prt_in hb.heat, prt_in hb.toil, prt_in hb.burn, prt_in hb.rub, prt_in hb.milk, prt_in hb.strong,
    prt_in hc.water, prt_in hc.fat, prt_in hc.sore, prt_in hm.heat, prt_in hm.grass, prt_in hm.drinks⟩
end Go.Proofs.Ytafdcbdbllpcnaa
