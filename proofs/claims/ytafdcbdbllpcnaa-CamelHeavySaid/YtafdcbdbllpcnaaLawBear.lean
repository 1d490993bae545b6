/- What the walks of the outright properties share. -/
import Derived.Test.YtafdcbdbllpcnaaLawRdy
import Derived.Test.YtafdcbdbllpcnaaLawPick
import Derived.Test.YtafdcbdbllpcnaaLeafL
import Derived.Test.YtafdcbdbllpcnaaLeafI
import Derived.Test.YtafdcbdbllpcnaaDayT
import Derived.Test.YtafdcbdbllpcnaaHeavS
import Derived.Test.YtafdcbdbllpcnaaLeafT
namespace Go.Proofs.Ytafdcbdbllpcnaa
open Go.RowKit
open Go.Proofs

theorem rdyS_one {b : Br} {c : Cm} {m : Mr} (h : rdyS b c [m] = true) : chkC b c = 0 ∧ okM m = true := by
  simp only [rdyS, Bool.and_eq_true, decide_eq_true_eq, List.all_cons, List.all_nil, Bool.and_true] at h
  exact ⟨h.1.1, h.2⟩
theorem okM_of {m : Mr} (h : BdM m) : okM m = true := by
  obtain ⟨⟨a1, a2⟩, ⟨a3, a4⟩, ⟨a5, a6, a7⟩, ⟨a8, a9, a10⟩, ⟨a11, a12, a13⟩⟩ := h
  simp [okM, inB, okSpan, a1, a2, a3, a4, a5, a6, a7, a8, a9, a10, a11, a12, a13]

theorem After_x (b : Br) (c : Cm) (m : Mr) (p : Cm) (f x : Int) (hp : aftC b c m = p) (hf : aftF b c m = f) (hx : chkA b c m = x) (w : World) :
    Calls Try.prog 25 #[.agg #[.int .i64 b.full, .int .i64 b.fed, .int .i64 b.rest.1, .int .i64 b.rest.2, .int .i64 b.heat.1, .int .i64 b.heat.2, .int .i64 b.toil.1, .int .i64 b.toil.2, .int .i64 b.burn.1, .int .i64 b.burn.2, .int .i64 b.rub.1, .int .i64 b.rub.2, .int .i64 b.milk.1, .int .i64 b.milk.2, .int .i64 b.heal, .int .i64 b.strong.1, .int .i64 b.strong.2], .agg #[.int .i64 c.water.1, .int .i64 c.water.2, .int .i64 c.fat.1, .int .i64 c.fat.2, .int .i64 c.sore.1, .int .i64 c.sore.2, .bool c.milks], .agg #[.int .i64 m.hours, .int .i64 m.load, .int .i64 m.heat.1, .int .i64 m.heat.2, .int .i64 m.grass.1, .int .i64 m.grass.2, .int .i64 m.drinks.1, .int .i64 m.drinks.2]] w fun e w' => e = .returned (.tuple #[.agg #[.int .i64 p.water.1, .int .i64 p.water.2, .int .i64 p.fat.1, .int .i64 p.fat.2, .int .i64 p.sore.1, .int .i64 p.sore.2, .bool p.milks], .int .u8 f, .int .i64 x]) ∧ Below w.heap.size w w' := by
  subst hp hf hx; exact After_any b c m w
theorem tmod_x {a k q : Int} (h0 : 0 ≤ a) (hq : a % k = q) : Int.tmod a k = q := by rw [Int.tmod_eq_emod_of_nonneg h0, hq]
theorem emod_in {a k q : Int} (hk : 0 < k) (hq : a % k = q) : 0 ≤ q ∧ q < k := by
  subst hq
  exact ⟨Int.emod_nonneg _ (by omega), Int.emod_lt_of_pos _ hk⟩
theorem Carries_x (b : Br) (c : Cm) (f : Int × Int) (x : Int) (hf : carR b c = f) (hx : chkC b c = x) (w : World) :
    Calls Try.prog 28 #[.agg #[.int .i64 b.full, .int .i64 b.fed, .int .i64 b.rest.1, .int .i64 b.rest.2, .int .i64 b.heat.1, .int .i64 b.heat.2, .int .i64 b.toil.1, .int .i64 b.toil.2, .int .i64 b.burn.1, .int .i64 b.burn.2, .int .i64 b.rub.1, .int .i64 b.rub.2, .int .i64 b.milk.1, .int .i64 b.milk.2, .int .i64 b.heal, .int .i64 b.strong.1, .int .i64 b.strong.2], .agg #[.int .i64 c.water.1, .int .i64 c.water.2, .int .i64 c.fat.1, .int .i64 c.fat.2, .int .i64 c.sore.1, .int .i64 c.sore.2, .bool c.milks]] w fun e w' => e = .returned (.tuple #[.agg #[.int .i64 f.1, .int .i64 f.2], .int .i64 x]) ∧ Below w.heap.size w w' := by
  subst hf hx; exact Carries_any b c w
theorem Fitness_x (b : Br) (c : Cm) (f : Int × Int) (x : Int) (hf : fitR b c = f) (hx : chkC b c = x) (w : World) :
    Calls Try.prog 23 #[.agg #[.int .i64 b.full, .int .i64 b.fed, .int .i64 b.rest.1, .int .i64 b.rest.2, .int .i64 b.heat.1, .int .i64 b.heat.2, .int .i64 b.toil.1, .int .i64 b.toil.2, .int .i64 b.burn.1, .int .i64 b.burn.2, .int .i64 b.rub.1, .int .i64 b.rub.2, .int .i64 b.milk.1, .int .i64 b.milk.2, .int .i64 b.heal, .int .i64 b.strong.1, .int .i64 b.strong.2], .agg #[.int .i64 c.water.1, .int .i64 c.water.2, .int .i64 c.fat.1, .int .i64 c.fat.2, .int .i64 c.sore.1, .int .i64 c.sore.2, .bool c.milks]] w fun e w' => e = .returned (.tuple #[.agg #[.int .i64 f.1, .int .i64 f.2], .int .i64 x]) ∧ Below w.heap.size w w' := by
  subst hf hx; exact Fitness_any b c w
theorem Cost_x (b : Br) (k : Bool) (m : Mr) (y z : Int × Int) (x : Int) (hy : coW b k m = y) (hz : coF b m = z) (hx : chkM b m = x) (w : World) :
    Calls Try.prog 24 #[.agg #[.int .i64 b.full, .int .i64 b.fed, .int .i64 b.rest.1, .int .i64 b.rest.2, .int .i64 b.heat.1, .int .i64 b.heat.2, .int .i64 b.toil.1, .int .i64 b.toil.2, .int .i64 b.burn.1, .int .i64 b.burn.2, .int .i64 b.rub.1, .int .i64 b.rub.2, .int .i64 b.milk.1, .int .i64 b.milk.2, .int .i64 b.heal, .int .i64 b.strong.1, .int .i64 b.strong.2], .bool k, .agg #[.int .i64 m.hours, .int .i64 m.load, .int .i64 m.heat.1, .int .i64 m.heat.2, .int .i64 m.grass.1, .int .i64 m.grass.2, .int .i64 m.drinks.1, .int .i64 m.drinks.2]] w fun e w' => e = .returned (.tuple #[.agg #[.int .i64 y.1, .int .i64 y.2], .agg #[.int .i64 z.1, .int .i64 z.2], .int .i64 x]) ∧ Below w.heap.size w w' := by
  subst hy hz hx; exact Cost_any b k m w
end Go.Proofs.Ytafdcbdbllpcnaa
/- What is known better is told no wider: what the reckoning keeps. -/
namespace Go.Proofs.Ytafdcbdbllpcnaa

/-- A span in another one. -/
structure InnS (s t : Int × Int) : Prop where
  lo : t.1 ≤ s.1
  ok : s.1 ≤ s.2
  hi : s.2 ≤ t.2
/-- d, a and n are known better than b, c and m. -/
structure Nar (b d : Br) (c a : Cm) (m n : Mr) : Prop where
  full : d.full = b.full
  fed : d.fed = b.fed
  heal : d.heal = b.heal
  milks : a.milks = c.milks
  hours : n.hours = m.hours
  load : n.load = m.load
  rest : InnS d.rest b.rest
  heat : InnS d.heat b.heat
  toil : InnS d.toil b.toil
  burn : InnS d.burn b.burn
  rub : InnS d.rub b.rub
  milk : InnS d.milk b.milk
  strong : InnS d.strong b.strong
  water : InnS a.water c.water
  fat : InnS a.fat c.fat
  sore : InnS a.sore c.sore
  warm : InnS n.heat m.heat
  grass : InnS n.grass m.grass
  drinks : InnS n.drinks m.drinks
theorem InnS.bd {s t : Int × Int} {y : Int} (h : InnS s t) (ht : 0 ≤ t.1 ∧ t.1 ≤ t.2 ∧ t.2 ≤ y) : 0 ≤ s.1 ∧ s.1 ≤ s.2 ∧ s.2 ≤ y := by
  have := h.lo; have := h.ok; have := h.hi; omega
section
variable {b d : Br} {c a : Cm} {m n : Mr}
theorem Nar.bdB (h : Nar b d c a m n) (hb : BdB b) : BdB d :=
  ⟨h.full ▸ hb.full, h.fed ▸ hb.fed, h.rest.bd hb.rest, h.heat.bd hb.heat, h.toil.bd hb.toil, h.burn.bd hb.burn, h.rub.bd hb.rub, h.milk.bd hb.milk, h.heal ▸ hb.heal, h.strong.bd hb.strong⟩
theorem Nar.bdC (h : Nar b d c a m n) (hc : BdC b c) : BdC d a :=
  ⟨h.water.bd (h.full ▸ hc.water), h.fat.bd (h.fed ▸ hc.fat), h.sore.bd hc.sore⟩
theorem Nar.bdM (h : Nar b d c a m n) (hm : BdM m) : BdM n :=
  ⟨h.hours ▸ hm.hours, h.load ▸ hm.load, h.warm.bd hm.heat, h.grass.bd hm.grass, h.drinks.bd hm.drinks⟩
theorem okB_of (h : BdB b) : okB b = true := by
  obtain ⟨⟨a1, a2⟩, ⟨a3, a4⟩, ⟨b1, b2, b3⟩, ⟨c1, c2, c3⟩, ⟨d1, d2, d3⟩, ⟨e1, e2, e3⟩, ⟨f1, f2, f3⟩, ⟨g1, g2, g3⟩, ⟨h1, h2⟩, ⟨i1, i2, i3⟩⟩ := h
  simp [okB, okB1, okB2, okB3, okB4, okSpan, *]
theorem okC_of (h : BdC b c) : okC b c = true := by
  obtain ⟨⟨a1, a2, a3⟩, ⟨b1, b2, b3⟩, ⟨c1, c2, c3⟩⟩ := h
  simp [okC, okSpan, *]
theorem chkC_of (hb : BdB b) (hc : BdC b c) : chkC b c = 0 := by simp [chkC, okB_of hb, okC_of hc]
theorem chkM_of (hb : BdB b) (hm : BdM m) : chkM b m = 0 := by simp [chkM, okB_of hb, okM_of hm]
theorem Nar.lo (h : Nar b d c a m n) : Lo b d m n := ⟨h.rest.lo, h.heat.lo, h.toil.lo, h.burn.lo, h.rub.lo, h.milk.lo, by rw [h.hours]; exact Int.le_refl _, by rw [h.load]; exact Int.le_refl _, h.warm.lo⟩
theorem Nar.hiL (h : Nar b d c a m n) : Hi d b n m := ⟨h.rest.hi, h.heat.hi, h.toil.hi, h.burn.hi, h.rub.hi, h.milk.hi, by rw [h.hours]; exact Int.le_refl _, by rw [h.load]; exact Int.le_refl _, h.warm.hi⟩
theorem Nar.fit (h : Nar b d c a m n) (hb : BdB b) : (fitS b c).1 ≤ (fitS d a).1 ∧ (fitS d a).2 ≤ (fitS b c).2 := by
  have w1 := h.water.lo; have w2 := h.water.hi; have f1 := h.fat.lo; have f2 := h.fat.hi; have s1 := h.sore.lo; have s2 := h.sore.hi
  have k1 := hb.full; have k2 := hb.fed
  have q1 : 2000 * c.water.1 / b.full ≤ 2000 * a.water.1 / b.full := Int.ediv_le_ediv (by omega) (by omega)
  have q2 : 2000 * c.fat.1 / b.fed ≤ 2000 * a.fat.1 / b.fed := Int.ediv_le_ediv (by omega) (by omega)
  have q3 : (2000 * a.water.2 + b.full - 1) / b.full ≤ (2000 * c.water.2 + b.full - 1) / b.full := Int.ediv_le_ediv (by omega) (by omega)
  have q4 : (2000 * a.fat.2 + b.fed - 1) / b.fed ≤ (2000 * c.fat.2 + b.fed - 1) / b.fed := Int.ediv_le_ediv (by omega) (by omega)
  simp only [fitS, h.full, h.fed, mn_min]
  omega
theorem Nar.car (h : Nar b d c a m n) (hb : BdB b) (hc : BdC b c) : (carS b c).1 ≤ (carS d a).1 ∧ (carS d a).2 ≤ (carS b c).2 := by
  obtain ⟨f1, f2⟩ := h.fit hb
  obtain ⟨g1, -, -, -⟩ := fitS_bd hb hc
  obtain ⟨-, -, g2, -⟩ := fitS_bd (h.bdB hb) (h.bdC hc)
  have s := hb.strong; have t := h.strong
  have t1 := t.lo; have t2 := t.ok; have t3 := t.hi
  have m1 := mul_mono s.1 t1 g1 f1
  have m2 := mul_mono (by omega : 0 ≤ d.strong.2) t3 g2 f2
  exact ⟨Int.ediv_le_ediv (by omega) m1, Int.ediv_le_ediv (by omega) (by omega)⟩
theorem Nar.healE (h : Nar b d c a m n) : healS d n = healS b m := by unfold healS; rw [h.hours, h.heal]
theorem Nar.eve (h : Nar b d c a m n) (hb : BdB b) (hm : BdM m) :
    ((eveC b c m).water.1 ≤ (eveC d a n).water.1 ∧ (eveC d a n).water.2 ≤ (eveC b c m).water.2) ∧ ((eveC b c m).fat.1 ≤ (eveC d a n).fat.1 ∧ (eveC d a n).fat.2 ≤ (eveC b c m).fat.2) ∧ ((eveC b c m).sore.1 ≤ (eveC d a n).sore.1 ∧ (eveC d a n).sore.2 ≤ (eveC b c m).sore.2) := by
  have hd := h.bdB hb
  have hn := h.bdM hm
  have e1 : (eveC b c m).water = refS b.full c.water (waS b c.milks m) m.drinks := rfl
  have e2 : (eveC d a n).water = refS b.full a.water (waS d c.milks n) n.drinks := by rw [← h.full, ← h.milks]; rfl
  have e3 : (eveC b c m).fat = refS b.fed c.fat (faS b m) m.grass := rfl
  have e4 : (eveC d a n).fat = refS b.fed a.fat (faS d n) n.grass := by rw [← h.fed]; rfl
  rw [e1, e2, e3, e4]
  exact ⟨⟨refS_lo h.water.lo (waS_hi hd hn h.hiL _) h.drinks.lo, refS_hi h.water.hi (waS_lo hb hm h.lo _) h.drinks.hi⟩,
    ⟨refS_lo h.fat.lo (faS_hi hd hn h.hiL) h.grass.lo, refS_hi h.fat.hi (faS_lo hb hm h.lo) h.grass.hi⟩,
    ⟨soreS_lo h.sore.lo (soS_lo hb hm h.lo) h.healE.symm, soreS_hi h.sore.hi (soS_hi hd hn h.hiL) h.healE⟩⟩
theorem Nar.dies (h : Nar b d c a m n) (hb : BdB b) (hm : BdM m) (hd : diesS b c m = true) : diesS d a n = true := by
  have h1 := waS_lo hb hm h.lo c.milks
  have h2 := faS_lo hb hm h.lo
  have h3 := h.water.hi
  have h4 := h.fat.hi
  simp only [diesS, Bool.or_eq_true, decide_eq_true_eq, h.milks] at *
  omega
theorem Nar.opens (h : Nar b d c a m n) (hb : BdB b) (hm : BdM m) (hd : openS d a n = true) : openS b c m = true := by
  have h1 := waS_hi (h.bdB hb) (h.bdM hm) h.hiL c.milks
  have h2 := faS_hi (h.bdB hb) (h.bdM hm) h.hiL
  have h3 := h.water.lo
  have h4 := h.fat.lo
  simp only [openS, Bool.or_eq_true, decide_eq_true_eq, h.milks] at *
  omega
theorem Nar.half (h : Nar b d c a m n) (hb : BdB b) (hm : BdM m) (hd : diesS d a n = true) : openS b c m = true := by
  refine h.opens hb hm ?_
  have h1 := waS_bd a.milks (h.bdB hb) (h.bdM hm)
  have h2 := faS_bd (h.bdB hb) (h.bdM hm)
  have h3 := h.water.ok
  have h4 := h.fat.ok
  simp only [diesS, openS, Bool.or_eq_true, decide_eq_true_eq] at *
  omega
theorem inn_yes {s t : Int × Int} (h : t.1 ≤ s.1 ∧ s.2 ≤ t.2) : (decide (t.1 ≤ s.1) && decide (s.2 ≤ t.2)) = true := by simp [h.1, h.2]
/-- What is said of both. -/
theorem narrow_said (h : Nar b d c a m n) (hc : chkC b c = 0) (hm : okM m = true) :
    chkC d a = 0 ∧ chkM b m = 0 ∧ chkM d n = 0 ∧
    ((decide ((carR b c).1 ≤ (carR d a).1) && decide ((carR d a).2 ≤ (carR b c).2)) = true) ∧
    ((decide ((coW b c.milks m).1 ≤ (coW d a.milks n).1) && decide ((coW d a.milks n).2 ≤ (coW b c.milks m).2)) = true) ∧
    ((decide ((coF b m).1 ≤ (coF d n).1) && decide ((coF d n).2 ≤ (coF b m).2)) = true) ∧
    ((chkA b c m = 13 ∧ chkA d a n = 13) ∨ (chkA b c m = 0 ∧ chkA d a n = 13 ∧ aftF b c m = 1) ∨
      (chkA b c m = 0 ∧ chkA d a n = 0 ∧ (aftF b c m = 0 → aftF d a n = 0) ∧
        ((decide ((aftC b c m).water.1 ≤ (aftC d a n).water.1) && decide ((aftC d a n).water.2 ≤ (aftC b c m).water.2)) = true) ∧
        ((decide ((aftC b c m).fat.1 ≤ (aftC d a n).fat.1) && decide ((aftC d a n).fat.2 ≤ (aftC b c m).fat.2)) = true) ∧
        ((decide ((aftC b c m).sore.1 ≤ (aftC d a n).sore.1) && decide ((aftC d a n).sore.2 ≤ (aftC b c m).sore.2)) = true))) := by
  obtain ⟨hb, hcc⟩ := chkC_ok hc
  have hbm := okM_bd hm
  have hd := h.bdB hb
  have hn := h.bdM hbm
  have h1 := chkC_of hd (h.bdC hcc)
  have h2 := chkM_of hb hbm
  have h3 := chkM_of hd hn
  have hon := okM_of hn
  refine ⟨h1, h2, h3, inn_yes ?_, inn_yes ?_, inn_yes ?_, ?_⟩
  · rw [carR, if_pos hc, carR, if_pos h1]; exact h.car hb hcc
  · rw [coW, if_pos h2, coW, if_pos h3, h.milks]; exact ⟨waS_lo hb hbm h.lo _, waS_hi hd hn h.hiL _⟩
  · rw [coF, if_pos h2, coF, if_pos h3]; exact ⟨faS_lo hb hbm h.lo, faS_hi hd hn h.hiL⟩
  · cases hx : diesS b c m with
    | true => left; exact ⟨by simp [chkA, hc, hm, hx], by simp [chkA, h1, hon, h.dies hb hbm hx]⟩
    | false =>
      have e1 : chkA b c m = 0 := by simp [chkA, hc, hm, hx]
      right
      cases hy : diesS d a n with
      | true => left; exact ⟨e1, by simp [chkA, h1, hon, hy], by simp [aftF, e1, h.half hb hbm hy]⟩
      | false =>
        right
        have e2 : chkA d a n = 0 := by simp [chkA, h1, hon, hy]
        obtain ⟨p1, p2, p3⟩ := h.eve hb hbm
        refine ⟨e1, e2, fun hf => ?_, ?_⟩
        · cases ho : openS d a n with
          | false => simp [aftF, e2, ho]
          | true => simp [aftF, e1, h.opens hb hbm ho] at hf
        · rw [aftC, if_pos e1, aftC, if_pos e2]
          exact ⟨inn_yes p1, inn_yes p2, inn_yes p3⟩
end
/-- The parts that are chosen. -/
def prt (xs : List Int) (k : Nat) (s : Int × Int) : Int × Int := partS s (atS xs k) (atS xs (k + 1))
def nB (xs : List Int) (b : Br) : Br := ⟨b.full, b.fed, prt xs 0 b.rest, prt xs 2 b.heat, prt xs 4 b.toil, prt xs 6 b.burn, prt xs 8 b.rub, prt xs 10 b.milk, b.heal, prt xs 12 b.strong⟩
def nC (xs : List Int) (c : Cm) : Cm := ⟨prt xs 14 c.water, prt xs 16 c.fat, prt xs 18 c.sore, c.milks⟩
def nM (xs : List Int) (m : Mr) : Mr := ⟨m.hours, m.load, prt xs 20 m.heat, prt xs 22 m.grass, prt xs 24 m.drinks⟩
theorem prt_in {xs : List Int} {k : Nat} {s : Int × Int} {y : Int} (h : 0 ≤ s.1 ∧ s.1 ≤ s.2 ∧ s.2 ≤ y) : InnS (prt xs k s) s := by
  obtain ⟨h1, h2, h3⟩ := partS_in h.2.1 (atS xs k) (atS xs (k + 1))
  exact ⟨h1, h2, h3⟩
theorem nar_of {xs : List Int} {b : Br} {c : Cm} {m : Mr} (hb : BdB b) (hc : BdC b c) (hm : BdM m) : Nar b (nB xs b) c (nC xs c) m (nM xs m) :=
  ⟨rfl, rfl, rfl, rfl, rfl, rfl, prt_in hb.rest, prt_in hb.heat, prt_in hb.toil, prt_in hb.burn, prt_in hb.rub, prt_in hb.milk, prt_in hb.strong,
    prt_in hc.water, prt_in hc.fat, prt_in hc.sore, prt_in hm.heat, prt_in hm.grass, prt_in hm.drinks⟩
end Go.Proofs.Ytafdcbdbllpcnaa
/- The closure of the outright property of the heaviest load: whether a load is borne for sure. -/
namespace Go.Proofs.Ytafdcbdbllpcnaa
open Go.RowKit
open Go.Proofs

attribute [local go_sem ↓] exec36l exec36s exec45s exec39s exec39l
attribute [local go_sem] load36 store36 load39 store45 store39 rowOf_alloc rowOf_drew setRow_alloc one_int one_bool

theorem bear_said {b : Br} {c : Cm} {ms : List Mr} {x : Int} {k : Nat} (hb : BdB b) (hc : BdC b c) (hall : ms.all okM = true) (h0 : 0 ≤ x) (h1 : x ≤ 1000000) (hk : k < ms.length) :
    chkC b (mornC b c (ldS x ms) k) = 0 ∧
    ((chkA b (mornC b c (ldS x ms) k) (ldM x (mdS ms k)) = 13 ∧ okDay b c (ldS x ms) x k = false) ∨
     (chkA b (mornC b c (ldS x ms) k) (ldM x (mdS ms k)) = 0 ∧ aftF b (mornC b c (ldS x ms) k) (ldM x (mdS ms k)) = 1 ∧ okDay b c (ldS x ms) x k = false) ∨
     (chkA b (mornC b c (ldS x ms) k) (ldM x (mdS ms k)) = 0 ∧ aftF b (mornC b c (ldS x ms) k) (ldM x (mdS ms k)) = 0 ∧ aftC b (mornC b c (ldS x ms) k) (ldM x (mdS ms k)) = mornC b c (ldS x ms) (k + 1) ∧
       (okDay b c (ldS x ms) x k = true ↔ (0 < (mdS ms k).hours → x ≤ (carR b (mornC b c (ldS x ms) k)).1)))) := by
  have hm := mdS_ok hall hk
  have hcx := mornC_bd hb hc (ldS_ok hall h0 h1) k (by rw [ldS_len]; omega)
  have h2 := chkC_of hb hcx
  have hmx := ldM_ok hm h0 h1
  have e : mdS (ldS x ms) k = ldM x (mdS ms k) := mdS_ld hk
  refine ⟨h2, ?_⟩
  have eh : mornC b c (ldS x ms) (k + 1) = eveC b (mornC b c (ldS x ms) k) (ldM x (mdS ms k)) := by rw [← e]; rfl
  have ef : fatK b c (ldS x ms) k = fateS b (mornC b c (ldS x ms) k) (ldM x (mdS ms k)) := by rw [← e]; rfl
  rw [eh]
  unfold okDay
  rw [ef, e]
  rw [carR, if_pos h2]
  generalize mornC b c (ldS x ms) k = cm at *
  generalize hmd : ldM x (mdS ms k) = md at *
  have ehr : md.hours = (mdS ms k).hours := by rw [← hmd]; rfl
  rw [ehr]
  cases hd : diesS b cm md with
  | true => left; exact ⟨by simp [chkA, h2, hmx, hd], by simp [fateS, hd]⟩
  | false =>
    right
    have e1 : chkA b cm md = 0 := by simp [chkA, h2, hmx, hd]
    cases ho : openS b cm md with
    | true => left; exact ⟨e1, by simp [aftF, e1, ho], by simp [fateS, hd, ho]⟩
    | false =>
      right
      refine ⟨e1, by simp [aftF, e1, ho], by simp [aftC, e1], ?_⟩
      simp only [fateS, hd, ho, Bool.false_eq_true, if_false, decide_true, Bool.true_and, Bool.or_eq_true, decide_eq_true_eq]
      constructor
      · rintro (h | h) h3
        · omega
        · exact h
      · intro h
        by_cases h3 : 0 < (mdS ms k).hours
        · exact .inr (h h3)
        · exact .inl h3

set_option maxRecDepth 100000 in
set_option maxHeartbeats 8000000 in
theorem bearL_any (b : Br) (c : Cm) (a : Option Addr) (cap n : Nat) (ms : List Mr) (x : Int) (r : Bool) (hr : bearS b c ms x = r) (g1 g2 g3 : Nat) (w : World) (r1 : rowOf w g1 = some #[.int .i64 c.water.1, .int .i64 c.water.2, .int .i64 c.fat.1, .int .i64 c.fat.2, .int .i64 c.sore.1, .int .i64 c.sore.2, .bool c.milks]) (r2 : rowOf w g2 = some #[.slice a n cap]) (r3 : rowOf w g3 = some #[.int .i64 b.full, .int .i64 b.fed, .int .i64 b.rest.1, .int .i64 b.rest.2, .int .i64 b.heat.1, .int .i64 b.heat.2, .int .i64 b.toil.1, .int .i64 b.toil.2, .int .i64 b.burn.1, .int .i64 b.burn.2, .int .i64 b.rub.1, .int .i64 b.rub.2, .int .i64 b.milk.1, .int .i64 b.milk.2, .int .i64 b.heal, .int .i64 b.strong.1, .int .i64 b.strong.2])
    (hn : n = ms.length) (h : DaysIn w a cap ms) (h6 : ms.length ≤ 60) (hb : BdB b) (hc : BdC b c) (hall : ms.all okM = true) (hx1 : 0 ≤ x) (hx2 : x ≤ 1000000) :
    Calls Try.prog 51 #[.int .i64 x, .pointer (some ⟨g1, 0, none⟩), .pointer (some ⟨g2, 0, none⟩), .pointer (some ⟨g3, 0, none⟩)] w fun e w' => e = .returned (.bool r) ∧ Below w.heap.size w w' := by
  have HR := Lib.hid hr
  have HN := Lib.hid hn
  have HD := Lib.hid h
  have HB := Lib.hid hb
  have HC := Lib.hid hc
  have HA := Lib.hid hall
  have HX1 := Lib.hid hx1
  have HX2 := Lib.hid hx2
  have hn60 : (n : Int) ≤ 60 := by omega
  obtain ⟨r1E, c1E, g1E, z1E⟩ := row_facts r1
  obtain ⟨r2E, c2E, g2E, z2E⟩ := row_facts r2
  obtain ⟨r3E, c3E, g3E, z3E⟩ := row_facts r3
  clear hr hn h h6 hb hc hall r1 r2 r3 hx1 hx2
  go_enter Try.func51, Try.ntmps51
  go_wp2_with fail
  go_loopw [17] (fun i wr => ∃ k : Nat, k ≤ n ∧ i = .int .i64 (k : Int) ∧ Hid (∀ j, j < k → okDay b c (ldS x ms) x j = true) ∧ Hid (rowOf wr w.heap.size = some #[.int .i64 (mornC b c (ldS x ms) k).water.1, .int .i64 (mornC b c (ldS x ms) k).water.2, .int .i64 (mornC b c (ldS x ms) k).fat.1, .int .i64 (mornC b c (ldS x ms) k).fat.2, .int .i64 (mornC b c (ldS x ms) k).sore.1, .int .i64 (mornC b c (ldS x ms) k).sore.2, .bool (mornC b c (ldS x ms) k).milks]) ∧ Below w.heap.size w wr) (fun i _ => n - (intOf i).toNat)
  case atStart => exact ⟨0, Nat.zero_le _, rfl, fun j hj => absurd hj (by omega), (show rowOf _ _ = some #[.int .i64 c.water.1, .int .i64 c.water.2, .int .i64 c.fat.1, .int .i64 c.fat.2, .int .i64 c.sore.1, .int .i64 c.sore.2, .bool c.milks] from row_here0 _ _ _), by go_grown⟩
  case round =>
    obtain ⟨k, hk, rfl, hal, hr0, hwr⟩ := hrel
    by_cases hlt : k < n
    · have hkm : k < ms.length := by have := HN.out; omega
      obtain ⟨g, off, rfl, hMs, hg⟩ : ∃ g off, a = some ⟨g, off, none⟩ ∧ MarchesAt w g off ms ∧ g < w.heap.size := by
        rcases HD.out with ⟨_, _, h⟩ | h
        · subst h; have : n = 0 := HN.out; omega
        · exact h
      have hm1 := march_below hwr hg (hMs k hkm)
      rw [mdS_get hkm] at hm1
      obtain ⟨m0, m1, m2, m3, m4, m5, m6, m7⟩ := hm1
      have hlt' : (k : Int) < (n : Int) := by omega
      have hsd := bear_said HB.out HC.out HA.out HX1.out HX2.out hkm
      obtain ⟨cm, hcm⟩ : ∃ cm, mornC b c (ldS x ms) k = cm := ⟨_, rfl⟩
      obtain ⟨md, hmd⟩ : ∃ md, mdS ms k = md := ⟨_, rfl⟩
      rw [hcm] at hr0 hsd
      rw [hmd] at hsd m0 m1 m2 m3 m4 m5 m6 m7
      obtain ⟨s, hs⟩ : ∃ s, carR b cm = s := ⟨_, rfl⟩
      obtain ⟨p, hp⟩ : ∃ p, aftC b cm (ldM x md) = p := ⟨_, rfl⟩
      obtain ⟨fp, hfp⟩ : ∃ p, aftF b cm (ldM x md) = p := ⟨_, rfl⟩
      obtain ⟨xp, hxp⟩ : ∃ p, chkA b cm (ldM x md) = p := ⟨_, rfl⟩
      rw [hs, hp, hfp, hxp] at hsd
      have HS := Lib.hid hs
      have HP := Lib.hid hp
      have HFP := Lib.hid hfp
      have HXP := Lib.hid hxp
      have HC0 := Lib.hid hsd.1
      have HSD := Lib.hid hsd.2
      have zwr := hwr.size
      obtain ⟨raR, caR, gaR, zaR⟩ := row_facts hr0.out
      obtain ⟨r1R, c1R, g1R, z1R⟩ := keep_row hwr r1E
      obtain ⟨r2R, c2R, g2R, z2R⟩ := keep_row hwr r2E
      obtain ⟨r3R, c3R, g3R, z3R⟩ := keep_row hwr r3E
      clear hsd hs hp hfp hxp hcm hmd hMs r1E c1E g1E r2E c2E g2E r3E c3E g3E hr0
      have rdwr : True := trivial
      have rtwr := r3R
      have rawr := raR
      go_wp2_with fail
      refine (Carries_x b cm s 0 HS.out HC0.out _).mono ?_
      rintro e W1 ⟨rfl, hB⟩
      have hW1 : Below w.heap.size w W1 := hwr.trans (Below.trans (by have := hwr.size; go_grown) (hB.mono (by have := hwr.size; simp; try omega)))
      have zW1 := hW1.size
      obtain ⟨rdW1, cdW1, gdW1, zdW1⟩ := keep_row hB (g := wr.heap.size) (by repeat (first | with_reducible assumption | with_reducible apply row_here0 | with_reducible apply row_here1 | with_reducible apply row_here2 | with_reducible apply row_here3 | with_reducible apply rowSkip))
      obtain ⟨raW1, caW1, gaW1, zaW1⟩ := keep_row hB (g := w.heap.size) (by repeat (first | with_reducible assumption | with_reducible apply row_here0 | with_reducible apply row_here1 | with_reducible apply row_here2 | with_reducible apply row_here3 | with_reducible apply rowSkip))
      obtain ⟨rtW1, ctW1, gtW1, ztW1⟩ := keep_row hB (g := g3) (by repeat (first | with_reducible assumption | with_reducible apply row_here0 | with_reducible apply row_here1 | with_reducible apply row_here2 | with_reducible apply row_here3 | with_reducible apply rowSkip))
      clear hB
      clear raR caR gaR zaR r1R c1R g1R z1R r2R c2R g2R z2R r3R c3R g3R z3R m0 m1 m2 m3 m4 m5 m6 m7 rtwr rawr rdwr
      go_wp2_with fail
      refine (After_x b cm (ldM x md) p fp xp HP.out HFP.out HXP.out _).mono ?_
      rintro e W2 ⟨rfl, hB⟩
      have hW2 : Below w.heap.size w W2 := hW1.trans (Below.trans (by have := hW1.size; go_grown) (hB.mono (by have := hW1.size; simp; try omega)))
      have zW2 := hW2.size
      obtain ⟨rdW2, cdW2, gdW2, zdW2⟩ := keep_row hB (g := wr.heap.size) (by repeat (first | with_reducible assumption | with_reducible apply row_here0 | with_reducible apply row_here1 | with_reducible apply row_here2 | with_reducible apply row_here3 | with_reducible apply rowSkip))
      obtain ⟨raW2, caW2, gaW2, zaW2⟩ := keep_row hB (g := w.heap.size) (by repeat (first | with_reducible assumption | with_reducible apply row_here0 | with_reducible apply row_here1 | with_reducible apply row_here2 | with_reducible apply row_here3 | with_reducible apply rowSkip))
      obtain ⟨rtW2, ctW2, gtW2, ztW2⟩ := keep_row hB (g := g3) (by repeat (first | with_reducible assumption | with_reducible apply row_here0 | with_reducible apply row_here1 | with_reducible apply row_here2 | with_reducible apply row_here3 | with_reducible apply rowSkip))
      obtain ⟨rsW2, csW2, gsW2, zsW2⟩ := keep_row hB (g := W1.heap.size) (by repeat (first | with_reducible assumption | with_reducible apply row_here0 | with_reducible apply row_here1 | with_reducible apply row_here2 | with_reducible apply row_here3 | with_reducible apply rowSkip))
      clear hB
      clear hW1 zW1 rdW1 cdW1 gdW1 zdW1 raW1 caW1 gaW1 zaW1 rtW1 ctW1 gtW1 ztW1
      rcases HSD.out with ⟨h1, ho⟩ | ⟨h1, h2, ho⟩ | ⟨h1, h2, h3, ho⟩
      · obtain rfl : false = r := (bearS_no hkm ho).symm.trans HR.out
        subst h1
        clear HP HFP HXP HSD
        go_wp2
        go_returns
        exact ⟨rfl, by go_grown⟩
      · obtain rfl : false = r := (bearS_no hkm ho).symm.trans HR.out
        subst h1 h2
        clear HP HFP HXP HSD
        go_wp2
        go_returns
        exact ⟨rfl, by go_grown⟩
      · subst h1 h2
        have HH3 := Lib.hid h3
        clear h3 HP HFP HXP HSD
        by_cases hh : 0 < md.hours
        · by_cases hx : s.1 < x
          · have hno : okDay b c (ldS x ms) x k = false := by
              cases hq : okDay b c (ldS x ms) x k with
              | false => rfl
              | true => have := ho.1 hq hh; omega
            obtain rfl : false = r := (bearS_no hkm hno).symm.trans HR.out
            clear ho hno
            go_wp2
            go_returns
            exact ⟨rfl, by go_grown⟩
          · have hx2 : x ≤ s.1 := by omega
            have HOK := Lib.hid (ho.2 (fun _ => hx2))
            clear ho
            go_wp2_with fail
            have s8 := stored_setRow raW2 #[.int .i64 p.water.1, .int .i64 p.water.2, .int .i64 p.fat.1, .int .i64 p.fat.2, .int .i64 p.sore.1, .int .i64 p.sore.2, .bool p.milks]
            have hz8 := s8.below w.heap.size (Nat.le_refl _)
            refine ⟨⟨k + 1, hlt, by go_num, fun j hj => ?_, ?_, (hW2.trans hz8).alloc (by simp; omega) _⟩, by simp [intOf]; omega⟩
            · rcases Nat.lt_or_ge j k with h | h
              · exact hal.out j h
              · obtain rfl : j = k := by omega
                exact HOK.out
            · rw [← HH3.out]; exact rowSkip s8.row
        · have hh2 : md.hours ≤ 0 := by omega
          have HOK := Lib.hid (ho.2 (fun h => absurd h hh))
          clear ho
          go_wp2_with fail
          have s8 := stored_setRow raW2 #[.int .i64 p.water.1, .int .i64 p.water.2, .int .i64 p.fat.1, .int .i64 p.fat.2, .int .i64 p.sore.1, .int .i64 p.sore.2, .bool p.milks]
          have hz8 := s8.below w.heap.size (Nat.le_refl _)
          refine ⟨⟨k + 1, hlt, by go_num, fun j hj => ?_, ?_, (hW2.trans hz8).alloc (by simp; omega) _⟩, by simp [intOf]; omega⟩
          · rcases Nat.lt_or_ge j k with h | h
            · exact hal.out j h
            · obtain rfl : j = k := by omega
              exact HOK.out
          · rw [← HH3.out]; exact rowSkip s8.row
    · obtain rfl : k = n := by omega
      have hr : bearS b c ms x = true := bearS_yes fun j hj => hal.out j (by have := HN.out; omega)
      obtain rfl : true = r := hr.symm.trans HR.out
      go_wp2
      go_returns
      exact ⟨rfl, hwr⟩
end Go.Proofs.Ytafdcbdbllpcnaa
