/- The walk of the first part of the stage's theorem: whatever an animal loses, it is as is told. -/
import Derived.Test.YtafdcbdbllpcnaaDraws3
import Derived.Test.YtafdcbdbllpcnaaLawLiv
import Derived.Test.YtafdcbdbllpcnaaNarrS
import Derived.Test.YtafdcbdbllpcnaaShapeL
import Derived.Test.YtafdcbdbllpcnaaRefA
import Derived.Deep.DeepCutAuto
set_option linter.unusedVariables false
set_option linter.unusedSimpArgs false
namespace Go.Proofs.Ytafdcbdbllpcnaa
open Go.RowKit
open Go.Proofs

attribute [local go_sem ↓] exec36l exec36s exec45s exec39s exec39l exec31s
attribute [local go_sem] load36 store36 load39 store45 store39 store31 rowOf_alloc rowOf_drew setRow_alloc one_int one_bool
attribute [local irreducible] wpQuiet

/-- What is said of a day, and of what is told of it. -/
theorem true_said {b : Br} {c : Cm} {m : Mr} {h : Ch} {t : Tr} (hc : chkC b c = 0) (hm : okM m = true) (hh : ChIn b m h) (ht : Tin t c) :
    (chkA b c m = 13 ∧ livT c.milks m h t = false) ∨ (chkA b c m = 0 ∧ aftF b c m = 1 ∧ livT c.milks m h t = false) ∨
    (chkA b c m = 0 ∧ (aftF b c m = 0 ∨ aftF b c m = 1) ∧ livT c.milks m h t = true ∧ chkC b (aftC b c m) = 0 ∧ (aftC b c m).milks = c.milks ∧ Tin (eveT b c.milks m h t) (aftC b c m)) := by
  obtain ⟨hb, hcc⟩ := chkC_ok hc
  have hbm := okM_bd hm
  cases hd : diesS b c m with
  | true => left; exact ⟨by simp [chkA, hc, hm, hd], true_dies hb hbm hh ht hd⟩
  | false =>
    right
    have e1 : chkA b c m = 0 := by simp [chkA, hc, hm, hd]
    have e2 : aftC b c m = eveC b c m := by simp [aftC, e1]
    have hf : aftF b c m = 0 ∨ aftF b c m = 1 := by
      rw [aftF, if_pos e1]
      split
      · exact .inr rfl
      · exact .inl rfl
    cases hl : livT c.milks m h t with
    | false =>
      left
      refine ⟨e1, ?_, rfl⟩
      cases ho : openS b c m with
      | true => simp [aftF, e1, ho]
      | false => rw [true_lives hb hbm hh ht ho] at hl; cases hl
    | true =>
      right
      rw [e2]
      exact ⟨e1, hf, rfl, chkC_of hb (eve_bd hb hcc hbm), rfl, true_eve hb hcc hbm hh ht hl⟩
/-- What is said of an animal that is as is told. -/
theorem fits_said {b : Br} {c : Cm} {t : Tr} {f s : Int × Int} {z : Int} (hc : chkC b c = 0) (ht : Tin t c) (hf : fitR b c = f) (hs : carR b c = s) (hz : InI b.strong z) :
    ¬ 1000 < f.1 ∧ ¬ 2000 * t.water < f.1 * 100000 * b.full ∧ ¬ 2000 * t.fat < f.1 * 100000 * b.fed ∧ ¬ 1000000000 - t.sore < 1000000 * f.1 ∧
      (¬ f.2 < 1000 ∨ (f.2 < 1000 ∧ ¬ f.2 * 100000 * b.full < 2000 * t.water) ∨ (f.2 < 1000 ∧ f.2 * 100000 * b.full < 2000 * t.water ∧ ¬ f.2 * 100000 * b.fed < 2000 * t.fat) ∨ (f.2 < 1000 ∧ f.2 * 100000 * b.full < 2000 * t.water ∧ f.2 * 100000 * b.fed < 2000 * t.fat ∧ ¬ 1000000 * f.2 < 1000000000 - t.sore)) ∧
      ¬ z * f.1 < s.1 * 1000 ∧ ¬ s.2 * 1000 < z * f.2 := by
  obtain ⟨hb, hcc⟩ := chkC_ok hc
  rw [fitR, if_pos hc] at hf
  rw [carR, if_pos hc] at hs
  subst hf hs
  obtain ⟨h1, h2, h3, h4, h5⟩ := true_fit hb hcc ht
  obtain ⟨g1, g2⟩ := true_car hb hcc hz
  refine ⟨by omega, h2, h3, h4, ?_, g1, g2⟩
  by_cases a1 : (fitS b c).2 < 1000
  · by_cases a2 : (fitS b c).2 * 100000 * b.full < 2000 * t.water
    · by_cases a3 : (fitS b c).2 * 100000 * b.fed < 2000 * t.fat
      · exact .inr (.inr (.inr ⟨a1, a2, a3, h5 a1 a2 a3⟩))
      · exact .inr (.inr (.inl ⟨a1, a2, a3⟩))
    · exact .inr (.inl ⟨a1, a2⟩)
  · exact .inl a1
theorem fitR_bd {b : Br} {c : Cm} {f : Int × Int} (hc : chkC b c = 0) (hf : fitR b c = f) : 0 ≤ f.1 ∧ f.1 ≤ 1000 ∧ 0 ≤ f.2 ∧ f.2 ≤ 1000 := by
  obtain ⟨hb, hcc⟩ := chkC_ok hc
  rw [fitR, if_pos hc] at hf
  subst hf
  obtain ⟨h1, h2, h3, h4⟩ := fitS_bd hb hcc
  refine ⟨h1, ?_, ?_, ?_⟩ <;> omega
theorem carR_bd {b : Br} {c : Cm} {f : Int × Int} (hc : chkC b c = 0) (hf : carR b c = f) : 0 ≤ f.1 ∧ f.1 ≤ 1000000 ∧ 0 ≤ f.2 ∧ f.2 ≤ 1000001 := by
  obtain ⟨hb, hcc⟩ := chkC_ok hc
  rw [carR, if_pos hc] at hf
  subst hf
  obtain ⟨h1, h2, h3, h4⟩ := fitS_bd hb hcc
  have hs := hb.strong
  have p1 := mul_le (a := 1000000) (b := 1000) (show 0 ≤ b.strong.1 by omega) h1 (by omega) (show (fitS b c).1 ≤ 1000 by omega)
  have p2 := mul_le (a := 1000000) (b := 1000) (show 0 ≤ b.strong.2 by omega) (show 0 ≤ (fitS b c).2 by omega) (by omega) (show (fitS b c).2 ≤ 1000 by omega)
  have z1 : (carS b c).1 = b.strong.1 * (fitS b c).1 / 1000 := rfl
  have z2 : (carS b c).2 = (b.strong.2 * (fitS b c).2 + 1000 - 1) / 1000 := rfl
  rw [z1, z2]
  omega
theorem Tin_bd {b : Br} {c : Cm} {t : Tr} (hc : chkC b c = 0) (ht : Tin t c) : (0 ≤ t.water ∧ t.water ≤ 100000000000000) ∧ (0 ≤ t.fat ∧ t.fat ≤ 100000000000000) ∧ (0 ≤ t.sore ∧ t.sore ≤ 1000000000) := by
  obtain ⟨hb, hcc⟩ := chkC_ok hc
  have h1 := ht.w1; have h2 := ht.w2; have h3 := hcc.water
  have f1 := ht.f1; have f2 := ht.f2; have f3 := hcc.fat
  have s1 := ht.s1; have s2 := ht.s2; have s3 := hcc.sore
  have b1 := hb.full; have b2 := hb.fed
  omega
theorem rdyS_three {b : Br} {c : Cm} {ms : List Mr} (h : rdyS b c ms = true) : chkC b c = 0 ∧ ms.length ≤ 60 ∧ ms.all okM = true := by
  simp only [rdyS, Bool.and_eq_true, decide_eq_true_eq] at h
  exact ⟨h.1.1, h.1.2, h.2⟩
set_option maxRecDepth 100000 in
theorem ready_k (b : Br) (c : Cm) (k : Bool) (a : Option Addr) (cap n : Nat) (ms : List Mr) (y : Bool) (w : World) (hk : c.milks = k) (hn : n = ms.length) (h : DaysIn w a cap ms) (hy : rdyS b c ms = y) :
    Calls Try.prog 44 #[.agg #[.int .i64 b.full, .int .i64 b.fed, .int .i64 b.rest.1, .int .i64 b.rest.2, .int .i64 b.heat.1, .int .i64 b.heat.2, .int .i64 b.toil.1, .int .i64 b.toil.2, .int .i64 b.burn.1, .int .i64 b.burn.2, .int .i64 b.rub.1, .int .i64 b.rub.2, .int .i64 b.milk.1, .int .i64 b.milk.2, .int .i64 b.heal, .int .i64 b.strong.1, .int .i64 b.strong.2], .agg #[.int .i64 c.water.1, .int .i64 c.water.2, .int .i64 c.fat.1, .int .i64 c.fat.2, .int .i64 c.sore.1, .int .i64 c.sore.2, .bool k], .slice a n cap] w fun e w' => e = .returned (.bool y) ∧ Below w.heap.size w w' := by
  subst hk; exact ready_any b c a cap n ms y w hn h hy
set_option maxRecDepth 100000 in
theorem After_k (b : Br) (c : Cm) (k : Bool) (m : Mr) (p : Cm) (f x : Int) (w : World) (hk : c.milks = k) (hpk : p.milks = k) (hp : aftC b c m = p) (hf : aftF b c m = f) (hx : chkA b c m = x) :
    Calls Try.prog 25 #[.agg #[.int .i64 b.full, .int .i64 b.fed, .int .i64 b.rest.1, .int .i64 b.rest.2, .int .i64 b.heat.1, .int .i64 b.heat.2, .int .i64 b.toil.1, .int .i64 b.toil.2, .int .i64 b.burn.1, .int .i64 b.burn.2, .int .i64 b.rub.1, .int .i64 b.rub.2, .int .i64 b.milk.1, .int .i64 b.milk.2, .int .i64 b.heal, .int .i64 b.strong.1, .int .i64 b.strong.2], .agg #[.int .i64 c.water.1, .int .i64 c.water.2, .int .i64 c.fat.1, .int .i64 c.fat.2, .int .i64 c.sore.1, .int .i64 c.sore.2, .bool k], .agg #[.int .i64 m.hours, .int .i64 m.load, .int .i64 m.heat.1, .int .i64 m.heat.2, .int .i64 m.grass.1, .int .i64 m.grass.2, .int .i64 m.drinks.1, .int .i64 m.drinks.2]] w fun e w' => e = .returned (.tuple #[.agg #[.int .i64 p.water.1, .int .i64 p.water.2, .int .i64 p.fat.1, .int .i64 p.fat.2, .int .i64 p.sore.1, .int .i64 p.sore.2, .bool k], .int .u8 f, .int .i64 x]) ∧ Below w.heap.size w w' := by
  subst hk; have h := After_x b c m p f x hp hf hx w; rw [hpk] at h; exact h
set_option maxRecDepth 100000 in
theorem After_no (b : Br) (c : Cm) (k : Bool) (m : Mr) (p : Cm) (f x : Int) (w : World) (hk : c.milks = k) (hp : aftC b c m = p) (hf : aftF b c m = f) (hx : chkA b c m = x) :
    Calls Try.prog 25 #[.agg #[.int .i64 b.full, .int .i64 b.fed, .int .i64 b.rest.1, .int .i64 b.rest.2, .int .i64 b.heat.1, .int .i64 b.heat.2, .int .i64 b.toil.1, .int .i64 b.toil.2, .int .i64 b.burn.1, .int .i64 b.burn.2, .int .i64 b.rub.1, .int .i64 b.rub.2, .int .i64 b.milk.1, .int .i64 b.milk.2, .int .i64 b.heal, .int .i64 b.strong.1, .int .i64 b.strong.2], .agg #[.int .i64 c.water.1, .int .i64 c.water.2, .int .i64 c.fat.1, .int .i64 c.fat.2, .int .i64 c.sore.1, .int .i64 c.sore.2, .bool k], .agg #[.int .i64 m.hours, .int .i64 m.load, .int .i64 m.heat.1, .int .i64 m.heat.2, .int .i64 m.grass.1, .int .i64 m.grass.2, .int .i64 m.drinks.1, .int .i64 m.drinks.2]] w fun e w' => e = .returned (.tuple #[.agg #[.int .i64 p.water.1, .int .i64 p.water.2, .int .i64 p.fat.1, .int .i64 p.fat.2, .int .i64 p.sore.1, .int .i64 p.sore.2, .bool p.milks], .int .u8 f, .int .i64 x]) ∧ Below w.heap.size w w' := by
  subst hk; exact After_x b c m p f x hp hf hx w
set_option maxRecDepth 100000 in
theorem Fitness_k (b : Br) (c : Cm) (k : Bool) (f : Int × Int) (x : Int) (w : World) (hk : c.milks = k) (hf : fitR b c = f) (hx : chkC b c = x) :
    Calls Try.prog 23 #[.agg #[.int .i64 b.full, .int .i64 b.fed, .int .i64 b.rest.1, .int .i64 b.rest.2, .int .i64 b.heat.1, .int .i64 b.heat.2, .int .i64 b.toil.1, .int .i64 b.toil.2, .int .i64 b.burn.1, .int .i64 b.burn.2, .int .i64 b.rub.1, .int .i64 b.rub.2, .int .i64 b.milk.1, .int .i64 b.milk.2, .int .i64 b.heal, .int .i64 b.strong.1, .int .i64 b.strong.2], .agg #[.int .i64 c.water.1, .int .i64 c.water.2, .int .i64 c.fat.1, .int .i64 c.fat.2, .int .i64 c.sore.1, .int .i64 c.sore.2, .bool k]] w fun e w' => e = .returned (.tuple #[.agg #[.int .i64 f.1, .int .i64 f.2], .int .i64 x]) ∧ Below w.heap.size w w' := by
  subst hk; exact Fitness_x b c f x hf hx w
set_option maxRecDepth 100000 in
theorem Carries_k (b : Br) (c : Cm) (k : Bool) (f : Int × Int) (x : Int) (w : World) (hk : c.milks = k) (hf : carR b c = f) (hx : chkC b c = x) :
    Calls Try.prog 28 #[.agg #[.int .i64 b.full, .int .i64 b.fed, .int .i64 b.rest.1, .int .i64 b.rest.2, .int .i64 b.heat.1, .int .i64 b.heat.2, .int .i64 b.toil.1, .int .i64 b.toil.2, .int .i64 b.burn.1, .int .i64 b.burn.2, .int .i64 b.rub.1, .int .i64 b.rub.2, .int .i64 b.milk.1, .int .i64 b.milk.2, .int .i64 b.heal, .int .i64 b.strong.1, .int .i64 b.strong.2], .agg #[.int .i64 c.water.1, .int .i64 c.water.2, .int .i64 c.fat.1, .int .i64 c.fat.2, .int .i64 c.sore.1, .int .i64 c.sore.2, .bool k]] w fun e w' => e = .returned (.tuple #[.agg #[.int .i64 f.1, .int .i64 f.2], .int .i64 x]) ∧ Below w.heap.size w w' := by
  subst hk; exact Carries_x b c f x hf hx w
set_option maxRecDepth 100000 in
theorem rCamel_k (b : Br) (c : Cm) (k x : Bool) (w : World) (hk : c.milks = k) (hx : okC b c = x) :
    Calls Try.prog 47 #[.agg #[.int .i64 b.full, .int .i64 b.fed, .int .i64 b.rest.1, .int .i64 b.rest.2, .int .i64 b.heat.1, .int .i64 b.heat.2, .int .i64 b.toil.1, .int .i64 b.toil.2, .int .i64 b.burn.1, .int .i64 b.burn.2, .int .i64 b.rub.1, .int .i64 b.rub.2, .int .i64 b.milk.1, .int .i64 b.milk.2, .int .i64 b.heal, .int .i64 b.strong.1, .int .i64 b.strong.2], .agg #[.int .i64 c.water.1, .int .i64 c.water.2, .int .i64 c.fat.1, .int .i64 c.fat.2, .int .i64 c.sore.1, .int .i64 c.sore.2, .bool k]] w fun e w' => e = .returned (.bool x) ∧ Below w.heap.size w w' := by
  subst hk; exact rCamel_okC b c x hx w
set_option maxRecDepth 100000 in
theorem in_k (b : Br) (c : Cm) (k : Bool) (t : Tr) (gt : Nat) (w : World) (hk : c.milks = k) (rt : rowOf w gt = some #[.int .i64 t.water, .int .i64 t.fat, .int .i64 t.sore]) (hb : BdB b) (hc : BdC b c) (ht : Tin t c) :
    Calls Try.prog 48 #[.pointer (some ⟨gt, 0, none⟩), .agg #[.int .i64 c.water.1, .int .i64 c.water.2, .int .i64 c.fat.1, .int .i64 c.fat.2, .int .i64 c.sore.1, .int .i64 c.sore.2, .bool k]] w fun e w' => e = .returned (.bool true) ∧ Below w.heap.size w w' := by
  subst hk; exact in_yes b c t gt w rt hb hc ht
set_option maxRecDepth 100000 in
theorem begin_k (b : Br) (c : Cm) (k : Bool) (a : Option Addr) (cap n : Nat) (xs : List Int) (t : Tr) (w : World) (hk : c.milks = k) (ht : begT c xs = t) (hn : n = xs.length) (hw : WordsIn w a cap xs) (hu : ∀ x ∈ xs, inU x) (hb : BdB b) (hc : BdC b c) :
    Calls Try.prog 45 #[.agg #[.int .i64 c.water.1, .int .i64 c.water.2, .int .i64 c.fat.1, .int .i64 c.fat.2, .int .i64 c.sore.1, .int .i64 c.sore.2, .bool k], .slice a n cap] w fun e w' => e = .returned (.agg #[.int .i64 t.water, .int .i64 t.fat, .int .i64 t.sore]) ∧ Below w.heap.size w w' := by
  subst hk; exact begin_any b c a cap n xs t w ht hn hw hu hb hc

set_option maxRecDepth 100000 in
set_option maxHeartbeats 64000000 in
theorem camelTrue_walk (halive : ∀ W, Calls Try.prog 14 #[] W fun e w' => e = .returned (.bool true) ∧ Below W.heap.size W w') (b : Br) (c : Cm) (la : Option Addr) (lcap ln : Nat) (ms : List Mr) (a : Option Addr) (cap n : Nat) (xs : List Int) (w : World) (hln : ln = ms.length) (hl : DaysIn w la lcap ms) (hn : n = xs.length) (hw : WordsIn w a cap xs) (hu : ∀ x ∈ xs, inU x) :
    Calls Try.prog 8 #[.agg #[.int .i64 b.full, .int .i64 b.fed, .int .i64 b.rest.1, .int .i64 b.rest.2, .int .i64 b.heat.1, .int .i64 b.heat.2, .int .i64 b.toil.1, .int .i64 b.toil.2, .int .i64 b.burn.1, .int .i64 b.burn.2, .int .i64 b.rub.1, .int .i64 b.rub.2, .int .i64 b.milk.1, .int .i64 b.milk.2, .int .i64 b.heal, .int .i64 b.strong.1, .int .i64 b.strong.2], .agg #[.int .i64 c.water.1, .int .i64 c.water.2, .int .i64 c.fat.1, .int .i64 c.fat.2, .int .i64 c.sore.1, .int .i64 c.sore.2, .bool c.milks], .slice la ln lcap, .slice a n cap] w fun e w' => e = .returned (.bool true) ∧ Below w.heap.size w w' := by
  have HAL := Lib.hid halive
  have HLN := Lib.hid hln
  have HL := Lib.hid hl
  have HN := Lib.hid hn
  have HW := Lib.hid hw
  have HU := Lib.hid hu
  obtain ⟨k, hk⟩ : ∃ k, c.milks = k := ⟨_, rfl⟩
  rw [hk]
  have HK := Lib.hid hk
  cases hr : rdyS b c ms with
  | false =>
    have HR := Lib.hid hr
    clear halive hln hl hn hw hu hk hr
    go_enter Try.func8, Try.ntmps8
    go_wp2_with fail
    refine (HAL.out _).mono ?_
    rintro e W1 ⟨rfl, hB⟩
    have hW1 : Below w.heap.size w W1 := Below.trans (by go_grown) (hB.mono (by simp; try omega))
    have zW1 := hW1.size
    obtain ⟨rbW1, cbW1, gbW1, zbW1⟩ := keep_row hB (g := w.heap.size) (by repeat (first | with_reducible assumption | with_reducible apply row_here0 | with_reducible apply row_here1 | with_reducible apply row_here2 | with_reducible apply row_here3 | with_reducible apply rowSkip))
    obtain ⟨rcW1, ccW1, gcW1, zcW1⟩ := keep_row hB (g := w.heap.size + 1) (by repeat (first | with_reducible assumption | with_reducible apply row_here0 | with_reducible apply row_here1 | with_reducible apply row_here2 | with_reducible apply row_here3 | with_reducible apply rowSkip))
    clear hB
    go_wp2_with fail
    refine (ready_k b c k la lcap ln ms _ _ HK.out HLN.out (HL.out.below hW1 (Nat.le_refl _) zW1) HR.out).mono ?_
    rintro e W2 ⟨rfl, hB⟩
    have hW2 : Below w.heap.size w W2 := hW1.trans (Below.trans (by have := hW1.size; go_grown) (hB.mono (by have := hW1.size; simp; try omega)))
    have zW2 := hW2.size
    obtain ⟨rbW2, cbW2, gbW2, zbW2⟩ := keep_row hB (g := w.heap.size) (by repeat (first | with_reducible assumption | with_reducible apply row_here0 | with_reducible apply row_here1 | with_reducible apply row_here2 | with_reducible apply row_here3 | with_reducible apply rowSkip))
    obtain ⟨rcW2, ccW2, gcW2, zcW2⟩ := keep_row hB (g := w.heap.size + 1) (by repeat (first | with_reducible assumption | with_reducible apply row_here0 | with_reducible apply row_here1 | with_reducible apply row_here2 | with_reducible apply row_here3 | with_reducible apply rowSkip))
    clear hB
    go_wp2
    go_returns
    exact ⟨rfl, hW2⟩
  | true =>
    have HR := Lib.hid hr
    obtain ⟨hc0, hl60, hall⟩ := rdyS_three hr
    have HC0 := Lib.hid hc0
    have HB := Lib.hid (chkC_ok hc0).1
    have HC := Lib.hid (chkC_ok hc0).2
    have HA := Lib.hid hall
    have hln60 : (ln : Int) ≤ 60 := by omega
    obtain ⟨t0, ht0⟩ : ∃ t, begT c xs = t := ⟨_, rfl⟩
    have HT0 := Lib.hid ht0
    clear halive hln hl hn hw hu hk hr hc0 hall ht0 hl60
    go_enter Try.func8, Try.ntmps8
    go_wp2_with fail
    refine (HAL.out _).mono ?_
    rintro e W1 ⟨rfl, hB⟩
    have hW1 : Below w.heap.size w W1 := Below.trans (by go_grown) (hB.mono (by simp; try omega))
    have zW1 := hW1.size
    obtain ⟨rbW1, cbW1, gbW1, zbW1⟩ := keep_row hB (g := w.heap.size) (by repeat (first | with_reducible assumption | with_reducible apply row_here0 | with_reducible apply row_here1 | with_reducible apply row_here2 | with_reducible apply row_here3 | with_reducible apply rowSkip))
    obtain ⟨rcW1, ccW1, gcW1, zcW1⟩ := keep_row hB (g := w.heap.size + 1) (by repeat (first | with_reducible assumption | with_reducible apply row_here0 | with_reducible apply row_here1 | with_reducible apply row_here2 | with_reducible apply row_here3 | with_reducible apply rowSkip))
    clear hB
    go_wp2_with fail
    refine (ready_k b c k la lcap ln ms _ _ HK.out HLN.out (HL.out.below hW1 (Nat.le_refl _) zW1) HR.out).mono ?_
    rintro e W2 ⟨rfl, hB⟩
    have hW2 : Below w.heap.size w W2 := hW1.trans (Below.trans (by have := hW1.size; go_grown) (hB.mono (by have := hW1.size; simp; try omega)))
    have zW2 := hW2.size
    obtain ⟨rbW2, cbW2, gbW2, zbW2⟩ := keep_row hB (g := w.heap.size) (by repeat (first | with_reducible assumption | with_reducible apply row_here0 | with_reducible apply row_here1 | with_reducible apply row_here2 | with_reducible apply row_here3 | with_reducible apply rowSkip))
    obtain ⟨rcW2, ccW2, gcW2, zcW2⟩ := keep_row hB (g := w.heap.size + 1) (by repeat (first | with_reducible assumption | with_reducible apply row_here0 | with_reducible apply row_here1 | with_reducible apply row_here2 | with_reducible apply row_here3 | with_reducible apply rowSkip))
    clear hB
    clear hW1 zW1
    clear rbW1 cbW1 gbW1 zbW1 rcW1 ccW1 gcW1 zcW1
    go_wp2_with fail
    refine (begin_k b c k a cap n xs t0 _ HK.out HT0.out HN.out (HW.out.below hW2 (Nat.le_refl _)) HU.out HB.out HC.out).mono ?_
    rintro e W3 ⟨rfl, hB⟩
    have hW3 : Below w.heap.size w W3 := hW2.trans (Below.trans (by have := hW2.size; go_grown) (hB.mono (by have := hW2.size; simp; try omega)))
    have zW3 := hW3.size
    obtain ⟨rbW3, cbW3, gbW3, zbW3⟩ := keep_row hB (g := w.heap.size) (by repeat (first | with_reducible assumption | with_reducible apply row_here0 | with_reducible apply row_here1 | with_reducible apply row_here2 | with_reducible apply row_here3 | with_reducible apply rowSkip))
    obtain ⟨rcW3, ccW3, gcW3, zcW3⟩ := keep_row hB (g := w.heap.size + 1) (by repeat (first | with_reducible assumption | with_reducible apply row_here0 | with_reducible apply row_here1 | with_reducible apply row_here2 | with_reducible apply row_here3 | with_reducible apply rowSkip))
    clear hB
    clear hW2 zW2
    clear rbW2 cbW2 gbW2 zbW2 rcW2 ccW2 gcW2 zcW2
    go_wp2_with fail
    have HGT : Hid (w.heap.size + 1 < W3.heap.size) := zcW3
    have HGW : Hid (W3.heap.size < W3.heap.size + 1) := Nat.lt_succ_self _
    go_loopw [38] (fun i wr => ∃ (j : Nat) (ck : Cm) (t : Tr), j ≤ ln ∧ i = .int .i64 (j : Int) ∧ Hid (chkC b ck = 0) ∧ Hid (ck.milks = k) ∧ Hid (Tin t ck) ∧ Hid (rowOf wr w.heap.size = some #[.int .i64 b.full, .int .i64 b.fed, .int .i64 b.rest.1, .int .i64 b.rest.2, .int .i64 b.heat.1, .int .i64 b.heat.2, .int .i64 b.toil.1, .int .i64 b.toil.2, .int .i64 b.burn.1, .int .i64 b.burn.2, .int .i64 b.rub.1, .int .i64 b.rub.2, .int .i64 b.milk.1, .int .i64 b.milk.2, .int .i64 b.heal, .int .i64 b.strong.1, .int .i64 b.strong.2]) ∧ Hid (rowOf wr (w.heap.size + 1) = some #[.int .i64 ck.water.1, .int .i64 ck.water.2, .int .i64 ck.fat.1, .int .i64 ck.fat.2, .int .i64 ck.sore.1, .int .i64 ck.sore.2, .bool k]) ∧ Hid (rowOf wr W3.heap.size = some #[.int .i64 t.water, .int .i64 t.fat, .int .i64 t.sore]) ∧ Below w.heap.size w wr) (fun i _ => ln - (intOf i).toNat)
    case atStart => exact ⟨0, c, t0, Nat.zero_le _, rfl, HC0.out, HK.out, (show Tin t0 c from HT0.out ▸ begT_in HC.out xs), rowSkip rbW3, rowSkip rcW3, row_here0 _ _ _, hW3.alloc zW3 _⟩
    case round =>
      obtain ⟨j, ck, t, hj, rfl, HC1, HK1, HT, hrb, hrc, hrt, hwr⟩ := hrel
      clear rbW3 cbW3 gbW3 zbW3 rcW3 ccW3 gcW3 zcW3 hW3 zW3 HT0 HC0 HC HK
      generalize W3.heap.size = gt at *
      have zwr := hwr.size
      have hgw : w.heap.size < gt := by have := HGT.out; omega
      obtain ⟨rbwr, cbwr, gbwr, zbwr⟩ := row_facts hrb.out
      obtain ⟨rcwr, ccwr, gcwr, zcwr⟩ := row_facts hrc.out
      obtain ⟨rtwr, ctwr, gtwr, ztwr⟩ := row_facts hrt.out
      clear hrb hrc hrt
      by_cases hlt : j < ln
      · have hkm : j < ms.length := by have := HLN.out; omega
        obtain ⟨g, off, rfl, hMs, hg⟩ : ∃ g off, la = some ⟨g, off, none⟩ ∧ MarchesAt w g off ms ∧ g < w.heap.size := by
          rcases HL.out with ⟨_, _, h⟩ | h
          · subst h; have : ln = 0 := HLN.out; omega
          · exact h
        have hm1 := march_below hwr hg (hMs j hkm)
        rw [mdS_get hkm] at hm1
        obtain ⟨md, hmd⟩ : ∃ md, mdS ms j = md := ⟨_, rfl⟩
        rw [hmd] at hm1
        obtain ⟨m0, m1, m2, m3, m4, m5, m6, m7⟩ := hm1
        have hmo : okM md = true := hmd ▸ mdS_ok HA.out hkm
        have HM := Lib.hid (okM_bd hmo)
        have hlt' : (j : Int) < (ln : Int) := by omega
        obtain ⟨h, hh⟩ : ∃ h, chS b md xs j = h := ⟨_, rfl⟩
        have HH := Lib.hid hh
        have hsd := true_said HC1.out hmo (h := h) (hh ▸ chS_in HB.out HM.out xs j) HT.out
        rw [HK1.out] at hsd
        obtain ⟨p, kp⟩ : ∃ y, aftC b ck md = y := ⟨_, rfl⟩
        obtain ⟨fp, kfp⟩ : ∃ y, aftF b ck md = y := ⟨_, rfl⟩
        obtain ⟨xp, kxp⟩ : ∃ y, chkA b ck md = y := ⟨_, rfl⟩
        obtain ⟨r, kr⟩ : ∃ y, livT k md h t = y := ⟨_, rfl⟩
        obtain ⟨e, ke⟩ : ∃ y, eveT b k md h t = y := ⟨_, rfl⟩
        rw [kp, kfp, kxp, kr, ke] at hsd
        have Kp := Lib.hid kp
        have Kfp := Lib.hid kfp
        have Kxp := Lib.hid kxp
        have Kr := Lib.hid kr
        have Ke := Lib.hid ke
        have HC2 := Lib.hid (chkC_ok HC1.out).2
        clear hmd hh hMs hmo kp kfp kxp kr ke
        have HSD := Lib.hid hsd
        clear hsd
        have HNE := Lib.hid (show ∀ ad, a = some ad → ad.block < gt from fun ad had => by
          rcases HW.out with ⟨h1, _, _⟩ | ⟨g', o', h1, _, h3⟩
          · rw [h1] at had; cases had
          · rw [h1] at had; cases had; simp only; omega)
        have zwrt := ztwr
        rcases HSD.out with ⟨h1, h2⟩ | ⟨h1, h2, h3⟩ | ⟨h1, h2, h3, h4, h5, h6⟩
        · subst h1 h2
          go_wp2_with fail
          refine (After_no b ck k md p _ _ _ HK1.out Kp.out Kfp.out Kxp.out).mono ?_
          rintro e W1 ⟨rfl, hB⟩
          have hW1 : Below w.heap.size w W1 := hwr.trans (Below.trans (by have := hwr.size; go_grown) (hB.mono (by have := hwr.size; simp; try omega)))
          have zW1 := hW1.size
          obtain ⟨rbW1, cbW1, gbW1, zbW1⟩ := keep_row hB (g := w.heap.size) (by repeat (first | with_reducible assumption | with_reducible apply row_here0 | with_reducible apply row_here1 | with_reducible apply row_here2 | with_reducible apply row_here3 | with_reducible apply rowSkip))
          obtain ⟨rcW1, ccW1, gcW1, zcW1⟩ := keep_row hB (g := w.heap.size + 1) (by repeat (first | with_reducible assumption | with_reducible apply row_here0 | with_reducible apply row_here1 | with_reducible apply row_here2 | with_reducible apply row_here3 | with_reducible apply rowSkip))
          obtain ⟨rtW1, ctW1, gtW1, ztW1⟩ := keep_row hB (g := gt) (by repeat (first | with_reducible assumption | with_reducible apply row_here0 | with_reducible apply row_here1 | with_reducible apply row_here2 | with_reducible apply row_here3 | with_reducible apply rowSkip))
          obtain ⟨rdW1, cdW1, gdW1, zdW1⟩ := keep_row hB (g := wr.heap.size) (by repeat (first | with_reducible assumption | with_reducible apply row_here0 | with_reducible apply row_here1 | with_reducible apply row_here2 | with_reducible apply row_here3 | with_reducible apply rowSkip))
          clear hB
          clear zwr m0 m1 m2 m3 m4 m5 m6 m7
          clear rbwr cbwr gbwr zbwr rcwr ccwr gcwr zcwr rtwr ctwr gtwr ztwr
          go_wp2_with fail
          have rpX : rowOf (W1.alloc (.cells #[.int .i64 p.water.1, .int .i64 p.water.2, .int .i64 p.fat.1, .int .i64 p.fat.2, .int .i64 p.sore.1, .int .i64 p.sore.2, .bool p.milks] 39)) W1.heap.size = some #[.int .i64 p.water.1, .int .i64 p.water.2, .int .i64 p.fat.1, .int .i64 p.fat.2, .int .i64 p.sore.1, .int .i64 p.sore.2, .bool p.milks] := (by repeat (first | with_reducible assumption | with_reducible apply row_here0 | with_reducible apply row_here1 | with_reducible apply row_here2 | with_reducible apply row_here3 | with_reducible apply rowSkip))
          have rbX := rowSkip (o := .cells #[.int .i64 p.water.1, .int .i64 p.water.2, .int .i64 p.fat.1, .int .i64 p.fat.2, .int .i64 p.sore.1, .int .i64 p.sore.2, .bool p.milks] 39) rbW1
          have rcX := rowSkip (o := .cells #[.int .i64 p.water.1, .int .i64 p.water.2, .int .i64 p.fat.1, .int .i64 p.fat.2, .int .i64 p.sore.1, .int .i64 p.sore.2, .bool p.milks] 39) rcW1
          have rtX := rowSkip (o := .cells #[.int .i64 p.water.1, .int .i64 p.water.2, .int .i64 p.fat.1, .int .i64 p.fat.2, .int .i64 p.sore.1, .int .i64 p.sore.2, .bool p.milks] 39) rtW1
          have rdX := rowSkip (o := .cells #[.int .i64 p.water.1, .int .i64 p.water.2, .int .i64 p.fat.1, .int .i64 p.fat.2, .int .i64 p.sore.1, .int .i64 p.sore.2, .bool p.milks] 39) rdW1
          have hX : Below w.heap.size w (W1.alloc (.cells #[.int .i64 p.water.1, .int .i64 p.water.2, .int .i64 p.fat.1, .int .i64 p.fat.2, .int .i64 p.sore.1, .int .i64 p.sore.2, .bool p.milks] 39)) := hW1.alloc zW1 _
          have hwX := Lib.hid (HW.out.below hX (Nat.le_refl _))
          have gpt : gt ≠ W1.heap.size := Nat.ne_of_lt ztW1
          have zdt : gt ≠ wr.heap.size := Nat.ne_of_lt zwrt
          clear hW1 rbW1 cbW1 gbW1 zbW1 rcW1 ccW1 gcW1 zcW1 rtW1 ctW1 gtW1 ztW1 rdW1 cdW1 gdW1 zdW1
          generalize (W1.alloc (.cells #[.int .i64 p.water.1, .int .i64 p.water.2, .int .i64 p.fat.1, .int .i64 p.fat.2, .int .i64 p.sore.1, .int .i64 p.sore.2, .bool p.milks] 39)) = X at *
          refine (lives_any b k md t h a cap n xs j gt X _ HH.out Kr.out (by omega) HN.out hwX.out HU.out (HNE.out) rtX HB.out HM.out ck HC2.out HT.out).mono ?_
          rintro e2 W2 ⟨rfl, hrt2, hG⟩
          have hW2 := below_grown hX hG (hX.size) (Nat.le_of_lt hgw)
          have zX := hX.size
          have zW2 := hW2.size
          obtain ⟨rbW2, cbW2, gbW2, zbW2⟩ := row_facts (row_grown rbX hG (Nat.ne_of_lt hgw))
          obtain ⟨rcW2, ccW2, gcW2, zcW2⟩ := row_facts (row_grown rcX hG (Nat.ne_of_lt HGT.out))
          obtain ⟨rdW2, cdW2, gdW2, zdW2⟩ := row_facts (row_grown rdX hG zdt.symm)
          obtain ⟨rpW2, cpW2, gpW2, zpW2⟩ := row_facts (row_grown rpX hG gpt.symm)
          clear rbX rcX rtX rdX rpX hX hwX zX hG
          clear hrt2
          go_wp2
          go_returns
          exact ⟨rfl, hW2⟩
        · subst h1 h2 h3
          go_wp2_with fail
          refine (After_no b ck k md p _ _ _ HK1.out Kp.out Kfp.out Kxp.out).mono ?_
          rintro e W1 ⟨rfl, hB⟩
          have hW1 : Below w.heap.size w W1 := hwr.trans (Below.trans (by have := hwr.size; go_grown) (hB.mono (by have := hwr.size; simp; try omega)))
          have zW1 := hW1.size
          obtain ⟨rbW1, cbW1, gbW1, zbW1⟩ := keep_row hB (g := w.heap.size) (by repeat (first | with_reducible assumption | with_reducible apply row_here0 | with_reducible apply row_here1 | with_reducible apply row_here2 | with_reducible apply row_here3 | with_reducible apply rowSkip))
          obtain ⟨rcW1, ccW1, gcW1, zcW1⟩ := keep_row hB (g := w.heap.size + 1) (by repeat (first | with_reducible assumption | with_reducible apply row_here0 | with_reducible apply row_here1 | with_reducible apply row_here2 | with_reducible apply row_here3 | with_reducible apply rowSkip))
          obtain ⟨rtW1, ctW1, gtW1, ztW1⟩ := keep_row hB (g := gt) (by repeat (first | with_reducible assumption | with_reducible apply row_here0 | with_reducible apply row_here1 | with_reducible apply row_here2 | with_reducible apply row_here3 | with_reducible apply rowSkip))
          obtain ⟨rdW1, cdW1, gdW1, zdW1⟩ := keep_row hB (g := wr.heap.size) (by repeat (first | with_reducible assumption | with_reducible apply row_here0 | with_reducible apply row_here1 | with_reducible apply row_here2 | with_reducible apply row_here3 | with_reducible apply rowSkip))
          clear hB
          clear zwr m0 m1 m2 m3 m4 m5 m6 m7
          clear rbwr cbwr gbwr zbwr rcwr ccwr gcwr zcwr rtwr ctwr gtwr ztwr
          go_wp2_with fail
          have rpX : rowOf (W1.alloc (.cells #[.int .i64 p.water.1, .int .i64 p.water.2, .int .i64 p.fat.1, .int .i64 p.fat.2, .int .i64 p.sore.1, .int .i64 p.sore.2, .bool p.milks] 39)) W1.heap.size = some #[.int .i64 p.water.1, .int .i64 p.water.2, .int .i64 p.fat.1, .int .i64 p.fat.2, .int .i64 p.sore.1, .int .i64 p.sore.2, .bool p.milks] := (by repeat (first | with_reducible assumption | with_reducible apply row_here0 | with_reducible apply row_here1 | with_reducible apply row_here2 | with_reducible apply row_here3 | with_reducible apply rowSkip))
          have rbX := rowSkip (o := .cells #[.int .i64 p.water.1, .int .i64 p.water.2, .int .i64 p.fat.1, .int .i64 p.fat.2, .int .i64 p.sore.1, .int .i64 p.sore.2, .bool p.milks] 39) rbW1
          have rcX := rowSkip (o := .cells #[.int .i64 p.water.1, .int .i64 p.water.2, .int .i64 p.fat.1, .int .i64 p.fat.2, .int .i64 p.sore.1, .int .i64 p.sore.2, .bool p.milks] 39) rcW1
          have rtX := rowSkip (o := .cells #[.int .i64 p.water.1, .int .i64 p.water.2, .int .i64 p.fat.1, .int .i64 p.fat.2, .int .i64 p.sore.1, .int .i64 p.sore.2, .bool p.milks] 39) rtW1
          have rdX := rowSkip (o := .cells #[.int .i64 p.water.1, .int .i64 p.water.2, .int .i64 p.fat.1, .int .i64 p.fat.2, .int .i64 p.sore.1, .int .i64 p.sore.2, .bool p.milks] 39) rdW1
          have hX : Below w.heap.size w (W1.alloc (.cells #[.int .i64 p.water.1, .int .i64 p.water.2, .int .i64 p.fat.1, .int .i64 p.fat.2, .int .i64 p.sore.1, .int .i64 p.sore.2, .bool p.milks] 39)) := hW1.alloc zW1 _
          have hwX := Lib.hid (HW.out.below hX (Nat.le_refl _))
          have gpt : gt ≠ W1.heap.size := Nat.ne_of_lt ztW1
          have zdt : gt ≠ wr.heap.size := Nat.ne_of_lt zwrt
          clear hW1 rbW1 cbW1 gbW1 zbW1 rcW1 ccW1 gcW1 zcW1 rtW1 ctW1 gtW1 ztW1 rdW1 cdW1 gdW1 zdW1
          generalize (W1.alloc (.cells #[.int .i64 p.water.1, .int .i64 p.water.2, .int .i64 p.fat.1, .int .i64 p.fat.2, .int .i64 p.sore.1, .int .i64 p.sore.2, .bool p.milks] 39)) = X at *
          refine (lives_any b k md t h a cap n xs j gt X _ HH.out Kr.out (by omega) HN.out hwX.out HU.out (HNE.out) rtX HB.out HM.out ck HC2.out HT.out).mono ?_
          rintro e2 W2 ⟨rfl, hrt2, hG⟩
          have hW2 := below_grown hX hG (hX.size) (Nat.le_of_lt hgw)
          have zX := hX.size
          have zW2 := hW2.size
          obtain ⟨rbW2, cbW2, gbW2, zbW2⟩ := row_facts (row_grown rbX hG (Nat.ne_of_lt hgw))
          obtain ⟨rcW2, ccW2, gcW2, zcW2⟩ := row_facts (row_grown rcX hG (Nat.ne_of_lt HGT.out))
          obtain ⟨rdW2, cdW2, gdW2, zdW2⟩ := row_facts (row_grown rdX hG zdt.symm)
          obtain ⟨rpW2, cpW2, gpW2, zpW2⟩ := row_facts (row_grown rpX hG gpt.symm)
          clear rbX rcX rtX rdX rpX hX hwX zX hG
          clear hrt2
          go_wp2
          go_returns
          exact ⟨rfl, hW2⟩
        · subst h1 h3
          have HC3 := Lib.hid h4
          have HK3 := Lib.hid h5
          have HF := Lib.hid h2
          have HT3 := Lib.hid h6
          have HBC := Lib.hid (chkC_ok h4).2
          clear h4 h5 h6 h2
          go_wp2_with fail
          refine (After_k b ck k md p _ _ _ HK1.out HK3.out Kp.out Kfp.out Kxp.out).mono ?_
          rintro e W1 ⟨rfl, hB⟩
          have hW1 : Below w.heap.size w W1 := hwr.trans (Below.trans (by have := hwr.size; go_grown) (hB.mono (by have := hwr.size; simp; try omega)))
          have zW1 := hW1.size
          obtain ⟨rbW1, cbW1, gbW1, zbW1⟩ := keep_row hB (g := w.heap.size) (by repeat (first | with_reducible assumption | with_reducible apply row_here0 | with_reducible apply row_here1 | with_reducible apply row_here2 | with_reducible apply row_here3 | with_reducible apply rowSkip))
          obtain ⟨rcW1, ccW1, gcW1, zcW1⟩ := keep_row hB (g := w.heap.size + 1) (by repeat (first | with_reducible assumption | with_reducible apply row_here0 | with_reducible apply row_here1 | with_reducible apply row_here2 | with_reducible apply row_here3 | with_reducible apply rowSkip))
          obtain ⟨rtW1, ctW1, gtW1, ztW1⟩ := keep_row hB (g := gt) (by repeat (first | with_reducible assumption | with_reducible apply row_here0 | with_reducible apply row_here1 | with_reducible apply row_here2 | with_reducible apply row_here3 | with_reducible apply rowSkip))
          obtain ⟨rdW1, cdW1, gdW1, zdW1⟩ := keep_row hB (g := wr.heap.size) (by repeat (first | with_reducible assumption | with_reducible apply row_here0 | with_reducible apply row_here1 | with_reducible apply row_here2 | with_reducible apply row_here3 | with_reducible apply rowSkip))
          clear hB
          clear zwr m0 m1 m2 m3 m4 m5 m6 m7
          clear rbwr cbwr gbwr zbwr rcwr ccwr gcwr zcwr rtwr ctwr gtwr ztwr
          go_wp2_with fail
          have rpX : rowOf (W1.alloc (.cells #[.int .i64 p.water.1, .int .i64 p.water.2, .int .i64 p.fat.1, .int .i64 p.fat.2, .int .i64 p.sore.1, .int .i64 p.sore.2, .bool k] 39)) W1.heap.size = some #[.int .i64 p.water.1, .int .i64 p.water.2, .int .i64 p.fat.1, .int .i64 p.fat.2, .int .i64 p.sore.1, .int .i64 p.sore.2, .bool k] := (by repeat (first | with_reducible assumption | with_reducible apply row_here0 | with_reducible apply row_here1 | with_reducible apply row_here2 | with_reducible apply row_here3 | with_reducible apply rowSkip))
          have rbX := rowSkip (o := .cells #[.int .i64 p.water.1, .int .i64 p.water.2, .int .i64 p.fat.1, .int .i64 p.fat.2, .int .i64 p.sore.1, .int .i64 p.sore.2, .bool k] 39) rbW1
          have rcX := rowSkip (o := .cells #[.int .i64 p.water.1, .int .i64 p.water.2, .int .i64 p.fat.1, .int .i64 p.fat.2, .int .i64 p.sore.1, .int .i64 p.sore.2, .bool k] 39) rcW1
          have rtX := rowSkip (o := .cells #[.int .i64 p.water.1, .int .i64 p.water.2, .int .i64 p.fat.1, .int .i64 p.fat.2, .int .i64 p.sore.1, .int .i64 p.sore.2, .bool k] 39) rtW1
          have rdX := rowSkip (o := .cells #[.int .i64 p.water.1, .int .i64 p.water.2, .int .i64 p.fat.1, .int .i64 p.fat.2, .int .i64 p.sore.1, .int .i64 p.sore.2, .bool k] 39) rdW1
          have hX : Below w.heap.size w (W1.alloc (.cells #[.int .i64 p.water.1, .int .i64 p.water.2, .int .i64 p.fat.1, .int .i64 p.fat.2, .int .i64 p.sore.1, .int .i64 p.sore.2, .bool k] 39)) := hW1.alloc zW1 _
          have hwX := Lib.hid (HW.out.below hX (Nat.le_refl _))
          have gpt : gt ≠ W1.heap.size := Nat.ne_of_lt ztW1
          have zdt : gt ≠ wr.heap.size := Nat.ne_of_lt zwrt
          clear hW1 rbW1 cbW1 gbW1 zbW1 rcW1 ccW1 gcW1 zcW1 rtW1 ctW1 gtW1 ztW1 rdW1 cdW1 gdW1 zdW1
          generalize (W1.alloc (.cells #[.int .i64 p.water.1, .int .i64 p.water.2, .int .i64 p.fat.1, .int .i64 p.fat.2, .int .i64 p.sore.1, .int .i64 p.sore.2, .bool k] 39)) = X at *
          refine (lives_any b k md t h a cap n xs j gt X _ HH.out Kr.out (by omega) HN.out hwX.out HU.out (HNE.out) rtX HB.out HM.out ck HC2.out HT.out).mono ?_
          rintro e2 W2 ⟨rfl, hrt2, hG⟩
          have hW2 := below_grown hX hG (hX.size) (Nat.le_of_lt hgw)
          have zX := hX.size
          have zW2 := hW2.size
          obtain ⟨rbW2, cbW2, gbW2, zbW2⟩ := row_facts (row_grown rbX hG (Nat.ne_of_lt hgw))
          obtain ⟨rcW2, ccW2, gcW2, zcW2⟩ := row_facts (row_grown rcX hG (Nat.ne_of_lt HGT.out))
          obtain ⟨rdW2, cdW2, gdW2, zdW2⟩ := row_facts (row_grown rdX hG zdt.symm)
          obtain ⟨rpW2, cpW2, gpW2, zpW2⟩ := row_facts (row_grown rpX hG gpt.symm)
          clear rbX rcX rtX rdX rpX hX hwX zX hG
          have hr2 := hrt2 rfl
          have hr3 : rowOf W2 gt = some #[.int .i64 e.water, .int .i64 e.fat, .int .i64 e.sore] := by rw [← Ke.out]; exact hr2
          obtain ⟨rtW2, ctW2, gtW2, ztW2⟩ := row_facts hr3
          clear hrt2 hr2 hr3
          obtain ⟨f, hf⟩ : ∃ f, fitR b p = f := ⟨_, rfl⟩
          obtain ⟨s, hs⟩ : ∃ s, carR b p = s := ⟨_, rfl⟩
          obtain ⟨x, hx⟩ : ∃ x, atS xs j = x := ⟨_, rfl⟩
          obtain ⟨z, hz⟩ : ∃ z, pickS b.strong x = z := ⟨_, rfl⟩
          have hzi := pickS_in HB.out.strong.2.1 x
          rw [hz] at hzi
          have hfs := fits_said HC3.out HT3.out hf hs (z := z) hzi
          obtain ⟨f1, f2, f3, f4⟩ := fitR_bd HC3.out hf
          obtain ⟨⟨e1, e2⟩, ⟨e3, e4⟩, ⟨e5, e6⟩⟩ := Tin_bd HC3.out HT3.out
          have HX := Lib.hid hx
          have HZ := Lib.hid hz
          have IX := Lib.hid (show inU x from hx ▸ atS_in HU.out j)
          have HFI := Lib.hid hf
          have HCA := Lib.hid hs
          have HOK := Lib.hid (show okC b p = true from okC_of HBC.out)
          have HFS := Lib.hid hfs
          have HZI := Lib.hid hzi
          have Lf1 := Lib.hid f1
          have Lf2 := Lib.hid f2
          have Lf3 := Lib.hid f3
          have Lf4 := Lib.hid f4
          have Le1 := Lib.hid e1
          have Le2 := Lib.hid e2
          have Le3 := Lib.hid e3
          have Le4 := Lib.hid e4
          have Le5 := Lib.hid e5
          have Le6 := Lib.hid e6
          clear hf hs hx hz hfs hzi f1 f2 f3 f4 e1 e2 e3 e4 e5 e6 HSD
          have hfp : fp = 0 ∨ fp = 1 := HF.out
          clear rdW2 cdW2 gdW2 zdW2
          go_upto_region 14 with fail
          go_cut [78] (fun c wx => c = .bool false ∧ wx = W2)
          case first =>
            rcases hfp with rfl | rfl
            all_goals (go_wp2_with fail; go_meet; exact ⟨rfl, rfl⟩)
          case rest =>
            obtain ⟨rfl, rfl⟩ := hcut
            go_wp2_with fail
            refine (rCamel_k b p k true _ HK3.out HOK.out).mono ?_
            rintro e W3 ⟨rfl, hB⟩
            have hW3 : Below w.heap.size w W3 := hW2.trans (Below.trans (by have := hW2.size; go_grown) (hB.mono (by have := hW2.size; simp; try omega)))
            have zW3 := hW3.size
            obtain ⟨rbW3, cbW3, gbW3, zbW3⟩ := keep_row hB (g := w.heap.size) (by repeat (first | with_reducible assumption | with_reducible apply row_here0 | with_reducible apply row_here1 | with_reducible apply row_here2 | with_reducible apply row_here3 | with_reducible apply rowSkip))
            obtain ⟨rcW3, ccW3, gcW3, zcW3⟩ := keep_row hB (g := w.heap.size + 1) (by repeat (first | with_reducible assumption | with_reducible apply row_here0 | with_reducible apply row_here1 | with_reducible apply row_here2 | with_reducible apply row_here3 | with_reducible apply rowSkip))
            obtain ⟨rtW3, ctW3, gtW3, ztW3⟩ := keep_row hB (g := gt) (by repeat (first | with_reducible assumption | with_reducible apply row_here0 | with_reducible apply row_here1 | with_reducible apply row_here2 | with_reducible apply row_here3 | with_reducible apply rowSkip))
            obtain ⟨rpW3, cpW3, gpW3, zpW3⟩ := keep_row hB (g := W1.heap.size) (by repeat (first | with_reducible assumption | with_reducible apply row_here0 | with_reducible apply row_here1 | with_reducible apply row_here2 | with_reducible apply row_here3 | with_reducible apply rowSkip))
            clear hB
            clear hW2 zW2 rbW2 cbW2 gbW2 zbW2 rcW2 ccW2 gcW2 zcW2 rtW2 ctW2 gtW2 ztW2 rpW2 cpW2 gpW2 zpW2
            go_wp2_with fail
            refine (in_k b p k e gt _ HK3.out ‹rowOf W3 gt = _› HB.out HBC.out HT3.out).mono ?_
            rintro e W4 ⟨rfl, hB⟩
            have hW4 : Below w.heap.size w W4 := hW3.trans (Below.trans (by have := hW3.size; go_grown) (hB.mono (by have := hW3.size; simp; try omega)))
            have zW4 := hW4.size
            obtain ⟨rbW4, cbW4, gbW4, zbW4⟩ := keep_row hB (g := w.heap.size) (by repeat (first | with_reducible assumption | with_reducible apply row_here0 | with_reducible apply row_here1 | with_reducible apply row_here2 | with_reducible apply row_here3 | with_reducible apply rowSkip))
            obtain ⟨rcW4, ccW4, gcW4, zcW4⟩ := keep_row hB (g := w.heap.size + 1) (by repeat (first | with_reducible assumption | with_reducible apply row_here0 | with_reducible apply row_here1 | with_reducible apply row_here2 | with_reducible apply row_here3 | with_reducible apply rowSkip))
            obtain ⟨rtW4, ctW4, gtW4, ztW4⟩ := keep_row hB (g := gt) (by repeat (first | with_reducible assumption | with_reducible apply row_here0 | with_reducible apply row_here1 | with_reducible apply row_here2 | with_reducible apply row_here3 | with_reducible apply rowSkip))
            obtain ⟨rpW4, cpW4, gpW4, zpW4⟩ := keep_row hB (g := W1.heap.size) (by repeat (first | with_reducible assumption | with_reducible apply row_here0 | with_reducible apply row_here1 | with_reducible apply row_here2 | with_reducible apply row_here3 | with_reducible apply rowSkip))
            clear hB
            clear hW3 zW3 rbW3 cbW3 gbW3 zbW3 rcW3 ccW3 gcW3 zcW3 rtW3 ctW3 gtW3 ztW3 rpW3 cpW3 gpW3 zpW3
            go_wp2_with fail
            refine (Fitness_k b p k f 0 _ HK3.out HFI.out HC3.out).mono ?_
            rintro e W5 ⟨rfl, hB⟩
            have hW5 : Below w.heap.size w W5 := hW4.trans (Below.trans (by have := hW4.size; go_grown) (hB.mono (by have := hW4.size; simp; try omega)))
            have zW5 := hW5.size
            obtain ⟨rbW5, cbW5, gbW5, zbW5⟩ := keep_row hB (g := w.heap.size) (by repeat (first | with_reducible assumption | with_reducible apply row_here0 | with_reducible apply row_here1 | with_reducible apply row_here2 | with_reducible apply row_here3 | with_reducible apply rowSkip))
            obtain ⟨rcW5, ccW5, gcW5, zcW5⟩ := keep_row hB (g := w.heap.size + 1) (by repeat (first | with_reducible assumption | with_reducible apply row_here0 | with_reducible apply row_here1 | with_reducible apply row_here2 | with_reducible apply row_here3 | with_reducible apply rowSkip))
            obtain ⟨rtW5, ctW5, gtW5, ztW5⟩ := keep_row hB (g := gt) (by repeat (first | with_reducible assumption | with_reducible apply row_here0 | with_reducible apply row_here1 | with_reducible apply row_here2 | with_reducible apply row_here3 | with_reducible apply rowSkip))
            obtain ⟨rpW5, cpW5, gpW5, zpW5⟩ := keep_row hB (g := W1.heap.size) (by repeat (first | with_reducible assumption | with_reducible apply row_here0 | with_reducible apply row_here1 | with_reducible apply row_here2 | with_reducible apply row_here3 | with_reducible apply rowSkip))
            clear hB
            clear hW4 zW4 rbW4 cbW4 gbW4 zbW4 rcW4 ccW4 gcW4 zcW4 rtW4 ctW4 gtW4 ztW4 rpW4 cpW4 gpW4 zpW4
            go_wp2_with fail
            refine (Carries_k b p k s 0 _ HK3.out HCA.out HC3.out).mono ?_
            rintro e W6 ⟨rfl, hB⟩
            have hW6 : Below w.heap.size w W6 := hW5.trans (Below.trans (by have := hW5.size; go_grown) (hB.mono (by have := hW5.size; simp; try omega)))
            have zW6 := hW6.size
            obtain ⟨rbW6, cbW6, gbW6, zbW6⟩ := keep_row hB (g := w.heap.size) (by repeat (first | with_reducible assumption | with_reducible apply row_here0 | with_reducible apply row_here1 | with_reducible apply row_here2 | with_reducible apply row_here3 | with_reducible apply rowSkip))
            obtain ⟨rcW6, ccW6, gcW6, zcW6⟩ := keep_row hB (g := w.heap.size + 1) (by repeat (first | with_reducible assumption | with_reducible apply row_here0 | with_reducible apply row_here1 | with_reducible apply row_here2 | with_reducible apply row_here3 | with_reducible apply rowSkip))
            obtain ⟨rtW6, ctW6, gtW6, ztW6⟩ := keep_row hB (g := gt) (by repeat (first | with_reducible assumption | with_reducible apply row_here0 | with_reducible apply row_here1 | with_reducible apply row_here2 | with_reducible apply row_here3 | with_reducible apply rowSkip))
            obtain ⟨rpW6, cpW6, gpW6, zpW6⟩ := keep_row hB (g := W1.heap.size) (by repeat (first | with_reducible assumption | with_reducible apply row_here0 | with_reducible apply row_here1 | with_reducible apply row_here2 | with_reducible apply row_here3 | with_reducible apply rowSkip))
            obtain ⟨rfW6, cfW6, gfW6, zfW6⟩ := keep_row hB (g := W5.heap.size) (by repeat (first | with_reducible assumption | with_reducible apply row_here0 | with_reducible apply row_here1 | with_reducible apply row_here2 | with_reducible apply row_here3 | with_reducible apply rowSkip))
            clear hB
            clear hW5 zW5 rbW5 cbW5 gbW5 zbW5 rcW5 ccW5 gcW5 zcW5 rtW5 ctW5 gtW5 ztW5 rpW5 cpW5 gpW5 zpW5
            go_wp2_with fail
            have rsX : rowOf (W6.alloc (.cells #[.int .i64 s.1, .int .i64 s.2] 31)) W6.heap.size = some #[.int .i64 s.1, .int .i64 s.2] := (by repeat (first | with_reducible assumption | with_reducible apply row_here0 | with_reducible apply row_here1 | with_reducible apply row_here2 | with_reducible apply row_here3 | with_reducible apply rowSkip))
            have rbX := rowSkip (o := .cells #[.int .i64 s.1, .int .i64 s.2] 31) rbW6
            have rcX := rowSkip (o := .cells #[.int .i64 s.1, .int .i64 s.2] 31) rcW6
            have rtX := rowSkip (o := .cells #[.int .i64 s.1, .int .i64 s.2] 31) rtW6
            have rpX := rowSkip (o := .cells #[.int .i64 s.1, .int .i64 s.2] 31) rpW6
            have rfX := rowSkip (o := .cells #[.int .i64 s.1, .int .i64 s.2] 31) rfW6
            have hX : Below w.heap.size w (W6.alloc (.cells #[.int .i64 s.1, .int .i64 s.2] 31)) := hW6.alloc zW6 _
            clear hW6 zW6 rbW6 cbW6 gbW6 zbW6 rcW6 ccW6 gcW6 zcW6 rtW6 ctW6 gtW6 ztW6 rpW6 cpW6 gpW6 zpW6 rfW6 cfW6 gfW6 zfW6
            generalize W6.heap.size = gs at *
            generalize (W6.alloc (.cells #[.int .i64 s.1, .int .i64 s.2] 31)) = X at *
            obtain ⟨_, cbX, gbX, zbX⟩ := row_facts rbX
            obtain ⟨_, ccX, gcX, zcX⟩ := row_facts rcX
            obtain ⟨_, ctX, gtX, ztX⟩ := row_facts rtX
            obtain ⟨_, cpX, gpX, zpX⟩ := row_facts rpX
            obtain ⟨_, cfX, gfX, zfX⟩ := row_facts rfX
            have e1 := Le1.out
            have e2 := Le2.out
            have e3 := Le3.out
            have e4 := Le4.out
            have e5 := Le5.out
            have e6 := Le6.out
            have f1 := Lf1.out
            have f2 := Lf2.out
            have f3 := Lf3.out
            have f4 := Lf4.out
            go_quiet (fail)
            have rbY : rowOf (X.drewN nq) _ = _ := rbX
            have rcY : rowOf (X.drewN nq) _ = _ := rcX
            have rtY : rowOf (X.drewN nq) _ = _ := rtX
            have rpY : rowOf (X.drewN nq) _ = _ := rpX
            have rfY : rowOf (X.drewN nq) _ = _ := rfX
            have rsY : rowOf (X.drewN nq) _ = _ := rsX
            have hY := below_drewN hX nq
            clear hX cbX gbX zbX ccX gcX zcX ctX gtX ztX cpX gpX zpX cfX gfX zfX rbX rcX rtX rpX rfX rsX
            generalize X.drewN nq = Y at *
            obtain ⟨s1, s2, s3, s4⟩ := carR_bd HC3.out HCA.out
            obtain ⟨bf1, bf2⟩ := HB.out.full
            obtain ⟨bd1, bd2⟩ := HB.out.fed
            obtain ⟨bs1, bs2, bs3⟩ := HB.out.strong
            obtain ⟨zi1, zi2⟩ := HZI.out
            obtain ⟨q11, q12⟩ : 0 ≤ f.1 * 100000 * b.full ∧ f.1 * 100000 * b.full ≤ 100000000000000000 := mul_le (a := 100000000) (b := 1000000000) (by omega) (by omega) (by omega) (by omega)
            obtain ⟨q21, q22⟩ : 0 ≤ f.1 * 100000 * b.fed ∧ f.1 * 100000 * b.fed ≤ 100000000000000000 := mul_le (a := 100000000) (b := 1000000000) (by omega) (by omega) (by omega) (by omega)
            obtain ⟨q31, q32⟩ : 0 ≤ f.2 * 100000 * b.full ∧ f.2 * 100000 * b.full ≤ 100000000000000000 := mul_le (a := 100000000) (b := 1000000000) (by omega) (by omega) (by omega) (by omega)
            obtain ⟨q41, q42⟩ : 0 ≤ f.2 * 100000 * b.fed ∧ f.2 * 100000 * b.fed ≤ 100000000000000000 := mul_le (a := 100000000) (b := 1000000000) (by omega) (by omega) (by omega) (by omega)
            obtain ⟨q51, q52⟩ : 0 ≤ z * f.1 ∧ z * f.1 ≤ 1000000000 := mul_le (a := 1000000) (b := 1000) (by omega) f1 (by omega) f2
            obtain ⟨q61, q62⟩ : 0 ≤ z * f.2 ∧ z * f.2 ≤ 1000000000 := mul_le (a := 1000000) (b := 1000) (by omega) f3 (by omega) f4
            obtain ⟨_, cbY, gbY, zbY⟩ := row_facts rbY
            obtain ⟨_, ccY, gcY, zcY⟩ := row_facts rcY
            obtain ⟨_, ctY, gtY, ztY⟩ := row_facts rtY
            obtain ⟨_, cpY, gpY, zpY⟩ := row_facts rpY
            obtain ⟨_, cfY, gfY, zfY⟩ := row_facts rfY
            obtain ⟨_, csY, gsY, zsY⟩ := row_facts rsY
            obtain ⟨k1, k2, k3, k4, k5, k6, k7⟩ := HFS.out
            clear HFS
            have HK5 := Lib.hid k5
            clear k5
            go_upto_region 27 with fail
            go_cut [185] (fun c wx => c = .bool false ∧ wx = Y)
            case first =>
              rcases HK5.out with k5 | ⟨k5, k8⟩ | ⟨k5, k8, k9⟩ | ⟨k5, k8, k9, k10⟩
              all_goals (go_wp2_with fail; go_meet; first | exact ⟨rfl, rfl⟩ | exact ⟨congrArg Value.bool (decide_eq_false (by omega)), rfl⟩)
            case rest =>
              obtain ⟨rfl, rfl⟩ := hcut
              go_wp2_with fail
              refine wp_drawz (by kernel_rfl) Ext (fun _ => 0) Ext.refl (fun _ _ _ => Ext.trans) [some 186, some 187, some 188, some 189, some 190, some 191, some 23] (by kernel_rfl) (by kernel_rfl) (fun ix v W => match ix with
                | 0 => v = .pointer (some ⟨w.heap.size, 15, none⟩)
                | 1 => v = .agg #[.int .i64 b.strong.1, .int .i64 b.strong.2]
                | 2 => v = .slice a n cap
                | 3 => v = .int .i64 (j : Int)
                | 4 => v = .int .u32 x
                | 5 => v = .int .i64 z
                | 6 => v = .int .i64 z
                | _ => True) ⟨⟨?_, ?_⟩, ⟨?_, ?_⟩, ⟨?_, ?_⟩, ⟨?_, ?_⟩, ⟨?_, ?_⟩, ⟨?_, ?_⟩, ⟨?_, ?_⟩, ?_⟩
              · intro g h; cases h
              · intro b' W hE hb hdep K hK
                have e4 : b'.tmps[4]?.getD undef = .pointer (some ⟨w.heap.size, 0, none⟩) := hb 4 (by decide)
                clear hdep hb
                go_wp2
                exact hK _ _ (Ext.refl _) rfl
              · intro g h; cases h
              · intro b' W hE hb hdep K hK
                have e186 : b'.tmps[186]?.getD undef = .pointer (some ⟨w.heap.size, 15, none⟩) := pureR (hdep 0 (some 186) (by kernel_rfl) rfl)
                clear hdep hb
                obtain ⟨_, _, -, _⟩ := keep_row hE ((rbY : rowOf _ _ = _))
                go_wp2
                exact hK _ _ (Ext.refl _) rfl
              · intro g h; cases h
              · intro b' W hE hb hdep K hK
                have e3 : b'.tmps[3]?.getD undef = .slice a n cap := hb 3 (by decide)
                clear hdep hb
                go_wp2
                exact hK _ _ (Ext.refl _) rfl
              · intro g h; cases h
              · intro b' W hE hb hdep K hK
                have e11 : b'.tmps[11]?.getD undef = .int .i64 (j : Int) := hb 11 (by decide)
                clear hdep hb
                go_wp2
                exact hK _ _ (Ext.refl _) rfl
              · intro g h; cases h
              · intro b' W hE hb hdep K hK
                have e188 : b'.tmps[188]?.getD undef = .slice a n cap := pureR (hdep 2 (some 188) (by kernel_rfl) rfl)
                have e189 : b'.tmps[189]?.getD undef = .int .i64 (j : Int) := pureR (hdep 3 (some 189) (by kernel_rfl) rfl)
                clear hdep hb
                go_wp2_with fail
                refine (at_n j a cap n xs _ x _ rfl (by omega) HN.out (HW.out.behind hY hE) HX.out).mono ?_
                rintro e W' ⟨rfl, hB⟩
                exact hK _ _ hB rfl
              · intro g h; cases h
              · intro b' W hE hb hdep K hK
                have e187 : b'.tmps[187]?.getD undef = .agg #[.int .i64 b.strong.1, .int .i64 b.strong.2] := pureR (hdep 1 (some 187) (by kernel_rfl) rfl)
                have e190 : b'.tmps[190]?.getD undef = .int .u32 x := pureR (hdep 4 (some 190) (by kernel_rfl) rfl)
                clear hdep hb
                go_wp2_with fail
                refine (pick_any b.strong x z _ bs2 (by omega) (by omega) IX.out HZ.out).mono ?_
                rintro e W' ⟨rfl, hB⟩
                exact hK _ _ hB rfl
              · intro g h; cases h
              · intro b' W hE hb hdep K hK
                have e191 : b'.tmps[191]?.getD undef = .int .i64 z := pureR (hdep 5 (some 191) (by kernel_rfl) rfl)
                clear hdep hb
                go_wp2
                exact hK _ _ (Ext.refl _) rfl
              intro f W hE hR
              have e186 : f 186 = .pointer (some ⟨w.heap.size, 15, none⟩) := pureR (hR 0 (some 186) rfl)
              have e187 : f 187 = .agg #[.int .i64 b.strong.1, .int .i64 b.strong.2] := pureR (hR 1 (some 187) rfl)
              have e188 : f 188 = .slice a n cap := pureR (hR 2 (some 188) rfl)
              have e189 : f 189 = .int .i64 (j : Int) := pureR (hR 3 (some 189) rfl)
              have e190 : f 190 = .int .u32 x := pureR (hR 4 (some 190) rfl)
              have e191 : f 191 = .int .i64 z := pureR (hR 5 (some 191) rfl)
              have e23 : f 23 = .int .i64 z := pureR (hR 6 (some 23) rfl)
              clear hR
              simp only [List.filterMap_cons, List.filterMap_nil, id, puts, Act.put, List.setIfInBounds_toArray, List.set_cons_succ, List.set_cons_zero, e186, e187, e188, e189, e190, e191, e23]
              obtain ⟨rbZ, cbZ, gbZ, zbZ⟩ := keep_row hE (rbY : rowOf _ _ = _)
              obtain ⟨rcZ, ccZ, gcZ, zcZ⟩ := keep_row hE (rcY : rowOf _ _ = _)
              obtain ⟨rtZ, ctZ, gtZ, ztZ⟩ := keep_row hE (rtY : rowOf _ _ = _)
              obtain ⟨rpZ, cpZ, gpZ, zpZ⟩ := keep_row hE (rpY : rowOf _ _ = _)
              obtain ⟨rfZ, cfZ, gfZ, zfZ⟩ := keep_row hE (rfY : rowOf _ _ = _)
              obtain ⟨rsZ, csZ, gsZ, zsZ⟩ := keep_row hE (rsY : rowOf _ _ = _)
              have hZ := hE.below hY.drew (by simpa using hY.size)
              clear hE hY e186 e187 e188 e189 e190 e191 e23 rbY cbY gbY zbY rcY ccY gcY zcY rtY ctY gtY ztY rpY cpY gpY zpY rfY cfY gfY zfY rsY csY gsY zsY
              generalize W = Z at *
              go_wp2_with fail
              have s8 := stored_setRow rcZ #[.int .i64 p.water.1, .int .i64 p.water.2, .int .i64 p.fat.1, .int .i64 p.fat.2, .int .i64 p.sore.1, .int .i64 p.sore.2, .bool k]
              have hz8 := s8.below w.heap.size (by omega)
              go_roundw
              case rel =>
                first
                | exact ⟨j + 1, p, e, hlt, by go_num, HC3.out, HK3.out, HT3.out, s8.keeps (by omega) rbZ, s8.row, s8.keeps (by have := HGT.out; omega) rtZ, hZ.trans hz8⟩
                | ((repeat apply Exists.intro); exact ⟨⟨j + 1, p, e, hlt, by go_num, HC3.out, HK3.out, HT3.out, s8.keeps (by omega) rbZ, s8.row, s8.keeps (by have := HGT.out; omega) rtZ, hZ.trans hz8⟩, rfl⟩)
              case measure => simp [intOf]; omega
      · obtain rfl : j = ln := by omega
        go_wp2
        go_returns
        exact ⟨rfl, hwr⟩
end Go.Proofs.Ytafdcbdbllpcnaa
