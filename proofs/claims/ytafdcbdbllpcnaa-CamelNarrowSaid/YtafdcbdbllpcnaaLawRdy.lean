/- A day that asks less leaves an animal no worse: what the reckoning keeps of the order. -/
import Derived.Test.YtafdcbdbllpcnaaSpec4
import Derived.Test.YtafdcbdbllpcnaaSpec3
import Derived.Test.YtafdcbdbllpcnaaLate
import Derived.Test.YtafdcbdbllpcnaaDayT
import Derived.Test.YtafdcbdbllpcnaaLeafN
namespace Go.Proofs.Ytafdcbdbllpcnaa

theorem refS_lo {most : Int} {h h' k k' g g' : Int × Int} (a : h.1 ≤ h'.1) (b : k'.2 ≤ k.2) (c : g.1 ≤ g'.1) : (refS most h k g).1 ≤ (refS most h' k' g').1 := by
  simp only [refS, cl, ad, ls, mn_min, mx_max]; omega
theorem refS_hi {most : Int} {h h' k k' g g' : Int × Int} (a : h.2 ≤ h'.2) (b : k'.1 ≤ k.1) (c : g.2 ≤ g'.2) : (refS most h k g).2 ≤ (refS most h' k' g').2 := by
  simp only [refS, cl, ad, ls, mn_min, mx_max]; omega
theorem mul_mono {a b c d : Int} (h0 : 0 ≤ a) (h1 : a ≤ b) (h2 : 0 ≤ c) (h3 : c ≤ d) : a * c ≤ b * d := Int.mul_le_mul h1 h3 h2 (by omega)
theorem sc_lo {d : Int} {s s' t t' : Int × Int} (hd : 1 ≤ d) (a : 0 ≤ s.1) (b : s.1 ≤ s'.1) (c : 0 ≤ t.1) (e : t.1 ≤ t'.1) : (sc d s t).1 ≤ (sc d s' t').1 :=
  Int.ediv_le_ediv (by omega) (mul_mono a b c e)
theorem sc_hi {d : Int} {s s' t t' : Int × Int} (hd : 1 ≤ d) (a : 0 ≤ s.2) (b : s.2 ≤ s'.2) (c : 0 ≤ t.2) (e : t.2 ≤ t'.2) : (sc d s t).2 ≤ (sc d s' t').2 := by
  have := mul_mono a b c e
  exact Int.ediv_le_ediv (by omega) (by omega)
/-- The day asks at least: b, m at the low ends no more than b', m'. -/
structure Lo (b b' : Br) (m m' : Mr) : Prop where
  rest : b.rest.1 ≤ b'.rest.1
  heat : b.heat.1 ≤ b'.heat.1
  toil : b.toil.1 ≤ b'.toil.1
  burn : b.burn.1 ≤ b'.burn.1
  rub : b.rub.1 ≤ b'.rub.1
  milk : b.milk.1 ≤ b'.milk.1
  hours : m.hours ≤ m'.hours
  load : m.load ≤ m'.load
  warm : m.heat.1 ≤ m'.heat.1
structure Hi (b b' : Br) (m m' : Mr) : Prop where
  rest : b.rest.2 ≤ b'.rest.2
  heat : b.heat.2 ≤ b'.heat.2
  toil : b.toil.2 ≤ b'.toil.2
  burn : b.burn.2 ≤ b'.burn.2
  rub : b.rub.2 ≤ b'.rub.2
  milk : b.milk.2 ≤ b'.milk.2
  hours : m.hours ≤ m'.hours
  load : m.load ≤ m'.load
  warm : m.heat.2 ≤ m'.heat.2
section
variable {b b' : Br} {m m' : Mr}
theorem bu_mono (hm : BdM m) (h1 : m.hours ≤ m'.hours) (h2 : m.load ≤ m'.load) : (buS m).1 ≤ (buS m').1 ∧ (buS m).2 ≤ (buS m').2 := by
  have := mul_mono hm.hours.1 h1 (by have := hm.load.1; omega : 0 ≤ 100000 + m.load) (by omega : 100000 + m.load ≤ 100000 + m'.load)
  exact ⟨this, this⟩
theorem ru_mono (hm : BdM m) (h1 : m.hours ≤ m'.hours) (h2 : m.load ≤ m'.load) : (ruS m).1 ≤ (ruS m').1 ∧ (ruS m).2 ≤ (ruS m').2 := by
  have := mul_mono hm.hours.1 h1 hm.load.1 h2
  exact ⟨this, this⟩
theorem waS_lo (hb : BdB b) (hm : BdM m) (h : Lo b b' m m') (k : Bool) : (waS b k m).1 ≤ (waS b' k m').1 := by
  have h1 : (sc 1 b.heat (hsS m)).1 ≤ (sc 1 b'.heat (hsS m')).1 := sc_lo (by omega) hb.heat.1 h.heat (hsS_bd hm).1 (by have := h.warm; simp only [hsS, mx_max]; omega)
  have h2 : (sc 100000 b.toil (buS m)).1 ≤ (sc 100000 b'.toil (buS m')).1 := sc_lo (by omega) hb.toil.1 h.toil (buS_bd hm).1 (bu_mono hm h.hours h.load).1
  have h3 := h.rest
  have h4 := h.milk
  cases k <;> simp only [waS, wa0S, ad, if_true, if_false, Bool.false_eq_true] <;> omega
theorem waS_hi (hb : BdB b) (hm : BdM m) (h : Hi b b' m m') (k : Bool) : (waS b k m).2 ≤ (waS b' k m').2 := by
  have h1 : (sc 1 b.heat (hsS m)).2 ≤ (sc 1 b'.heat (hsS m')).2 := sc_hi (by omega) (by have := hb.heat; omega) h.heat (hsS_bd hm).2.2.1 (by have := h.warm; simp only [hsS, mx_max]; omega)
  have h2 : (sc 100000 b.toil (buS m)).2 ≤ (sc 100000 b'.toil (buS m')).2 := sc_hi (by omega) (by have := hb.toil; omega) h.toil (buS_bd hm).2.2.1 (bu_mono hm h.hours h.load).2
  have h3 := h.rest
  have h4 := h.milk
  cases k <;> simp only [waS, wa0S, ad, if_true, if_false, Bool.false_eq_true] <;> omega
theorem faS_lo (hb : BdB b) (hm : BdM m) (h : Lo b b' m m') : (faS b m).1 ≤ (faS b' m').1 := sc_lo (by omega) hb.burn.1 h.burn (buS_bd hm).1 (bu_mono hm h.hours h.load).1
theorem faS_hi (hb : BdB b) (hm : BdM m) (h : Hi b b' m m') : (faS b m).2 ≤ (faS b' m').2 := sc_hi (by omega) (by have := hb.burn; omega) h.burn (buS_bd hm).2.2.1 (bu_mono hm h.hours h.load).2
theorem soS_lo (hb : BdB b) (hm : BdM m) (h : Lo b b' m m') : (soS b m).1 ≤ (soS b' m').1 := sc_lo (by omega) hb.rub.1 h.rub (ruS_bd hm).1 (ru_mono hm h.hours h.load).1
theorem soS_hi (hb : BdB b) (hm : BdM m) (h : Hi b b' m m') : (soS b m).2 ≤ (soS b' m').2 := sc_hi (by omega) (by have := hb.rub; omega) h.rub (ruS_bd hm).2.2.1 (ru_mono hm h.hours h.load).2
theorem soreS_lo {c c' : Cm} (h1 : c.sore.1 ≤ c'.sore.1) (h2 : (soS b m).1 ≤ (soS b' m').1) (h3 : healS b m = healS b' m') : (soreS b c m).1 ≤ (soreS b' c' m').1 := by
  simp only [soreS, cl, ad, ls, mn_min, mx_max, h3]; omega
theorem soreS_hi {c c' : Cm} (h1 : c.sore.2 ≤ c'.sore.2) (h2 : (soS b m).2 ≤ (soS b' m').2) (h3 : healS b m = healS b' m') : (soreS b c m).2 ≤ (soreS b' c' m').2 := by
  simp only [soreS, cl, ad, ls, mn_min, mx_max, h3]; omega
end

/-- A lighter day: n asks no more than m, and gives no less. -/
structure Lgt (n m : Mr) : Prop where
  hours : n.hours ≤ m.hours
  none : n.hours = 0 ↔ m.hours = 0
  load : n.load ≤ m.load
  heat : n.heat = m.heat
  grass : m.grass.1 ≤ n.grass.1 ∧ m.grass.2 ≤ n.grass.2
  drinks : m.drinks.1 ≤ n.drinks.1 ∧ m.drinks.2 ≤ n.drinks.2
theorem Lgt.lo {n m : Mr} (h : Lgt n m) (b : Br) : Lo b b n m := ⟨Int.le_refl _, Int.le_refl _, Int.le_refl _, Int.le_refl _, Int.le_refl _, Int.le_refl _, h.hours, h.load, by rw [h.heat]; exact Int.le_refl _⟩
theorem Lgt.hi {n m : Mr} (h : Lgt n m) (b : Br) : Hi b b n m := ⟨Int.le_refl _, Int.le_refl _, Int.le_refl _, Int.le_refl _, Int.le_refl _, Int.le_refl _, h.hours, h.load, by rw [h.heat]; exact Int.le_refl _⟩
theorem Lgt.heal {n m : Mr} (h : Lgt n m) (b : Br) : healS b n = healS b m := by
  unfold healS
  by_cases h0 : m.hours = 0
  · rw [if_pos h0, if_pos (h.none.2 h0)]
  · rw [if_neg h0, if_neg (fun e => h0 (h.none.1 e))]
theorem Lgt.eve {n m : Mr} {b : Br} (hb : BdB b) (hn : BdM n) (h : Lgt n m) (c : Cm) :
    (eveC b c m).water.1 ≤ (eveC b c n).water.1 ∧ (eveC b c m).water.2 ≤ (eveC b c n).water.2 ∧ (eveC b c m).fat.1 ≤ (eveC b c n).fat.1 ∧ (eveC b c m).fat.2 ≤ (eveC b c n).fat.2 ∧ (eveC b c n).sore.1 ≤ (eveC b c m).sore.1 ∧ (eveC b c n).sore.2 ≤ (eveC b c m).sore.2 :=
  ⟨refS_lo (Int.le_refl _) (waS_hi hb hn (h.hi b) _) h.drinks.1, refS_hi (Int.le_refl _) (waS_lo hb hn (h.lo b) _) h.drinks.2,
    refS_lo (Int.le_refl _) (faS_hi hb hn (h.hi b)) h.grass.1, refS_hi (Int.le_refl _) (faS_lo hb hn (h.lo b)) h.grass.2,
    soreS_lo (Int.le_refl _) (soS_lo hb hn (h.lo b)) (h.heal b), soreS_hi (Int.le_refl _) (soS_hi hb hn (h.hi b)) (h.heal b)⟩
theorem Lgt.dies {n m : Mr} {b : Br} (hb : BdB b) (hn : BdM n) (h : Lgt n m) (c : Cm) (hd : diesS b c n = true) : diesS b c m = true := by
  have h1 := waS_lo hb hn (h.lo b) c.milks
  have h2 := faS_lo hb hn (h.lo b)
  simp only [diesS, Bool.or_eq_true, decide_eq_true_eq] at *
  omega
theorem Lgt.opens {n m : Mr} {b : Br} (hb : BdB b) (hn : BdM n) (h : Lgt n m) (c : Cm) (hd : openS b c n = true) : openS b c m = true := by
  have h1 := waS_hi hb hn (h.hi b) c.milks
  have h2 := faS_hi hb hn (h.hi b)
  simp only [openS, Bool.or_eq_true, decide_eq_true_eq] at *
  omega
end Go.Proofs.Ytafdcbdbllpcnaa
/- Contracts of the outright properties' helpers: ready, at, pick. -/
namespace Go.Proofs.Ytafdcbdbllpcnaa
open Go.RowKit
open Go.Proofs

attribute [local go_sem ↓] exec36l exec112l exec36s exec112s exec31s run_min2 run_max2
attribute [local go_sem] load36 load112 store36 store112 store31 build112 rowOf_alloc rowOf_drew setRow_alloc one_int one_bool run_min4

theorem exec45l : ∀ ρ dst x ty pos after guard, execOp ρ { dst, op := .load 45 x, type := ty, pos, after, guard } = wideLoad 45 (ρ x) := execOp_wideLoad 45
theorem load45 (g : Nat) (w : World) : (wideLoad 45 (.pointer (some ⟨g, 0, none⟩))).run Try.prog w = match rowOf w g with
      | some cs => if cs.size = 8 then .ok (.value (.agg cs)) w else wideLoadElse Try.prog 45 g w
      | none => wideLoadElse Try.prog 45 g w := run_wideLoad (P := Try.prog) 8 Try.underlying45 rfl info45 g w
theorem cams_row {W : World} {g : Nat} {cs : List Cm} (h : rowOf W g = some (cs.flatMap camCells).toArray) : CamelsAt W g 0 cs := by
  obtain ⟨hc, -, -⟩ := cell_of_rowOf h
  intro k hk
  have key : ∀ i v, (camCells cs[k])[i]? = some v → W.cell? ⟨g, 0 + k * 7 + i, none⟩ = some v := by
    intro i v hv
    have hi : i < 7 := (List.getElem?_eq_some_iff.1 hv).1
    rw [hc, ← hv, ← flat_at camCells 7 (fun _ => rfl) cs k i hk hi, List.getElem?_toArray, Nat.zero_add]
  exact ⟨key 0 _ rfl, key 1 _ rfl, key 2 _ rfl, key 3 _ rfl, key 4 _ rfl, key 5 _ rfl, key 6 _ rfl⟩
theorem mars_row {W : World} {g : Nat} {ms : List Mr} (h : rowOf W g = some (ms.flatMap marCells).toArray) : MarchesAt W g 0 ms := by
  obtain ⟨hc, -, -⟩ := cell_of_rowOf h
  intro k hk
  have key : ∀ i v, (marCells ms[k])[i]? = some v → W.cell? ⟨g, 0 + k * 8 + i, none⟩ = some v := by
    intro i v hv
    have hi : i < 8 := (List.getElem?_eq_some_iff.1 hv).1
    rw [hc, ← hv, ← flat_at marCells 8 (fun _ => rfl) ms k i hk hi, List.getElem?_toArray, Nat.zero_add]
  exact ⟨key 0 _ rfl, key 1 _ rfl, key 2 _ rfl, key 3 _ rfl, key 4 _ rfl, key 5 _ rfl, key 6 _ rfl, key 7 _ rfl⟩
theorem days_row {W : World} {g : Nat} {ms : List Mr} (cap : Nat) (h : rowOf W g = some (ms.flatMap marCells).toArray) : DaysIn W (some ⟨g, 0, none⟩) cap ms := .inr ⟨g, 0, rfl, mars_row h, (cell_of_rowOf h).2.2⟩

/-- A breed, an animal and days are valid. -/
def rdyS (b : Br) (c : Cm) (ms : List Mr) : Bool := decide (chkC b c = 0) && decide (ms.length ≤ 60) && ms.all okM

set_option maxRecDepth 100000 in
set_option maxHeartbeats 1000000 in
theorem ready_all (b : Br) (c : Cm) (a : Option Addr) (cap n : Nat) (ms : List Mr) (y : Bool) (w : World) (hn : n = ms.length) (h : DaysIn w a cap ms) (h0 : chkC b c = 0) (h6 : n ≤ 60) (hy : ms.all okM = y) :
    Calls Try.prog 44 #[.agg #[.int .i64 b.full, .int .i64 b.fed, .int .i64 b.rest.1, .int .i64 b.rest.2, .int .i64 b.heat.1, .int .i64 b.heat.2, .int .i64 b.toil.1, .int .i64 b.toil.2, .int .i64 b.burn.1, .int .i64 b.burn.2, .int .i64 b.rub.1, .int .i64 b.rub.2, .int .i64 b.milk.1, .int .i64 b.milk.2, .int .i64 b.heal, .int .i64 b.strong.1, .int .i64 b.strong.2], .agg #[.int .i64 c.water.1, .int .i64 c.water.2, .int .i64 c.fat.1, .int .i64 c.fat.2, .int .i64 c.sore.1, .int .i64 c.sore.2, .bool c.milks], .slice a n cap] w fun e w' => e = .returned (.bool y) ∧ Below w.heap.size w w' := by
  have HX := Lib.hid hy
  have HC := Lib.hid h0
  have HS := Lib.hid h
  have HN := Lib.hid hn
  have hn60 : ¬ (60 : Int) < (n : Int) := by omega
  clear hy h0 h hn
  go_enter Try.func44, Try.ntmps44
  go_wp2_with fail
  refine (rchkC_x b c _ HC.out _).mono ?_
  rintro e W1 ⟨rfl, hB⟩
  have hW1 : Below w.heap.size w W1 := Below.trans (by go_grown) (hB.mono (by simp; try omega))
  have zW1 := hW1.size
  clear hB
  go_wp2_with fail
  go_loopw [20] (fun i wr => ∃ k : Nat, k ≤ n ∧ i = .int .i64 k ∧ Hid ((ms.take k).all okM = true) ∧ Below w.heap.size w wr) (fun i _ => n - (intOf i).toNat)
  case atStart => exact ⟨0, Nat.zero_le _, rfl, by simp [Hid], hW1⟩
  case round =>
    obtain ⟨k, hk, rfl, hall, hB0⟩ := hrel
    have hz := hB0.size
    by_cases hlt : k < n
    · have hkl : k < ms.length := by have := HN.out; omega
      have hlt' : (k : Int) < (n : Int) := by omega
      rcases HS.out with ⟨-, -, hnil⟩ | ⟨g, off, rfl, hms, hg⟩
      · rw [hnil] at hkl; simp at hkl
      · obtain ⟨c0, c1, c2, c3, c4, c5, c6, c7⟩ := march_below hB0 hg (hms k hkl)
        clear hms
        generalize hm : ms[k] = m at *
        have Hm := Lib.hid hm
        clear hm
        cases hok : okM m with
        | false =>
          have HK := Lib.hid hok
          clear hok
          go_wp2_with fail
          refine (rMarch_x m _ HK.out _).mono ?_
          rintro e W ⟨rfl, hB⟩
          have hw : Below w.heap.size w W := hB0.trans (Below.trans (by go_grown) (hB.mono (by first | exact hz | (simp; omega))))
          clear hB
          go_wp2
          go_returns
          exact ⟨ret_bool (by rw [← HX.out, all_noM ms k hkl (by rw [Hm.out]; exact HK.out)]), hw⟩
        | true =>
          have HK := Lib.hid hok
          clear hok
          go_wp2_with fail
          refine (rMarch_x m _ HK.out _).mono ?_
          rintro e W ⟨rfl, hB⟩
          have hw : Below w.heap.size w W := hB0.trans (Below.trans (by go_grown) (hB.mono (by first | exact hz | (simp; omega))))
          clear hB
          go_wp2
          exact ⟨⟨k + 1, by omega, by go_num, all_stepM ms k hkl hall.out (by rw [Hm.out]; exact HK.out), hw⟩, by simp [intOf]; omega⟩
    · obtain rfl : k = n := by omega
      go_wp2
      go_returns
      have h := hall.out
      rw [HN.out, List.take_length] at h
      exact ⟨ret_bool (by rw [← HX.out, h]), hB0⟩
theorem ready_many (b : Br) (c : Cm) (a : Option Addr) (cap n : Nat) (w : World) (h0 : chkC b c = 0) (h6 : 60 < n) :
    Calls Try.prog 44 #[.agg #[.int .i64 b.full, .int .i64 b.fed, .int .i64 b.rest.1, .int .i64 b.rest.2, .int .i64 b.heat.1, .int .i64 b.heat.2, .int .i64 b.toil.1, .int .i64 b.toil.2, .int .i64 b.burn.1, .int .i64 b.burn.2, .int .i64 b.rub.1, .int .i64 b.rub.2, .int .i64 b.milk.1, .int .i64 b.milk.2, .int .i64 b.heal, .int .i64 b.strong.1, .int .i64 b.strong.2], .agg #[.int .i64 c.water.1, .int .i64 c.water.2, .int .i64 c.fat.1, .int .i64 c.fat.2, .int .i64 c.sore.1, .int .i64 c.sore.2, .bool c.milks], .slice a n cap] w fun e w' => e = .returned (.bool false) ∧ Below w.heap.size w w' := by
  have HC := Lib.hid h0
  have hn60 : (60 : Int) < (n : Int) := by omega
  clear h0
  go_enter Try.func44, Try.ntmps44
  go_wp2_with fail
  refine (rchkC_x b c _ HC.out _).mono ?_
  rintro e W1 ⟨rfl, hB⟩
  have hW1 : Below w.heap.size w W1 := Below.trans (by go_grown) (hB.mono (by simp; try omega))
  have zW1 := hW1.size
  clear hB
  go_wp2
  go_returns
  exact ⟨rfl, hW1⟩
theorem ready_bad (b : Br) (c : Cm) (a : Option Addr) (cap n : Nat) (x : Int) (w : World) (hx : chkC b c = x) (h0 : x ≠ 0) :
    Calls Try.prog 44 #[.agg #[.int .i64 b.full, .int .i64 b.fed, .int .i64 b.rest.1, .int .i64 b.rest.2, .int .i64 b.heat.1, .int .i64 b.heat.2, .int .i64 b.toil.1, .int .i64 b.toil.2, .int .i64 b.burn.1, .int .i64 b.burn.2, .int .i64 b.rub.1, .int .i64 b.rub.2, .int .i64 b.milk.1, .int .i64 b.milk.2, .int .i64 b.heal, .int .i64 b.strong.1, .int .i64 b.strong.2], .agg #[.int .i64 c.water.1, .int .i64 c.water.2, .int .i64 c.fat.1, .int .i64 c.fat.2, .int .i64 c.sore.1, .int .i64 c.sore.2, .bool c.milks], .slice a n cap] w fun e w' => e = .returned (.bool false) ∧ Below w.heap.size w w' := by
  have HC := Lib.hid hx
  have hne : (x == 0) = false := by simpa using h0
  clear hx
  go_enter Try.func44, Try.ntmps44
  go_wp2_with fail
  refine (rchkC_x b c _ HC.out _).mono ?_
  rintro e W1 ⟨rfl, hB⟩
  have hW1 : Below w.heap.size w W1 := Below.trans (by go_grown) (hB.mono (by simp; try omega))
  have zW1 := hW1.size
  clear hB
  go_wp2
  go_returns
  exact ⟨rfl, hW1⟩
theorem ready_any (b : Br) (c : Cm) (a : Option Addr) (cap n : Nat) (ms : List Mr) (y : Bool) (w : World) (hn : n = ms.length) (h : DaysIn w a cap ms) (hy : rdyS b c ms = y) :
    Calls Try.prog 44 #[.agg #[.int .i64 b.full, .int .i64 b.fed, .int .i64 b.rest.1, .int .i64 b.rest.2, .int .i64 b.heat.1, .int .i64 b.heat.2, .int .i64 b.toil.1, .int .i64 b.toil.2, .int .i64 b.burn.1, .int .i64 b.burn.2, .int .i64 b.rub.1, .int .i64 b.rub.2, .int .i64 b.milk.1, .int .i64 b.milk.2, .int .i64 b.heal, .int .i64 b.strong.1, .int .i64 b.strong.2], .agg #[.int .i64 c.water.1, .int .i64 c.water.2, .int .i64 c.fat.1, .int .i64 c.fat.2, .int .i64 c.sore.1, .int .i64 c.sore.2, .bool c.milks], .slice a n cap] w fun e w' => e = .returned (.bool y) ∧ Below w.heap.size w w' := by
  subst hy
  by_cases h0 : chkC b c = 0
  · by_cases h6 : n ≤ 60
    · exact ready_all b c a cap n ms _ w hn h h0 h6 (by simp [rdyS, h0, show ms.length ≤ 60 by omega])
    · rw [show rdyS b c ms = false by simp [rdyS, show ¬ ms.length ≤ 60 by omega]]
      exact ready_many b c a cap n w h0 (by omega)
  · rw [show rdyS b c ms = false by simp [rdyS, h0]]
    exact ready_bad b c a cap n _ w rfl h0
end Go.Proofs.Ytafdcbdbllpcnaa
