/- Contracts of the reference's after and After: what they return, for every breed, animal and day. -/
import Derived.Test.YtafdcbdbllpcnaaMtCl
import Derived.Test.YtafdcbdbllpcnaaLeafL
import Derived.Test.YtafdcbdbllpcnaaSpec4
import Derived.Test.YtafdcbdbllpcnaaRefA
set_option linter.unusedVariables false
set_option linter.unusedSimpArgs false
namespace Go.Proofs.Ytafdcbdbllpcnaa
open Go.RowKit
open Go.Proofs

attribute [local go_sem ↓] exec36l exec112l exec36s exec112s exec31s exec39s exec39l run_min2 run_max2
attribute [local go_sem] load36 load112 store36 store112 store39 load39 store31at List.setIfInBounds_toArray List.set_cons_succ List.set_cons_zero build39z build39_1 rowOf_alloc rowOf_drew setRow_alloc one_int one_bool

set_option maxRecDepth 100000 in
set_option maxHeartbeats 8000000 in
theorem rafter_any (b : Br) (c : Cm) (m : Mr) (w : World) (hb : BdB b) (hc : BdC b c) (hm : BdM m) :
    Calls Try.prog 75 #[.agg #[.int .i64 b.full, .int .i64 b.fed, .int .i64 b.rest.1, .int .i64 b.rest.2, .int .i64 b.heat.1, .int .i64 b.heat.2, .int .i64 b.toil.1, .int .i64 b.toil.2, .int .i64 b.burn.1, .int .i64 b.burn.2, .int .i64 b.rub.1, .int .i64 b.rub.2, .int .i64 b.milk.1, .int .i64 b.milk.2, .int .i64 b.heal, .int .i64 b.strong.1, .int .i64 b.strong.2], .agg #[.int .i64 c.water.1, .int .i64 c.water.2, .int .i64 c.fat.1, .int .i64 c.fat.2, .int .i64 c.sore.1, .int .i64 c.sore.2, .bool c.milks], .agg #[.int .i64 m.hours, .int .i64 m.load, .int .i64 m.heat.1, .int .i64 m.heat.2, .int .i64 m.grass.1, .int .i64 m.grass.2, .int .i64 m.drinks.1, .int .i64 m.drinks.2]] w fun e w' => e = .returned (.tuple #[.agg #[.int .i64 (if diesS b c m = true then zc false else eveC b c m).water.1, .int .i64 (if diesS b c m = true then zc false else eveC b c m).water.2, .int .i64 (if diesS b c m = true then zc false else eveC b c m).fat.1, .int .i64 (if diesS b c m = true then zc false else eveC b c m).fat.2, .int .i64 (if diesS b c m = true then zc false else eveC b c m).sore.1, .int .i64 (if diesS b c m = true then zc false else eveC b c m).sore.2, .bool (if diesS b c m = true then zc false else eveC b c m).milks], .int .i64 (fateS b c m)]) ∧ Below w.heap.size w w' := by
  obtain ⟨ra, hra⟩ : ∃ r, (if diesS b c m = true then zc false else eveC b c m) = r := ⟨_, rfl⟩
  obtain ⟨rf, hrf⟩ : ∃ r, fateS b c m = r := ⟨_, rfl⟩
  rw [hra, hrf]
  have HA := Lib.hid hra
  have HF := Lib.hid hrf
  have HB := Lib.hid hb
  have HC := Lib.hid hc
  have HM := Lib.hid hm
  clear hra hrf hb hc hm
  go_enter Try.func75, Try.ntmps75
  go_wp2_with fail
  refine (rcost_any b c.milks m _ HB.out HM.out).mono ?_
  rintro e W1 ⟨rfl, hB⟩
  have hW1 : Below w.heap.size w W1 := Below.trans (by go_grown) (hB.mono (by simp; try omega))
  have zW1 := hW1.size
  obtain ⟨raW1, caW1, gaW1, zaW1⟩ := keep_row hB (g := w.heap.size) (by repeat (first | with_reducible assumption | with_reducible apply row_here0 | with_reducible apply row_here1 | with_reducible apply row_here2 | with_reducible apply row_here3 | with_reducible apply rowSkip))
  obtain ⟨rbW1, cbW1, gbW1, zbW1⟩ := keep_row hB (g := w.heap.size + 1) (by repeat (first | with_reducible assumption | with_reducible apply row_here0 | with_reducible apply row_here1 | with_reducible apply row_here2 | with_reducible apply row_here3 | with_reducible apply rowSkip))
  obtain ⟨rcW1, ccW1, gcW1, zcW1⟩ := keep_row hB (g := w.heap.size + 1 + 1) (by repeat (first | with_reducible assumption | with_reducible apply row_here0 | with_reducible apply row_here1 | with_reducible apply row_here2 | with_reducible apply row_here3 | with_reducible apply rowSkip))
  obtain ⟨rdW1, cdW1, gdW1, zdW1⟩ := keep_row hB (g := w.heap.size + 1 + 1 + 1) (by repeat (first | with_reducible assumption | with_reducible apply row_here0 | with_reducible apply row_here1 | with_reducible apply row_here2 | with_reducible apply row_here3 | with_reducible apply rowSkip))
  clear hB
  obtain ⟨w1, w2, w3⟩ := waS_bd c.milks HB.out HM.out
  obtain ⟨f1, f2, f3⟩ := faS_bd HB.out HM.out
  obtain ⟨x1, x2, x3⟩ := HC.out.water
  obtain ⟨y1, y2, y3⟩ := HC.out.fat
  obtain ⟨l1, l2⟩ := HB.out.full
  obtain ⟨k1, k2⟩ := HB.out.fed
  obtain ⟨q1, q2, q3⟩ := HM.out.drinks
  obtain ⟨g1, g2, g3⟩ := HM.out.grass
  have mxw : 0 ≤ mx 0 (c.water.1 - (waS b c.milks m).2) ∧ mx 0 (c.water.1 - (waS b c.milks m).2) ≤ 1000000 := by simp only [mx]; split <;> omega
  have mxf : 0 ≤ mx 0 (c.fat.1 - (faS b m).2) ∧ mx 0 (c.fat.1 - (faS b m).2) ≤ 1000000 := by simp only [mx]; split <;> omega
  obtain ⟨mw1, mw2⟩ := mxw
  obtain ⟨mf1, mf2⟩ := mxf
  by_cases hA : c.water.2 < (waS b c.milks m).1
  · have hd : diesS b c m = true := by simp [diesS, hA]
    have H1 := Lib.hid (show ra = zc false by rw [← HA.out, hd]; rfl)
    have H2 := Lib.hid (show rf = 2 by rw [← HF.out, fateS, hd]; rfl)
    clear hd
    go_wp2
    exact bodyPost_ret (results39_2 Try.results75 rfl (stored_setRow (rowSkip (rowSkip rdW1)) _).row rfl (v := .int .i64 2) rfl) rfl ⟨by rw [H1.out, H2.out]; rfl, Below_setRow (by go_grown) (by omega) _⟩
  · by_cases hB : c.fat.2 < (faS b m).1
    · have hd : diesS b c m = true := by simp [diesS, hB]
      have H1 := Lib.hid (show ra = zc false by rw [← HA.out, hd]; rfl)
      have H2 := Lib.hid (show rf = 2 by rw [← HF.out, fateS, hd]; rfl)
      clear hd
      go_wp2
      exact bodyPost_ret (results39_2 Try.results75 rfl (stored_setRow (rowSkip (rowSkip rdW1)) _).row rfl (v := .int .i64 2) rfl) rfl ⟨by rw [H1.out, H2.out]; rfl, Below_setRow (by go_grown) (by omega) _⟩
    · have hd : diesS b c m = false := by simp [diesS, hA, hB]
      have H1 := Lib.hid (show ra = eveC b c m by rw [← HA.out, hd]; rfl)
      have H2 := Lib.hid (show rf = if openS b c m = true then 1 else 0 by rw [← HF.out, fateS, hd]; rfl)
      clear hd HA HF
      obtain ⟨z1, z2, z3⟩ := HC.out.sore
      obtain ⟨e1, e2, e3⟩ := HB.out.rub
      obtain ⟨o1, o2⟩ := HB.out.heal
      obtain ⟨s1, s2, s3, s4⟩ := ruS_bd HM.out
      simp only [ruS] at s1 s2 s3 s4
      have hl1 := HM.out.hours
      have hl2 := HM.out.load
      obtain ⟨u1, u2⟩ := mul_le (by omega : 0 ≤ b.rub.1) s1 (by omega : b.rub.1 ≤ 100000) s2
      obtain ⟨u3, u4⟩ := mul_le (by omega : 0 ≤ b.rub.2) s1 e3 s2
      have v1 : 0 ≤ b.rub.1 * (m.hours * m.load) / 1000000 := Int.ediv_nonneg u1 (by omega)
      have v2 : 0 ≤ (b.rub.2 * (m.hours * m.load) + 1000000 - 1) / 1000000 := Int.ediv_nonneg (by omega) (by omega)
      have kaW1 : ∀ j o1 o2 o3, (((W1.alloc o1).alloc o2).alloc o3).cell? ⟨w.heap.size, j, none⟩ = #[.int .i64 b.full, .int .i64 b.fed, .int .i64 b.rest.1, .int .i64 b.rest.2, .int .i64 b.heat.1, .int .i64 b.heat.2, .int .i64 b.toil.1, .int .i64 b.toil.2, .int .i64 b.burn.1, .int .i64 b.burn.2, .int .i64 b.rub.1, .int .i64 b.rub.2, .int .i64 b.milk.1, .int .i64 b.milk.2, .int .i64 b.heal, .int .i64 b.strong.1, .int .i64 b.strong.2][j]? := fun j o1 o2 o3 => (Below.cell (B := W1.heap.size) (p := ⟨w.heap.size, j, none⟩) (by go_grown) zaW1).trans (caW1 j)
      have kbW1 : ∀ j o1 o2 o3, (((W1.alloc o1).alloc o2).alloc o3).cell? ⟨w.heap.size + 1, j, none⟩ = #[.int .i64 c.water.1, .int .i64 c.water.2, .int .i64 c.fat.1, .int .i64 c.fat.2, .int .i64 c.sore.1, .int .i64 c.sore.2, .bool c.milks][j]? := fun j o1 o2 o3 => (Below.cell (B := W1.heap.size) (p := ⟨w.heap.size + 1, j, none⟩) (by go_grown) zbW1).trans (cbW1 j)
      have kcW1 : ∀ j o1 o2 o3, (((W1.alloc o1).alloc o2).alloc o3).cell? ⟨w.heap.size + 1 + 1, j, none⟩ = #[.int .i64 m.hours, .int .i64 m.load, .int .i64 m.heat.1, .int .i64 m.heat.2, .int .i64 m.grass.1, .int .i64 m.grass.2, .int .i64 m.drinks.1, .int .i64 m.drinks.2][j]? := fun j o1 o2 o3 => (Below.cell (B := W1.heap.size) (p := ⟨w.heap.size + 1 + 1, j, none⟩) (by go_grown) zcW1).trans (ccW1 j)
      have HR1 := Lib.hid (waR_eq x1 x2 x3 w1 w2 q1 q2 (by omega) : waR b.full c.water (waS b c.milks m) m.drinks = refS b.full c.water (waS b c.milks m) m.drinks)
      have HR2 := Lib.hid (waR_eq y1 y2 y3 f1 f2 g1 g2 (by omega) : waR b.fed c.fat (faS b m) m.grass = refS b.fed c.fat (faS b m) m.grass)
      by_cases hC : (waS b c.milks m).2 ≤ c.water.1
      · by_cases hD : (faS b m).2 ≤ c.fat.1
        · have H4 := Lib.hid (show (if openS b c m = true then (1 : Int) else 0) = 0 by simp only [openS, Bool.or_eq_true, decide_eq_true_eq]; split <;> omega)
          go_wp2_with fail
          have hW2 : Below w.heap.size w (((W1.alloc (.cells #[.int .i64 (waS b c.milks m).1, .int .i64 (waS b c.milks m).2] 31)).alloc (.cells #[.int .i64 (faS b m).1, .int .i64 (faS b m).2] 31)).alloc (.cells #[.int .i64 (waR b.full c.water (waS b c.milks m) m.drinks).1, .int .i64 (waR b.full c.water (waS b c.milks m) m.drinks).2, .int .i64 (waR b.fed c.fat (faS b m) m.grass).1, .int .i64 (waR b.fed c.fat (faS b m) m.grass).2, .int .i64 0, .int .i64 0, .bool c.milks] 39)) := by go_grown
          have raW2 : rowOf (((W1.alloc (.cells #[.int .i64 (waS b c.milks m).1, .int .i64 (waS b c.milks m).2] 31)).alloc (.cells #[.int .i64 (faS b m).1, .int .i64 (faS b m).2] 31)).alloc (.cells #[.int .i64 (waR b.full c.water (waS b c.milks m) m.drinks).1, .int .i64 (waR b.full c.water (waS b c.milks m) m.drinks).2, .int .i64 (waR b.fed c.fat (faS b m) m.grass).1, .int .i64 (waR b.fed c.fat (faS b m) m.grass).2, .int .i64 0, .int .i64 0, .bool c.milks] 39)) (w.heap.size) = some #[.int .i64 b.full, .int .i64 b.fed, .int .i64 b.rest.1, .int .i64 b.rest.2, .int .i64 b.heat.1, .int .i64 b.heat.2, .int .i64 b.toil.1, .int .i64 b.toil.2, .int .i64 b.burn.1, .int .i64 b.burn.2, .int .i64 b.rub.1, .int .i64 b.rub.2, .int .i64 b.milk.1, .int .i64 b.milk.2, .int .i64 b.heal, .int .i64 b.strong.1, .int .i64 b.strong.2] := rowSkip (rowSkip (rowSkip raW1))
          have rbW2 : rowOf (((W1.alloc (.cells #[.int .i64 (waS b c.milks m).1, .int .i64 (waS b c.milks m).2] 31)).alloc (.cells #[.int .i64 (faS b m).1, .int .i64 (faS b m).2] 31)).alloc (.cells #[.int .i64 (waR b.full c.water (waS b c.milks m) m.drinks).1, .int .i64 (waR b.full c.water (waS b c.milks m) m.drinks).2, .int .i64 (waR b.fed c.fat (faS b m) m.grass).1, .int .i64 (waR b.fed c.fat (faS b m) m.grass).2, .int .i64 0, .int .i64 0, .bool c.milks] 39)) (w.heap.size + 1) = some #[.int .i64 c.water.1, .int .i64 c.water.2, .int .i64 c.fat.1, .int .i64 c.fat.2, .int .i64 c.sore.1, .int .i64 c.sore.2, .bool c.milks] := rowSkip (rowSkip (rowSkip rbW1))
          have rcW2 : rowOf (((W1.alloc (.cells #[.int .i64 (waS b c.milks m).1, .int .i64 (waS b c.milks m).2] 31)).alloc (.cells #[.int .i64 (faS b m).1, .int .i64 (faS b m).2] 31)).alloc (.cells #[.int .i64 (waR b.full c.water (waS b c.milks m) m.drinks).1, .int .i64 (waR b.full c.water (waS b c.milks m) m.drinks).2, .int .i64 (waR b.fed c.fat (faS b m) m.grass).1, .int .i64 (waR b.fed c.fat (faS b m) m.grass).2, .int .i64 0, .int .i64 0, .bool c.milks] 39)) (w.heap.size + 1 + 1) = some #[.int .i64 m.hours, .int .i64 m.load, .int .i64 m.heat.1, .int .i64 m.heat.2, .int .i64 m.grass.1, .int .i64 m.grass.2, .int .i64 m.drinks.1, .int .i64 m.drinks.2] := rowSkip (rowSkip (rowSkip rcW1))
          have rdW2 : rowOf (((W1.alloc (.cells #[.int .i64 (waS b c.milks m).1, .int .i64 (waS b c.milks m).2] 31)).alloc (.cells #[.int .i64 (faS b m).1, .int .i64 (faS b m).2] 31)).alloc (.cells #[.int .i64 (waR b.full c.water (waS b c.milks m) m.drinks).1, .int .i64 (waR b.full c.water (waS b c.milks m) m.drinks).2, .int .i64 (waR b.fed c.fat (faS b m) m.grass).1, .int .i64 (waR b.fed c.fat (faS b m) m.grass).2, .int .i64 0, .int .i64 0, .bool c.milks] 39)) (w.heap.size + 1 + 1 + 1) = some #[.int .i64 0, .int .i64 0, .int .i64 0, .int .i64 0, .int .i64 0, .int .i64 0, .bool false] := rowSkip (rowSkip (rowSkip rdW1))
          have rtW2 : rowOf (((W1.alloc (.cells #[.int .i64 (waS b c.milks m).1, .int .i64 (waS b c.milks m).2] 31)).alloc (.cells #[.int .i64 (faS b m).1, .int .i64 (faS b m).2] 31)).alloc (.cells #[.int .i64 (waR b.full c.water (waS b c.milks m) m.drinks).1, .int .i64 (waR b.full c.water (waS b c.milks m) m.drinks).2, .int .i64 (waR b.fed c.fat (faS b m) m.grass).1, .int .i64 (waR b.fed c.fat (faS b m) m.grass).2, .int .i64 0, .int .i64 0, .bool c.milks] 39)) (W1.heap.size + 1 + 1) = some #[.int .i64 (waR b.full c.water (waS b c.milks m) m.drinks).1, .int .i64 (waR b.full c.water (waS b c.milks m) m.drinks).2, .int .i64 (waR b.fed c.fat (faS b m) m.grass).1, .int .i64 (waR b.fed c.fat (faS b m) m.grass).2, .int .i64 0, .int .i64 0, .bool c.milks] := row_here2 _ _ _ _ _
          have zW2 := hW2.size
          change Code.wp _ _ _ _ (((W1.alloc (.cells #[.int .i64 (waS b c.milks m).1, .int .i64 (waS b c.milks m).2] 31)).alloc (.cells #[.int .i64 (faS b m).1, .int .i64 (faS b m).2] 31)).alloc (.cells #[.int .i64 (waR b.full c.water (waS b c.milks m) m.drinks).1, .int .i64 (waR b.full c.water (waS b c.milks m) m.drinks).2, .int .i64 (waR b.fed c.fat (faS b m) m.grass).1, .int .i64 (waR b.fed c.fat (faS b m) m.grass).2, .int .i64 0, .int .i64 0, .bool c.milks] 39))
          generalize (((W1.alloc (.cells #[.int .i64 (waS b c.milks m).1, .int .i64 (waS b c.milks m).2] 31)).alloc (.cells #[.int .i64 (faS b m).1, .int .i64 (faS b m).2] 31)).alloc (.cells #[.int .i64 (waR b.full c.water (waS b c.milks m) m.drinks).1, .int .i64 (waR b.full c.water (waS b c.milks m) m.drinks).2, .int .i64 (waR b.fed c.fat (faS b m) m.grass).1, .int .i64 (waR b.fed c.fat (faS b m) m.grass).2, .int .i64 0, .int .i64 0, .bool c.milks] 39)) = W2 at hW2 raW2 rbW2 rcW2 rdW2 rtW2 zW2 ⊢
          clear raW1 caW1 gaW1 rbW1 cbW1 gbW1 rcW1 ccW1 gcW1 rdW1 cdW1 gdW1 kaW1 kbW1 kcW1
          refine wp_draws (by kernel_rfl) [] [some 116, some 117, some 118, some 119, some 120, some 121, some 122, some 123, some 124, some 125, some 126, some 127, some 128, some 129, some 130, some 131, some 132, some 133, some 134, some 135, some 136, some 137, some 138, some 139] (by kernel_rfl) (fun ix v W => match ix with
            | 0 => v = .pointer (some ⟨w.heap.size + 1, 4, none⟩)
            | 1 => v = .pointer (some ⟨w.heap.size + 1, 4, none⟩)
            | 2 => v = .int .i64 (c.sore.1)
            | 3 => v = .pointer (some ⟨w.heap.size, 10, none⟩)
            | 4 => v = .pointer (some ⟨w.heap.size, 10, none⟩)
            | 5 => v = .int .i64 (b.rub.1)
            | 6 => v = .int .i64 (m.hours * m.load)
            | 7 => v = .int .i64 (b.rub.1 * (m.hours * m.load))
            | 8 => v = .int .i64 (b.rub.1 * (m.hours * m.load) / 1000000)
            | 9 => v = .int .i64 (c.sore.1 + b.rub.1 * (m.hours * m.load) / 1000000)
            | 10 => v = .int .i64 ((soR b c m).1)
            | 11 => v = .pointer (some ⟨w.heap.size + 1, 4, none⟩)
            | 12 => v = .pointer (some ⟨w.heap.size + 1, 5, none⟩)
            | 13 => v = .int .i64 (c.sore.2)
            | 14 => v = .pointer (some ⟨w.heap.size, 10, none⟩)
            | 15 => v = .pointer (some ⟨w.heap.size, 11, none⟩)
            | 16 => v = .int .i64 (b.rub.2)
            | 17 => v = .int .i64 (m.hours * m.load)
            | 18 => v = .int .i64 (b.rub.2 * (m.hours * m.load))
            | 19 => v = .int .i64 ((b.rub.2 * (m.hours * m.load) + 1000000 - 1) / 1000000)
            | 20 => v = .int .i64 (c.sore.2 + (b.rub.2 * (m.hours * m.load) + 1000000 - 1) / 1000000)
            | 21 => v = .int .i64 ((soR b c m).2)
            | 22 => v = .agg #[.int .i64 (soR b c m).1, .int .i64 (soR b c m).2]
            | 23 => v = .pointer (some ⟨W1.heap.size + 1 + 1, 4, none⟩)
            | _ => True) ⟨⟨?_, ?_⟩, ⟨?_, ?_⟩, ⟨?_, ?_⟩, ⟨?_, ?_⟩, ⟨?_, ?_⟩, ⟨?_, ?_⟩, ⟨?_, ?_⟩, ⟨?_, ?_⟩, ⟨?_, ?_⟩, ⟨?_, ?_⟩, ⟨?_, ?_⟩, ⟨?_, ?_⟩, ⟨?_, ?_⟩, ⟨?_, ?_⟩, ⟨?_, ?_⟩, ⟨?_, ?_⟩, ⟨?_, ?_⟩, ⟨?_, ?_⟩, ⟨?_, ?_⟩, ⟨?_, ?_⟩, ⟨?_, ?_⟩, ⟨?_, ?_⟩, ⟨?_, ?_⟩, ⟨?_, ?_⟩, ?_⟩
          · intro g h; cases h
          · intro b' W hE hb hdep K hK
            have e4 : b'.tmps[4]?.getD undef = .pointer (some ⟨w.heap.size + 1, 0, none⟩) := hb 4 (by decide)
            clear hdep hb
            go_wp2
            exact hK _ _ (XT.refl _ _) rfl
          · intro g h; cases h
          · intro b' W hE hb hdep K hK
            have e116 : b'.tmps[116]?.getD undef = .pointer (some ⟨w.heap.size + 1, 4, none⟩) := pureX (hdep 0 (some 116) (by kernel_rfl) rfl)
            clear hdep hb
            go_wp2
            exact hK _ _ (XT.refl _ _) rfl
          · intro g h; cases h
          · intro b' W hE hb hdep K hK
            have e117 : b'.tmps[117]?.getD undef = .pointer (some ⟨w.heap.size + 1, 4, none⟩) := pureX (hdep 1 (some 117) (by kernel_rfl) rfl)
            clear hdep hb
            obtain ⟨_, _, -, _⟩ := row_facts (hE.row ((rowOf_drew _ _).trans raW2) (by first | (simp; done) | (simp; omega)))
            obtain ⟨_, _, -, _⟩ := row_facts (hE.row ((rowOf_drew _ _).trans rbW2) (by first | (simp; done) | (simp; omega)))
            go_wp2
            exact hK _ _ (XT.refl _ _) rfl
          · intro g h; cases h
          · intro b' W hE hb hdep K hK
            have e3 : b'.tmps[3]?.getD undef = .pointer (some ⟨w.heap.size, 0, none⟩) := hb 3 (by decide)
            clear hdep hb
            go_wp2
            exact hK _ _ (XT.refl _ _) rfl
          · intro g h; cases h
          · intro b' W hE hb hdep K hK
            have e119 : b'.tmps[119]?.getD undef = .pointer (some ⟨w.heap.size, 10, none⟩) := pureX (hdep 3 (some 119) (by kernel_rfl) rfl)
            clear hdep hb
            go_wp2
            exact hK _ _ (XT.refl _ _) rfl
          · intro g h; cases h
          · intro b' W hE hb hdep K hK
            have e120 : b'.tmps[120]?.getD undef = .pointer (some ⟨w.heap.size, 10, none⟩) := pureX (hdep 4 (some 120) (by kernel_rfl) rfl)
            clear hdep hb
            obtain ⟨_, _, -, _⟩ := row_facts (hE.row ((rowOf_drew _ _).trans raW2) (by first | (simp; done) | (simp; omega)))
            obtain ⟨_, _, -, _⟩ := row_facts (hE.row ((rowOf_drew _ _).trans rbW2) (by first | (simp; done) | (simp; omega)))
            go_wp2
            exact hK _ _ (XT.refl _ _) rfl
          · intro g h; cases h
          · intro b' W hE hb hdep K hK
            have e12 : b'.tmps[12]?.getD undef = .int .i64 (m.hours * m.load) := hb 12 (by decide)
            clear hdep hb
            go_wp2
            exact hK _ _ (XT.refl _ _) rfl
          · intro g h; cases h
          · intro b' W hE hb hdep K hK
            have e121 : b'.tmps[121]?.getD undef = .int .i64 (b.rub.1) := pureX (hdep 5 (some 121) (by kernel_rfl) rfl)
            have e122 : b'.tmps[122]?.getD undef = .int .i64 (m.hours * m.load) := pureX (hdep 6 (some 122) (by kernel_rfl) rfl)
            clear hdep hb
            go_wp2
            exact hK _ _ (XT.refl _ _) rfl
          · intro g h; cases h
          · intro b' W hE hb hdep K hK
            have e123 : b'.tmps[123]?.getD undef = .int .i64 (b.rub.1 * (m.hours * m.load)) := pureX (hdep 7 (some 123) (by kernel_rfl) rfl)
            clear hdep hb
            go_wp2
            exact hK _ _ (XT.refl _ _) rfl
          · intro g h; cases h
          · intro b' W hE hb hdep K hK
            have e118 : b'.tmps[118]?.getD undef = .int .i64 (c.sore.1) := pureX (hdep 2 (some 118) (by kernel_rfl) rfl)
            have e124 : b'.tmps[124]?.getD undef = .int .i64 (b.rub.1 * (m.hours * m.load) / 1000000) := pureX (hdep 8 (some 124) (by kernel_rfl) rfl)
            clear hdep hb
            go_wp2
            exact hK _ _ (XT.refl _ _) rfl
          · intro g h; cases h
          · intro b' W hE hb hdep K hK
            have e125 : b'.tmps[125]?.getD undef = .int .i64 (c.sore.1 + b.rub.1 * (m.hours * m.load) / 1000000) := pureX (hdep 9 (some 125) (by kernel_rfl) rfl)
            clear hdep hb
            go_wp2
            exact hK _ _ (XT.refl _ _) rfl
          · intro g h; cases h
          · intro b' W hE hb hdep K hK
            have e4 : b'.tmps[4]?.getD undef = .pointer (some ⟨w.heap.size + 1, 0, none⟩) := hb 4 (by decide)
            clear hdep hb
            go_wp2
            exact hK _ _ (XT.refl _ _) rfl
          · intro g h; cases h
          · intro b' W hE hb hdep K hK
            have e127 : b'.tmps[127]?.getD undef = .pointer (some ⟨w.heap.size + 1, 4, none⟩) := pureX (hdep 11 (some 127) (by kernel_rfl) rfl)
            clear hdep hb
            go_wp2
            exact hK _ _ (XT.refl _ _) rfl
          · intro g h; cases h
          · intro b' W hE hb hdep K hK
            have e128 : b'.tmps[128]?.getD undef = .pointer (some ⟨w.heap.size + 1, 5, none⟩) := pureX (hdep 12 (some 128) (by kernel_rfl) rfl)
            clear hdep hb
            obtain ⟨_, _, -, _⟩ := row_facts (hE.row ((rowOf_drew _ _).trans raW2) (by first | (simp; done) | (simp; omega)))
            obtain ⟨_, _, -, _⟩ := row_facts (hE.row ((rowOf_drew _ _).trans rbW2) (by first | (simp; done) | (simp; omega)))
            go_wp2
            exact hK _ _ (XT.refl _ _) rfl
          · intro g h; cases h
          · intro b' W hE hb hdep K hK
            have e3 : b'.tmps[3]?.getD undef = .pointer (some ⟨w.heap.size, 0, none⟩) := hb 3 (by decide)
            clear hdep hb
            go_wp2
            exact hK _ _ (XT.refl _ _) rfl
          · intro g h; cases h
          · intro b' W hE hb hdep K hK
            have e130 : b'.tmps[130]?.getD undef = .pointer (some ⟨w.heap.size, 10, none⟩) := pureX (hdep 14 (some 130) (by kernel_rfl) rfl)
            clear hdep hb
            go_wp2
            exact hK _ _ (XT.refl _ _) rfl
          · intro g h; cases h
          · intro b' W hE hb hdep K hK
            have e131 : b'.tmps[131]?.getD undef = .pointer (some ⟨w.heap.size, 11, none⟩) := pureX (hdep 15 (some 131) (by kernel_rfl) rfl)
            clear hdep hb
            obtain ⟨_, _, -, _⟩ := row_facts (hE.row ((rowOf_drew _ _).trans raW2) (by first | (simp; done) | (simp; omega)))
            obtain ⟨_, _, -, _⟩ := row_facts (hE.row ((rowOf_drew _ _).trans rbW2) (by first | (simp; done) | (simp; omega)))
            go_wp2
            exact hK _ _ (XT.refl _ _) rfl
          · intro g h; cases h
          · intro b' W hE hb hdep K hK
            have e12 : b'.tmps[12]?.getD undef = .int .i64 (m.hours * m.load) := hb 12 (by decide)
            clear hdep hb
            go_wp2
            exact hK _ _ (XT.refl _ _) rfl
          · intro g h; cases h
          · intro b' W hE hb hdep K hK
            have e132 : b'.tmps[132]?.getD undef = .int .i64 (b.rub.2) := pureX (hdep 16 (some 132) (by kernel_rfl) rfl)
            have e133 : b'.tmps[133]?.getD undef = .int .i64 (m.hours * m.load) := pureX (hdep 17 (some 133) (by kernel_rfl) rfl)
            clear hdep hb
            go_wp2
            exact hK _ _ (XT.refl _ _) rfl
          · intro g h; cases h
          · intro b' W hE hb hdep K hK
            have e134 : b'.tmps[134]?.getD undef = .int .i64 (b.rub.2 * (m.hours * m.load)) := pureX (hdep 18 (some 134) (by kernel_rfl) rfl)
            clear hdep hb
            go_wp2_with fail
            refine (up_any _ _ _ (by omega) (by omega) (by omega) (by omega)).mono ?_
            rintro e W' ⟨rfl, hB⟩
            exact hK _ _ (Ext.xt hB) rfl
          · intro g h; cases h
          · intro b' W hE hb hdep K hK
            have e129 : b'.tmps[129]?.getD undef = .int .i64 (c.sore.2) := pureX (hdep 13 (some 129) (by kernel_rfl) rfl)
            have e135 : b'.tmps[135]?.getD undef = .int .i64 ((b.rub.2 * (m.hours * m.load) + 1000000 - 1) / 1000000) := pureX (hdep 19 (some 135) (by kernel_rfl) rfl)
            clear hdep hb
            go_wp2
            exact hK _ _ (XT.refl _ _) rfl
          · intro g h; cases h
          · intro b' W hE hb hdep K hK
            have e136 : b'.tmps[136]?.getD undef = .int .i64 (c.sore.2 + (b.rub.2 * (m.hours * m.load) + 1000000 - 1) / 1000000) := pureX (hdep 20 (some 136) (by kernel_rfl) rfl)
            clear hdep hb
            go_wp2
            exact hK _ _ (XT.refl _ _) rfl
          · intro g h; cases h
          · intro b' W hE hb hdep K hK
            have e126 : b'.tmps[126]?.getD undef = .int .i64 ((soR b c m).1) := pureX (hdep 10 (some 126) (by kernel_rfl) rfl)
            have e137 : b'.tmps[137]?.getD undef = .int .i64 ((soR b c m).2) := pureX (hdep 21 (some 137) (by kernel_rfl) rfl)
            clear hdep hb
            go_wp2
            exact hK _ _ (XT.refl _ _) rfl
          · intro g h; cases h
          · intro b' W hE hb hdep K hK
            have e11 : b'.tmps[11]?.getD undef = .pointer (some ⟨W1.heap.size + 1 + 1, 0, none⟩) := hb 11 (by decide)
            clear hdep hb
            go_wp2
            exact hK _ _ (XT.refl _ _) rfl
          intro f W hE hR
          have e116 : f 116 = .pointer (some ⟨w.heap.size + 1, 4, none⟩) := pureX (hR 0 (some 116) rfl)
          have e117 : f 117 = .pointer (some ⟨w.heap.size + 1, 4, none⟩) := pureX (hR 1 (some 117) rfl)
          have e118 : f 118 = .int .i64 (c.sore.1) := pureX (hR 2 (some 118) rfl)
          have e119 : f 119 = .pointer (some ⟨w.heap.size, 10, none⟩) := pureX (hR 3 (some 119) rfl)
          have e120 : f 120 = .pointer (some ⟨w.heap.size, 10, none⟩) := pureX (hR 4 (some 120) rfl)
          have e121 : f 121 = .int .i64 (b.rub.1) := pureX (hR 5 (some 121) rfl)
          have e122 : f 122 = .int .i64 (m.hours * m.load) := pureX (hR 6 (some 122) rfl)
          have e123 : f 123 = .int .i64 (b.rub.1 * (m.hours * m.load)) := pureX (hR 7 (some 123) rfl)
          have e124 : f 124 = .int .i64 (b.rub.1 * (m.hours * m.load) / 1000000) := pureX (hR 8 (some 124) rfl)
          have e125 : f 125 = .int .i64 (c.sore.1 + b.rub.1 * (m.hours * m.load) / 1000000) := pureX (hR 9 (some 125) rfl)
          have e126 : f 126 = .int .i64 ((soR b c m).1) := pureX (hR 10 (some 126) rfl)
          have e127 : f 127 = .pointer (some ⟨w.heap.size + 1, 4, none⟩) := pureX (hR 11 (some 127) rfl)
          have e128 : f 128 = .pointer (some ⟨w.heap.size + 1, 5, none⟩) := pureX (hR 12 (some 128) rfl)
          have e129 : f 129 = .int .i64 (c.sore.2) := pureX (hR 13 (some 129) rfl)
          have e130 : f 130 = .pointer (some ⟨w.heap.size, 10, none⟩) := pureX (hR 14 (some 130) rfl)
          have e131 : f 131 = .pointer (some ⟨w.heap.size, 11, none⟩) := pureX (hR 15 (some 131) rfl)
          have e132 : f 132 = .int .i64 (b.rub.2) := pureX (hR 16 (some 132) rfl)
          have e133 : f 133 = .int .i64 (m.hours * m.load) := pureX (hR 17 (some 133) rfl)
          have e134 : f 134 = .int .i64 (b.rub.2 * (m.hours * m.load)) := pureX (hR 18 (some 134) rfl)
          have e135 : f 135 = .int .i64 ((b.rub.2 * (m.hours * m.load) + 1000000 - 1) / 1000000) := pureX (hR 19 (some 135) rfl)
          have e136 : f 136 = .int .i64 (c.sore.2 + (b.rub.2 * (m.hours * m.load) + 1000000 - 1) / 1000000) := pureX (hR 20 (some 136) rfl)
          have e137 : f 137 = .int .i64 ((soR b c m).2) := pureX (hR 21 (some 137) rfl)
          have e138 : f 138 = .agg #[.int .i64 (soR b c m).1, .int .i64 (soR b c m).2] := pureX (hR 22 (some 138) rfl)
          have e139 : f 139 = .pointer (some ⟨W1.heap.size + 1 + 1, 4, none⟩) := pureX (hR 23 (some 139) rfl)
          clear hR
          have hw : Below w.heap.size w W := hE.below hW2.drew zW2 (by simp)
          have raW := hE.row ((rowOf_drew _ _).trans raW2) (by simp)
          have rbW := hE.row ((rowOf_drew _ _).trans rbW2) (by simp)
          have rcW := hE.row ((rowOf_drew _ _).trans rcW2) (by simp)
          have rdW := hE.row ((rowOf_drew _ _).trans rdW2) (by simp)
          refine wpL_store_part rfl 31 (.tmp 139) (.tmp 138) rfl (h := W1.heap.size + 1 + 1) (off := 4) ((puts_eval (by decide) rfl).trans e138) ((puts_eval (by decide) rfl).trans e139) (hE.row ((rowOf_drew _ _).trans rtW2) (by simp)) info31 (by simp) (by simp [one_int]) ?_
          intro W6 hS
          have hW6 : Below w.heap.size w W6 := hw.trans (hS.below _ (by omega))
          have rtW6 : rowOf W6 (W1.heap.size + 1 + 1) = some #[.int .i64 (waR b.full c.water (waS b c.milks m) m.drinks).1, .int .i64 (waR b.full c.water (waS b c.milks m) m.drinks).2, .int .i64 (waR b.fed c.fat (faS b m) m.grass).1, .int .i64 (waR b.fed c.fat (faS b m) m.grass).2, .int .i64 (soR b c m).1, .int .i64 (soR b c m).2, .bool c.milks] := hS.row
          obtain ⟨raW6, caW6, gaW6, zaW6⟩ := row_facts (hS.keeps (g := w.heap.size) (by omega) raW)
          obtain ⟨rcW6, ccW6, gcW6, zcW6⟩ := row_facts (hS.keeps (g := w.heap.size + 1 + 1) (by omega) rcW)
          obtain ⟨rbW6, cbW6, gbW6, zbW6⟩ := row_facts (hS.keeps (g := w.heap.size + 1) (by omega) rbW)
          obtain ⟨rdW6, cdW6, gdW6, zdW6⟩ := row_facts (hS.keeps (g := w.heap.size + 1 + 1 + 1) (by omega) rdW)
          clear hS hE hw raW rbW rcW rdW raW2 rbW2 rcW2 rdW2 rtW2
          simp only [List.filterMap_cons, List.filterMap_nil, id, puts, Act.put, List.setIfInBounds_toArray, List.set_cons_succ, List.set_cons_zero, e116, e117, e118, e119, e120, e121, e122, e123, e124, e125, e126, e127, e128, e129, e130, e131, e132, e133, e134, e135, e136, e137, e138, e139]
          by_cases hh : m.hours = 0
          · have H3 := Lib.hid (show (heR b c) = soreS b c m from heR_eq HB.out HC.out hh)
            have hq := fun vs g => rowOf_setRow rtW6 vs g
            go_wp2
            exact bodyPost_ret (results39_2 Try.results75 rfl (cs := #[.int .i64 (waR b.full c.water (waS b c.milks m) m.drinks).1, .int .i64 (waR b.full c.water (waS b c.milks m) m.drinks).2, .int .i64 (waR b.fed c.fat (faS b m) m.grass).1, .int .i64 (waR b.fed c.fat (faS b m) m.grass).2, .int .i64 (heR b c).1, .int .i64 (heR b c).2, .bool c.milks]) (stored_setRow ((stored_setRow rtW6 _).keeps (by omega) rdW6) _).row rfl (v := .int .i64 0) rfl) rfl ⟨by rw [H1.out, H2.out, H4.out, eveC, ← H3.out, HR1.out, HR2.out], Below_setRow (Below_setRow hW6 (by omega) _) (by omega) _⟩
          · have H3 := Lib.hid (show (soR b c m) = soreS b c m from soR_eq HB.out HC.out HM.out hh)
            go_wp2
            exact bodyPost_ret (results39_2 Try.results75 rfl (cs := #[.int .i64 (waR b.full c.water (waS b c.milks m) m.drinks).1, .int .i64 (waR b.full c.water (waS b c.milks m) m.drinks).2, .int .i64 (waR b.fed c.fat (faS b m) m.grass).1, .int .i64 (waR b.fed c.fat (faS b m) m.grass).2, .int .i64 (soR b c m).1, .int .i64 (soR b c m).2, .bool c.milks]) (stored_setRow (rdW6) _).row rfl (v := .int .i64 0) rfl) rfl ⟨by rw [H1.out, H2.out, H4.out, eveC, ← H3.out, HR1.out, HR2.out], Below_setRow hW6 (by omega) _⟩
        · have H4 := Lib.hid (show (if openS b c m = true then (1 : Int) else 0) = 1 by simp only [openS, Bool.or_eq_true, decide_eq_true_eq]; split <;> omega)
          go_wp2_with fail
          have hW2 : Below w.heap.size w (((W1.alloc (.cells #[.int .i64 (waS b c.milks m).1, .int .i64 (waS b c.milks m).2] 31)).alloc (.cells #[.int .i64 (faS b m).1, .int .i64 (faS b m).2] 31)).alloc (.cells #[.int .i64 (waR b.full c.water (waS b c.milks m) m.drinks).1, .int .i64 (waR b.full c.water (waS b c.milks m) m.drinks).2, .int .i64 (waR b.fed c.fat (faS b m) m.grass).1, .int .i64 (waR b.fed c.fat (faS b m) m.grass).2, .int .i64 0, .int .i64 0, .bool c.milks] 39)) := by go_grown
          have raW2 : rowOf (((W1.alloc (.cells #[.int .i64 (waS b c.milks m).1, .int .i64 (waS b c.milks m).2] 31)).alloc (.cells #[.int .i64 (faS b m).1, .int .i64 (faS b m).2] 31)).alloc (.cells #[.int .i64 (waR b.full c.water (waS b c.milks m) m.drinks).1, .int .i64 (waR b.full c.water (waS b c.milks m) m.drinks).2, .int .i64 (waR b.fed c.fat (faS b m) m.grass).1, .int .i64 (waR b.fed c.fat (faS b m) m.grass).2, .int .i64 0, .int .i64 0, .bool c.milks] 39)) (w.heap.size) = some #[.int .i64 b.full, .int .i64 b.fed, .int .i64 b.rest.1, .int .i64 b.rest.2, .int .i64 b.heat.1, .int .i64 b.heat.2, .int .i64 b.toil.1, .int .i64 b.toil.2, .int .i64 b.burn.1, .int .i64 b.burn.2, .int .i64 b.rub.1, .int .i64 b.rub.2, .int .i64 b.milk.1, .int .i64 b.milk.2, .int .i64 b.heal, .int .i64 b.strong.1, .int .i64 b.strong.2] := rowSkip (rowSkip (rowSkip raW1))
          have rbW2 : rowOf (((W1.alloc (.cells #[.int .i64 (waS b c.milks m).1, .int .i64 (waS b c.milks m).2] 31)).alloc (.cells #[.int .i64 (faS b m).1, .int .i64 (faS b m).2] 31)).alloc (.cells #[.int .i64 (waR b.full c.water (waS b c.milks m) m.drinks).1, .int .i64 (waR b.full c.water (waS b c.milks m) m.drinks).2, .int .i64 (waR b.fed c.fat (faS b m) m.grass).1, .int .i64 (waR b.fed c.fat (faS b m) m.grass).2, .int .i64 0, .int .i64 0, .bool c.milks] 39)) (w.heap.size + 1) = some #[.int .i64 c.water.1, .int .i64 c.water.2, .int .i64 c.fat.1, .int .i64 c.fat.2, .int .i64 c.sore.1, .int .i64 c.sore.2, .bool c.milks] := rowSkip (rowSkip (rowSkip rbW1))
          have rcW2 : rowOf (((W1.alloc (.cells #[.int .i64 (waS b c.milks m).1, .int .i64 (waS b c.milks m).2] 31)).alloc (.cells #[.int .i64 (faS b m).1, .int .i64 (faS b m).2] 31)).alloc (.cells #[.int .i64 (waR b.full c.water (waS b c.milks m) m.drinks).1, .int .i64 (waR b.full c.water (waS b c.milks m) m.drinks).2, .int .i64 (waR b.fed c.fat (faS b m) m.grass).1, .int .i64 (waR b.fed c.fat (faS b m) m.grass).2, .int .i64 0, .int .i64 0, .bool c.milks] 39)) (w.heap.size + 1 + 1) = some #[.int .i64 m.hours, .int .i64 m.load, .int .i64 m.heat.1, .int .i64 m.heat.2, .int .i64 m.grass.1, .int .i64 m.grass.2, .int .i64 m.drinks.1, .int .i64 m.drinks.2] := rowSkip (rowSkip (rowSkip rcW1))
          have rdW2 : rowOf (((W1.alloc (.cells #[.int .i64 (waS b c.milks m).1, .int .i64 (waS b c.milks m).2] 31)).alloc (.cells #[.int .i64 (faS b m).1, .int .i64 (faS b m).2] 31)).alloc (.cells #[.int .i64 (waR b.full c.water (waS b c.milks m) m.drinks).1, .int .i64 (waR b.full c.water (waS b c.milks m) m.drinks).2, .int .i64 (waR b.fed c.fat (faS b m) m.grass).1, .int .i64 (waR b.fed c.fat (faS b m) m.grass).2, .int .i64 0, .int .i64 0, .bool c.milks] 39)) (w.heap.size + 1 + 1 + 1) = some #[.int .i64 0, .int .i64 0, .int .i64 0, .int .i64 0, .int .i64 0, .int .i64 0, .bool false] := rowSkip (rowSkip (rowSkip rdW1))
          have rtW2 : rowOf (((W1.alloc (.cells #[.int .i64 (waS b c.milks m).1, .int .i64 (waS b c.milks m).2] 31)).alloc (.cells #[.int .i64 (faS b m).1, .int .i64 (faS b m).2] 31)).alloc (.cells #[.int .i64 (waR b.full c.water (waS b c.milks m) m.drinks).1, .int .i64 (waR b.full c.water (waS b c.milks m) m.drinks).2, .int .i64 (waR b.fed c.fat (faS b m) m.grass).1, .int .i64 (waR b.fed c.fat (faS b m) m.grass).2, .int .i64 0, .int .i64 0, .bool c.milks] 39)) (W1.heap.size + 1 + 1) = some #[.int .i64 (waR b.full c.water (waS b c.milks m) m.drinks).1, .int .i64 (waR b.full c.water (waS b c.milks m) m.drinks).2, .int .i64 (waR b.fed c.fat (faS b m) m.grass).1, .int .i64 (waR b.fed c.fat (faS b m) m.grass).2, .int .i64 0, .int .i64 0, .bool c.milks] := row_here2 _ _ _ _ _
          have zW2 := hW2.size
          change Code.wp _ _ _ _ (((W1.alloc (.cells #[.int .i64 (waS b c.milks m).1, .int .i64 (waS b c.milks m).2] 31)).alloc (.cells #[.int .i64 (faS b m).1, .int .i64 (faS b m).2] 31)).alloc (.cells #[.int .i64 (waR b.full c.water (waS b c.milks m) m.drinks).1, .int .i64 (waR b.full c.water (waS b c.milks m) m.drinks).2, .int .i64 (waR b.fed c.fat (faS b m) m.grass).1, .int .i64 (waR b.fed c.fat (faS b m) m.grass).2, .int .i64 0, .int .i64 0, .bool c.milks] 39))
          generalize (((W1.alloc (.cells #[.int .i64 (waS b c.milks m).1, .int .i64 (waS b c.milks m).2] 31)).alloc (.cells #[.int .i64 (faS b m).1, .int .i64 (faS b m).2] 31)).alloc (.cells #[.int .i64 (waR b.full c.water (waS b c.milks m) m.drinks).1, .int .i64 (waR b.full c.water (waS b c.milks m) m.drinks).2, .int .i64 (waR b.fed c.fat (faS b m) m.grass).1, .int .i64 (waR b.fed c.fat (faS b m) m.grass).2, .int .i64 0, .int .i64 0, .bool c.milks] 39)) = W2 at hW2 raW2 rbW2 rcW2 rdW2 rtW2 zW2 ⊢
          clear raW1 caW1 gaW1 rbW1 cbW1 gbW1 rcW1 ccW1 gcW1 rdW1 cdW1 gdW1 kaW1 kbW1 kcW1
          refine wp_draws (by kernel_rfl) [] [some 116, some 117, some 118, some 119, some 120, some 121, some 122, some 123, some 124, some 125, some 126, some 127, some 128, some 129, some 130, some 131, some 132, some 133, some 134, some 135, some 136, some 137, some 138, some 139] (by kernel_rfl) (fun ix v W => match ix with
            | 0 => v = .pointer (some ⟨w.heap.size + 1, 4, none⟩)
            | 1 => v = .pointer (some ⟨w.heap.size + 1, 4, none⟩)
            | 2 => v = .int .i64 (c.sore.1)
            | 3 => v = .pointer (some ⟨w.heap.size, 10, none⟩)
            | 4 => v = .pointer (some ⟨w.heap.size, 10, none⟩)
            | 5 => v = .int .i64 (b.rub.1)
            | 6 => v = .int .i64 (m.hours * m.load)
            | 7 => v = .int .i64 (b.rub.1 * (m.hours * m.load))
            | 8 => v = .int .i64 (b.rub.1 * (m.hours * m.load) / 1000000)
            | 9 => v = .int .i64 (c.sore.1 + b.rub.1 * (m.hours * m.load) / 1000000)
            | 10 => v = .int .i64 ((soR b c m).1)
            | 11 => v = .pointer (some ⟨w.heap.size + 1, 4, none⟩)
            | 12 => v = .pointer (some ⟨w.heap.size + 1, 5, none⟩)
            | 13 => v = .int .i64 (c.sore.2)
            | 14 => v = .pointer (some ⟨w.heap.size, 10, none⟩)
            | 15 => v = .pointer (some ⟨w.heap.size, 11, none⟩)
            | 16 => v = .int .i64 (b.rub.2)
            | 17 => v = .int .i64 (m.hours * m.load)
            | 18 => v = .int .i64 (b.rub.2 * (m.hours * m.load))
            | 19 => v = .int .i64 ((b.rub.2 * (m.hours * m.load) + 1000000 - 1) / 1000000)
            | 20 => v = .int .i64 (c.sore.2 + (b.rub.2 * (m.hours * m.load) + 1000000 - 1) / 1000000)
            | 21 => v = .int .i64 ((soR b c m).2)
            | 22 => v = .agg #[.int .i64 (soR b c m).1, .int .i64 (soR b c m).2]
            | 23 => v = .pointer (some ⟨W1.heap.size + 1 + 1, 4, none⟩)
            | _ => True) ⟨⟨?_, ?_⟩, ⟨?_, ?_⟩, ⟨?_, ?_⟩, ⟨?_, ?_⟩, ⟨?_, ?_⟩, ⟨?_, ?_⟩, ⟨?_, ?_⟩, ⟨?_, ?_⟩, ⟨?_, ?_⟩, ⟨?_, ?_⟩, ⟨?_, ?_⟩, ⟨?_, ?_⟩, ⟨?_, ?_⟩, ⟨?_, ?_⟩, ⟨?_, ?_⟩, ⟨?_, ?_⟩, ⟨?_, ?_⟩, ⟨?_, ?_⟩, ⟨?_, ?_⟩, ⟨?_, ?_⟩, ⟨?_, ?_⟩, ⟨?_, ?_⟩, ⟨?_, ?_⟩, ⟨?_, ?_⟩, ?_⟩
          · intro g h; cases h
          · intro b' W hE hb hdep K hK
            have e4 : b'.tmps[4]?.getD undef = .pointer (some ⟨w.heap.size + 1, 0, none⟩) := hb 4 (by decide)
            clear hdep hb
            go_wp2
            exact hK _ _ (XT.refl _ _) rfl
          · intro g h; cases h
          · intro b' W hE hb hdep K hK
            have e116 : b'.tmps[116]?.getD undef = .pointer (some ⟨w.heap.size + 1, 4, none⟩) := pureX (hdep 0 (some 116) (by kernel_rfl) rfl)
            clear hdep hb
            go_wp2
            exact hK _ _ (XT.refl _ _) rfl
          · intro g h; cases h
          · intro b' W hE hb hdep K hK
            have e117 : b'.tmps[117]?.getD undef = .pointer (some ⟨w.heap.size + 1, 4, none⟩) := pureX (hdep 1 (some 117) (by kernel_rfl) rfl)
            clear hdep hb
            obtain ⟨_, _, -, _⟩ := row_facts (hE.row ((rowOf_drew _ _).trans raW2) (by first | (simp; done) | (simp; omega)))
            obtain ⟨_, _, -, _⟩ := row_facts (hE.row ((rowOf_drew _ _).trans rbW2) (by first | (simp; done) | (simp; omega)))
            go_wp2
            exact hK _ _ (XT.refl _ _) rfl
          · intro g h; cases h
          · intro b' W hE hb hdep K hK
            have e3 : b'.tmps[3]?.getD undef = .pointer (some ⟨w.heap.size, 0, none⟩) := hb 3 (by decide)
            clear hdep hb
            go_wp2
            exact hK _ _ (XT.refl _ _) rfl
          · intro g h; cases h
          · intro b' W hE hb hdep K hK
            have e119 : b'.tmps[119]?.getD undef = .pointer (some ⟨w.heap.size, 10, none⟩) := pureX (hdep 3 (some 119) (by kernel_rfl) rfl)
            clear hdep hb
            go_wp2
            exact hK _ _ (XT.refl _ _) rfl
          · intro g h; cases h
          · intro b' W hE hb hdep K hK
            have e120 : b'.tmps[120]?.getD undef = .pointer (some ⟨w.heap.size, 10, none⟩) := pureX (hdep 4 (some 120) (by kernel_rfl) rfl)
            clear hdep hb
            obtain ⟨_, _, -, _⟩ := row_facts (hE.row ((rowOf_drew _ _).trans raW2) (by first | (simp; done) | (simp; omega)))
            obtain ⟨_, _, -, _⟩ := row_facts (hE.row ((rowOf_drew _ _).trans rbW2) (by first | (simp; done) | (simp; omega)))
            go_wp2
            exact hK _ _ (XT.refl _ _) rfl
          · intro g h; cases h
          · intro b' W hE hb hdep K hK
            have e12 : b'.tmps[12]?.getD undef = .int .i64 (m.hours * m.load) := hb 12 (by decide)
            clear hdep hb
            go_wp2
            exact hK _ _ (XT.refl _ _) rfl
          · intro g h; cases h
          · intro b' W hE hb hdep K hK
            have e121 : b'.tmps[121]?.getD undef = .int .i64 (b.rub.1) := pureX (hdep 5 (some 121) (by kernel_rfl) rfl)
            have e122 : b'.tmps[122]?.getD undef = .int .i64 (m.hours * m.load) := pureX (hdep 6 (some 122) (by kernel_rfl) rfl)
            clear hdep hb
            go_wp2
            exact hK _ _ (XT.refl _ _) rfl
          · intro g h; cases h
          · intro b' W hE hb hdep K hK
            have e123 : b'.tmps[123]?.getD undef = .int .i64 (b.rub.1 * (m.hours * m.load)) := pureX (hdep 7 (some 123) (by kernel_rfl) rfl)
            clear hdep hb
            go_wp2
            exact hK _ _ (XT.refl _ _) rfl
          · intro g h; cases h
          · intro b' W hE hb hdep K hK
            have e118 : b'.tmps[118]?.getD undef = .int .i64 (c.sore.1) := pureX (hdep 2 (some 118) (by kernel_rfl) rfl)
            have e124 : b'.tmps[124]?.getD undef = .int .i64 (b.rub.1 * (m.hours * m.load) / 1000000) := pureX (hdep 8 (some 124) (by kernel_rfl) rfl)
            clear hdep hb
            go_wp2
            exact hK _ _ (XT.refl _ _) rfl
          · intro g h; cases h
          · intro b' W hE hb hdep K hK
            have e125 : b'.tmps[125]?.getD undef = .int .i64 (c.sore.1 + b.rub.1 * (m.hours * m.load) / 1000000) := pureX (hdep 9 (some 125) (by kernel_rfl) rfl)
            clear hdep hb
            go_wp2
            exact hK _ _ (XT.refl _ _) rfl
          · intro g h; cases h
          · intro b' W hE hb hdep K hK
            have e4 : b'.tmps[4]?.getD undef = .pointer (some ⟨w.heap.size + 1, 0, none⟩) := hb 4 (by decide)
            clear hdep hb
            go_wp2
            exact hK _ _ (XT.refl _ _) rfl
          · intro g h; cases h
          · intro b' W hE hb hdep K hK
            have e127 : b'.tmps[127]?.getD undef = .pointer (some ⟨w.heap.size + 1, 4, none⟩) := pureX (hdep 11 (some 127) (by kernel_rfl) rfl)
            clear hdep hb
            go_wp2
            exact hK _ _ (XT.refl _ _) rfl
          · intro g h; cases h
          · intro b' W hE hb hdep K hK
            have e128 : b'.tmps[128]?.getD undef = .pointer (some ⟨w.heap.size + 1, 5, none⟩) := pureX (hdep 12 (some 128) (by kernel_rfl) rfl)
            clear hdep hb
            obtain ⟨_, _, -, _⟩ := row_facts (hE.row ((rowOf_drew _ _).trans raW2) (by first | (simp; done) | (simp; omega)))
            obtain ⟨_, _, -, _⟩ := row_facts (hE.row ((rowOf_drew _ _).trans rbW2) (by first | (simp; done) | (simp; omega)))
            go_wp2
            exact hK _ _ (XT.refl _ _) rfl
          · intro g h; cases h
          · intro b' W hE hb hdep K hK
            have e3 : b'.tmps[3]?.getD undef = .pointer (some ⟨w.heap.size, 0, none⟩) := hb 3 (by decide)
            clear hdep hb
            go_wp2
            exact hK _ _ (XT.refl _ _) rfl
          · intro g h; cases h
          · intro b' W hE hb hdep K hK
            have e130 : b'.tmps[130]?.getD undef = .pointer (some ⟨w.heap.size, 10, none⟩) := pureX (hdep 14 (some 130) (by kernel_rfl) rfl)
            clear hdep hb
            go_wp2
            exact hK _ _ (XT.refl _ _) rfl
          · intro g h; cases h
          · intro b' W hE hb hdep K hK
            have e131 : b'.tmps[131]?.getD undef = .pointer (some ⟨w.heap.size, 11, none⟩) := pureX (hdep 15 (some 131) (by kernel_rfl) rfl)
            clear hdep hb
            obtain ⟨_, _, -, _⟩ := row_facts (hE.row ((rowOf_drew _ _).trans raW2) (by first | (simp; done) | (simp; omega)))
            obtain ⟨_, _, -, _⟩ := row_facts (hE.row ((rowOf_drew _ _).trans rbW2) (by first | (simp; done) | (simp; omega)))
            go_wp2
            exact hK _ _ (XT.refl _ _) rfl
          · intro g h; cases h
          · intro b' W hE hb hdep K hK
            have e12 : b'.tmps[12]?.getD undef = .int .i64 (m.hours * m.load) := hb 12 (by decide)
            clear hdep hb
            go_wp2
            exact hK _ _ (XT.refl _ _) rfl
          · intro g h; cases h
          · intro b' W hE hb hdep K hK
            have e132 : b'.tmps[132]?.getD undef = .int .i64 (b.rub.2) := pureX (hdep 16 (some 132) (by kernel_rfl) rfl)
            have e133 : b'.tmps[133]?.getD undef = .int .i64 (m.hours * m.load) := pureX (hdep 17 (some 133) (by kernel_rfl) rfl)
            clear hdep hb
            go_wp2
            exact hK _ _ (XT.refl _ _) rfl
          · intro g h; cases h
          · intro b' W hE hb hdep K hK
            have e134 : b'.tmps[134]?.getD undef = .int .i64 (b.rub.2 * (m.hours * m.load)) := pureX (hdep 18 (some 134) (by kernel_rfl) rfl)
            clear hdep hb
            go_wp2_with fail
            refine (up_any _ _ _ (by omega) (by omega) (by omega) (by omega)).mono ?_
            rintro e W' ⟨rfl, hB⟩
            exact hK _ _ (Ext.xt hB) rfl
          · intro g h; cases h
          · intro b' W hE hb hdep K hK
            have e129 : b'.tmps[129]?.getD undef = .int .i64 (c.sore.2) := pureX (hdep 13 (some 129) (by kernel_rfl) rfl)
            have e135 : b'.tmps[135]?.getD undef = .int .i64 ((b.rub.2 * (m.hours * m.load) + 1000000 - 1) / 1000000) := pureX (hdep 19 (some 135) (by kernel_rfl) rfl)
            clear hdep hb
            go_wp2
            exact hK _ _ (XT.refl _ _) rfl
          · intro g h; cases h
          · intro b' W hE hb hdep K hK
            have e136 : b'.tmps[136]?.getD undef = .int .i64 (c.sore.2 + (b.rub.2 * (m.hours * m.load) + 1000000 - 1) / 1000000) := pureX (hdep 20 (some 136) (by kernel_rfl) rfl)
            clear hdep hb
            go_wp2
            exact hK _ _ (XT.refl _ _) rfl
          · intro g h; cases h
          · intro b' W hE hb hdep K hK
            have e126 : b'.tmps[126]?.getD undef = .int .i64 ((soR b c m).1) := pureX (hdep 10 (some 126) (by kernel_rfl) rfl)
            have e137 : b'.tmps[137]?.getD undef = .int .i64 ((soR b c m).2) := pureX (hdep 21 (some 137) (by kernel_rfl) rfl)
            clear hdep hb
            go_wp2
            exact hK _ _ (XT.refl _ _) rfl
          · intro g h; cases h
          · intro b' W hE hb hdep K hK
            have e11 : b'.tmps[11]?.getD undef = .pointer (some ⟨W1.heap.size + 1 + 1, 0, none⟩) := hb 11 (by decide)
            clear hdep hb
            go_wp2
            exact hK _ _ (XT.refl _ _) rfl
          intro f W hE hR
          have e116 : f 116 = .pointer (some ⟨w.heap.size + 1, 4, none⟩) := pureX (hR 0 (some 116) rfl)
          have e117 : f 117 = .pointer (some ⟨w.heap.size + 1, 4, none⟩) := pureX (hR 1 (some 117) rfl)
          have e118 : f 118 = .int .i64 (c.sore.1) := pureX (hR 2 (some 118) rfl)
          have e119 : f 119 = .pointer (some ⟨w.heap.size, 10, none⟩) := pureX (hR 3 (some 119) rfl)
          have e120 : f 120 = .pointer (some ⟨w.heap.size, 10, none⟩) := pureX (hR 4 (some 120) rfl)
          have e121 : f 121 = .int .i64 (b.rub.1) := pureX (hR 5 (some 121) rfl)
          have e122 : f 122 = .int .i64 (m.hours * m.load) := pureX (hR 6 (some 122) rfl)
          have e123 : f 123 = .int .i64 (b.rub.1 * (m.hours * m.load)) := pureX (hR 7 (some 123) rfl)
          have e124 : f 124 = .int .i64 (b.rub.1 * (m.hours * m.load) / 1000000) := pureX (hR 8 (some 124) rfl)
          have e125 : f 125 = .int .i64 (c.sore.1 + b.rub.1 * (m.hours * m.load) / 1000000) := pureX (hR 9 (some 125) rfl)
          have e126 : f 126 = .int .i64 ((soR b c m).1) := pureX (hR 10 (some 126) rfl)
          have e127 : f 127 = .pointer (some ⟨w.heap.size + 1, 4, none⟩) := pureX (hR 11 (some 127) rfl)
          have e128 : f 128 = .pointer (some ⟨w.heap.size + 1, 5, none⟩) := pureX (hR 12 (some 128) rfl)
          have e129 : f 129 = .int .i64 (c.sore.2) := pureX (hR 13 (some 129) rfl)
          have e130 : f 130 = .pointer (some ⟨w.heap.size, 10, none⟩) := pureX (hR 14 (some 130) rfl)
          have e131 : f 131 = .pointer (some ⟨w.heap.size, 11, none⟩) := pureX (hR 15 (some 131) rfl)
          have e132 : f 132 = .int .i64 (b.rub.2) := pureX (hR 16 (some 132) rfl)
          have e133 : f 133 = .int .i64 (m.hours * m.load) := pureX (hR 17 (some 133) rfl)
          have e134 : f 134 = .int .i64 (b.rub.2 * (m.hours * m.load)) := pureX (hR 18 (some 134) rfl)
          have e135 : f 135 = .int .i64 ((b.rub.2 * (m.hours * m.load) + 1000000 - 1) / 1000000) := pureX (hR 19 (some 135) rfl)
          have e136 : f 136 = .int .i64 (c.sore.2 + (b.rub.2 * (m.hours * m.load) + 1000000 - 1) / 1000000) := pureX (hR 20 (some 136) rfl)
          have e137 : f 137 = .int .i64 ((soR b c m).2) := pureX (hR 21 (some 137) rfl)
          have e138 : f 138 = .agg #[.int .i64 (soR b c m).1, .int .i64 (soR b c m).2] := pureX (hR 22 (some 138) rfl)
          have e139 : f 139 = .pointer (some ⟨W1.heap.size + 1 + 1, 4, none⟩) := pureX (hR 23 (some 139) rfl)
          clear hR
          have hw : Below w.heap.size w W := hE.below hW2.drew zW2 (by simp)
          have raW := hE.row ((rowOf_drew _ _).trans raW2) (by simp)
          have rbW := hE.row ((rowOf_drew _ _).trans rbW2) (by simp)
          have rcW := hE.row ((rowOf_drew _ _).trans rcW2) (by simp)
          have rdW := hE.row ((rowOf_drew _ _).trans rdW2) (by simp)
          refine wpL_store_part rfl 31 (.tmp 139) (.tmp 138) rfl (h := W1.heap.size + 1 + 1) (off := 4) ((puts_eval (by decide) rfl).trans e138) ((puts_eval (by decide) rfl).trans e139) (hE.row ((rowOf_drew _ _).trans rtW2) (by simp)) info31 (by simp) (by simp [one_int]) ?_
          intro W6 hS
          have hW6 : Below w.heap.size w W6 := hw.trans (hS.below _ (by omega))
          have rtW6 : rowOf W6 (W1.heap.size + 1 + 1) = some #[.int .i64 (waR b.full c.water (waS b c.milks m) m.drinks).1, .int .i64 (waR b.full c.water (waS b c.milks m) m.drinks).2, .int .i64 (waR b.fed c.fat (faS b m) m.grass).1, .int .i64 (waR b.fed c.fat (faS b m) m.grass).2, .int .i64 (soR b c m).1, .int .i64 (soR b c m).2, .bool c.milks] := hS.row
          obtain ⟨raW6, caW6, gaW6, zaW6⟩ := row_facts (hS.keeps (g := w.heap.size) (by omega) raW)
          obtain ⟨rcW6, ccW6, gcW6, zcW6⟩ := row_facts (hS.keeps (g := w.heap.size + 1 + 1) (by omega) rcW)
          obtain ⟨rbW6, cbW6, gbW6, zbW6⟩ := row_facts (hS.keeps (g := w.heap.size + 1) (by omega) rbW)
          obtain ⟨rdW6, cdW6, gdW6, zdW6⟩ := row_facts (hS.keeps (g := w.heap.size + 1 + 1 + 1) (by omega) rdW)
          clear hS hE hw raW rbW rcW rdW raW2 rbW2 rcW2 rdW2 rtW2
          simp only [List.filterMap_cons, List.filterMap_nil, id, puts, Act.put, List.setIfInBounds_toArray, List.set_cons_succ, List.set_cons_zero, e116, e117, e118, e119, e120, e121, e122, e123, e124, e125, e126, e127, e128, e129, e130, e131, e132, e133, e134, e135, e136, e137, e138, e139]
          by_cases hh : m.hours = 0
          · have H3 := Lib.hid (show (heR b c) = soreS b c m from heR_eq HB.out HC.out hh)
            have hq := fun vs g => rowOf_setRow rtW6 vs g
            go_wp2
            exact bodyPost_ret (results39_2 Try.results75 rfl (cs := #[.int .i64 (waR b.full c.water (waS b c.milks m) m.drinks).1, .int .i64 (waR b.full c.water (waS b c.milks m) m.drinks).2, .int .i64 (waR b.fed c.fat (faS b m) m.grass).1, .int .i64 (waR b.fed c.fat (faS b m) m.grass).2, .int .i64 (heR b c).1, .int .i64 (heR b c).2, .bool c.milks]) (stored_setRow ((stored_setRow rtW6 _).keeps (by omega) rdW6) _).row rfl (v := .int .i64 1) rfl) rfl ⟨by rw [H1.out, H2.out, H4.out, eveC, ← H3.out, HR1.out, HR2.out], Below_setRow (Below_setRow hW6 (by omega) _) (by omega) _⟩
          · have H3 := Lib.hid (show (soR b c m) = soreS b c m from soR_eq HB.out HC.out HM.out hh)
            go_wp2
            exact bodyPost_ret (results39_2 Try.results75 rfl (cs := #[.int .i64 (waR b.full c.water (waS b c.milks m) m.drinks).1, .int .i64 (waR b.full c.water (waS b c.milks m) m.drinks).2, .int .i64 (waR b.fed c.fat (faS b m) m.grass).1, .int .i64 (waR b.fed c.fat (faS b m) m.grass).2, .int .i64 (soR b c m).1, .int .i64 (soR b c m).2, .bool c.milks]) (stored_setRow (rdW6) _).row rfl (v := .int .i64 1) rfl) rfl ⟨by rw [H1.out, H2.out, H4.out, eveC, ← H3.out, HR1.out, HR2.out], Below_setRow hW6 (by omega) _⟩
      · have H4 := Lib.hid (show (if openS b c m = true then (1 : Int) else 0) = 1 by simp only [openS, Bool.or_eq_true, decide_eq_true_eq]; split <;> omega)
        go_wp2_with fail
        have hW2 : Below w.heap.size w (((W1.alloc (.cells #[.int .i64 (waS b c.milks m).1, .int .i64 (waS b c.milks m).2] 31)).alloc (.cells #[.int .i64 (faS b m).1, .int .i64 (faS b m).2] 31)).alloc (.cells #[.int .i64 (waR b.full c.water (waS b c.milks m) m.drinks).1, .int .i64 (waR b.full c.water (waS b c.milks m) m.drinks).2, .int .i64 (waR b.fed c.fat (faS b m) m.grass).1, .int .i64 (waR b.fed c.fat (faS b m) m.grass).2, .int .i64 0, .int .i64 0, .bool c.milks] 39)) := by go_grown
        have raW2 : rowOf (((W1.alloc (.cells #[.int .i64 (waS b c.milks m).1, .int .i64 (waS b c.milks m).2] 31)).alloc (.cells #[.int .i64 (faS b m).1, .int .i64 (faS b m).2] 31)).alloc (.cells #[.int .i64 (waR b.full c.water (waS b c.milks m) m.drinks).1, .int .i64 (waR b.full c.water (waS b c.milks m) m.drinks).2, .int .i64 (waR b.fed c.fat (faS b m) m.grass).1, .int .i64 (waR b.fed c.fat (faS b m) m.grass).2, .int .i64 0, .int .i64 0, .bool c.milks] 39)) (w.heap.size) = some #[.int .i64 b.full, .int .i64 b.fed, .int .i64 b.rest.1, .int .i64 b.rest.2, .int .i64 b.heat.1, .int .i64 b.heat.2, .int .i64 b.toil.1, .int .i64 b.toil.2, .int .i64 b.burn.1, .int .i64 b.burn.2, .int .i64 b.rub.1, .int .i64 b.rub.2, .int .i64 b.milk.1, .int .i64 b.milk.2, .int .i64 b.heal, .int .i64 b.strong.1, .int .i64 b.strong.2] := rowSkip (rowSkip (rowSkip raW1))
        have rbW2 : rowOf (((W1.alloc (.cells #[.int .i64 (waS b c.milks m).1, .int .i64 (waS b c.milks m).2] 31)).alloc (.cells #[.int .i64 (faS b m).1, .int .i64 (faS b m).2] 31)).alloc (.cells #[.int .i64 (waR b.full c.water (waS b c.milks m) m.drinks).1, .int .i64 (waR b.full c.water (waS b c.milks m) m.drinks).2, .int .i64 (waR b.fed c.fat (faS b m) m.grass).1, .int .i64 (waR b.fed c.fat (faS b m) m.grass).2, .int .i64 0, .int .i64 0, .bool c.milks] 39)) (w.heap.size + 1) = some #[.int .i64 c.water.1, .int .i64 c.water.2, .int .i64 c.fat.1, .int .i64 c.fat.2, .int .i64 c.sore.1, .int .i64 c.sore.2, .bool c.milks] := rowSkip (rowSkip (rowSkip rbW1))
        have rcW2 : rowOf (((W1.alloc (.cells #[.int .i64 (waS b c.milks m).1, .int .i64 (waS b c.milks m).2] 31)).alloc (.cells #[.int .i64 (faS b m).1, .int .i64 (faS b m).2] 31)).alloc (.cells #[.int .i64 (waR b.full c.water (waS b c.milks m) m.drinks).1, .int .i64 (waR b.full c.water (waS b c.milks m) m.drinks).2, .int .i64 (waR b.fed c.fat (faS b m) m.grass).1, .int .i64 (waR b.fed c.fat (faS b m) m.grass).2, .int .i64 0, .int .i64 0, .bool c.milks] 39)) (w.heap.size + 1 + 1) = some #[.int .i64 m.hours, .int .i64 m.load, .int .i64 m.heat.1, .int .i64 m.heat.2, .int .i64 m.grass.1, .int .i64 m.grass.2, .int .i64 m.drinks.1, .int .i64 m.drinks.2] := rowSkip (rowSkip (rowSkip rcW1))
        have rdW2 : rowOf (((W1.alloc (.cells #[.int .i64 (waS b c.milks m).1, .int .i64 (waS b c.milks m).2] 31)).alloc (.cells #[.int .i64 (faS b m).1, .int .i64 (faS b m).2] 31)).alloc (.cells #[.int .i64 (waR b.full c.water (waS b c.milks m) m.drinks).1, .int .i64 (waR b.full c.water (waS b c.milks m) m.drinks).2, .int .i64 (waR b.fed c.fat (faS b m) m.grass).1, .int .i64 (waR b.fed c.fat (faS b m) m.grass).2, .int .i64 0, .int .i64 0, .bool c.milks] 39)) (w.heap.size + 1 + 1 + 1) = some #[.int .i64 0, .int .i64 0, .int .i64 0, .int .i64 0, .int .i64 0, .int .i64 0, .bool false] := rowSkip (rowSkip (rowSkip rdW1))
        have rtW2 : rowOf (((W1.alloc (.cells #[.int .i64 (waS b c.milks m).1, .int .i64 (waS b c.milks m).2] 31)).alloc (.cells #[.int .i64 (faS b m).1, .int .i64 (faS b m).2] 31)).alloc (.cells #[.int .i64 (waR b.full c.water (waS b c.milks m) m.drinks).1, .int .i64 (waR b.full c.water (waS b c.milks m) m.drinks).2, .int .i64 (waR b.fed c.fat (faS b m) m.grass).1, .int .i64 (waR b.fed c.fat (faS b m) m.grass).2, .int .i64 0, .int .i64 0, .bool c.milks] 39)) (W1.heap.size + 1 + 1) = some #[.int .i64 (waR b.full c.water (waS b c.milks m) m.drinks).1, .int .i64 (waR b.full c.water (waS b c.milks m) m.drinks).2, .int .i64 (waR b.fed c.fat (faS b m) m.grass).1, .int .i64 (waR b.fed c.fat (faS b m) m.grass).2, .int .i64 0, .int .i64 0, .bool c.milks] := row_here2 _ _ _ _ _
        have zW2 := hW2.size
        change Code.wp _ _ _ _ (((W1.alloc (.cells #[.int .i64 (waS b c.milks m).1, .int .i64 (waS b c.milks m).2] 31)).alloc (.cells #[.int .i64 (faS b m).1, .int .i64 (faS b m).2] 31)).alloc (.cells #[.int .i64 (waR b.full c.water (waS b c.milks m) m.drinks).1, .int .i64 (waR b.full c.water (waS b c.milks m) m.drinks).2, .int .i64 (waR b.fed c.fat (faS b m) m.grass).1, .int .i64 (waR b.fed c.fat (faS b m) m.grass).2, .int .i64 0, .int .i64 0, .bool c.milks] 39))
        generalize (((W1.alloc (.cells #[.int .i64 (waS b c.milks m).1, .int .i64 (waS b c.milks m).2] 31)).alloc (.cells #[.int .i64 (faS b m).1, .int .i64 (faS b m).2] 31)).alloc (.cells #[.int .i64 (waR b.full c.water (waS b c.milks m) m.drinks).1, .int .i64 (waR b.full c.water (waS b c.milks m) m.drinks).2, .int .i64 (waR b.fed c.fat (faS b m) m.grass).1, .int .i64 (waR b.fed c.fat (faS b m) m.grass).2, .int .i64 0, .int .i64 0, .bool c.milks] 39)) = W2 at hW2 raW2 rbW2 rcW2 rdW2 rtW2 zW2 ⊢
        clear raW1 caW1 gaW1 rbW1 cbW1 gbW1 rcW1 ccW1 gcW1 rdW1 cdW1 gdW1 kaW1 kbW1 kcW1
        refine wp_draws (by kernel_rfl) [] [some 116, some 117, some 118, some 119, some 120, some 121, some 122, some 123, some 124, some 125, some 126, some 127, some 128, some 129, some 130, some 131, some 132, some 133, some 134, some 135, some 136, some 137, some 138, some 139] (by kernel_rfl) (fun ix v W => match ix with
          | 0 => v = .pointer (some ⟨w.heap.size + 1, 4, none⟩)
          | 1 => v = .pointer (some ⟨w.heap.size + 1, 4, none⟩)
          | 2 => v = .int .i64 (c.sore.1)
          | 3 => v = .pointer (some ⟨w.heap.size, 10, none⟩)
          | 4 => v = .pointer (some ⟨w.heap.size, 10, none⟩)
          | 5 => v = .int .i64 (b.rub.1)
          | 6 => v = .int .i64 (m.hours * m.load)
          | 7 => v = .int .i64 (b.rub.1 * (m.hours * m.load))
          | 8 => v = .int .i64 (b.rub.1 * (m.hours * m.load) / 1000000)
          | 9 => v = .int .i64 (c.sore.1 + b.rub.1 * (m.hours * m.load) / 1000000)
          | 10 => v = .int .i64 ((soR b c m).1)
          | 11 => v = .pointer (some ⟨w.heap.size + 1, 4, none⟩)
          | 12 => v = .pointer (some ⟨w.heap.size + 1, 5, none⟩)
          | 13 => v = .int .i64 (c.sore.2)
          | 14 => v = .pointer (some ⟨w.heap.size, 10, none⟩)
          | 15 => v = .pointer (some ⟨w.heap.size, 11, none⟩)
          | 16 => v = .int .i64 (b.rub.2)
          | 17 => v = .int .i64 (m.hours * m.load)
          | 18 => v = .int .i64 (b.rub.2 * (m.hours * m.load))
          | 19 => v = .int .i64 ((b.rub.2 * (m.hours * m.load) + 1000000 - 1) / 1000000)
          | 20 => v = .int .i64 (c.sore.2 + (b.rub.2 * (m.hours * m.load) + 1000000 - 1) / 1000000)
          | 21 => v = .int .i64 ((soR b c m).2)
          | 22 => v = .agg #[.int .i64 (soR b c m).1, .int .i64 (soR b c m).2]
          | 23 => v = .pointer (some ⟨W1.heap.size + 1 + 1, 4, none⟩)
          | _ => True) ⟨⟨?_, ?_⟩, ⟨?_, ?_⟩, ⟨?_, ?_⟩, ⟨?_, ?_⟩, ⟨?_, ?_⟩, ⟨?_, ?_⟩, ⟨?_, ?_⟩, ⟨?_, ?_⟩, ⟨?_, ?_⟩, ⟨?_, ?_⟩, ⟨?_, ?_⟩, ⟨?_, ?_⟩, ⟨?_, ?_⟩, ⟨?_, ?_⟩, ⟨?_, ?_⟩, ⟨?_, ?_⟩, ⟨?_, ?_⟩, ⟨?_, ?_⟩, ⟨?_, ?_⟩, ⟨?_, ?_⟩, ⟨?_, ?_⟩, ⟨?_, ?_⟩, ⟨?_, ?_⟩, ⟨?_, ?_⟩, ?_⟩
        · intro g h; cases h
        · intro b' W hE hb hdep K hK
          have e4 : b'.tmps[4]?.getD undef = .pointer (some ⟨w.heap.size + 1, 0, none⟩) := hb 4 (by decide)
          clear hdep hb
          go_wp2
          exact hK _ _ (XT.refl _ _) rfl
        · intro g h; cases h
        · intro b' W hE hb hdep K hK
          have e116 : b'.tmps[116]?.getD undef = .pointer (some ⟨w.heap.size + 1, 4, none⟩) := pureX (hdep 0 (some 116) (by kernel_rfl) rfl)
          clear hdep hb
          go_wp2
          exact hK _ _ (XT.refl _ _) rfl
        · intro g h; cases h
        · intro b' W hE hb hdep K hK
          have e117 : b'.tmps[117]?.getD undef = .pointer (some ⟨w.heap.size + 1, 4, none⟩) := pureX (hdep 1 (some 117) (by kernel_rfl) rfl)
          clear hdep hb
          obtain ⟨_, _, -, _⟩ := row_facts (hE.row ((rowOf_drew _ _).trans raW2) (by first | (simp; done) | (simp; omega)))
          obtain ⟨_, _, -, _⟩ := row_facts (hE.row ((rowOf_drew _ _).trans rbW2) (by first | (simp; done) | (simp; omega)))
          go_wp2
          exact hK _ _ (XT.refl _ _) rfl
        · intro g h; cases h
        · intro b' W hE hb hdep K hK
          have e3 : b'.tmps[3]?.getD undef = .pointer (some ⟨w.heap.size, 0, none⟩) := hb 3 (by decide)
          clear hdep hb
          go_wp2
          exact hK _ _ (XT.refl _ _) rfl
        · intro g h; cases h
        · intro b' W hE hb hdep K hK
          have e119 : b'.tmps[119]?.getD undef = .pointer (some ⟨w.heap.size, 10, none⟩) := pureX (hdep 3 (some 119) (by kernel_rfl) rfl)
          clear hdep hb
          go_wp2
          exact hK _ _ (XT.refl _ _) rfl
        · intro g h; cases h
        · intro b' W hE hb hdep K hK
          have e120 : b'.tmps[120]?.getD undef = .pointer (some ⟨w.heap.size, 10, none⟩) := pureX (hdep 4 (some 120) (by kernel_rfl) rfl)
          clear hdep hb
          obtain ⟨_, _, -, _⟩ := row_facts (hE.row ((rowOf_drew _ _).trans raW2) (by first | (simp; done) | (simp; omega)))
          obtain ⟨_, _, -, _⟩ := row_facts (hE.row ((rowOf_drew _ _).trans rbW2) (by first | (simp; done) | (simp; omega)))
          go_wp2
          exact hK _ _ (XT.refl _ _) rfl
        · intro g h; cases h
        · intro b' W hE hb hdep K hK
          have e12 : b'.tmps[12]?.getD undef = .int .i64 (m.hours * m.load) := hb 12 (by decide)
          clear hdep hb
          go_wp2
          exact hK _ _ (XT.refl _ _) rfl
        · intro g h; cases h
        · intro b' W hE hb hdep K hK
          have e121 : b'.tmps[121]?.getD undef = .int .i64 (b.rub.1) := pureX (hdep 5 (some 121) (by kernel_rfl) rfl)
          have e122 : b'.tmps[122]?.getD undef = .int .i64 (m.hours * m.load) := pureX (hdep 6 (some 122) (by kernel_rfl) rfl)
          clear hdep hb
          go_wp2
          exact hK _ _ (XT.refl _ _) rfl
        · intro g h; cases h
        · intro b' W hE hb hdep K hK
          have e123 : b'.tmps[123]?.getD undef = .int .i64 (b.rub.1 * (m.hours * m.load)) := pureX (hdep 7 (some 123) (by kernel_rfl) rfl)
          clear hdep hb
          go_wp2
          exact hK _ _ (XT.refl _ _) rfl
        · intro g h; cases h
        · intro b' W hE hb hdep K hK
          have e118 : b'.tmps[118]?.getD undef = .int .i64 (c.sore.1) := pureX (hdep 2 (some 118) (by kernel_rfl) rfl)
          have e124 : b'.tmps[124]?.getD undef = .int .i64 (b.rub.1 * (m.hours * m.load) / 1000000) := pureX (hdep 8 (some 124) (by kernel_rfl) rfl)
          clear hdep hb
          go_wp2
          exact hK _ _ (XT.refl _ _) rfl
        · intro g h; cases h
        · intro b' W hE hb hdep K hK
          have e125 : b'.tmps[125]?.getD undef = .int .i64 (c.sore.1 + b.rub.1 * (m.hours * m.load) / 1000000) := pureX (hdep 9 (some 125) (by kernel_rfl) rfl)
          clear hdep hb
          go_wp2
          exact hK _ _ (XT.refl _ _) rfl
        · intro g h; cases h
        · intro b' W hE hb hdep K hK
          have e4 : b'.tmps[4]?.getD undef = .pointer (some ⟨w.heap.size + 1, 0, none⟩) := hb 4 (by decide)
          clear hdep hb
          go_wp2
          exact hK _ _ (XT.refl _ _) rfl
        · intro g h; cases h
        · intro b' W hE hb hdep K hK
          have e127 : b'.tmps[127]?.getD undef = .pointer (some ⟨w.heap.size + 1, 4, none⟩) := pureX (hdep 11 (some 127) (by kernel_rfl) rfl)
          clear hdep hb
          go_wp2
          exact hK _ _ (XT.refl _ _) rfl
        · intro g h; cases h
        · intro b' W hE hb hdep K hK
          have e128 : b'.tmps[128]?.getD undef = .pointer (some ⟨w.heap.size + 1, 5, none⟩) := pureX (hdep 12 (some 128) (by kernel_rfl) rfl)
          clear hdep hb
          obtain ⟨_, _, -, _⟩ := row_facts (hE.row ((rowOf_drew _ _).trans raW2) (by first | (simp; done) | (simp; omega)))
          obtain ⟨_, _, -, _⟩ := row_facts (hE.row ((rowOf_drew _ _).trans rbW2) (by first | (simp; done) | (simp; omega)))
          go_wp2
          exact hK _ _ (XT.refl _ _) rfl
        · intro g h; cases h
        · intro b' W hE hb hdep K hK
          have e3 : b'.tmps[3]?.getD undef = .pointer (some ⟨w.heap.size, 0, none⟩) := hb 3 (by decide)
          clear hdep hb
          go_wp2
          exact hK _ _ (XT.refl _ _) rfl
        · intro g h; cases h
        · intro b' W hE hb hdep K hK
          have e130 : b'.tmps[130]?.getD undef = .pointer (some ⟨w.heap.size, 10, none⟩) := pureX (hdep 14 (some 130) (by kernel_rfl) rfl)
          clear hdep hb
          go_wp2
          exact hK _ _ (XT.refl _ _) rfl
        · intro g h; cases h
        · intro b' W hE hb hdep K hK
          have e131 : b'.tmps[131]?.getD undef = .pointer (some ⟨w.heap.size, 11, none⟩) := pureX (hdep 15 (some 131) (by kernel_rfl) rfl)
          clear hdep hb
          obtain ⟨_, _, -, _⟩ := row_facts (hE.row ((rowOf_drew _ _).trans raW2) (by first | (simp; done) | (simp; omega)))
          obtain ⟨_, _, -, _⟩ := row_facts (hE.row ((rowOf_drew _ _).trans rbW2) (by first | (simp; done) | (simp; omega)))
          go_wp2
          exact hK _ _ (XT.refl _ _) rfl
        · intro g h; cases h
        · intro b' W hE hb hdep K hK
          have e12 : b'.tmps[12]?.getD undef = .int .i64 (m.hours * m.load) := hb 12 (by decide)
          clear hdep hb
          go_wp2
          exact hK _ _ (XT.refl _ _) rfl
        · intro g h; cases h
        · intro b' W hE hb hdep K hK
          have e132 : b'.tmps[132]?.getD undef = .int .i64 (b.rub.2) := pureX (hdep 16 (some 132) (by kernel_rfl) rfl)
          have e133 : b'.tmps[133]?.getD undef = .int .i64 (m.hours * m.load) := pureX (hdep 17 (some 133) (by kernel_rfl) rfl)
          clear hdep hb
          go_wp2
          exact hK _ _ (XT.refl _ _) rfl
        · intro g h; cases h
        · intro b' W hE hb hdep K hK
          have e134 : b'.tmps[134]?.getD undef = .int .i64 (b.rub.2 * (m.hours * m.load)) := pureX (hdep 18 (some 134) (by kernel_rfl) rfl)
          clear hdep hb
          go_wp2_with fail
          refine (up_any _ _ _ (by omega) (by omega) (by omega) (by omega)).mono ?_
          rintro e W' ⟨rfl, hB⟩
          exact hK _ _ (Ext.xt hB) rfl
        · intro g h; cases h
        · intro b' W hE hb hdep K hK
          have e129 : b'.tmps[129]?.getD undef = .int .i64 (c.sore.2) := pureX (hdep 13 (some 129) (by kernel_rfl) rfl)
          have e135 : b'.tmps[135]?.getD undef = .int .i64 ((b.rub.2 * (m.hours * m.load) + 1000000 - 1) / 1000000) := pureX (hdep 19 (some 135) (by kernel_rfl) rfl)
          clear hdep hb
          go_wp2
          exact hK _ _ (XT.refl _ _) rfl
        · intro g h; cases h
        · intro b' W hE hb hdep K hK
          have e136 : b'.tmps[136]?.getD undef = .int .i64 (c.sore.2 + (b.rub.2 * (m.hours * m.load) + 1000000 - 1) / 1000000) := pureX (hdep 20 (some 136) (by kernel_rfl) rfl)
          clear hdep hb
          go_wp2
          exact hK _ _ (XT.refl _ _) rfl
        · intro g h; cases h
        · intro b' W hE hb hdep K hK
          have e126 : b'.tmps[126]?.getD undef = .int .i64 ((soR b c m).1) := pureX (hdep 10 (some 126) (by kernel_rfl) rfl)
          have e137 : b'.tmps[137]?.getD undef = .int .i64 ((soR b c m).2) := pureX (hdep 21 (some 137) (by kernel_rfl) rfl)
          clear hdep hb
          go_wp2
          exact hK _ _ (XT.refl _ _) rfl
        · intro g h; cases h
        · intro b' W hE hb hdep K hK
          have e11 : b'.tmps[11]?.getD undef = .pointer (some ⟨W1.heap.size + 1 + 1, 0, none⟩) := hb 11 (by decide)
          clear hdep hb
          go_wp2
          exact hK _ _ (XT.refl _ _) rfl
        intro f W hE hR
        have e116 : f 116 = .pointer (some ⟨w.heap.size + 1, 4, none⟩) := pureX (hR 0 (some 116) rfl)
        have e117 : f 117 = .pointer (some ⟨w.heap.size + 1, 4, none⟩) := pureX (hR 1 (some 117) rfl)
        have e118 : f 118 = .int .i64 (c.sore.1) := pureX (hR 2 (some 118) rfl)
        have e119 : f 119 = .pointer (some ⟨w.heap.size, 10, none⟩) := pureX (hR 3 (some 119) rfl)
        have e120 : f 120 = .pointer (some ⟨w.heap.size, 10, none⟩) := pureX (hR 4 (some 120) rfl)
        have e121 : f 121 = .int .i64 (b.rub.1) := pureX (hR 5 (some 121) rfl)
        have e122 : f 122 = .int .i64 (m.hours * m.load) := pureX (hR 6 (some 122) rfl)
        have e123 : f 123 = .int .i64 (b.rub.1 * (m.hours * m.load)) := pureX (hR 7 (some 123) rfl)
        have e124 : f 124 = .int .i64 (b.rub.1 * (m.hours * m.load) / 1000000) := pureX (hR 8 (some 124) rfl)
        have e125 : f 125 = .int .i64 (c.sore.1 + b.rub.1 * (m.hours * m.load) / 1000000) := pureX (hR 9 (some 125) rfl)
        have e126 : f 126 = .int .i64 ((soR b c m).1) := pureX (hR 10 (some 126) rfl)
        have e127 : f 127 = .pointer (some ⟨w.heap.size + 1, 4, none⟩) := pureX (hR 11 (some 127) rfl)
        have e128 : f 128 = .pointer (some ⟨w.heap.size + 1, 5, none⟩) := pureX (hR 12 (some 128) rfl)
        have e129 : f 129 = .int .i64 (c.sore.2) := pureX (hR 13 (some 129) rfl)
        have e130 : f 130 = .pointer (some ⟨w.heap.size, 10, none⟩) := pureX (hR 14 (some 130) rfl)
        have e131 : f 131 = .pointer (some ⟨w.heap.size, 11, none⟩) := pureX (hR 15 (some 131) rfl)
        have e132 : f 132 = .int .i64 (b.rub.2) := pureX (hR 16 (some 132) rfl)
        have e133 : f 133 = .int .i64 (m.hours * m.load) := pureX (hR 17 (some 133) rfl)
        have e134 : f 134 = .int .i64 (b.rub.2 * (m.hours * m.load)) := pureX (hR 18 (some 134) rfl)
        have e135 : f 135 = .int .i64 ((b.rub.2 * (m.hours * m.load) + 1000000 - 1) / 1000000) := pureX (hR 19 (some 135) rfl)
        have e136 : f 136 = .int .i64 (c.sore.2 + (b.rub.2 * (m.hours * m.load) + 1000000 - 1) / 1000000) := pureX (hR 20 (some 136) rfl)
        have e137 : f 137 = .int .i64 ((soR b c m).2) := pureX (hR 21 (some 137) rfl)
        have e138 : f 138 = .agg #[.int .i64 (soR b c m).1, .int .i64 (soR b c m).2] := pureX (hR 22 (some 138) rfl)
        have e139 : f 139 = .pointer (some ⟨W1.heap.size + 1 + 1, 4, none⟩) := pureX (hR 23 (some 139) rfl)
        clear hR
        have hw : Below w.heap.size w W := hE.below hW2.drew zW2 (by simp)
        have raW := hE.row ((rowOf_drew _ _).trans raW2) (by simp)
        have rbW := hE.row ((rowOf_drew _ _).trans rbW2) (by simp)
        have rcW := hE.row ((rowOf_drew _ _).trans rcW2) (by simp)
        have rdW := hE.row ((rowOf_drew _ _).trans rdW2) (by simp)
        refine wpL_store_part rfl 31 (.tmp 139) (.tmp 138) rfl (h := W1.heap.size + 1 + 1) (off := 4) ((puts_eval (by decide) rfl).trans e138) ((puts_eval (by decide) rfl).trans e139) (hE.row ((rowOf_drew _ _).trans rtW2) (by simp)) info31 (by simp) (by simp [one_int]) ?_
        intro W6 hS
        have hW6 : Below w.heap.size w W6 := hw.trans (hS.below _ (by omega))
        have rtW6 : rowOf W6 (W1.heap.size + 1 + 1) = some #[.int .i64 (waR b.full c.water (waS b c.milks m) m.drinks).1, .int .i64 (waR b.full c.water (waS b c.milks m) m.drinks).2, .int .i64 (waR b.fed c.fat (faS b m) m.grass).1, .int .i64 (waR b.fed c.fat (faS b m) m.grass).2, .int .i64 (soR b c m).1, .int .i64 (soR b c m).2, .bool c.milks] := hS.row
        obtain ⟨raW6, caW6, gaW6, zaW6⟩ := row_facts (hS.keeps (g := w.heap.size) (by omega) raW)
        obtain ⟨rcW6, ccW6, gcW6, zcW6⟩ := row_facts (hS.keeps (g := w.heap.size + 1 + 1) (by omega) rcW)
        obtain ⟨rbW6, cbW6, gbW6, zbW6⟩ := row_facts (hS.keeps (g := w.heap.size + 1) (by omega) rbW)
        obtain ⟨rdW6, cdW6, gdW6, zdW6⟩ := row_facts (hS.keeps (g := w.heap.size + 1 + 1 + 1) (by omega) rdW)
        clear hS hE hw raW rbW rcW rdW raW2 rbW2 rcW2 rdW2 rtW2
        simp only [List.filterMap_cons, List.filterMap_nil, id, puts, Act.put, List.setIfInBounds_toArray, List.set_cons_succ, List.set_cons_zero, e116, e117, e118, e119, e120, e121, e122, e123, e124, e125, e126, e127, e128, e129, e130, e131, e132, e133, e134, e135, e136, e137, e138, e139]
        by_cases hh : m.hours = 0
        · have H3 := Lib.hid (show (heR b c) = soreS b c m from heR_eq HB.out HC.out hh)
          have hq := fun vs g => rowOf_setRow rtW6 vs g
          go_wp2
          exact bodyPost_ret (results39_2 Try.results75 rfl (cs := #[.int .i64 (waR b.full c.water (waS b c.milks m) m.drinks).1, .int .i64 (waR b.full c.water (waS b c.milks m) m.drinks).2, .int .i64 (waR b.fed c.fat (faS b m) m.grass).1, .int .i64 (waR b.fed c.fat (faS b m) m.grass).2, .int .i64 (heR b c).1, .int .i64 (heR b c).2, .bool c.milks]) (stored_setRow ((stored_setRow rtW6 _).keeps (by omega) rdW6) _).row rfl (v := .int .i64 1) rfl) rfl ⟨by rw [H1.out, H2.out, H4.out, eveC, ← H3.out, HR1.out, HR2.out], Below_setRow (Below_setRow hW6 (by omega) _) (by omega) _⟩
        · have H3 := Lib.hid (show (soR b c m) = soreS b c m from soR_eq HB.out HC.out HM.out hh)
          go_wp2
          exact bodyPost_ret (results39_2 Try.results75 rfl (cs := #[.int .i64 (waR b.full c.water (waS b c.milks m) m.drinks).1, .int .i64 (waR b.full c.water (waS b c.milks m) m.drinks).2, .int .i64 (waR b.fed c.fat (faS b m) m.grass).1, .int .i64 (waR b.fed c.fat (faS b m) m.grass).2, .int .i64 (soR b c m).1, .int .i64 (soR b c m).2, .bool c.milks]) (stored_setRow (rdW6) _).row rfl (v := .int .i64 1) rfl) rfl ⟨by rw [H1.out, H2.out, H4.out, eveC, ← H3.out, HR1.out, HR2.out], Below_setRow hW6 (by omega) _⟩
end Go.Proofs.Ytafdcbdbllpcnaa
