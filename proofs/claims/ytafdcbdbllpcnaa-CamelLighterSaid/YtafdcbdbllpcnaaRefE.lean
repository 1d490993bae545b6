/- Contracts of the reference's Carries, cost and Cost. -/
import Derived.Test.YtafdcbdbllpcnaaRefD
import Derived.Test.YtafdcbdbllpcnaaBigT
set_option linter.unusedVariables false
set_option linter.unusedSimpArgs false
namespace Go.Proofs.Ytafdcbdbllpcnaa
open Go.RowKit
open Go.Proofs

attribute [local go_sem ↓] exec36l exec112l exec36s exec112s exec31s run_min2 run_max2
attribute [local go_sem] load36 load112 store36 store112 store31 build112 rowOf_alloc rowOf_drew setRow_alloc one_int one_bool run_min4

set_option maxHeartbeats 4000000 in
theorem rCarries_any (b : Br) (c : Cm) (w : World) :
    Calls Try.prog 29 #[.agg #[.int .i64 b.full, .int .i64 b.fed, .int .i64 b.rest.1, .int .i64 b.rest.2, .int .i64 b.heat.1, .int .i64 b.heat.2, .int .i64 b.toil.1, .int .i64 b.toil.2, .int .i64 b.burn.1, .int .i64 b.burn.2, .int .i64 b.rub.1, .int .i64 b.rub.2, .int .i64 b.milk.1, .int .i64 b.milk.2, .int .i64 b.heal, .int .i64 b.strong.1, .int .i64 b.strong.2], .agg #[.int .i64 c.water.1, .int .i64 c.water.2, .int .i64 c.fat.1, .int .i64 c.fat.2, .int .i64 c.sore.1, .int .i64 c.sore.2, .bool c.milks]] w fun e w' => e = .returned (.tuple #[.agg #[.int .i64 (carR b c).1, .int .i64 (carR b c).2], .int .i64 (chkC b c)]) ∧ Below w.heap.size w w' := by
  by_cases h0 : chkC b c = 0
  · obtain ⟨hb, hc⟩ := chkC_ok h0
    obtain ⟨s1, s2, s3⟩ := hb.strong
    obtain ⟨q1, q2, q3, q4⟩ := fitS_bd hb hc
    obtain ⟨m1, m2⟩ := mul_le s1 q1 (by omega : b.strong.1 ≤ 1000000) q2
    obtain ⟨m3, m4⟩ := mul_le (by omega : 0 ≤ b.strong.2) q3 s3 q4
    have hv : carR b c = carS b c := by rw [carR, if_pos h0]
    rw [hv, h0]
    have hf : fitR b c = fitS b c := by rw [fitR, if_pos h0]
    have hcall := fun w => rFitness_any b c w
    simp only [h0, hf] at hcall
    have HC := Lib.hid hcall
    clear hcall hv h0 hf hb hc
    go_enter Try.func29, Try.ntmps29
    go_wp2_with fail
    refine (HC.out _).mono ?_
    rintro e W1 ⟨rfl, hB⟩
    have hW1 : Below w.heap.size w W1 := Below.trans (by go_grown) (hB.mono (by simp; try omega))
    have zW1 := hW1.size
    obtain ⟨raW1, caW1, gaW1, zaW1⟩ := keep_row hB (g := w.heap.size) (by repeat (first | with_reducible assumption | with_reducible apply row_here0 | with_reducible apply row_here1 | with_reducible apply row_here2 | with_reducible apply row_here3 | with_reducible apply rowSkip))
    obtain ⟨rcW1, ccW1, gcW1, zcW1⟩ := keep_row hB (g := w.heap.size + 1 + 1) (by repeat (first | with_reducible assumption | with_reducible apply row_here0 | with_reducible apply row_here1 | with_reducible apply row_here2 | with_reducible apply row_here3 | with_reducible apply rowSkip))
    clear hB
    go_wp2_with fail
    have hW2 : Below w.heap.size w (W1.alloc (.cells #[.int .i64 (fitS b c).1, .int .i64 (fitS b c).2] 31)) := by go_grown
    have raW2 : rowOf (W1.alloc (.cells #[.int .i64 (fitS b c).1, .int .i64 (fitS b c).2] 31)) w.heap.size = some #[.int .i64 b.full, .int .i64 b.fed, .int .i64 b.rest.1, .int .i64 b.rest.2, .int .i64 b.heat.1, .int .i64 b.heat.2, .int .i64 b.toil.1, .int .i64 b.toil.2, .int .i64 b.burn.1, .int .i64 b.burn.2, .int .i64 b.rub.1, .int .i64 b.rub.2, .int .i64 b.milk.1, .int .i64 b.milk.2, .int .i64 b.heal, .int .i64 b.strong.1, .int .i64 b.strong.2] := rowSkip raW1
    have rcW2 : rowOf (W1.alloc (.cells #[.int .i64 (fitS b c).1, .int .i64 (fitS b c).2] 31)) (w.heap.size + 1 + 1) = some #[.int .i64 0, .int .i64 0] := rowSkip rcW1
    have rfW2 : rowOf (W1.alloc (.cells #[.int .i64 (fitS b c).1, .int .i64 (fitS b c).2] 31)) W1.heap.size = some #[.int .i64 (fitS b c).1, .int .i64 (fitS b c).2] := row_here0 _ _ _
    have zW2 := hW2.size
    generalize (W1.alloc (.cells #[.int .i64 (fitS b c).1, .int .i64 (fitS b c).2] 31)) = W2 at hW2 raW2 rcW2 rfW2 zW2 ⊢
    refine wp_draws (by kernel_rfl) [] [some 18, some 19, some 20, some 21, some 22, some 23, some 24, some 25, some 26, some 27, some 28, some 29, some 30, some 31, some 32] (by kernel_rfl) (fun ix v W => match ix with
      | 0 => v = .pointer (some ⟨w.heap.size, 15, none⟩)
      | 1 => v = .pointer (some ⟨w.heap.size, 15, none⟩)
      | 2 => v = .int .i64 (b.strong.1)
      | 3 => v = .pointer (some ⟨W1.heap.size, 0, none⟩)
      | 4 => v = .int .i64 ((fitS b c).1)
      | 5 => v = .int .i64 (b.strong.1 * (fitS b c).1)
      | 6 => v = .int .i64 (b.strong.1 * (fitS b c).1 / 1000)
      | 7 => v = .pointer (some ⟨w.heap.size, 15, none⟩)
      | 8 => v = .pointer (some ⟨w.heap.size, 16, none⟩)
      | 9 => v = .int .i64 (b.strong.2)
      | 10 => v = .pointer (some ⟨W1.heap.size, 1, none⟩)
      | 11 => v = .int .i64 ((fitS b c).2)
      | 12 => v = .int .i64 (b.strong.2 * (fitS b c).2)
      | 13 => v = .int .i64 ((b.strong.2 * (fitS b c).2 + 1000 - 1) / 1000)
      | 14 => v = .agg #[.int .i64 (carS b c).1, .int .i64 (carS b c).2]
      | _ => True) ⟨⟨?_, ?_⟩, ⟨?_, ?_⟩, ⟨?_, ?_⟩, ⟨?_, ?_⟩, ⟨?_, ?_⟩, ⟨?_, ?_⟩, ⟨?_, ?_⟩, ⟨?_, ?_⟩, ⟨?_, ?_⟩, ⟨?_, ?_⟩, ⟨?_, ?_⟩, ⟨?_, ?_⟩, ⟨?_, ?_⟩, ⟨?_, ?_⟩, ⟨?_, ?_⟩, ?_⟩
    · intro g h; cases h
    · intro b' W hE hb hdep K hK
      have e2 : b'.tmps[2]?.getD undef = .pointer (some ⟨w.heap.size, 0, none⟩) := hb 2 (by decide)
      clear hdep hb
      go_wp2
      exact hK _ _ (XT.refl _ _) rfl
    · intro g h; cases h
    · intro b' W hE hb hdep K hK
      have e18 : b'.tmps[18]?.getD undef = .pointer (some ⟨w.heap.size, 15, none⟩) := pureX (hdep 0 (some 18) (by kernel_rfl) rfl)
      clear hdep hb
      go_wp2
      exact hK _ _ (XT.refl _ _) rfl
    · intro g h; cases h
    · intro b' W hE hb hdep K hK
      have e19 : b'.tmps[19]?.getD undef = .pointer (some ⟨w.heap.size, 15, none⟩) := pureX (hdep 1 (some 19) (by kernel_rfl) rfl)
      clear hdep hb
      obtain ⟨_, _, -, _⟩ := row_facts (hE.row ((rowOf_drew _ _).trans raW2) (by first | (simp; done) | (simp; omega)))
      obtain ⟨_, _, -, _⟩ := row_facts (hE.row ((rowOf_drew _ _).trans rfW2) (by first | (simp; done) | (simp; omega)))
      go_wp2
      exact hK _ _ (XT.refl _ _) rfl
    · intro g h; cases h
    · intro b' W hE hb hdep K hK
      have e6 : b'.tmps[6]?.getD undef = .pointer (some ⟨W1.heap.size, 0, none⟩) := hb 6 (by decide)
      clear hdep hb
      go_wp2
      exact hK _ _ (XT.refl _ _) rfl
    · intro g h; cases h
    · intro b' W hE hb hdep K hK
      have e21 : b'.tmps[21]?.getD undef = .pointer (some ⟨W1.heap.size, 0, none⟩) := pureX (hdep 3 (some 21) (by kernel_rfl) rfl)
      clear hdep hb
      obtain ⟨_, _, -, _⟩ := row_facts (hE.row ((rowOf_drew _ _).trans raW2) (by first | (simp; done) | (simp; omega)))
      obtain ⟨_, _, -, _⟩ := row_facts (hE.row ((rowOf_drew _ _).trans rfW2) (by first | (simp; done) | (simp; omega)))
      go_wp2
      exact hK _ _ (XT.refl _ _) rfl
    · intro g h; cases h
    · intro b' W hE hb hdep K hK
      have e20 : b'.tmps[20]?.getD undef = .int .i64 (b.strong.1) := pureX (hdep 2 (some 20) (by kernel_rfl) rfl)
      have e22 : b'.tmps[22]?.getD undef = .int .i64 ((fitS b c).1) := pureX (hdep 4 (some 22) (by kernel_rfl) rfl)
      clear hdep hb
      go_wp2
      exact hK _ _ (XT.refl _ _) rfl
    · intro g h; cases h
    · intro b' W hE hb hdep K hK
      have e23 : b'.tmps[23]?.getD undef = .int .i64 (b.strong.1 * (fitS b c).1) := pureX (hdep 5 (some 23) (by kernel_rfl) rfl)
      clear hdep hb
      go_wp2
      exact hK _ _ (XT.refl _ _) rfl
    · intro g h; cases h
    · intro b' W hE hb hdep K hK
      have e2 : b'.tmps[2]?.getD undef = .pointer (some ⟨w.heap.size, 0, none⟩) := hb 2 (by decide)
      clear hdep hb
      go_wp2
      exact hK _ _ (XT.refl _ _) rfl
    · intro g h; cases h
    · intro b' W hE hb hdep K hK
      have e25 : b'.tmps[25]?.getD undef = .pointer (some ⟨w.heap.size, 15, none⟩) := pureX (hdep 7 (some 25) (by kernel_rfl) rfl)
      clear hdep hb
      go_wp2
      exact hK _ _ (XT.refl _ _) rfl
    · intro g h; cases h
    · intro b' W hE hb hdep K hK
      have e26 : b'.tmps[26]?.getD undef = .pointer (some ⟨w.heap.size, 16, none⟩) := pureX (hdep 8 (some 26) (by kernel_rfl) rfl)
      clear hdep hb
      obtain ⟨_, _, -, _⟩ := row_facts (hE.row ((rowOf_drew _ _).trans raW2) (by first | (simp; done) | (simp; omega)))
      obtain ⟨_, _, -, _⟩ := row_facts (hE.row ((rowOf_drew _ _).trans rfW2) (by first | (simp; done) | (simp; omega)))
      go_wp2
      exact hK _ _ (XT.refl _ _) rfl
    · intro g h; cases h
    · intro b' W hE hb hdep K hK
      have e6 : b'.tmps[6]?.getD undef = .pointer (some ⟨W1.heap.size, 0, none⟩) := hb 6 (by decide)
      clear hdep hb
      go_wp2
      exact hK _ _ (XT.refl _ _) rfl
    · intro g h; cases h
    · intro b' W hE hb hdep K hK
      have e28 : b'.tmps[28]?.getD undef = .pointer (some ⟨W1.heap.size, 1, none⟩) := pureX (hdep 10 (some 28) (by kernel_rfl) rfl)
      clear hdep hb
      obtain ⟨_, _, -, _⟩ := row_facts (hE.row ((rowOf_drew _ _).trans raW2) (by first | (simp; done) | (simp; omega)))
      obtain ⟨_, _, -, _⟩ := row_facts (hE.row ((rowOf_drew _ _).trans rfW2) (by first | (simp; done) | (simp; omega)))
      go_wp2
      exact hK _ _ (XT.refl _ _) rfl
    · intro g h; cases h
    · intro b' W hE hb hdep K hK
      have e27 : b'.tmps[27]?.getD undef = .int .i64 (b.strong.2) := pureX (hdep 9 (some 27) (by kernel_rfl) rfl)
      have e29 : b'.tmps[29]?.getD undef = .int .i64 ((fitS b c).2) := pureX (hdep 11 (some 29) (by kernel_rfl) rfl)
      clear hdep hb
      go_wp2
      exact hK _ _ (XT.refl _ _) rfl
    · intro g h; cases h
    · intro b' W hE hb hdep K hK
      have e30 : b'.tmps[30]?.getD undef = .int .i64 (b.strong.2 * (fitS b c).2) := pureX (hdep 12 (some 30) (by kernel_rfl) rfl)
      clear hdep hb
      go_wp2_with fail
      refine (up_any _ _ _ (by omega) (by omega) (by omega) (by omega)).mono ?_
      rintro e W' ⟨rfl, hB⟩
      exact hK _ _ (Ext.xt hB) rfl
    · intro g h; cases h
    · intro b' W hE hb hdep K hK
      have e24 : b'.tmps[24]?.getD undef = .int .i64 (b.strong.1 * (fitS b c).1 / 1000) := pureX (hdep 6 (some 24) (by kernel_rfl) rfl)
      have e31 : b'.tmps[31]?.getD undef = .int .i64 ((b.strong.2 * (fitS b c).2 + 1000 - 1) / 1000) := pureX (hdep 13 (some 31) (by kernel_rfl) rfl)
      clear hdep hb
      go_wp2
      exact hK _ _ (XT.refl _ _) rfl
    intro f W hE hR
    have e18 : f 18 = .pointer (some ⟨w.heap.size, 15, none⟩) := pureX (hR 0 (some 18) rfl)
    have e19 : f 19 = .pointer (some ⟨w.heap.size, 15, none⟩) := pureX (hR 1 (some 19) rfl)
    have e20 : f 20 = .int .i64 (b.strong.1) := pureX (hR 2 (some 20) rfl)
    have e21 : f 21 = .pointer (some ⟨W1.heap.size, 0, none⟩) := pureX (hR 3 (some 21) rfl)
    have e22 : f 22 = .int .i64 ((fitS b c).1) := pureX (hR 4 (some 22) rfl)
    have e23 : f 23 = .int .i64 (b.strong.1 * (fitS b c).1) := pureX (hR 5 (some 23) rfl)
    have e24 : f 24 = .int .i64 (b.strong.1 * (fitS b c).1 / 1000) := pureX (hR 6 (some 24) rfl)
    have e25 : f 25 = .pointer (some ⟨w.heap.size, 15, none⟩) := pureX (hR 7 (some 25) rfl)
    have e26 : f 26 = .pointer (some ⟨w.heap.size, 16, none⟩) := pureX (hR 8 (some 26) rfl)
    have e27 : f 27 = .int .i64 (b.strong.2) := pureX (hR 9 (some 27) rfl)
    have e28 : f 28 = .pointer (some ⟨W1.heap.size, 1, none⟩) := pureX (hR 10 (some 28) rfl)
    have e29 : f 29 = .int .i64 ((fitS b c).2) := pureX (hR 11 (some 29) rfl)
    have e30 : f 30 = .int .i64 (b.strong.2 * (fitS b c).2) := pureX (hR 12 (some 30) rfl)
    have e31 : f 31 = .int .i64 ((b.strong.2 * (fitS b c).2 + 1000 - 1) / 1000) := pureX (hR 13 (some 31) rfl)
    have e32 : f 32 = .agg #[.int .i64 (carS b c).1, .int .i64 (carS b c).2] := pureX (hR 14 (some 32) rfl)
    clear hR
    simp only [List.filterMap_cons, List.filterMap_nil, id, puts, Act.put, List.setIfInBounds_toArray, List.set_cons_succ, List.set_cons_zero, e18, e19, e20, e21, e22, e23, e24, e25, e26, e27, e28, e29, e30, e31, e32]
    have rc := hE.row ((rowOf_drew _ _).trans rcW2) (by simp)
    have hw : Below w.heap.size w W := hE.below hW2.drew zW2 (by simp)
    clear hE
    go_wp2
    exact bodyPost_ret (results_row2 Try.results29 rfl (stored_setRow rc _).row rfl (v := .int .i64 0) rfl) rfl ⟨rfl, Below_setRow hw (by omega) _⟩
  · have hv : carR b c = (0, 0) := by rw [carR, if_neg h0]
    rw [hv]
    have hf : fitR b c = (0, 0) := by rw [fitR, if_neg h0]
    obtain ⟨x, hx⟩ : ∃ x, chkC b c = x := ⟨_, rfl⟩
    rw [hx] at h0
    have hcall := fun w => rFitness_any b c w
    simp only [hx, hf] at hcall ⊢
    have HC := Lib.hid hcall
    have hne : (x == 0) = false := by simpa using h0
    clear hcall hv h0 hx hf
    go_enter Try.func29, Try.ntmps29
    go_wp2_with fail
    refine (HC.out _).mono ?_
    rintro e W1 ⟨rfl, hB⟩
    have hW1 : Below w.heap.size w W1 := Below.trans (by go_grown) (hB.mono (by simp; try omega))
    have zW1 := hW1.size
    obtain ⟨rcW1, ccW1, gcW1, zcW1⟩ := keep_row hB (g := w.heap.size + 1 + 1) (by repeat (first | with_reducible assumption | with_reducible apply row_here0 | with_reducible apply row_here1 | with_reducible apply row_here2 | with_reducible apply row_here3 | with_reducible apply rowSkip))
    clear hB
    go_wp2
    exact bodyPost_ret (results_row2 Try.results29 rfl (cs := #[.int .i64 0, .int .i64 0]) (stored_setRow (rowSkip rcW1) _).row rfl (v := .int .i64 x) rfl) rfl ⟨rfl, Below_setRow (hW1.alloc (by omega) _) (by omega) _⟩

set_option maxRecDepth 100000 in
set_option maxHeartbeats 6000000 in
theorem rcost_any (b : Br) (k : Bool) (m : Mr) (w : World) (hb : BdB b) (hm : BdM m) :
    Calls Try.prog 73 #[.agg #[.int .i64 b.full, .int .i64 b.fed, .int .i64 b.rest.1, .int .i64 b.rest.2, .int .i64 b.heat.1, .int .i64 b.heat.2, .int .i64 b.toil.1, .int .i64 b.toil.2, .int .i64 b.burn.1, .int .i64 b.burn.2, .int .i64 b.rub.1, .int .i64 b.rub.2, .int .i64 b.milk.1, .int .i64 b.milk.2, .int .i64 b.heal, .int .i64 b.strong.1, .int .i64 b.strong.2], .bool k, .agg #[.int .i64 m.hours, .int .i64 m.load, .int .i64 m.heat.1, .int .i64 m.heat.2, .int .i64 m.grass.1, .int .i64 m.grass.2, .int .i64 m.drinks.1, .int .i64 m.drinks.2]] w fun e w' => e = .returned (.tuple #[.agg #[.int .i64 (waS b k m).1, .int .i64 (waS b k m).2], .agg #[.int .i64 (faS b m).1, .int .i64 (faS b m).2]]) ∧ Below w.heap.size w w' := by
  obtain ⟨h1, h2, h3, h4⟩ := hsS_bd hm
  obtain ⟨u1, u2, u3, u4⟩ := buS_bd hm
  obtain ⟨a1, a2, a3⟩ := hb.rest
  obtain ⟨b1, b2, b3⟩ := hb.heat
  obtain ⟨c1, c2, c3⟩ := hb.toil
  obtain ⟨d1, d2, d3⟩ := hb.burn
  obtain ⟨f1, f2, f3⟩ := hb.milk
  obtain ⟨x1, x2, x3, x4, -⟩ := sc_bd (d := 1) (by omega) b1 b2 b3 h1 h2 h3 h4
  obtain ⟨y1, y2, y3, y4, y5, y6, y7, y8⟩ := sc_bd (d := 100000) (by omega) c1 c2 c3 u1 u2 u3 u4
  obtain ⟨t1, t2, t3, t4, t5, t6, t7, t8⟩ := sc_bd (d := 100000) (by omega) d1 d2 d3 u1 u2 u3 u4
  simp only [sc] at y5 y6 y7 y8 t5 t6 t7 t8
  have hh := hm.hours
  have hl := hm.load
  have ht := hm.heat
  obtain ⟨p1, p2⟩ := mul_le hh.1 (by omega : 0 ≤ 100000 + m.load) hh.2 (by omega : 100000 + m.load ≤ 1100000)
  clear hb hm
  go_enter Try.func73, Try.ntmps73
  go_wp2_with fail
  have hW0 : Below w.heap.size w ((((w.alloc (.cells #[.int .i64 b.full, .int .i64 b.fed, .int .i64 b.rest.1, .int .i64 b.rest.2, .int .i64 b.heat.1, .int .i64 b.heat.2, .int .i64 b.toil.1, .int .i64 b.toil.2, .int .i64 b.burn.1, .int .i64 b.burn.2, .int .i64 b.rub.1, .int .i64 b.rub.2, .int .i64 b.milk.1, .int .i64 b.milk.2, .int .i64 b.heal, .int .i64 b.strong.1, .int .i64 b.strong.2] 36)).alloc (.cells #[.int .i64 m.hours, .int .i64 m.load, .int .i64 m.heat.1, .int .i64 m.heat.2, .int .i64 m.grass.1, .int .i64 m.grass.2, .int .i64 m.drinks.1, .int .i64 m.drinks.2] 45)).alloc (.cells #[.int .i64 0, .int .i64 0] 31)).alloc (.cells #[.int .i64 0, .int .i64 0] 31)) := by go_grown
  have raW0 : rowOf ((((w.alloc (.cells #[.int .i64 b.full, .int .i64 b.fed, .int .i64 b.rest.1, .int .i64 b.rest.2, .int .i64 b.heat.1, .int .i64 b.heat.2, .int .i64 b.toil.1, .int .i64 b.toil.2, .int .i64 b.burn.1, .int .i64 b.burn.2, .int .i64 b.rub.1, .int .i64 b.rub.2, .int .i64 b.milk.1, .int .i64 b.milk.2, .int .i64 b.heal, .int .i64 b.strong.1, .int .i64 b.strong.2] 36)).alloc (.cells #[.int .i64 m.hours, .int .i64 m.load, .int .i64 m.heat.1, .int .i64 m.heat.2, .int .i64 m.grass.1, .int .i64 m.grass.2, .int .i64 m.drinks.1, .int .i64 m.drinks.2] 45)).alloc (.cells #[.int .i64 0, .int .i64 0] 31)).alloc (.cells #[.int .i64 0, .int .i64 0] 31)) w.heap.size = some #[.int .i64 b.full, .int .i64 b.fed, .int .i64 b.rest.1, .int .i64 b.rest.2, .int .i64 b.heat.1, .int .i64 b.heat.2, .int .i64 b.toil.1, .int .i64 b.toil.2, .int .i64 b.burn.1, .int .i64 b.burn.2, .int .i64 b.rub.1, .int .i64 b.rub.2, .int .i64 b.milk.1, .int .i64 b.milk.2, .int .i64 b.heal, .int .i64 b.strong.1, .int .i64 b.strong.2] := (by repeat (first | with_reducible assumption | with_reducible apply row_here0 | with_reducible apply row_here1 | with_reducible apply row_here2 | with_reducible apply row_here3 | with_reducible apply rowSkip))
  have rbW0 : rowOf ((((w.alloc (.cells #[.int .i64 b.full, .int .i64 b.fed, .int .i64 b.rest.1, .int .i64 b.rest.2, .int .i64 b.heat.1, .int .i64 b.heat.2, .int .i64 b.toil.1, .int .i64 b.toil.2, .int .i64 b.burn.1, .int .i64 b.burn.2, .int .i64 b.rub.1, .int .i64 b.rub.2, .int .i64 b.milk.1, .int .i64 b.milk.2, .int .i64 b.heal, .int .i64 b.strong.1, .int .i64 b.strong.2] 36)).alloc (.cells #[.int .i64 m.hours, .int .i64 m.load, .int .i64 m.heat.1, .int .i64 m.heat.2, .int .i64 m.grass.1, .int .i64 m.grass.2, .int .i64 m.drinks.1, .int .i64 m.drinks.2] 45)).alloc (.cells #[.int .i64 0, .int .i64 0] 31)).alloc (.cells #[.int .i64 0, .int .i64 0] 31)) (w.heap.size + 1) = some #[.int .i64 m.hours, .int .i64 m.load, .int .i64 m.heat.1, .int .i64 m.heat.2, .int .i64 m.grass.1, .int .i64 m.grass.2, .int .i64 m.drinks.1, .int .i64 m.drinks.2] := (by repeat (first | with_reducible assumption | with_reducible apply row_here0 | with_reducible apply row_here1 | with_reducible apply row_here2 | with_reducible apply row_here3 | with_reducible apply rowSkip))
  have rcW0 : rowOf ((((w.alloc (.cells #[.int .i64 b.full, .int .i64 b.fed, .int .i64 b.rest.1, .int .i64 b.rest.2, .int .i64 b.heat.1, .int .i64 b.heat.2, .int .i64 b.toil.1, .int .i64 b.toil.2, .int .i64 b.burn.1, .int .i64 b.burn.2, .int .i64 b.rub.1, .int .i64 b.rub.2, .int .i64 b.milk.1, .int .i64 b.milk.2, .int .i64 b.heal, .int .i64 b.strong.1, .int .i64 b.strong.2] 36)).alloc (.cells #[.int .i64 m.hours, .int .i64 m.load, .int .i64 m.heat.1, .int .i64 m.heat.2, .int .i64 m.grass.1, .int .i64 m.grass.2, .int .i64 m.drinks.1, .int .i64 m.drinks.2] 45)).alloc (.cells #[.int .i64 0, .int .i64 0] 31)).alloc (.cells #[.int .i64 0, .int .i64 0] 31)) (w.heap.size + 1 + 1) = some #[.int .i64 0, .int .i64 0] := (by repeat (first | with_reducible assumption | with_reducible apply row_here0 | with_reducible apply row_here1 | with_reducible apply row_here2 | with_reducible apply row_here3 | with_reducible apply rowSkip))
  have rdW0 : rowOf ((((w.alloc (.cells #[.int .i64 b.full, .int .i64 b.fed, .int .i64 b.rest.1, .int .i64 b.rest.2, .int .i64 b.heat.1, .int .i64 b.heat.2, .int .i64 b.toil.1, .int .i64 b.toil.2, .int .i64 b.burn.1, .int .i64 b.burn.2, .int .i64 b.rub.1, .int .i64 b.rub.2, .int .i64 b.milk.1, .int .i64 b.milk.2, .int .i64 b.heal, .int .i64 b.strong.1, .int .i64 b.strong.2] 36)).alloc (.cells #[.int .i64 m.hours, .int .i64 m.load, .int .i64 m.heat.1, .int .i64 m.heat.2, .int .i64 m.grass.1, .int .i64 m.grass.2, .int .i64 m.drinks.1, .int .i64 m.drinks.2] 45)).alloc (.cells #[.int .i64 0, .int .i64 0] 31)).alloc (.cells #[.int .i64 0, .int .i64 0] 31)) (w.heap.size + 1 + 1 + 1) = some #[.int .i64 0, .int .i64 0] := (by repeat (first | with_reducible assumption | with_reducible apply row_here0 | with_reducible apply row_here1 | with_reducible apply row_here2 | with_reducible apply row_here3 | with_reducible apply rowSkip))
  have zW0 := hW0.size
  generalize ((((w.alloc (.cells #[.int .i64 b.full, .int .i64 b.fed, .int .i64 b.rest.1, .int .i64 b.rest.2, .int .i64 b.heat.1, .int .i64 b.heat.2, .int .i64 b.toil.1, .int .i64 b.toil.2, .int .i64 b.burn.1, .int .i64 b.burn.2, .int .i64 b.rub.1, .int .i64 b.rub.2, .int .i64 b.milk.1, .int .i64 b.milk.2, .int .i64 b.heal, .int .i64 b.strong.1, .int .i64 b.strong.2] 36)).alloc (.cells #[.int .i64 m.hours, .int .i64 m.load, .int .i64 m.heat.1, .int .i64 m.heat.2, .int .i64 m.grass.1, .int .i64 m.grass.2, .int .i64 m.drinks.1, .int .i64 m.drinks.2] 45)).alloc (.cells #[.int .i64 0, .int .i64 0] 31)).alloc (.cells #[.int .i64 0, .int .i64 0] 31)) = W0 at hW0 raW0 rbW0 rcW0 rdW0 zW0 ⊢
  have zd := (cell_of_rowOf rdW0).2.2
  refine wp_drawn_list (by kernel_rfl) [16, 17, 18, 19, 20, 21, 22, 23, 24, 25, 26, 27, 28, 29, 30, 31, 32, 33, 34, 35, 36, 37, 38, 39, 40, 41, 42, 43, 44, 45, 46, 47, 48, 49, 50, 51, 52, 53, 54, 55, 56, 9] (by kernel_rfl) rfl (fun ix v W => match ix with
    | 0 => v = .pointer (some ⟨w.heap.size, 2, none⟩)
    | 1 => v = .pointer (some ⟨w.heap.size, 2, none⟩)
    | 2 => v = .int .i64 (b.rest.1)
    | 3 => v = .pointer (some ⟨w.heap.size, 4, none⟩)
    | 4 => v = .pointer (some ⟨w.heap.size, 4, none⟩)
    | 5 => v = .int .i64 (b.heat.1)
    | 6 => v = .pointer (some ⟨w.heap.size + 1, 2, none⟩)
    | 7 => v = .pointer (some ⟨w.heap.size + 1, 2, none⟩)
    | 8 => v = .int .i64 (m.heat.1)
    | 9 => v = .int .i64 (m.heat.1 - 20)
    | 10 => v = .int .i64 ((hsS m).1)
    | 11 => v = .int .i64 (b.heat.1 * (hsS m).1)
    | 12 => v = .int .i64 (b.rest.1 + b.heat.1 * (hsS m).1)
    | 13 => v = .pointer (some ⟨w.heap.size, 6, none⟩)
    | 14 => v = .pointer (some ⟨w.heap.size, 6, none⟩)
    | 15 => v = .int .i64 (b.toil.1)
    | 16 => v = .int .i64 ((buS m).1)
    | 17 => v = .int .i64 (b.toil.1 * (buS m).1)
    | 18 => v = .int .i64 (b.toil.1 * (buS m).1 / 100000)
    | 19 => v = .int .i64 ((wa0R b m).1)
    | 20 => v = .pointer (some ⟨w.heap.size, 2, none⟩)
    | 21 => v = .pointer (some ⟨w.heap.size, 3, none⟩)
    | 22 => v = .int .i64 (b.rest.2)
    | 23 => v = .pointer (some ⟨w.heap.size, 4, none⟩)
    | 24 => v = .pointer (some ⟨w.heap.size, 5, none⟩)
    | 25 => v = .int .i64 (b.heat.2)
    | 26 => v = .pointer (some ⟨w.heap.size + 1, 2, none⟩)
    | 27 => v = .pointer (some ⟨w.heap.size + 1, 3, none⟩)
    | 28 => v = .int .i64 (m.heat.2)
    | 29 => v = .int .i64 (m.heat.2 - 20)
    | 30 => v = .int .i64 ((hsS m).2)
    | 31 => v = .int .i64 (b.heat.2 * (hsS m).2)
    | 32 => v = .int .i64 (b.rest.2 + b.heat.2 * (hsS m).2)
    | 33 => v = .pointer (some ⟨w.heap.size, 6, none⟩)
    | 34 => v = .pointer (some ⟨w.heap.size, 7, none⟩)
    | 35 => v = .int .i64 (b.toil.2)
    | 36 => v = .int .i64 ((buS m).2)
    | 37 => v = .int .i64 (b.toil.2 * (buS m).2)
    | 38 => v = .int .i64 ((b.toil.2 * (buS m).2 + 100000 - 1) / 100000)
    | 39 => v = .int .i64 ((wa0R b m).2)
    | 40 => v = .agg #[.int .i64 (wa0R b m).1, .int .i64 (wa0R b m).2]
    | 41 => PT v #[.int .i64 0, .int .i64 0] (W0.heap.size) W
    | _ => True) ⟨?_, ?_, ?_, ?_, ?_, ?_, ?_, ?_, ?_, ?_, ?_, ?_, ?_, ?_, ?_, ?_, ?_, ?_, ?_, ?_, ?_, ?_, ?_, ?_, ?_, ?_, ?_, ?_, ?_, ?_, ?_, ?_, ?_, ?_, ?_, ?_, ?_, ?_, ?_, ?_, ?_, ?_, ?_⟩
  · intro b' W hE hb hdep K hK
    have e3 : b'.tmps[3]?.getD undef = .pointer (some ⟨w.heap.size, 0, none⟩) := hb 3 (by decide)
    clear hdep hb
    go_wp2
    exact hK _ _ (Ext.refl _) rfl
  · intro b' W hE hb hdep K hK
    have e16 : b'.tmps[16]?.getD undef = .pointer (some ⟨w.heap.size, 2, none⟩) := pureR (hdep 0 16 (by kernel_rfl) rfl)
    clear hdep hb
    go_wp2
    exact hK _ _ (Ext.refl _) rfl
  · intro b' W hE hb hdep K hK
    have e17 : b'.tmps[17]?.getD undef = .pointer (some ⟨w.heap.size, 2, none⟩) := pureR (hdep 1 17 (by kernel_rfl) rfl)
    clear hdep hb
    obtain ⟨_, _, -, _⟩ := keep_row hE ((raW0 : rowOf _ _ = _))
    obtain ⟨_, _, -, _⟩ := keep_row hE ((rbW0 : rowOf _ _ = _))
    go_wp2
    exact hK _ _ (Ext.refl _) rfl
  · intro b' W hE hb hdep K hK
    have e3 : b'.tmps[3]?.getD undef = .pointer (some ⟨w.heap.size, 0, none⟩) := hb 3 (by decide)
    clear hdep hb
    go_wp2
    exact hK _ _ (Ext.refl _) rfl
  · intro b' W hE hb hdep K hK
    have e19 : b'.tmps[19]?.getD undef = .pointer (some ⟨w.heap.size, 4, none⟩) := pureR (hdep 3 19 (by kernel_rfl) rfl)
    clear hdep hb
    go_wp2
    exact hK _ _ (Ext.refl _) rfl
  · intro b' W hE hb hdep K hK
    have e20 : b'.tmps[20]?.getD undef = .pointer (some ⟨w.heap.size, 4, none⟩) := pureR (hdep 4 20 (by kernel_rfl) rfl)
    clear hdep hb
    obtain ⟨_, _, -, _⟩ := keep_row hE ((raW0 : rowOf _ _ = _))
    obtain ⟨_, _, -, _⟩ := keep_row hE ((rbW0 : rowOf _ _ = _))
    go_wp2
    exact hK _ _ (Ext.refl _) rfl
  · intro b' W hE hb hdep K hK
    have e5 : b'.tmps[5]?.getD undef = .pointer (some ⟨w.heap.size + 1, 0, none⟩) := hb 5 (by decide)
    clear hdep hb
    go_wp2
    exact hK _ _ (Ext.refl _) rfl
  · intro b' W hE hb hdep K hK
    have e22 : b'.tmps[22]?.getD undef = .pointer (some ⟨w.heap.size + 1, 2, none⟩) := pureR (hdep 6 22 (by kernel_rfl) rfl)
    clear hdep hb
    go_wp2
    exact hK _ _ (Ext.refl _) rfl
  · intro b' W hE hb hdep K hK
    have e23 : b'.tmps[23]?.getD undef = .pointer (some ⟨w.heap.size + 1, 2, none⟩) := pureR (hdep 7 23 (by kernel_rfl) rfl)
    clear hdep hb
    obtain ⟨_, _, -, _⟩ := keep_row hE ((raW0 : rowOf _ _ = _))
    obtain ⟨_, _, -, _⟩ := keep_row hE ((rbW0 : rowOf _ _ = _))
    go_wp2
    exact hK _ _ (Ext.refl _) rfl
  · intro b' W hE hb hdep K hK
    have e24 : b'.tmps[24]?.getD undef = .int .i64 (m.heat.1) := pureR (hdep 8 24 (by kernel_rfl) rfl)
    clear hdep hb
    go_wp2
    exact hK _ _ (Ext.refl _) rfl
  · intro b' W hE hb hdep K hK
    have e25 : b'.tmps[25]?.getD undef = .int .i64 (m.heat.1 - 20) := pureR (hdep 9 25 (by kernel_rfl) rfl)
    clear hdep hb
    go_wp2
    exact hK _ _ (Ext.refl _) rfl
  · intro b' W hE hb hdep K hK
    have e21 : b'.tmps[21]?.getD undef = .int .i64 (b.heat.1) := pureR (hdep 5 21 (by kernel_rfl) rfl)
    have e26 : b'.tmps[26]?.getD undef = .int .i64 ((hsS m).1) := pureR (hdep 10 26 (by kernel_rfl) rfl)
    clear hdep hb
    go_wp2
    exact hK _ _ (Ext.refl _) rfl
  · intro b' W hE hb hdep K hK
    have e18 : b'.tmps[18]?.getD undef = .int .i64 (b.rest.1) := pureR (hdep 2 18 (by kernel_rfl) rfl)
    have e27 : b'.tmps[27]?.getD undef = .int .i64 (b.heat.1 * (hsS m).1) := pureR (hdep 11 27 (by kernel_rfl) rfl)
    clear hdep hb
    go_wp2
    exact hK _ _ (Ext.refl _) rfl
  · intro b' W hE hb hdep K hK
    have e3 : b'.tmps[3]?.getD undef = .pointer (some ⟨w.heap.size, 0, none⟩) := hb 3 (by decide)
    clear hdep hb
    go_wp2
    exact hK _ _ (Ext.refl _) rfl
  · intro b' W hE hb hdep K hK
    have e29 : b'.tmps[29]?.getD undef = .pointer (some ⟨w.heap.size, 6, none⟩) := pureR (hdep 13 29 (by kernel_rfl) rfl)
    clear hdep hb
    go_wp2
    exact hK _ _ (Ext.refl _) rfl
  · intro b' W hE hb hdep K hK
    have e30 : b'.tmps[30]?.getD undef = .pointer (some ⟨w.heap.size, 6, none⟩) := pureR (hdep 14 30 (by kernel_rfl) rfl)
    clear hdep hb
    obtain ⟨_, _, -, _⟩ := keep_row hE ((raW0 : rowOf _ _ = _))
    obtain ⟨_, _, -, _⟩ := keep_row hE ((rbW0 : rowOf _ _ = _))
    go_wp2
    exact hK _ _ (Ext.refl _) rfl
  · intro b' W hE hb hdep K hK
    have e8 : b'.tmps[8]?.getD undef = .int .i64 (buS m).1 := hb 8 (by decide)
    clear hdep hb
    go_wp2
    exact hK _ _ (Ext.refl _) rfl
  · intro b' W hE hb hdep K hK
    have e31 : b'.tmps[31]?.getD undef = .int .i64 (b.toil.1) := pureR (hdep 15 31 (by kernel_rfl) rfl)
    have e32 : b'.tmps[32]?.getD undef = .int .i64 ((buS m).1) := pureR (hdep 16 32 (by kernel_rfl) rfl)
    clear hdep hb
    go_wp2
    exact hK _ _ (Ext.refl _) rfl
  · intro b' W hE hb hdep K hK
    have e33 : b'.tmps[33]?.getD undef = .int .i64 (b.toil.1 * (buS m).1) := pureR (hdep 17 33 (by kernel_rfl) rfl)
    clear hdep hb
    go_wp2
    exact hK _ _ (Ext.refl _) rfl
  · intro b' W hE hb hdep K hK
    have e28 : b'.tmps[28]?.getD undef = .int .i64 (b.rest.1 + b.heat.1 * (hsS m).1) := pureR (hdep 12 28 (by kernel_rfl) rfl)
    have e34 : b'.tmps[34]?.getD undef = .int .i64 (b.toil.1 * (buS m).1 / 100000) := pureR (hdep 18 34 (by kernel_rfl) rfl)
    clear hdep hb
    go_wp2
    exact hK _ _ (Ext.refl _) rfl
  · intro b' W hE hb hdep K hK
    have e3 : b'.tmps[3]?.getD undef = .pointer (some ⟨w.heap.size, 0, none⟩) := hb 3 (by decide)
    clear hdep hb
    go_wp2
    exact hK _ _ (Ext.refl _) rfl
  · intro b' W hE hb hdep K hK
    have e36 : b'.tmps[36]?.getD undef = .pointer (some ⟨w.heap.size, 2, none⟩) := pureR (hdep 20 36 (by kernel_rfl) rfl)
    clear hdep hb
    go_wp2
    exact hK _ _ (Ext.refl _) rfl
  · intro b' W hE hb hdep K hK
    have e37 : b'.tmps[37]?.getD undef = .pointer (some ⟨w.heap.size, 3, none⟩) := pureR (hdep 21 37 (by kernel_rfl) rfl)
    clear hdep hb
    obtain ⟨_, _, -, _⟩ := keep_row hE ((raW0 : rowOf _ _ = _))
    obtain ⟨_, _, -, _⟩ := keep_row hE ((rbW0 : rowOf _ _ = _))
    go_wp2
    exact hK _ _ (Ext.refl _) rfl
  · intro b' W hE hb hdep K hK
    have e3 : b'.tmps[3]?.getD undef = .pointer (some ⟨w.heap.size, 0, none⟩) := hb 3 (by decide)
    clear hdep hb
    go_wp2
    exact hK _ _ (Ext.refl _) rfl
  · intro b' W hE hb hdep K hK
    have e39 : b'.tmps[39]?.getD undef = .pointer (some ⟨w.heap.size, 4, none⟩) := pureR (hdep 23 39 (by kernel_rfl) rfl)
    clear hdep hb
    go_wp2
    exact hK _ _ (Ext.refl _) rfl
  · intro b' W hE hb hdep K hK
    have e40 : b'.tmps[40]?.getD undef = .pointer (some ⟨w.heap.size, 5, none⟩) := pureR (hdep 24 40 (by kernel_rfl) rfl)
    clear hdep hb
    obtain ⟨_, _, -, _⟩ := keep_row hE ((raW0 : rowOf _ _ = _))
    obtain ⟨_, _, -, _⟩ := keep_row hE ((rbW0 : rowOf _ _ = _))
    go_wp2
    exact hK _ _ (Ext.refl _) rfl
  · intro b' W hE hb hdep K hK
    have e5 : b'.tmps[5]?.getD undef = .pointer (some ⟨w.heap.size + 1, 0, none⟩) := hb 5 (by decide)
    clear hdep hb
    go_wp2
    exact hK _ _ (Ext.refl _) rfl
  · intro b' W hE hb hdep K hK
    have e42 : b'.tmps[42]?.getD undef = .pointer (some ⟨w.heap.size + 1, 2, none⟩) := pureR (hdep 26 42 (by kernel_rfl) rfl)
    clear hdep hb
    go_wp2
    exact hK _ _ (Ext.refl _) rfl
  · intro b' W hE hb hdep K hK
    have e43 : b'.tmps[43]?.getD undef = .pointer (some ⟨w.heap.size + 1, 3, none⟩) := pureR (hdep 27 43 (by kernel_rfl) rfl)
    clear hdep hb
    obtain ⟨_, _, -, _⟩ := keep_row hE ((raW0 : rowOf _ _ = _))
    obtain ⟨_, _, -, _⟩ := keep_row hE ((rbW0 : rowOf _ _ = _))
    go_wp2
    exact hK _ _ (Ext.refl _) rfl
  · intro b' W hE hb hdep K hK
    have e44 : b'.tmps[44]?.getD undef = .int .i64 (m.heat.2) := pureR (hdep 28 44 (by kernel_rfl) rfl)
    clear hdep hb
    go_wp2
    exact hK _ _ (Ext.refl _) rfl
  · intro b' W hE hb hdep K hK
    have e45 : b'.tmps[45]?.getD undef = .int .i64 (m.heat.2 - 20) := pureR (hdep 29 45 (by kernel_rfl) rfl)
    clear hdep hb
    go_wp2
    exact hK _ _ (Ext.refl _) rfl
  · intro b' W hE hb hdep K hK
    have e41 : b'.tmps[41]?.getD undef = .int .i64 (b.heat.2) := pureR (hdep 25 41 (by kernel_rfl) rfl)
    have e46 : b'.tmps[46]?.getD undef = .int .i64 ((hsS m).2) := pureR (hdep 30 46 (by kernel_rfl) rfl)
    clear hdep hb
    go_wp2
    exact hK _ _ (Ext.refl _) rfl
  · intro b' W hE hb hdep K hK
    have e38 : b'.tmps[38]?.getD undef = .int .i64 (b.rest.2) := pureR (hdep 22 38 (by kernel_rfl) rfl)
    have e47 : b'.tmps[47]?.getD undef = .int .i64 (b.heat.2 * (hsS m).2) := pureR (hdep 31 47 (by kernel_rfl) rfl)
    clear hdep hb
    go_wp2
    exact hK _ _ (Ext.refl _) rfl
  · intro b' W hE hb hdep K hK
    have e3 : b'.tmps[3]?.getD undef = .pointer (some ⟨w.heap.size, 0, none⟩) := hb 3 (by decide)
    clear hdep hb
    go_wp2
    exact hK _ _ (Ext.refl _) rfl
  · intro b' W hE hb hdep K hK
    have e49 : b'.tmps[49]?.getD undef = .pointer (some ⟨w.heap.size, 6, none⟩) := pureR (hdep 33 49 (by kernel_rfl) rfl)
    clear hdep hb
    go_wp2
    exact hK _ _ (Ext.refl _) rfl
  · intro b' W hE hb hdep K hK
    have e50 : b'.tmps[50]?.getD undef = .pointer (some ⟨w.heap.size, 7, none⟩) := pureR (hdep 34 50 (by kernel_rfl) rfl)
    clear hdep hb
    obtain ⟨_, _, -, _⟩ := keep_row hE ((raW0 : rowOf _ _ = _))
    obtain ⟨_, _, -, _⟩ := keep_row hE ((rbW0 : rowOf _ _ = _))
    go_wp2
    exact hK _ _ (Ext.refl _) rfl
  · intro b' W hE hb hdep K hK
    have e8 : b'.tmps[8]?.getD undef = .int .i64 (buS m).1 := hb 8 (by decide)
    clear hdep hb
    go_wp2
    exact hK _ _ (Ext.refl _) rfl
  · intro b' W hE hb hdep K hK
    have e51 : b'.tmps[51]?.getD undef = .int .i64 (b.toil.2) := pureR (hdep 35 51 (by kernel_rfl) rfl)
    have e52 : b'.tmps[52]?.getD undef = .int .i64 ((buS m).2) := pureR (hdep 36 52 (by kernel_rfl) rfl)
    clear hdep hb
    go_wp2
    exact hK _ _ (Ext.refl _) rfl
  · intro b' W hE hb hdep K hK
    have e53 : b'.tmps[53]?.getD undef = .int .i64 (b.toil.2 * (buS m).2) := pureR (hdep 37 53 (by kernel_rfl) rfl)
    clear hdep hb
    go_wp2_with fail
    refine (up_any _ _ _ (by omega) (by omega) (by omega) (by omega)).mono ?_
    rintro e W' ⟨rfl, hB⟩
    exact hK _ _ hB rfl
  · intro b' W hE hb hdep K hK
    have e48 : b'.tmps[48]?.getD undef = .int .i64 (b.rest.2 + b.heat.2 * (hsS m).2) := pureR (hdep 32 48 (by kernel_rfl) rfl)
    have e54 : b'.tmps[54]?.getD undef = .int .i64 ((b.toil.2 * (buS m).2 + 100000 - 1) / 100000) := pureR (hdep 38 54 (by kernel_rfl) rfl)
    clear hdep hb
    go_wp2
    exact hK _ _ (Ext.refl _) rfl
  · intro b' W hE hb hdep K hK
    have e35 : b'.tmps[35]?.getD undef = .int .i64 ((wa0R b m).1) := pureR (hdep 19 35 (by kernel_rfl) rfl)
    have e55 : b'.tmps[55]?.getD undef = .int .i64 ((wa0R b m).2) := pureR (hdep 39 55 (by kernel_rfl) rfl)
    clear hdep hb
    go_wp2
    exact hK _ _ (Ext.refl _) rfl
  · intro b' W hE hb hdep K hK
    clear hdep hb
    go_wp2
    exact hK _ _ (ext_alloc _ _) ⟨rfl, row_here0 _ _ _, by have := hE.size; simp at this; simp [blk]; omega⟩
  intro f W hE hR
  have e16 : f 16 = .pointer (some ⟨w.heap.size, 2, none⟩) := pureR (hR 0 16 rfl)
  have e17 : f 17 = .pointer (some ⟨w.heap.size, 2, none⟩) := pureR (hR 1 17 rfl)
  have e18 : f 18 = .int .i64 (b.rest.1) := pureR (hR 2 18 rfl)
  have e19 : f 19 = .pointer (some ⟨w.heap.size, 4, none⟩) := pureR (hR 3 19 rfl)
  have e20 : f 20 = .pointer (some ⟨w.heap.size, 4, none⟩) := pureR (hR 4 20 rfl)
  have e21 : f 21 = .int .i64 (b.heat.1) := pureR (hR 5 21 rfl)
  have e22 : f 22 = .pointer (some ⟨w.heap.size + 1, 2, none⟩) := pureR (hR 6 22 rfl)
  have e23 : f 23 = .pointer (some ⟨w.heap.size + 1, 2, none⟩) := pureR (hR 7 23 rfl)
  have e24 : f 24 = .int .i64 (m.heat.1) := pureR (hR 8 24 rfl)
  have e25 : f 25 = .int .i64 (m.heat.1 - 20) := pureR (hR 9 25 rfl)
  have e26 : f 26 = .int .i64 ((hsS m).1) := pureR (hR 10 26 rfl)
  have e27 : f 27 = .int .i64 (b.heat.1 * (hsS m).1) := pureR (hR 11 27 rfl)
  have e28 : f 28 = .int .i64 (b.rest.1 + b.heat.1 * (hsS m).1) := pureR (hR 12 28 rfl)
  have e29 : f 29 = .pointer (some ⟨w.heap.size, 6, none⟩) := pureR (hR 13 29 rfl)
  have e30 : f 30 = .pointer (some ⟨w.heap.size, 6, none⟩) := pureR (hR 14 30 rfl)
  have e31 : f 31 = .int .i64 (b.toil.1) := pureR (hR 15 31 rfl)
  have e32 : f 32 = .int .i64 ((buS m).1) := pureR (hR 16 32 rfl)
  have e33 : f 33 = .int .i64 (b.toil.1 * (buS m).1) := pureR (hR 17 33 rfl)
  have e34 : f 34 = .int .i64 (b.toil.1 * (buS m).1 / 100000) := pureR (hR 18 34 rfl)
  have e35 : f 35 = .int .i64 ((wa0R b m).1) := pureR (hR 19 35 rfl)
  have e36 : f 36 = .pointer (some ⟨w.heap.size, 2, none⟩) := pureR (hR 20 36 rfl)
  have e37 : f 37 = .pointer (some ⟨w.heap.size, 3, none⟩) := pureR (hR 21 37 rfl)
  have e38 : f 38 = .int .i64 (b.rest.2) := pureR (hR 22 38 rfl)
  have e39 : f 39 = .pointer (some ⟨w.heap.size, 4, none⟩) := pureR (hR 23 39 rfl)
  have e40 : f 40 = .pointer (some ⟨w.heap.size, 5, none⟩) := pureR (hR 24 40 rfl)
  have e41 : f 41 = .int .i64 (b.heat.2) := pureR (hR 25 41 rfl)
  have e42 : f 42 = .pointer (some ⟨w.heap.size + 1, 2, none⟩) := pureR (hR 26 42 rfl)
  have e43 : f 43 = .pointer (some ⟨w.heap.size + 1, 3, none⟩) := pureR (hR 27 43 rfl)
  have e44 : f 44 = .int .i64 (m.heat.2) := pureR (hR 28 44 rfl)
  have e45 : f 45 = .int .i64 (m.heat.2 - 20) := pureR (hR 29 45 rfl)
  have e46 : f 46 = .int .i64 ((hsS m).2) := pureR (hR 30 46 rfl)
  have e47 : f 47 = .int .i64 (b.heat.2 * (hsS m).2) := pureR (hR 31 47 rfl)
  have e48 : f 48 = .int .i64 (b.rest.2 + b.heat.2 * (hsS m).2) := pureR (hR 32 48 rfl)
  have e49 : f 49 = .pointer (some ⟨w.heap.size, 6, none⟩) := pureR (hR 33 49 rfl)
  have e50 : f 50 = .pointer (some ⟨w.heap.size, 7, none⟩) := pureR (hR 34 50 rfl)
  have e51 : f 51 = .int .i64 (b.toil.2) := pureR (hR 35 51 rfl)
  have e52 : f 52 = .int .i64 ((buS m).2) := pureR (hR 36 52 rfl)
  have e53 : f 53 = .int .i64 (b.toil.2 * (buS m).2) := pureR (hR 37 53 rfl)
  have e54 : f 54 = .int .i64 ((b.toil.2 * (buS m).2 + 100000 - 1) / 100000) := pureR (hR 38 54 rfl)
  have e55 : f 55 = .int .i64 ((wa0R b m).2) := pureR (hR 39 55 rfl)
  have e56 : f 56 = .agg #[.int .i64 (wa0R b m).1, .int .i64 (wa0R b m).2] := pureR (hR 40 56 rfl)
  have hp : PT (f 9) #[.int .i64 0, .int .i64 0] (W0.heap.size) W := pointR (hR 41 9 rfl)
  clear hR
  refine wpL_store_pt rfl 31 (.tmp 9) (.tmp 56) rfl (vs := #[.int .i64 (wa0R b m).1, .int .i64 (wa0R b m).2]) ((puts_eval (by decide) rfl).trans e56) (puts_eval (by decide) rfl) hp (by kernel_rfl) rfl (by simp [one_int, one_bool]) ?_
  intro h W3 hbase e9 hlt hS
  clear hp
  simp only [puts, Act.put, List.setIfInBounds_toArray, List.set_cons_succ, List.set_cons_zero, e16, e17, e18, e19, e20, e21, e22, e23, e24, e25, e26, e27, e28, e29, e30, e31, e32, e33, e34, e35, e36, e37, e38, e39, e40, e41, e42, e43, e44, e45, e46, e47, e48, e49, e50, e51, e52, e53, e54, e55, e56, e9]
  have zE := hE.size
  simp only [World.size_alloc, World.size_drew] at zE
  obtain ⟨raW3, caW3, gaW3, zaW3⟩ := row_facts (hS.keeps (g := w.heap.size) (by omega) (hE.row ((rowOf_drew _ _).trans (by repeat (first | with_reducible assumption | with_reducible apply row_here0 | with_reducible apply row_here1 | with_reducible apply row_here2 | with_reducible apply row_here3 | with_reducible apply rowSkip)))))
  obtain ⟨rbW3, cbW3, gbW3, zbW3⟩ := row_facts (hS.keeps (g := w.heap.size + 1) (by omega) (hE.row ((rowOf_drew _ _).trans (by repeat (first | with_reducible assumption | with_reducible apply row_here0 | with_reducible apply row_here1 | with_reducible apply row_here2 | with_reducible apply row_here3 | with_reducible apply rowSkip)))))
  obtain ⟨rcW3, ccW3, gcW3, zcW3⟩ := row_facts (hS.keeps (g := w.heap.size + 1 + 1) (by omega) (hE.row ((rowOf_drew _ _).trans (by repeat (first | with_reducible assumption | with_reducible apply row_here0 | with_reducible apply row_here1 | with_reducible apply row_here2 | with_reducible apply row_here3 | with_reducible apply rowSkip)))))
  obtain ⟨rdW3, cdW3, gdW3, zdW3⟩ := row_facts (hS.keeps (g := w.heap.size + 1 + 1 + 1) (by omega) (hE.row ((rowOf_drew _ _).trans (by repeat (first | with_reducible assumption | with_reducible apply row_here0 | with_reducible apply row_here1 | with_reducible apply row_here2 | with_reducible apply row_here3 | with_reducible apply rowSkip)))))
  obtain ⟨rhW3, chW3, ghW3, zhW3⟩ := row_facts hS.row
  have hW3 : Below w.heap.size w W3 := ((drew_ext hE).below (by have := hW0.size; go_grown) (by have := hW0.size; simp; try omega)).trans (hS.below _ (by omega))
  have zW3 := hW3.size
  clear hS hE zE
  clear raW0 rbW0 rcW0 rdW0
  obtain ⟨v1, v2, v3, v4⟩ : 0 ≤ (wa0R b m).1 ∧ (wa0R b m).1 ≤ 10000000000000 ∧ 0 ≤ (wa0R b m).2 ∧ (wa0R b m).2 ≤ 10000000000000 := by simp only [wa0R]; omega
  cases hk : k with
  | false =>
    have hwa : waS b false m = wa0R b m := by rw [← wa0R_eq]; rfl
    go_wp2_with fail
    refine wp_draws (by kernel_rfl) [(w.heap.size + 1 + 1, #[.int .i64 (wa0R b m).1, .int .i64 (wa0R b m).2])] [some 72, some 73, some 74, some 75, some 76, some 77, some 78, some 79, some 80, some 81, some 82, some 83, some 84, some 85, none] (by kernel_rfl) (fun ix v W => match ix with
      | 0 => v = .agg #[.int .i64 (wa0R b m).1, .int .i64 (wa0R b m).2]
      | 1 => v = .pointer (some ⟨w.heap.size, 8, none⟩)
      | 2 => v = .pointer (some ⟨w.heap.size, 8, none⟩)
      | 3 => v = .int .i64 (b.burn.1)
      | 4 => v = .int .i64 ((buS m).1)
      | 5 => v = .int .i64 (b.burn.1 * (buS m).1)
      | 6 => v = .int .i64 (b.burn.1 * (buS m).1 / 100000)
      | 7 => v = .pointer (some ⟨w.heap.size, 8, none⟩)
      | 8 => v = .pointer (some ⟨w.heap.size, 9, none⟩)
      | 9 => v = .int .i64 (b.burn.2)
      | 10 => v = .int .i64 ((buS m).2)
      | 11 => v = .int .i64 (b.burn.2 * (buS m).2)
      | 12 => v = .int .i64 ((b.burn.2 * (buS m).2 + 100000 - 1) / 100000)
      | 13 => v = .agg #[.int .i64 (faS b m).1, .int .i64 (faS b m).2]
      | 14 => rowOf W (w.heap.size + 1 + 1) = some #[.int .i64 (wa0R b m).1, .int .i64 (wa0R b m).2]
      | _ => True) ⟨⟨?_, ?_⟩, ⟨?_, ?_⟩, ⟨?_, ?_⟩, ⟨?_, ?_⟩, ⟨?_, ?_⟩, ⟨?_, ?_⟩, ⟨?_, ?_⟩, ⟨?_, ?_⟩, ⟨?_, ?_⟩, ⟨?_, ?_⟩, ⟨?_, ?_⟩, ⟨?_, ?_⟩, ⟨?_, ?_⟩, ⟨?_, ?_⟩, ⟨?_, ?_⟩, ?_⟩
    · intro g h; cases h
    · intro b' W hE hb hdep K hK
      have e9 : b'.tmps[9]?.getD undef = .pointer (some ⟨h, 0, none⟩) := hb 9 (by decide)
      clear hdep hb
      obtain ⟨_, _, -, _⟩ := row_facts (hE.row ((rowOf_drew _ _).trans raW3) (by first | (simp; done) | (simp; omega)))
      obtain ⟨_, _, -, _⟩ := row_facts (hE.row ((rowOf_drew _ _).trans rhW3) (by first | (simp; done) | (simp; omega)))
      go_wp2
      exact hK _ _ (XT.refl _ _) rfl
    · intro g h; cases h
    · intro b' W hE hb hdep K hK
      have e3 : b'.tmps[3]?.getD undef = .pointer (some ⟨w.heap.size, 0, none⟩) := hb 3 (by decide)
      clear hdep hb
      go_wp2
      exact hK _ _ (XT.refl _ _) rfl
    · intro g h; cases h
    · intro b' W hE hb hdep K hK
      have e73 : b'.tmps[73]?.getD undef = .pointer (some ⟨w.heap.size, 8, none⟩) := pureX (hdep 1 (some 73) (by kernel_rfl) rfl)
      clear hdep hb
      go_wp2
      exact hK _ _ (XT.refl _ _) rfl
    · intro g h; cases h
    · intro b' W hE hb hdep K hK
      have e74 : b'.tmps[74]?.getD undef = .pointer (some ⟨w.heap.size, 8, none⟩) := pureX (hdep 2 (some 74) (by kernel_rfl) rfl)
      clear hdep hb
      obtain ⟨_, _, -, _⟩ := row_facts (hE.row ((rowOf_drew _ _).trans raW3) (by first | (simp; done) | (simp; omega)))
      obtain ⟨_, _, -, _⟩ := row_facts (hE.row ((rowOf_drew _ _).trans rhW3) (by first | (simp; done) | (simp; omega)))
      go_wp2
      exact hK _ _ (XT.refl _ _) rfl
    · intro g h; cases h
    · intro b' W hE hb hdep K hK
      have e8 : b'.tmps[8]?.getD undef = .int .i64 (buS m).1 := hb 8 (by decide)
      clear hdep hb
      go_wp2
      exact hK _ _ (XT.refl _ _) rfl
    · intro g h; cases h
    · intro b' W hE hb hdep K hK
      have e75 : b'.tmps[75]?.getD undef = .int .i64 (b.burn.1) := pureX (hdep 3 (some 75) (by kernel_rfl) rfl)
      have e76 : b'.tmps[76]?.getD undef = .int .i64 ((buS m).1) := pureX (hdep 4 (some 76) (by kernel_rfl) rfl)
      clear hdep hb
      go_wp2
      exact hK _ _ (XT.refl _ _) rfl
    · intro g h; cases h
    · intro b' W hE hb hdep K hK
      have e77 : b'.tmps[77]?.getD undef = .int .i64 (b.burn.1 * (buS m).1) := pureX (hdep 5 (some 77) (by kernel_rfl) rfl)
      clear hdep hb
      go_wp2
      exact hK _ _ (XT.refl _ _) rfl
    · intro g h; cases h
    · intro b' W hE hb hdep K hK
      have e3 : b'.tmps[3]?.getD undef = .pointer (some ⟨w.heap.size, 0, none⟩) := hb 3 (by decide)
      clear hdep hb
      go_wp2
      exact hK _ _ (XT.refl _ _) rfl
    · intro g h; cases h
    · intro b' W hE hb hdep K hK
      have e79 : b'.tmps[79]?.getD undef = .pointer (some ⟨w.heap.size, 8, none⟩) := pureX (hdep 7 (some 79) (by kernel_rfl) rfl)
      clear hdep hb
      go_wp2
      exact hK _ _ (XT.refl _ _) rfl
    · intro g h; cases h
    · intro b' W hE hb hdep K hK
      have e80 : b'.tmps[80]?.getD undef = .pointer (some ⟨w.heap.size, 9, none⟩) := pureX (hdep 8 (some 80) (by kernel_rfl) rfl)
      clear hdep hb
      obtain ⟨_, _, -, _⟩ := row_facts (hE.row ((rowOf_drew _ _).trans raW3) (by first | (simp; done) | (simp; omega)))
      obtain ⟨_, _, -, _⟩ := row_facts (hE.row ((rowOf_drew _ _).trans rhW3) (by first | (simp; done) | (simp; omega)))
      go_wp2
      exact hK _ _ (XT.refl _ _) rfl
    · intro g h; cases h
    · intro b' W hE hb hdep K hK
      have e8 : b'.tmps[8]?.getD undef = .int .i64 (buS m).1 := hb 8 (by decide)
      clear hdep hb
      go_wp2
      exact hK _ _ (XT.refl _ _) rfl
    · intro g h; cases h
    · intro b' W hE hb hdep K hK
      have e81 : b'.tmps[81]?.getD undef = .int .i64 (b.burn.2) := pureX (hdep 9 (some 81) (by kernel_rfl) rfl)
      have e82 : b'.tmps[82]?.getD undef = .int .i64 ((buS m).2) := pureX (hdep 10 (some 82) (by kernel_rfl) rfl)
      clear hdep hb
      go_wp2
      exact hK _ _ (XT.refl _ _) rfl
    · intro g h; cases h
    · intro b' W hE hb hdep K hK
      have e83 : b'.tmps[83]?.getD undef = .int .i64 (b.burn.2 * (buS m).2) := pureX (hdep 11 (some 83) (by kernel_rfl) rfl)
      clear hdep hb
      go_wp2_with fail
      refine (up_any _ _ _ (by omega) (by omega) (by omega) (by omega)).mono ?_
      rintro e W' ⟨rfl, hB⟩
      exact hK _ _ (Ext.xt hB) rfl
    · intro g h; cases h
    · intro b' W hE hb hdep K hK
      have e78 : b'.tmps[78]?.getD undef = .int .i64 (b.burn.1 * (buS m).1 / 100000) := pureX (hdep 6 (some 78) (by kernel_rfl) rfl)
      have e84 : b'.tmps[84]?.getD undef = .int .i64 ((b.burn.2 * (buS m).2 + 100000 - 1) / 100000) := pureX (hdep 12 (some 84) (by kernel_rfl) rfl)
      clear hdep hb
      go_wp2
      exact hK _ _ (XT.refl _ _) rfl
    · intro g h; cases h
    · intro b' W hE hb hdep K hK
      have e6 : b'.tmps[6]?.getD undef = .pointer (some ⟨w.heap.size + 1 + 1, 0, none⟩) := hb 6 (by decide)
      have e72 : b'.tmps[72]?.getD undef = .agg #[.int .i64 (wa0R b m).1, .int .i64 (wa0R b m).2] := pureX (hdep 0 (some 72) (by kernel_rfl) rfl)
      clear hdep hb
      exact wp_store_fin 31 (.tmp 6) (.tmp 72) rfl rfl ((eval_tmp _ _).trans e6) ((eval_tmp _ _).trans e72) (hE.keep (w.heap.size + 1 + 1, #[.int .i64 (wa0R b m).1, .int .i64 (wa0R b m).2]) (by simp) ⟨_, (rowOf_drew _ _).trans rcW3, rfl⟩) (by kernel_rfl) (by simp [one_int, one_bool]) (by simp) (by simp <;> omega) (fun W' h1 h2 => hK W' h1 h2)
    intro f W hE hR
    have e72 : f 72 = .agg #[.int .i64 (wa0R b m).1, .int .i64 (wa0R b m).2] := pureX (hR 0 (some 72) rfl)
    have e73 : f 73 = .pointer (some ⟨w.heap.size, 8, none⟩) := pureX (hR 1 (some 73) rfl)
    have e74 : f 74 = .pointer (some ⟨w.heap.size, 8, none⟩) := pureX (hR 2 (some 74) rfl)
    have e75 : f 75 = .int .i64 (b.burn.1) := pureX (hR 3 (some 75) rfl)
    have e76 : f 76 = .int .i64 ((buS m).1) := pureX (hR 4 (some 76) rfl)
    have e77 : f 77 = .int .i64 (b.burn.1 * (buS m).1) := pureX (hR 5 (some 77) rfl)
    have e78 : f 78 = .int .i64 (b.burn.1 * (buS m).1 / 100000) := pureX (hR 6 (some 78) rfl)
    have e79 : f 79 = .pointer (some ⟨w.heap.size, 8, none⟩) := pureX (hR 7 (some 79) rfl)
    have e80 : f 80 = .pointer (some ⟨w.heap.size, 9, none⟩) := pureX (hR 8 (some 80) rfl)
    have e81 : f 81 = .int .i64 (b.burn.2) := pureX (hR 9 (some 81) rfl)
    have e82 : f 82 = .int .i64 ((buS m).2) := pureX (hR 10 (some 82) rfl)
    have e83 : f 83 = .int .i64 (b.burn.2 * (buS m).2) := pureX (hR 11 (some 83) rfl)
    have e84 : f 84 = .int .i64 ((b.burn.2 * (buS m).2 + 100000 - 1) / 100000) := pureX (hR 12 (some 84) rfl)
    have e85 : f 85 = .agg #[.int .i64 (faS b m).1, .int .i64 (faS b m).2] := pureX (hR 13 (some 85) rfl)
    have l14 : rowOf W (w.heap.size + 1 + 1) = some #[.int .i64 (wa0R b m).1, .int .i64 (wa0R b m).2] := lastX (by simp) (hR 14 none rfl)
    clear hR
    simp only [List.filterMap_cons, List.filterMap_nil, id, puts, Act.put, List.setIfInBounds_toArray, List.set_cons_succ, List.set_cons_zero, e72, e73, e74, e75, e76, e77, e78, e79, e80, e81, e82, e83, e84, e85]
    have rd := hE.row ((rowOf_drew _ _).trans rdW3) (by simp)
    have hw : Below w.heap.size w W := hE.below hW3.drew hW3.size (by simp <;> omega)
    clear hE
    go_wp2
    exact bodyPost_ret (results_rows2 Try.results73 Try.underlying31 rfl Try.underlying31 rfl rfl rfl ((stored_setRow rd _).keeps (by omega) l14) (stored_setRow rd _).row (by kernel_rfl) (by kernel_rfl)) rfl ⟨by rw [hk, hwa], Below_setRow hw (by omega) _⟩
  | true =>
    have hwa : waS b true m = ad (wa0R b m) b.milk := by rw [← wa0R_eq]; rfl
    go_wp2_with fail
    have hS := stored_two rhW3 (.int .i64 ((wa0R b m).1 + b.milk.1)) (.int .i64 ((wa0R b m).2 + b.milk.2))
    generalize (W3.setCell ⟨h, 0, none⟩ (.int .i64 ((wa0R b m).1 + b.milk.1))).setCell ⟨h, 1, none⟩ (.int .i64 ((wa0R b m).2 + b.milk.2)) = W5 at hS ⊢
    have hW5 : Below w.heap.size w W5 := hW3.trans (hS.below _ (by omega))
    have raW5 := hS.keeps (g := w.heap.size) (by omega) raW3
    have rbW5 := hS.keeps (g := w.heap.size + 1) (by omega) rbW3
    have rcW5 := hS.keeps (g := w.heap.size + 1 + 1) (by omega) rcW3
    have rdW5 := hS.keeps (g := w.heap.size + 1 + 1 + 1) (by omega) rdW3
    have rhW5 : rowOf W5 h = some #[.int .i64 (ad (wa0R b m) b.milk).1, .int .i64 (ad (wa0R b m) b.milk).2] := hS.row
    clear hS raW3 caW3 gaW3 rbW3 cbW3 gbW3 rcW3 ccW3 gcW3 rdW3 cdW3 gdW3 rhW3 chW3 ghW3
    refine wp_draws (by kernel_rfl) [(w.heap.size + 1 + 1, #[.int .i64 (ad (wa0R b m) b.milk).1, .int .i64 (ad (wa0R b m) b.milk).2])] [some 72, some 73, some 74, some 75, some 76, some 77, some 78, some 79, some 80, some 81, some 82, some 83, some 84, some 85, none] (by kernel_rfl) (fun ix v W => match ix with
      | 0 => v = .agg #[.int .i64 (ad (wa0R b m) b.milk).1, .int .i64 (ad (wa0R b m) b.milk).2]
      | 1 => v = .pointer (some ⟨w.heap.size, 8, none⟩)
      | 2 => v = .pointer (some ⟨w.heap.size, 8, none⟩)
      | 3 => v = .int .i64 (b.burn.1)
      | 4 => v = .int .i64 ((buS m).1)
      | 5 => v = .int .i64 (b.burn.1 * (buS m).1)
      | 6 => v = .int .i64 (b.burn.1 * (buS m).1 / 100000)
      | 7 => v = .pointer (some ⟨w.heap.size, 8, none⟩)
      | 8 => v = .pointer (some ⟨w.heap.size, 9, none⟩)
      | 9 => v = .int .i64 (b.burn.2)
      | 10 => v = .int .i64 ((buS m).2)
      | 11 => v = .int .i64 (b.burn.2 * (buS m).2)
      | 12 => v = .int .i64 ((b.burn.2 * (buS m).2 + 100000 - 1) / 100000)
      | 13 => v = .agg #[.int .i64 (faS b m).1, .int .i64 (faS b m).2]
      | 14 => rowOf W (w.heap.size + 1 + 1) = some #[.int .i64 (ad (wa0R b m) b.milk).1, .int .i64 (ad (wa0R b m) b.milk).2]
      | _ => True) ⟨⟨?_, ?_⟩, ⟨?_, ?_⟩, ⟨?_, ?_⟩, ⟨?_, ?_⟩, ⟨?_, ?_⟩, ⟨?_, ?_⟩, ⟨?_, ?_⟩, ⟨?_, ?_⟩, ⟨?_, ?_⟩, ⟨?_, ?_⟩, ⟨?_, ?_⟩, ⟨?_, ?_⟩, ⟨?_, ?_⟩, ⟨?_, ?_⟩, ⟨?_, ?_⟩, ?_⟩
    · intro g h; cases h
    · intro b' W hE hb hdep K hK
      have e9 : b'.tmps[9]?.getD undef = .pointer (some ⟨h, 0, none⟩) := hb 9 (by decide)
      clear hdep hb
      obtain ⟨_, _, -, _⟩ := row_facts (hE.row ((rowOf_drew _ _).trans raW5) (by first | (simp; done) | (simp; omega)))
      obtain ⟨_, _, -, _⟩ := row_facts (hE.row ((rowOf_drew _ _).trans rhW5) (by first | (simp; done) | (simp; omega)))
      go_wp2
      exact hK _ _ (XT.refl _ _) rfl
    · intro g h; cases h
    · intro b' W hE hb hdep K hK
      have e3 : b'.tmps[3]?.getD undef = .pointer (some ⟨w.heap.size, 0, none⟩) := hb 3 (by decide)
      clear hdep hb
      go_wp2
      exact hK _ _ (XT.refl _ _) rfl
    · intro g h; cases h
    · intro b' W hE hb hdep K hK
      have e73 : b'.tmps[73]?.getD undef = .pointer (some ⟨w.heap.size, 8, none⟩) := pureX (hdep 1 (some 73) (by kernel_rfl) rfl)
      clear hdep hb
      go_wp2
      exact hK _ _ (XT.refl _ _) rfl
    · intro g h; cases h
    · intro b' W hE hb hdep K hK
      have e74 : b'.tmps[74]?.getD undef = .pointer (some ⟨w.heap.size, 8, none⟩) := pureX (hdep 2 (some 74) (by kernel_rfl) rfl)
      clear hdep hb
      obtain ⟨_, _, -, _⟩ := row_facts (hE.row ((rowOf_drew _ _).trans raW5) (by first | (simp; done) | (simp; omega)))
      obtain ⟨_, _, -, _⟩ := row_facts (hE.row ((rowOf_drew _ _).trans rhW5) (by first | (simp; done) | (simp; omega)))
      go_wp2
      exact hK _ _ (XT.refl _ _) rfl
    · intro g h; cases h
    · intro b' W hE hb hdep K hK
      have e8 : b'.tmps[8]?.getD undef = .int .i64 (buS m).1 := hb 8 (by decide)
      clear hdep hb
      go_wp2
      exact hK _ _ (XT.refl _ _) rfl
    · intro g h; cases h
    · intro b' W hE hb hdep K hK
      have e75 : b'.tmps[75]?.getD undef = .int .i64 (b.burn.1) := pureX (hdep 3 (some 75) (by kernel_rfl) rfl)
      have e76 : b'.tmps[76]?.getD undef = .int .i64 ((buS m).1) := pureX (hdep 4 (some 76) (by kernel_rfl) rfl)
      clear hdep hb
      go_wp2
      exact hK _ _ (XT.refl _ _) rfl
    · intro g h; cases h
    · intro b' W hE hb hdep K hK
      have e77 : b'.tmps[77]?.getD undef = .int .i64 (b.burn.1 * (buS m).1) := pureX (hdep 5 (some 77) (by kernel_rfl) rfl)
      clear hdep hb
      go_wp2
      exact hK _ _ (XT.refl _ _) rfl
    · intro g h; cases h
    · intro b' W hE hb hdep K hK
      have e3 : b'.tmps[3]?.getD undef = .pointer (some ⟨w.heap.size, 0, none⟩) := hb 3 (by decide)
      clear hdep hb
      go_wp2
      exact hK _ _ (XT.refl _ _) rfl
    · intro g h; cases h
    · intro b' W hE hb hdep K hK
      have e79 : b'.tmps[79]?.getD undef = .pointer (some ⟨w.heap.size, 8, none⟩) := pureX (hdep 7 (some 79) (by kernel_rfl) rfl)
      clear hdep hb
      go_wp2
      exact hK _ _ (XT.refl _ _) rfl
    · intro g h; cases h
    · intro b' W hE hb hdep K hK
      have e80 : b'.tmps[80]?.getD undef = .pointer (some ⟨w.heap.size, 9, none⟩) := pureX (hdep 8 (some 80) (by kernel_rfl) rfl)
      clear hdep hb
      obtain ⟨_, _, -, _⟩ := row_facts (hE.row ((rowOf_drew _ _).trans raW5) (by first | (simp; done) | (simp; omega)))
      obtain ⟨_, _, -, _⟩ := row_facts (hE.row ((rowOf_drew _ _).trans rhW5) (by first | (simp; done) | (simp; omega)))
      go_wp2
      exact hK _ _ (XT.refl _ _) rfl
    · intro g h; cases h
    · intro b' W hE hb hdep K hK
      have e8 : b'.tmps[8]?.getD undef = .int .i64 (buS m).1 := hb 8 (by decide)
      clear hdep hb
      go_wp2
      exact hK _ _ (XT.refl _ _) rfl
    · intro g h; cases h
    · intro b' W hE hb hdep K hK
      have e81 : b'.tmps[81]?.getD undef = .int .i64 (b.burn.2) := pureX (hdep 9 (some 81) (by kernel_rfl) rfl)
      have e82 : b'.tmps[82]?.getD undef = .int .i64 ((buS m).2) := pureX (hdep 10 (some 82) (by kernel_rfl) rfl)
      clear hdep hb
      go_wp2
      exact hK _ _ (XT.refl _ _) rfl
    · intro g h; cases h
    · intro b' W hE hb hdep K hK
      have e83 : b'.tmps[83]?.getD undef = .int .i64 (b.burn.2 * (buS m).2) := pureX (hdep 11 (some 83) (by kernel_rfl) rfl)
      clear hdep hb
      go_wp2_with fail
      refine (up_any _ _ _ (by omega) (by omega) (by omega) (by omega)).mono ?_
      rintro e W' ⟨rfl, hB⟩
      exact hK _ _ (Ext.xt hB) rfl
    · intro g h; cases h
    · intro b' W hE hb hdep K hK
      have e78 : b'.tmps[78]?.getD undef = .int .i64 (b.burn.1 * (buS m).1 / 100000) := pureX (hdep 6 (some 78) (by kernel_rfl) rfl)
      have e84 : b'.tmps[84]?.getD undef = .int .i64 ((b.burn.2 * (buS m).2 + 100000 - 1) / 100000) := pureX (hdep 12 (some 84) (by kernel_rfl) rfl)
      clear hdep hb
      go_wp2
      exact hK _ _ (XT.refl _ _) rfl
    · intro g h; cases h
    · intro b' W hE hb hdep K hK
      have e6 : b'.tmps[6]?.getD undef = .pointer (some ⟨w.heap.size + 1 + 1, 0, none⟩) := hb 6 (by decide)
      have e72 : b'.tmps[72]?.getD undef = .agg #[.int .i64 (ad (wa0R b m) b.milk).1, .int .i64 (ad (wa0R b m) b.milk).2] := pureX (hdep 0 (some 72) (by kernel_rfl) rfl)
      clear hdep hb
      exact wp_store_fin 31 (.tmp 6) (.tmp 72) rfl rfl ((eval_tmp _ _).trans e6) ((eval_tmp _ _).trans e72) (hE.keep (w.heap.size + 1 + 1, #[.int .i64 (ad (wa0R b m) b.milk).1, .int .i64 (ad (wa0R b m) b.milk).2]) (by simp) ⟨_, (rowOf_drew _ _).trans rcW5, rfl⟩) (by kernel_rfl) (by simp [one_int, one_bool]) (by simp) (by simp <;> omega) (fun W' h1 h2 => hK W' h1 h2)
    intro f W hE hR
    have e72 : f 72 = .agg #[.int .i64 (ad (wa0R b m) b.milk).1, .int .i64 (ad (wa0R b m) b.milk).2] := pureX (hR 0 (some 72) rfl)
    have e73 : f 73 = .pointer (some ⟨w.heap.size, 8, none⟩) := pureX (hR 1 (some 73) rfl)
    have e74 : f 74 = .pointer (some ⟨w.heap.size, 8, none⟩) := pureX (hR 2 (some 74) rfl)
    have e75 : f 75 = .int .i64 (b.burn.1) := pureX (hR 3 (some 75) rfl)
    have e76 : f 76 = .int .i64 ((buS m).1) := pureX (hR 4 (some 76) rfl)
    have e77 : f 77 = .int .i64 (b.burn.1 * (buS m).1) := pureX (hR 5 (some 77) rfl)
    have e78 : f 78 = .int .i64 (b.burn.1 * (buS m).1 / 100000) := pureX (hR 6 (some 78) rfl)
    have e79 : f 79 = .pointer (some ⟨w.heap.size, 8, none⟩) := pureX (hR 7 (some 79) rfl)
    have e80 : f 80 = .pointer (some ⟨w.heap.size, 9, none⟩) := pureX (hR 8 (some 80) rfl)
    have e81 : f 81 = .int .i64 (b.burn.2) := pureX (hR 9 (some 81) rfl)
    have e82 : f 82 = .int .i64 ((buS m).2) := pureX (hR 10 (some 82) rfl)
    have e83 : f 83 = .int .i64 (b.burn.2 * (buS m).2) := pureX (hR 11 (some 83) rfl)
    have e84 : f 84 = .int .i64 ((b.burn.2 * (buS m).2 + 100000 - 1) / 100000) := pureX (hR 12 (some 84) rfl)
    have e85 : f 85 = .agg #[.int .i64 (faS b m).1, .int .i64 (faS b m).2] := pureX (hR 13 (some 85) rfl)
    have l14 : rowOf W (w.heap.size + 1 + 1) = some #[.int .i64 (ad (wa0R b m) b.milk).1, .int .i64 (ad (wa0R b m) b.milk).2] := lastX (by simp) (hR 14 none rfl)
    clear hR
    simp only [List.filterMap_cons, List.filterMap_nil, id, puts, Act.put, List.setIfInBounds_toArray, List.set_cons_succ, List.set_cons_zero, e72, e73, e74, e75, e76, e77, e78, e79, e80, e81, e82, e83, e84, e85]
    have rd := hE.row ((rowOf_drew _ _).trans rdW5) (by simp)
    have hw : Below w.heap.size w W := hE.below hW5.drew hW5.size (by simp <;> omega)
    clear hE
    go_wp2
    exact bodyPost_ret (results_rows2 Try.results73 Try.underlying31 rfl Try.underlying31 rfl rfl rfl ((stored_setRow rd _).keeps (by omega) l14) (stored_setRow rd _).row (by kernel_rfl) (by kernel_rfl)) rfl ⟨by rw [hk, hwa], Below_setRow hw (by omega) _⟩
end Go.Proofs.Ytafdcbdbllpcnaa
