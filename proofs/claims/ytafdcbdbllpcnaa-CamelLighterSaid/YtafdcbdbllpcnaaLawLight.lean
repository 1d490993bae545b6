/- The walk of the outright property of lighter days. -/
import Derived.Test.YtafdcbdbllpcnaaLeafO
import Derived.Test.YtafdcbdbllpcnaaLawPick
import Derived.Test.YtafdcbdbllpcnaaShapeW
import Derived.Test.YtafdcbdbllpcnaaShapeL
import Derived.Test.YtafdcbdbllpcnaaLeafI
import Derived.Test.YtafdcbdbllpcnaaRefA
set_option linter.unusedVariables false
set_option linter.unusedSimpArgs false
namespace Go.Proofs.Ytafdcbdbllpcnaa
open Go.RowKit
open Go.Proofs

attribute [local go_sem ↓] exec36l exec36s exec45s exec45l exec39s exec39l
attribute [local go_sem] load36 store36 load45 load39 store45 store39 rowOf_alloc rowOf_drew setRow_alloc one_int one_bool
attribute [local irreducible] wpQuiet

/-- What both days leave, and what is said of them. -/
theorem light_said {b : Br} {c : Cm} {m n : Mr} (hc : chkC b c = 0) (hm : okM m = true) (hn : okM n = true) (h : Lgt n m) :
    (chkA b c m = 13 ∧ (chkA b c n = 0 ∨ chkA b c n = 13)) ∨ (chkA b c m = 0 ∧ chkA b c n = 0 ∧ (aftF b c m = 0 → aftF b c n = 0) ∧
      ((aftC b c m).water.1 ≤ (aftC b c n).water.1 ∧ (aftC b c m).water.2 ≤ (aftC b c n).water.2 ∧ (aftC b c m).fat.1 ≤ (aftC b c n).fat.1 ∧ (aftC b c m).fat.2 ≤ (aftC b c n).fat.2 ∧ (aftC b c n).sore.1 ≤ (aftC b c m).sore.1 ∧ (aftC b c n).sore.2 ≤ (aftC b c m).sore.2)) := by
  have hb := (chkC_ok hc).1
  have hbn := okM_bd hn
  cases hd : diesS b c m with
  | true =>
    left
    refine ⟨by simp [chkA, hc, hm, hd], ?_⟩
    cases hd2 : diesS b c n <;> simp [chkA, hc, hn, hd2]
  | false =>
    right
    have hd2 : diesS b c n = false := by
      cases hd2 : diesS b c n with
      | false => rfl
      | true => rw [h.dies hb hbn c hd2] at hd; exact absurd hd (by simp)
    have e1 : chkA b c m = 0 := by simp [chkA, hc, hm, hd]
    have e2 : chkA b c n = 0 := by simp [chkA, hc, hn, hd2]
    refine ⟨e1, e2, fun hf => ?_, ?_⟩
    · cases ho : openS b c n with
      | false => simp [aftF, e2, ho]
      | true => simp [aftF, e1, h.opens hb hbn c ho] at hf
    · rw [aftC, if_pos e1, aftC, if_pos e2]
      exact h.eve hb hbn c

theorem day_of {W : World} {g : Nat} {n : Mr} {a1 a2 a3 a4 a5 a6 a7 a8 : Int} (hn : n = ⟨a1, a2, (a3, a4), (a5, a6), (a7, a8)⟩) (h : rowOf W g = some #[.int .i64 a1, .int .i64 a2, .int .i64 a3, .int .i64 a4, .int .i64 a5, .int .i64 a6, .int .i64 a7, .int .i64 a8]) : rowOf W g = some #[.int .i64 n.hours, .int .i64 n.load, .int .i64 n.heat.1, .int .i64 n.heat.2, .int .i64 n.grass.1, .int .i64 n.grass.2, .int .i64 n.drinks.1, .int .i64 n.drinks.2] := by
  subst hn; exact h
set_option maxRecDepth 100000 in
set_option maxHeartbeats 64000000 in
theorem camelLighter_walk (halive : ∀ W, Calls Try.prog 14 #[] W fun e w' => e = .returned (.bool true) ∧ Below W.heap.size W w') (b : Br) (c : Cm) (m : Mr) (a : Option Addr) (cap n : Nat) (xs : List Int) (w : World) (hn : n = xs.length) (hw : WordsIn w a cap xs) (hu : ∀ x ∈ xs, inU x) :
    Calls Try.prog 11 #[.agg #[.int .i64 b.full, .int .i64 b.fed, .int .i64 b.rest.1, .int .i64 b.rest.2, .int .i64 b.heat.1, .int .i64 b.heat.2, .int .i64 b.toil.1, .int .i64 b.toil.2, .int .i64 b.burn.1, .int .i64 b.burn.2, .int .i64 b.rub.1, .int .i64 b.rub.2, .int .i64 b.milk.1, .int .i64 b.milk.2, .int .i64 b.heal, .int .i64 b.strong.1, .int .i64 b.strong.2], .agg #[.int .i64 c.water.1, .int .i64 c.water.2, .int .i64 c.fat.1, .int .i64 c.fat.2, .int .i64 c.sore.1, .int .i64 c.sore.2, .bool c.milks], .agg #[.int .i64 m.hours, .int .i64 m.load, .int .i64 m.heat.1, .int .i64 m.heat.2, .int .i64 m.grass.1, .int .i64 m.grass.2, .int .i64 m.drinks.1, .int .i64 m.drinks.2], .slice a n cap] w fun e w' => e = .returned (.bool true) ∧ Below w.heap.size w w' := by
  have HA := Lib.hid halive
  have HN := Lib.hid hn
  have HW := Lib.hid hw
  cases hr : rdyS b c [m] with
  | false =>
    have HR := Lib.hid hr
    clear halive hn hw hu hr
    go_enter Try.func11, Try.ntmps11
    go_wp2_with fail
    refine (HA.out _).mono ?_
    rintro e W1 ⟨rfl, hB⟩
    have hW1 : Below w.heap.size w W1 := Below.trans (by go_grown) (hB.mono (by simp; try omega))
    have zW1 := hW1.size
    obtain ⟨rbW1, cbW1, gbW1, zbW1⟩ := keep_row hB (g := w.heap.size) (by repeat (first | with_reducible assumption | with_reducible apply row_here0 | with_reducible apply row_here1 | with_reducible apply row_here2 | with_reducible apply row_here3 | with_reducible apply rowSkip))
    obtain ⟨rcW1, ccW1, gcW1, zcW1⟩ := keep_row hB (g := w.heap.size + 1) (by repeat (first | with_reducible assumption | with_reducible apply row_here0 | with_reducible apply row_here1 | with_reducible apply row_here2 | with_reducible apply row_here3 | with_reducible apply rowSkip))
    obtain ⟨rmW1, cmW1, gmW1, zmW1⟩ := keep_row hB (g := w.heap.size + 1 + 1) (by repeat (first | with_reducible assumption | with_reducible apply row_here0 | with_reducible apply row_here1 | with_reducible apply row_here2 | with_reducible apply row_here3 | with_reducible apply rowSkip))
    clear hB
    go_wp2_with fail
    refine (ready_any b c (some ⟨W1.heap.size, 0, none⟩) 1 1 [m] _ _ rfl (days_row 1 (row_here0 _ _ _)) HR.out).mono ?_
    rintro e W2 ⟨rfl, hB⟩
    have hW2 : Below w.heap.size w W2 := hW1.trans (Below.trans (by have := hW1.size; go_grown) (hB.mono (by have := hW1.size; simp; try omega)))
    have zW2 := hW2.size
    obtain ⟨rbW2, cbW2, gbW2, zbW2⟩ := keep_row hB (g := w.heap.size) (by repeat (first | with_reducible assumption | with_reducible apply row_here0 | with_reducible apply row_here1 | with_reducible apply row_here2 | with_reducible apply row_here3 | with_reducible apply rowSkip))
    obtain ⟨rcW2, ccW2, gcW2, zcW2⟩ := keep_row hB (g := w.heap.size + 1) (by repeat (first | with_reducible assumption | with_reducible apply row_here0 | with_reducible apply row_here1 | with_reducible apply row_here2 | with_reducible apply row_here3 | with_reducible apply rowSkip))
    obtain ⟨rmW2, cmW2, gmW2, zmW2⟩ := keep_row hB (g := w.heap.size + 1 + 1) (by repeat (first | with_reducible assumption | with_reducible apply row_here0 | with_reducible apply row_here1 | with_reducible apply row_here2 | with_reducible apply row_here3 | with_reducible apply rowSkip))
    clear hB
    go_wp2
    go_returns
    exact ⟨rfl, hW2⟩
  | true =>
    have HR := Lib.hid hr
    obtain ⟨hc0, hm0⟩ := rdyS_one hr
    have HC := Lib.hid hc0
    have HM := Lib.hid hm0
    have HB := Lib.hid (okM_bd hm0)
    obtain ⟨a0, ha0⟩ : ∃ v, atS xs 0 = v := ⟨_, rfl⟩
    have HI0 := Lib.hid (show inU a0 from ha0 ▸ atS_in hu 0)
    have HA0 := Lib.hid ha0
    clear ha0
    obtain ⟨a1, ha1⟩ : ∃ v, atS xs 1 = v := ⟨_, rfl⟩
    have HI1 := Lib.hid (show inU a1 from ha1 ▸ atS_in hu 1)
    have HA1 := Lib.hid ha1
    clear ha1
    obtain ⟨a2, ha2⟩ : ∃ v, atS xs 2 = v := ⟨_, rfl⟩
    have HI2 := Lib.hid (show inU a2 from ha2 ▸ atS_in hu 2)
    have HA2 := Lib.hid ha2
    clear ha2
    obtain ⟨a3, ha3⟩ : ∃ v, atS xs 3 = v := ⟨_, rfl⟩
    have HI3 := Lib.hid (show inU a3 from ha3 ▸ atS_in hu 3)
    have HA3 := Lib.hid ha3
    clear ha3
    obtain ⟨q0, hq0⟩ : ∃ q, a0 % (m.load + 1) = q := ⟨_, rfl⟩
    obtain ⟨q1, hq1⟩ : ∃ q, a1 % m.hours = q := ⟨_, rfl⟩
    obtain ⟨q2, hq2⟩ : ∃ q, a2 % (1000000 - m.drinks.2 + 1) = q := ⟨_, rfl⟩
    obtain ⟨q3, hq3⟩ : ∃ q, a3 % (1000000 - m.grass.2 + 1) = q := ⟨_, rfl⟩
    have b0 := emod_in (by have := HB.out.load; omega) hq0
    have b2 := emod_in (by have := HB.out.drinks; omega) hq2
    have b3 := emod_in (by have := HB.out.grass; omega) hq3
    have t0 := tmod_x HI0.out.1 hq0
    have t1 := tmod_x HI1.out.1 hq1
    have t2 := tmod_x HI2.out.1 hq2
    have t3 := tmod_x HI3.out.1 hq3
    have HQ1 := Lib.hid hq1
    have ml := HB.out.load
    have mh := HB.out.hours
    have md := HB.out.drinks
    have mg := HB.out.grass
    obtain ⟨i01, i02⟩ := HI0.out
    obtain ⟨i11, i12⟩ := HI1.out
    obtain ⟨i21, i22⟩ := HI2.out
    obtain ⟨i31, i32⟩ := HI3.out
    clear halive hn hw hu hr hc0 hm0 hq0 hq1 hq2 hq3
    go_enter Try.func11, Try.ntmps11
    go_wp2_with fail
    refine (HA.out _).mono ?_
    rintro e W1 ⟨rfl, hB⟩
    have hW1 : Below w.heap.size w W1 := Below.trans (by go_grown) (hB.mono (by simp; try omega))
    have zW1 := hW1.size
    obtain ⟨rbW1, cbW1, gbW1, zbW1⟩ := keep_row hB (g := w.heap.size) (by repeat (first | with_reducible assumption | with_reducible apply row_here0 | with_reducible apply row_here1 | with_reducible apply row_here2 | with_reducible apply row_here3 | with_reducible apply rowSkip))
    obtain ⟨rcW1, ccW1, gcW1, zcW1⟩ := keep_row hB (g := w.heap.size + 1) (by repeat (first | with_reducible assumption | with_reducible apply row_here0 | with_reducible apply row_here1 | with_reducible apply row_here2 | with_reducible apply row_here3 | with_reducible apply rowSkip))
    obtain ⟨rmW1, cmW1, gmW1, zmW1⟩ := keep_row hB (g := w.heap.size + 1 + 1) (by repeat (first | with_reducible assumption | with_reducible apply row_here0 | with_reducible apply row_here1 | with_reducible apply row_here2 | with_reducible apply row_here3 | with_reducible apply rowSkip))
    clear hB
    go_wp2_with fail
    refine (ready_any b c (some ⟨W1.heap.size, 0, none⟩) 1 1 [m] _ _ rfl (days_row 1 (row_here0 _ _ _)) HR.out).mono ?_
    rintro e W2 ⟨rfl, hB⟩
    have hW2 : Below w.heap.size w W2 := hW1.trans (Below.trans (by have := hW1.size; go_grown) (hB.mono (by have := hW1.size; simp; try omega)))
    have zW2 := hW2.size
    obtain ⟨rbW2, cbW2, gbW2, zbW2⟩ := keep_row hB (g := w.heap.size) (by repeat (first | with_reducible assumption | with_reducible apply row_here0 | with_reducible apply row_here1 | with_reducible apply row_here2 | with_reducible apply row_here3 | with_reducible apply rowSkip))
    obtain ⟨rcW2, ccW2, gcW2, zcW2⟩ := keep_row hB (g := w.heap.size + 1) (by repeat (first | with_reducible assumption | with_reducible apply row_here0 | with_reducible apply row_here1 | with_reducible apply row_here2 | with_reducible apply row_here3 | with_reducible apply rowSkip))
    obtain ⟨rmW2, cmW2, gmW2, zmW2⟩ := keep_row hB (g := w.heap.size + 1 + 1) (by repeat (first | with_reducible assumption | with_reducible apply row_here0 | with_reducible apply row_here1 | with_reducible apply row_here2 | with_reducible apply row_here3 | with_reducible apply rowSkip))
    clear hB
    go_wp2_with fail
    clear rbW1 cbW1 gbW1 zbW1 rcW1 ccW1 gcW1 zcW1 rmW1 cmW1 gmW1 zmW1 hW1 zW1
    have rbW3 := rowSkip (o := .cells #[.int .i64 m.hours, .int .i64 m.load, .int .i64 m.heat.1, .int .i64 m.heat.2, .int .i64 m.grass.1, .int .i64 m.grass.2, .int .i64 m.drinks.1, .int .i64 m.drinks.2] 45) rbW2
    have rcW3 := rowSkip (o := .cells #[.int .i64 m.hours, .int .i64 m.load, .int .i64 m.heat.1, .int .i64 m.heat.2, .int .i64 m.grass.1, .int .i64 m.grass.2, .int .i64 m.drinks.1, .int .i64 m.drinks.2] 45) rcW2
    have rmW3 := rowSkip (o := .cells #[.int .i64 m.hours, .int .i64 m.load, .int .i64 m.heat.1, .int .i64 m.heat.2, .int .i64 m.grass.1, .int .i64 m.grass.2, .int .i64 m.drinks.1, .int .i64 m.drinks.2] 45) rmW2
    have rnW3 : rowOf (W2.alloc (.cells #[.int .i64 m.hours, .int .i64 m.load, .int .i64 m.heat.1, .int .i64 m.heat.2, .int .i64 m.grass.1, .int .i64 m.grass.2, .int .i64 m.drinks.1, .int .i64 m.drinks.2] 45)) W2.heap.size = some #[.int .i64 m.hours, .int .i64 m.load, .int .i64 m.heat.1, .int .i64 m.heat.2, .int .i64 m.grass.1, .int .i64 m.grass.2, .int .i64 m.drinks.1, .int .i64 m.drinks.2] := row_here0 _ _ _
    have hW3 : Below w.heap.size w (W2.alloc (.cells #[.int .i64 m.hours, .int .i64 m.load, .int .i64 m.heat.1, .int .i64 m.heat.2, .int .i64 m.grass.1, .int .i64 m.grass.2, .int .i64 m.drinks.1, .int .i64 m.drinks.2] 45)) := hW2.alloc zW2 _
    have HG := Lib.hid (show w.heap.size + 1 + 1 < W2.heap.size from zmW2)
    clear rbW2 cbW2 gbW2 zbW2 rcW2 ccW2 gcW2 zcW2 rmW2 cmW2 gmW2 zmW2 hW2 zW2
    generalize W2.heap.size = gn at *
    generalize (W2.alloc (.cells #[.int .i64 m.hours, .int .i64 m.load, .int .i64 m.heat.1, .int .i64 m.heat.2, .int .i64 m.grass.1, .int .i64 m.grass.2, .int .i64 m.drinks.1, .int .i64 m.drinks.2] 45)) = W3 at *
    have zW3 := hW3.size
    refine wp_drawsR (by kernel_rfl) [] [some 30, some 31, some 32, some 33, some 34, some 35, some 36, some 37, some 38, some 39, some 40] (by kernel_rfl) (fun ix v W => match ix with
      | 0 => v = .pointer (some ⟨gn, 1, none⟩)
      | 1 => v = .int .i64 m.load
      | 2 => v = .slice a n cap
      | 3 => v = .int .u32 a0
      | 4 => v = .int .i64 a0
      | 5 => v = .pointer (some ⟨w.heap.size + 1 + 1, 1, none⟩)
      | 6 => v = .int .i64 m.load
      | 7 => v = .int .i64 (m.load + 1)
      | 8 => v = .int .i64 q0
      | 9 => v = .int .i64 (m.load - q0)
      | 10 => v = .pointer (some ⟨gn, 1, none⟩)
      | _ => True) ⟨⟨?_, ?_⟩, ⟨?_, ?_⟩, ⟨?_, ?_⟩, ⟨?_, ?_⟩, ⟨?_, ?_⟩, ⟨?_, ?_⟩, ⟨?_, ?_⟩, ⟨?_, ?_⟩, ⟨?_, ?_⟩, ⟨?_, ?_⟩, ⟨?_, ?_⟩, ?_⟩
    · intro g h; cases h
    · intro b' W hE hb hdep K hK
      have e10 : b'.tmps[10]?.getD undef = .pointer (some ⟨gn, 0, none⟩) := hb 10 (by decide)
      clear hdep hb
      go_wp2
      exact hK _ _ (XT.refl _ _) rfl
    · intro g h; cases h
    · intro b' W hE hb hdep K hK
      have e30 : b'.tmps[30]?.getD undef = .pointer (some ⟨gn, 1, none⟩) := pureX (hdep 0 (some 30) (by kernel_rfl) rfl)
      clear hdep hb
      obtain ⟨_, _, -, _⟩ := row_facts (hE.row ((rowOf_drew _ _).trans rmW3) (by first | (simp; done) | (simp; omega)))
      obtain ⟨_, _, -, _⟩ := row_facts (hE.row ((rowOf_drew _ _).trans rnW3) (by first | (simp; done) | (simp; omega)))
      go_wp2
      exact hK _ _ (XT.refl _ _) rfl
    · intro g h; cases h
    · intro b' W hE hb hdep K hK
      have e3 : b'.tmps[3]?.getD undef = .slice a n cap := hb 3 (by decide)
      clear hdep hb
      go_wp2
      exact hK _ _ (XT.refl _ _) rfl
    · intro g h; cases h
    · intro b' W hE hb hdep K hK
      have e32 : b'.tmps[32]?.getD undef = .slice a n cap := pureX (hdep 2 (some 32) (by kernel_rfl) rfl)
      clear hdep hb
      go_wp2_with fail
      refine (at_any a cap n xs 0 a0 _ HN.out (HW.out.behind hW3 (xt_ext2 hE)) (by omega) HA0.out).mono ?_
      rintro e W' ⟨rfl, hB⟩
      exact hK _ _ (Ext.xt hB) rfl
    · intro g h; cases h
    · intro b' W hE hb hdep K hK
      have e33 : b'.tmps[33]?.getD undef = .int .u32 a0 := pureX (hdep 3 (some 33) (by kernel_rfl) rfl)
      clear hdep hb
      go_wp2
      exact hK _ _ (XT.refl _ _) rfl
    · intro g h; cases h
    · intro b' W hE hb hdep K hK
      have e6 : b'.tmps[6]?.getD undef = .pointer (some ⟨w.heap.size + 1 + 1, 0, none⟩) := hb 6 (by decide)
      clear hdep hb
      go_wp2
      exact hK _ _ (XT.refl _ _) rfl
    · intro g h; cases h
    · intro b' W hE hb hdep K hK
      have e35 : b'.tmps[35]?.getD undef = .pointer (some ⟨w.heap.size + 1 + 1, 1, none⟩) := pureX (hdep 5 (some 35) (by kernel_rfl) rfl)
      clear hdep hb
      obtain ⟨_, _, -, _⟩ := row_facts (hE.row ((rowOf_drew _ _).trans rmW3) (by first | (simp; done) | (simp; omega)))
      obtain ⟨_, _, -, _⟩ := row_facts (hE.row ((rowOf_drew _ _).trans rnW3) (by first | (simp; done) | (simp; omega)))
      go_wp2
      exact hK _ _ (XT.refl _ _) rfl
    · intro g h; cases h
    · intro b' W hE hb hdep K hK
      have e36 : b'.tmps[36]?.getD undef = .int .i64 m.load := pureX (hdep 6 (some 36) (by kernel_rfl) rfl)
      clear hdep hb
      go_wp2
      exact hK _ _ (XT.refl _ _) rfl
    · intro g h; cases h
    · intro b' W hE hb hdep K hK
      have e34 : b'.tmps[34]?.getD undef = .int .i64 a0 := pureX (hdep 4 (some 34) (by kernel_rfl) rfl)
      have e37 : b'.tmps[37]?.getD undef = .int .i64 (m.load + 1) := pureX (hdep 7 (some 37) (by kernel_rfl) rfl)
      clear hdep hb
      go_wp2
      exact hK _ _ (XT.refl _ _) rfl
    · intro g h; cases h
    · intro b' W hE hb hdep K hK
      have e31 : b'.tmps[31]?.getD undef = .int .i64 m.load := pureX (hdep 1 (some 31) (by kernel_rfl) rfl)
      have e38 : b'.tmps[38]?.getD undef = .int .i64 q0 := pureX (hdep 8 (some 38) (by kernel_rfl) rfl)
      clear hdep hb
      go_wp2
      exact hK _ _ (XT.refl _ _) rfl
    · intro g h; cases h
    · intro b' W hE hb hdep K hK
      have e10 : b'.tmps[10]?.getD undef = .pointer (some ⟨gn, 0, none⟩) := hb 10 (by decide)
      clear hdep hb
      go_wp2
      exact hK _ _ (XT.refl _ _) rfl
    intro f W hE hR
    have e30 : f 30 = .pointer (some ⟨gn, 1, none⟩) := pureX (hR 0 (some 30) rfl)
    have e31 : f 31 = .int .i64 m.load := pureX (hR 1 (some 31) rfl)
    have e32 : f 32 = .slice a n cap := pureX (hR 2 (some 32) rfl)
    have e33 : f 33 = .int .u32 a0 := pureX (hR 3 (some 33) rfl)
    have e34 : f 34 = .int .i64 a0 := pureX (hR 4 (some 34) rfl)
    have e35 : f 35 = .pointer (some ⟨w.heap.size + 1 + 1, 1, none⟩) := pureX (hR 5 (some 35) rfl)
    have e36 : f 36 = .int .i64 m.load := pureX (hR 6 (some 36) rfl)
    have e37 : f 37 = .int .i64 (m.load + 1) := pureX (hR 7 (some 37) rfl)
    have e38 : f 38 = .int .i64 q0 := pureX (hR 8 (some 38) rfl)
    have e39 : f 39 = .int .i64 (m.load - q0) := pureX (hR 9 (some 39) rfl)
    have e40 : f 40 = .pointer (some ⟨gn, 1, none⟩) := pureX (hR 10 (some 40) rfl)
    clear hR
    simp only [List.filterMap_cons, List.filterMap_nil, id, puts, Act.put, List.setIfInBounds_toArray, List.set_cons_succ, List.set_cons_zero, e30, e31, e32, e33, e34, e35, e36, e37, e38, e39, e40]
    have xE := drew_ext (xt_ext2 hE)
    have rbW4 := (keep_row xE rbW3).1
    have rcW4 := (keep_row xE rcW3).1
    have rmW4 := (keep_row xE rmW3).1
    have rnW4 := (keep_row xE rnW3).1
    have hW4 : Below w.heap.size w W := hW3.trans (Below.mono xE zW3)
    clear hE xE rbW3 rcW3 rmW3 rnW3 hW3 zW3
    generalize W = W4 at *
    by_cases hh : 0 < m.hours
    · have b1 := emod_in hh HQ1.out
      obtain ⟨_, cn, fn, zn⟩ := row_facts rnW4
      obtain ⟨_, cm_, fm_, zm_⟩ := row_facts rmW4
      go_wp2_with fail
      clear cm_ fm_ zm_
      have hG := grown_setCell W4 ⟨gn, 1, none⟩ (.int .i64 (m.load - q0))
      have rbW5 := row_grown rbW4 hG (by have := HG.out; simp only; omega)
      have rcW5 := row_grown rcW4 hG (by have := HG.out; simp only; omega)
      have rmW5 := row_grown rmW4 hG (by have := HG.out; simp only; omega)
      have rnW5 : rowOf (W4.setCell ⟨gn, 1, none⟩ (.int .i64 (m.load - q0))) gn = some #[.int .i64 m.hours, .int .i64 (m.load - q0), .int .i64 m.heat.1, .int .i64 m.heat.2, .int .i64 m.grass.1, .int .i64 m.grass.2, .int .i64 m.drinks.1, .int .i64 m.drinks.2] := rowOf_setCell_o rnW4 _
      have hW5 : Below w.heap.size w (W4.setCell ⟨gn, 1, none⟩ (.int .i64 (m.load - q0))) := below_grown hW4 hG hW4.size (by have := HG.out; simp only; omega)
      clear hG cn fn zn rbW4 rcW4 rmW4 rnW4 hW4 e30 e31 e32 e33 e34 e35 e36 e37 e38 e39 e40
      generalize (W4.setCell ⟨gn, 1, none⟩ (.int .i64 (m.load - q0))) = W5 at *
      have zW5 := hW5.size
      refine wp_drawsR (by kernel_rfl) [] [some 44, some 45, some 46, some 47, some 48, some 49, some 50, some 51, some 52, some 53] (by kernel_rfl) (fun ix v W => match ix with
        | 0 => v = .pointer (some ⟨gn, 0, none⟩)
        | 1 => v = .int .i64 m.hours
        | 2 => v = .slice a n cap
        | 3 => v = .int .u32 a1
        | 4 => v = .int .i64 a1
        | 5 => v = .pointer (some ⟨w.heap.size + 1 + 1, 0, none⟩)
        | 6 => v = .int .i64 m.hours
        | 7 => v = .int .i64 q1
        | 8 => v = .int .i64 (m.hours - q1)
        | 9 => v = .pointer (some ⟨gn, 0, none⟩)
        | _ => True) ⟨⟨?_, ?_⟩, ⟨?_, ?_⟩, ⟨?_, ?_⟩, ⟨?_, ?_⟩, ⟨?_, ?_⟩, ⟨?_, ?_⟩, ⟨?_, ?_⟩, ⟨?_, ?_⟩, ⟨?_, ?_⟩, ⟨?_, ?_⟩, ?_⟩
      · intro g h; cases h
      · intro b' W hE hb hdep K hK
        have e10 : b'.tmps[10]?.getD undef = .pointer (some ⟨gn, 0, none⟩) := hb 10 (by decide)
        clear hdep hb
        go_wp2
        exact hK _ _ (XT.refl _ _) rfl
      · intro g h; cases h
      · intro b' W hE hb hdep K hK
        have e44 : b'.tmps[44]?.getD undef = .pointer (some ⟨gn, 0, none⟩) := pureX (hdep 0 (some 44) (by kernel_rfl) rfl)
        clear hdep hb
        obtain ⟨_, _, -, _⟩ := row_facts (hE.row ((rowOf_drew _ _).trans rmW5) (by first | (simp; done) | (simp; omega)))
        obtain ⟨_, _, -, _⟩ := row_facts (hE.row ((rowOf_drew _ _).trans rnW5) (by first | (simp; done) | (simp; omega)))
        go_wp2
        exact hK _ _ (XT.refl _ _) rfl
      · intro g h; cases h
      · intro b' W hE hb hdep K hK
        have e3 : b'.tmps[3]?.getD undef = .slice a n cap := hb 3 (by decide)
        clear hdep hb
        go_wp2
        exact hK _ _ (XT.refl _ _) rfl
      · intro g h; cases h
      · intro b' W hE hb hdep K hK
        have e46 : b'.tmps[46]?.getD undef = .slice a n cap := pureX (hdep 2 (some 46) (by kernel_rfl) rfl)
        clear hdep hb
        go_wp2_with fail
        refine (at_any a cap n xs 1 a1 _ HN.out (HW.out.behind hW5 (xt_ext2 hE)) (by omega) HA1.out).mono ?_
        rintro e W' ⟨rfl, hB⟩
        exact hK _ _ (Ext.xt hB) rfl
      · intro g h; cases h
      · intro b' W hE hb hdep K hK
        have e47 : b'.tmps[47]?.getD undef = .int .u32 a1 := pureX (hdep 3 (some 47) (by kernel_rfl) rfl)
        clear hdep hb
        go_wp2
        exact hK _ _ (XT.refl _ _) rfl
      · intro g h; cases h
      · intro b' W hE hb hdep K hK
        have e6 : b'.tmps[6]?.getD undef = .pointer (some ⟨w.heap.size + 1 + 1, 0, none⟩) := hb 6 (by decide)
        clear hdep hb
        go_wp2
        exact hK _ _ (XT.refl _ _) rfl
      · intro g h; cases h
      · intro b' W hE hb hdep K hK
        have e49 : b'.tmps[49]?.getD undef = .pointer (some ⟨w.heap.size + 1 + 1, 0, none⟩) := pureX (hdep 5 (some 49) (by kernel_rfl) rfl)
        clear hdep hb
        obtain ⟨_, _, -, _⟩ := row_facts (hE.row ((rowOf_drew _ _).trans rmW5) (by first | (simp; done) | (simp; omega)))
        obtain ⟨_, _, -, _⟩ := row_facts (hE.row ((rowOf_drew _ _).trans rnW5) (by first | (simp; done) | (simp; omega)))
        go_wp2
        exact hK _ _ (XT.refl _ _) rfl
      · intro g h; cases h
      · intro b' W hE hb hdep K hK
        have e48 : b'.tmps[48]?.getD undef = .int .i64 a1 := pureX (hdep 4 (some 48) (by kernel_rfl) rfl)
        have e50 : b'.tmps[50]?.getD undef = .int .i64 m.hours := pureX (hdep 6 (some 50) (by kernel_rfl) rfl)
        clear hdep hb
        go_wp2
        exact hK _ _ (XT.refl _ _) rfl
      · intro g h; cases h
      · intro b' W hE hb hdep K hK
        have e45 : b'.tmps[45]?.getD undef = .int .i64 m.hours := pureX (hdep 1 (some 45) (by kernel_rfl) rfl)
        have e51 : b'.tmps[51]?.getD undef = .int .i64 q1 := pureX (hdep 7 (some 51) (by kernel_rfl) rfl)
        clear hdep hb
        go_wp2
        exact hK _ _ (XT.refl _ _) rfl
      · intro g h; cases h
      · intro b' W hE hb hdep K hK
        have e10 : b'.tmps[10]?.getD undef = .pointer (some ⟨gn, 0, none⟩) := hb 10 (by decide)
        clear hdep hb
        go_wp2
        exact hK _ _ (XT.refl _ _) rfl
      intro f W hE hR
      have e44 : f 44 = .pointer (some ⟨gn, 0, none⟩) := pureX (hR 0 (some 44) rfl)
      have e45 : f 45 = .int .i64 m.hours := pureX (hR 1 (some 45) rfl)
      have e46 : f 46 = .slice a n cap := pureX (hR 2 (some 46) rfl)
      have e47 : f 47 = .int .u32 a1 := pureX (hR 3 (some 47) rfl)
      have e48 : f 48 = .int .i64 a1 := pureX (hR 4 (some 48) rfl)
      have e49 : f 49 = .pointer (some ⟨w.heap.size + 1 + 1, 0, none⟩) := pureX (hR 5 (some 49) rfl)
      have e50 : f 50 = .int .i64 m.hours := pureX (hR 6 (some 50) rfl)
      have e51 : f 51 = .int .i64 q1 := pureX (hR 7 (some 51) rfl)
      have e52 : f 52 = .int .i64 (m.hours - q1) := pureX (hR 8 (some 52) rfl)
      have e53 : f 53 = .pointer (some ⟨gn, 0, none⟩) := pureX (hR 9 (some 53) rfl)
      clear hR
      simp only [List.filterMap_cons, List.filterMap_nil, id, puts, Act.put, List.setIfInBounds_toArray, List.set_cons_succ, List.set_cons_zero, e44, e45, e46, e47, e48, e49, e50, e51, e52, e53]
      have xE := drew_ext (xt_ext2 hE)
      have rbW6 := (keep_row xE rbW5).1
      have rcW6 := (keep_row xE rcW5).1
      have rmW6 := (keep_row xE rmW5).1
      have rnW6 := (keep_row xE rnW5).1
      have hW6 : Below w.heap.size w W := hW5.trans (Below.mono xE zW5)
      clear hE xE rbW5 rcW5 rmW5 rnW5 hW5 zW5
      generalize W = W6 at *
      obtain ⟨_, cn, fn, zn⟩ := row_facts rnW6
      go_wp2_with fail
      have hG := grown_setCell W6 ⟨gn, 0, none⟩ (.int .i64 (m.hours - q1))
      have rbW7 := row_grown rbW6 hG (by have := HG.out; simp only; omega)
      have rcW7 := row_grown rcW6 hG (by have := HG.out; simp only; omega)
      have rmW7 := row_grown rmW6 hG (by have := HG.out; simp only; omega)
      have rnW7 : rowOf (W6.setCell ⟨gn, 0, none⟩ (.int .i64 (m.hours - q1))) gn = some #[.int .i64 (m.hours - q1), .int .i64 (m.load - q0), .int .i64 m.heat.1, .int .i64 m.heat.2, .int .i64 m.grass.1, .int .i64 m.grass.2, .int .i64 m.drinks.1, .int .i64 m.drinks.2] := rowOf_setCell_o rnW6 _
      have hW7 : Below w.heap.size w (W6.setCell ⟨gn, 0, none⟩ (.int .i64 (m.hours - q1))) := below_grown hW6 hG hW6.size (by have := HG.out; simp only; omega)
      clear hG cn fn zn rbW6 rcW6 rmW6 rnW6 hW6 e44 e45 e46 e47 e48 e49 e50 e51 e52 e53
      generalize (W6.setCell ⟨gn, 0, none⟩ (.int .i64 (m.hours - q1))) = W7 at *
      have zW7 := hW7.size
      refine quiet_wp (by kernel_rfl) (by kernel_rfl) ?_
      refine quiet_step rfl (.slice a n cap) (fun W hE => ?_) ?_
      · show Oper.quietUpon _ _ _ _ _
        go_simp
        try exact ⟨rfl, rfl⟩
      simp only [Act.put, List.setIfInBounds_toArray, List.set_cons_succ, List.set_cons_zero]
      refine quiet_step rfl (.int .u32 a2) (fun W hE => ?_) ?_
      · show Oper.quietUpon _ _ _ _ _
        go_simp
        first | exact ⟨rfl, (at_any a cap n xs 2 a2 W HN.out (HW.out.behindQ hW7 hE) (by omega) HA2.out).mono fun e w'' ⟨he, hB⟩ => ⟨he, Ext.trans hE hB⟩⟩ | exact (at_any a cap n xs 2 a2 W HN.out (HW.out.behindQ hW7 hE) (by omega) HA2.out).mono fun e w'' ⟨he, hB⟩ => ⟨he, Ext.trans hE hB⟩
      simp only [Act.put, List.setIfInBounds_toArray, List.set_cons_succ, List.set_cons_zero]
      refine quiet_step rfl (.int .i64 a2) (fun W hE => ?_) ?_
      · show Oper.quietUpon _ _ _ _ _
        go_simp
        exact IntWalk.i64_in _ ⟨by omega, by omega⟩
      simp only [Act.put, List.setIfInBounds_toArray, List.set_cons_succ, List.set_cons_zero]
      refine quiet_step rfl (.pointer (some ⟨w.heap.size + 1 + 1, 6, none⟩)) (fun W hE => ?_) ?_
      · show Oper.quietUpon _ _ _ _ _
        go_simp
        try exact ⟨rfl, rfl⟩
      simp only [Act.put, List.setIfInBounds_toArray, List.set_cons_succ, List.set_cons_zero]
      refine quiet_step rfl (.pointer (some ⟨w.heap.size + 1 + 1, 7, none⟩)) (fun W hE => ?_) ?_
      · show Oper.quietUpon _ _ _ _ _
        go_simp
        try exact ⟨rfl, rfl⟩
      simp only [Act.put, List.setIfInBounds_toArray, List.set_cons_succ, List.set_cons_zero]
      refine quiet_step rfl (.int .i64 m.drinks.2) (fun W hE => ?_) ?_
      · show Oper.quietUpon _ _ _ _ _
        obtain ⟨_, _, -, _⟩ := keep_row hE (rmW7 : rowOf _ _ = _)
        go_simp
        try exact ⟨rfl, rfl⟩
      simp only [Act.put, List.setIfInBounds_toArray, List.set_cons_succ, List.set_cons_zero]
      refine quiet_step rfl (.int .i64 (1000000 - m.drinks.2)) (fun W hE => ?_) ?_
      · show Oper.quietUpon _ _ _ _ _
        go_simp
        exact IntWalk.i64_in _ ⟨by omega, by omega⟩
      simp only [Act.put, List.setIfInBounds_toArray, List.set_cons_succ, List.set_cons_zero]
      refine quiet_step rfl (.int .i64 (1000000 - m.drinks.2 + 1)) (fun W hE => ?_) ?_
      · show Oper.quietUpon _ _ _ _ _
        go_simp
        exact IntWalk.i64_in _ ⟨by omega, by omega⟩
      simp only [Act.put, List.setIfInBounds_toArray, List.set_cons_succ, List.set_cons_zero]
      refine quiet_step rfl (.int .i64 q2) (fun W hE => ?_) ?_
      · show Oper.quietUpon _ _ _ _ _
        go_simp
        rw [if_neg (by omega)]
        exact ⟨rfl, rfl⟩
      simp only [Act.put, List.setIfInBounds_toArray, List.set_cons_succ, List.set_cons_zero]
      refine quiet_step rfl (.int .i64 q2) (fun W hE => ?_) ?_
      · show Oper.quietUpon _ _ _ _ _
        go_simp
        try exact ⟨rfl, rfl⟩
      simp only [Act.put, List.setIfInBounds_toArray, List.set_cons_succ, List.set_cons_zero]
      refine wpQuiet_nil ?_
      intro W hE
      have rbV1 := (keep_row hE rbW7).1
      have rcV1 := (keep_row hE rcW7).1
      have rmV1 := (keep_row hE rmW7).1
      have rnV1 := (keep_row hE rnW7).1
      have hV1 : Below w.heap.size w W := hW7.trans (Below.mono hE zW7)
      clear hE rbW7 rcW7 rmW7 rnW7 hW7 zW7
      generalize W = V1 at *
      have zV1 := hV1.size
      obtain ⟨_, cm_, fm_, zm_⟩ := row_facts rmV1
      go_wp2_with fail
      refine (span_any (m.drinks.1 + q2) (m.drinks.2 + q2) _).mono ?_
      rintro e V2 ⟨rfl, hB⟩
      clear cm_ fm_ zm_
      have rbV2 := (keep_row hB rbV1).1
      have rcV2 := (keep_row hB rcV1).1
      have rmV2 := (keep_row hB rmV1).1
      have rnV2 := (keep_row hB rnV1).1
      have hV2 : Below w.heap.size w V2 := hV1.trans (hB.mono zV1)
      clear hB rbV1 rcV1 rmV1 rnV1 hV1 zV1
      obtain ⟨_, cn, fn, zn⟩ := row_facts rnV2
      have hG := grown_setCell V2 ⟨gn, 6, none⟩ (.int .i64 (m.drinks.1 + q2))
      have hG2 := grown_setCell (V2.setCell ⟨gn, 6, none⟩ (.int .i64 (m.drinks.1 + q2))) ⟨gn, 7, none⟩ (.int .i64 (m.drinks.2 + q2))
      have rbV3 := row_grown (row_grown rbV2 hG (by have := HG.out; simp only; omega)) hG2 (by have := HG.out; simp only; omega)
      have rcV3 := row_grown (row_grown rcV2 hG (by have := HG.out; simp only; omega)) hG2 (by have := HG.out; simp only; omega)
      have rmV3 := row_grown (row_grown rmV2 hG (by have := HG.out; simp only; omega)) hG2 (by have := HG.out; simp only; omega)
      have rnV3 : rowOf ((V2.setCell ⟨gn, 6, none⟩ (.int .i64 (m.drinks.1 + q2))).setCell ⟨gn, 7, none⟩ (.int .i64 (m.drinks.2 + q2))) gn = some #[.int .i64 (m.hours - q1), .int .i64 (m.load - q0), .int .i64 m.heat.1, .int .i64 m.heat.2, .int .i64 m.grass.1, .int .i64 m.grass.2, .int .i64 (m.drinks.1 + q2), .int .i64 (m.drinks.2 + q2)] := rowOf_setCell_o (rowOf_setCell_o rnV2 _) _
      have hb1 := below_grown hV2 hG hV2.size (by have := HG.out; simp only; omega)
      have hV3 : Below w.heap.size w ((V2.setCell ⟨gn, 6, none⟩ (.int .i64 (m.drinks.1 + q2))).setCell ⟨gn, 7, none⟩ (.int .i64 (m.drinks.2 + q2))) := below_grown hb1 hG2 hb1.size (by have := HG.out; simp only; omega)
      go_wp2_with fail
      clear hG hG2 hb1 cn fn zn rbV2 rcV2 rmV2 rnV2 hV2
      generalize ((V2.setCell ⟨gn, 6, none⟩ (.int .i64 (m.drinks.1 + q2))).setCell ⟨gn, 7, none⟩ (.int .i64 (m.drinks.2 + q2))) = V3 at *
      have zV3 := hV3.size
      refine quiet_wp (by kernel_rfl) (by kernel_rfl) ?_
      refine quiet_step rfl (.slice a n cap) (fun W hE => ?_) ?_
      · show Oper.quietUpon _ _ _ _ _
        go_simp
        try exact ⟨rfl, rfl⟩
      simp only [Act.put, List.setIfInBounds_toArray, List.set_cons_succ, List.set_cons_zero]
      refine quiet_step rfl (.int .u32 a3) (fun W hE => ?_) ?_
      · show Oper.quietUpon _ _ _ _ _
        go_simp
        first | exact ⟨rfl, (at_any a cap n xs 3 a3 W HN.out (HW.out.behindQ hV3 hE) (by omega) HA3.out).mono fun e w'' ⟨he, hB⟩ => ⟨he, Ext.trans hE hB⟩⟩ | exact (at_any a cap n xs 3 a3 W HN.out (HW.out.behindQ hV3 hE) (by omega) HA3.out).mono fun e w'' ⟨he, hB⟩ => ⟨he, Ext.trans hE hB⟩
      simp only [Act.put, List.setIfInBounds_toArray, List.set_cons_succ, List.set_cons_zero]
      refine quiet_step rfl (.int .i64 a3) (fun W hE => ?_) ?_
      · show Oper.quietUpon _ _ _ _ _
        go_simp
        exact IntWalk.i64_in _ ⟨by omega, by omega⟩
      simp only [Act.put, List.setIfInBounds_toArray, List.set_cons_succ, List.set_cons_zero]
      refine quiet_step rfl (.pointer (some ⟨w.heap.size + 1 + 1, 4, none⟩)) (fun W hE => ?_) ?_
      · show Oper.quietUpon _ _ _ _ _
        go_simp
        try exact ⟨rfl, rfl⟩
      simp only [Act.put, List.setIfInBounds_toArray, List.set_cons_succ, List.set_cons_zero]
      refine quiet_step rfl (.pointer (some ⟨w.heap.size + 1 + 1, 5, none⟩)) (fun W hE => ?_) ?_
      · show Oper.quietUpon _ _ _ _ _
        go_simp
        try exact ⟨rfl, rfl⟩
      simp only [Act.put, List.setIfInBounds_toArray, List.set_cons_succ, List.set_cons_zero]
      refine quiet_step rfl (.int .i64 m.grass.2) (fun W hE => ?_) ?_
      · show Oper.quietUpon _ _ _ _ _
        obtain ⟨_, _, -, _⟩ := keep_row hE (rmV3 : rowOf _ _ = _)
        go_simp
        try exact ⟨rfl, rfl⟩
      simp only [Act.put, List.setIfInBounds_toArray, List.set_cons_succ, List.set_cons_zero]
      refine quiet_step rfl (.int .i64 (1000000 - m.grass.2)) (fun W hE => ?_) ?_
      · show Oper.quietUpon _ _ _ _ _
        go_simp
        exact IntWalk.i64_in _ ⟨by omega, by omega⟩
      simp only [Act.put, List.setIfInBounds_toArray, List.set_cons_succ, List.set_cons_zero]
      refine quiet_step rfl (.int .i64 (1000000 - m.grass.2 + 1)) (fun W hE => ?_) ?_
      · show Oper.quietUpon _ _ _ _ _
        go_simp
        exact IntWalk.i64_in _ ⟨by omega, by omega⟩
      simp only [Act.put, List.setIfInBounds_toArray, List.set_cons_succ, List.set_cons_zero]
      refine quiet_step rfl (.int .i64 q3) (fun W hE => ?_) ?_
      · show Oper.quietUpon _ _ _ _ _
        go_simp
        rw [if_neg (by omega)]
        exact ⟨rfl, rfl⟩
      simp only [Act.put, List.setIfInBounds_toArray, List.set_cons_succ, List.set_cons_zero]
      refine quiet_step rfl (.int .i64 q3) (fun W hE => ?_) ?_
      · show Oper.quietUpon _ _ _ _ _
        go_simp
        try exact ⟨rfl, rfl⟩
      simp only [Act.put, List.setIfInBounds_toArray, List.set_cons_succ, List.set_cons_zero]
      refine wpQuiet_nil ?_
      intro W hE
      have rbV4 := (keep_row hE rbV3).1
      have rcV4 := (keep_row hE rcV3).1
      have rmV4 := (keep_row hE rmV3).1
      have rnV4 := (keep_row hE rnV3).1
      have hV4 : Below w.heap.size w W := hV3.trans (Below.mono hE zV3)
      clear hE rbV3 rcV3 rmV3 rnV3 hV3 zV3
      generalize W = V4 at *
      have zV4 := hV4.size
      obtain ⟨_, cm_, fm_, zm_⟩ := row_facts rmV4
      go_wp2_with fail
      refine (span_any (m.grass.1 + q3) (m.grass.2 + q3) _).mono ?_
      rintro e V5 ⟨rfl, hB⟩
      clear cm_ fm_ zm_
      have rbV5 := (keep_row hB rbV4).1
      have rcV5 := (keep_row hB rcV4).1
      have rmV5 := (keep_row hB rmV4).1
      have rnV5 := (keep_row hB rnV4).1
      have hV5 : Below w.heap.size w V5 := hV4.trans (hB.mono zV4)
      clear hB rbV4 rcV4 rmV4 rnV4 hV4 zV4
      obtain ⟨_, cn, fn, zn⟩ := row_facts rnV5
      have hG := grown_setCell V5 ⟨gn, 4, none⟩ (.int .i64 (m.grass.1 + q3))
      have hG2 := grown_setCell (V5.setCell ⟨gn, 4, none⟩ (.int .i64 (m.grass.1 + q3))) ⟨gn, 5, none⟩ (.int .i64 (m.grass.2 + q3))
      have rbV6 := row_grown (row_grown rbV5 hG (by have := HG.out; simp only; omega)) hG2 (by have := HG.out; simp only; omega)
      have rcV6 := row_grown (row_grown rcV5 hG (by have := HG.out; simp only; omega)) hG2 (by have := HG.out; simp only; omega)
      have rmV6 := row_grown (row_grown rmV5 hG (by have := HG.out; simp only; omega)) hG2 (by have := HG.out; simp only; omega)
      have rnV6 : rowOf ((V5.setCell ⟨gn, 4, none⟩ (.int .i64 (m.grass.1 + q3))).setCell ⟨gn, 5, none⟩ (.int .i64 (m.grass.2 + q3))) gn = some #[.int .i64 (m.hours - q1), .int .i64 (m.load - q0), .int .i64 m.heat.1, .int .i64 m.heat.2, .int .i64 (m.grass.1 + q3), .int .i64 (m.grass.2 + q3), .int .i64 (m.drinks.1 + q2), .int .i64 (m.drinks.2 + q2)] := rowOf_setCell_o (rowOf_setCell_o rnV5 _) _
      have hb1 := below_grown hV5 hG hV5.size (by have := HG.out; simp only; omega)
      have hV6 : Below w.heap.size w ((V5.setCell ⟨gn, 4, none⟩ (.int .i64 (m.grass.1 + q3))).setCell ⟨gn, 5, none⟩ (.int .i64 (m.grass.2 + q3))) := below_grown hb1 hG2 hb1.size (by have := HG.out; simp only; omega)
      go_wp2_with fail
      clear hG hG2 hb1 cn fn zn rbV5 rcV5 rmV5 rnV5 hV5
      generalize ((V5.setCell ⟨gn, 4, none⟩ (.int .i64 (m.grass.1 + q3))).setCell ⟨gn, 5, none⟩ (.int .i64 (m.grass.2 + q3))) = V6 at *
      have zV6 := hV6.size
      obtain ⟨u, hu⟩ : ∃ u : Mr, u = ⟨(m.hours - q1), m.load - q0, (m.heat.1, m.heat.2), (m.grass.1 + q3, m.grass.2 + q3), (m.drinks.1 + q2, m.drinks.2 + q2)⟩ := ⟨_, rfl⟩
      have rn7 := day_of hu rnV6
      have hLG : Lgt u m := by subst hu; exact ⟨by simp only <;> omega, by simp only <;> omega, by simp only <;> omega, rfl, ⟨by simp only <;> omega, by simp only <;> omega⟩, ⟨by simp only <;> omega, by simp only <;> omega⟩⟩
      have hOK : okM u = true := okM_of (by have hh := HB.out.heat; subst hu; exact ⟨by simp only; omega, by simp only; omega, hh, by simp only; omega, by simp only; omega⟩)
      clear hu rnV6
      have HS := Lib.hid (light_said HC.out HM.out hOK hLG)
      clear hLG hOK b0 b2 b3 t0 t1 t2 t3 ml mh md mg i01 i02 i11 i12 i21 i22 i31 i32
      obtain ⟨p, hpp⟩ : ∃ y, aftC b c m = y := ⟨_, rfl⟩
      obtain ⟨fp, hfp⟩ : ∃ y, aftF b c m = y := ⟨_, rfl⟩
      obtain ⟨xp, hxp⟩ : ∃ y, chkA b c m = y := ⟨_, rfl⟩
      obtain ⟨r, hpr⟩ : ∃ y, aftC b c u = y := ⟨_, rfl⟩
      obtain ⟨fr, hfr⟩ : ∃ y, aftF b c u = y := ⟨_, rfl⟩
      obtain ⟨xr, hxr⟩ : ∃ y, chkA b c u = y := ⟨_, rfl⟩
      have HS2 := HS.out
      rw [hpp, hfp, hxp, hpr, hfr, hxr] at HS2
      have Kpp := Lib.hid hpp
      have Kfp := Lib.hid hfp
      have Kxp := Lib.hid hxp
      have Kpr := Lib.hid hpr
      have Kfr := Lib.hid hfr
      have Kxr := Lib.hid hxr
      clear HS hpp hfp hxp hpr hfr hxr
      have HS := Lib.hid HS2
      clear HS2
      go_wp2_with fail
      refine (After_x b c m p fp xp Kpp.out Kfp.out Kxp.out _).mono ?_
      rintro e V7 ⟨rfl, hB⟩
      obtain ⟨rbV7, -, -, zbV7⟩ := keep_row hB rbV6
      obtain ⟨rcV7, -, -, zcV7⟩ := keep_row hB rcV6
      obtain ⟨rnV7, -, -, znV7⟩ := keep_row hB rn7
      have hV7 : Below w.heap.size w V7 := hV6.trans (hB.mono zV6)
      clear hB rbV6 rcV6 rmV6 rn7 hV6 zV6
      have zV7 := hV7.size
      go_wp2_with fail
      refine (After_x b c u r fr xr Kpr.out Kfr.out Kxr.out _).mono ?_
      rintro e V8 ⟨rfl, hB⟩
      obtain ⟨rpV8, cpV8, gpV8, zpV8⟩ := keep_row hB (g := V7.heap.size) (by repeat (first | with_reducible assumption | with_reducible apply row_here0 | with_reducible apply row_here1 | with_reducible apply row_here2 | with_reducible apply row_here3 | with_reducible apply rowSkip))
      have hV8 : Below w.heap.size w V8 := hV7.trans (Below.trans (by have := hV7.size; go_grown) (hB.mono (by have := hV7.size; simp; try omega)))
      clear hB rbV7 rcV7 rnV7 zbV7 zcV7 znV7 hV7 zV7
      have zV8 := hV8.size
      rcases HS.out with ⟨h1, h2⟩ | ⟨h1, h2, h3, h4, h5, h6, h7, h8, h9⟩
      · rcases h2 with h2 | h2
        · subst h1 h2
          clear HS Kpp Kfp Kxp Kpr Kfr Kxr
          go_wp2
          go_returns
          exact ⟨rfl, by go_grown⟩
        · subst h1 h2
          clear HS Kpp Kfp Kxp Kpr Kfr Kxr
          go_wp2
          go_returns
          exact ⟨rfl, by go_grown⟩
      · subst h1 h2
        by_cases h0 : fp = 0
        · have h0r := h3 h0
          subst h0 h0r
          clear HS Kpp Kfp Kxp Kpr Kfr Kxr h3
          go_wp2
          go_returns
          exact ⟨rfl, by go_grown⟩
        · clear HS Kpp Kfp Kxp Kpr Kfr Kxr h3
          go_wp2
          go_returns
          exact ⟨rfl, by go_grown⟩
    ·
      obtain ⟨_, cn, fn, zn⟩ := row_facts rnW4
      obtain ⟨_, cm_, fm_, zm_⟩ := row_facts rmW4
      go_wp2_with fail
      clear cm_ fm_ zm_
      have hG := grown_setCell W4 ⟨gn, 1, none⟩ (.int .i64 (m.load - q0))
      have rbW5 := row_grown rbW4 hG (by have := HG.out; simp only; omega)
      have rcW5 := row_grown rcW4 hG (by have := HG.out; simp only; omega)
      have rmW5 := row_grown rmW4 hG (by have := HG.out; simp only; omega)
      have rnW5 : rowOf (W4.setCell ⟨gn, 1, none⟩ (.int .i64 (m.load - q0))) gn = some #[.int .i64 m.hours, .int .i64 (m.load - q0), .int .i64 m.heat.1, .int .i64 m.heat.2, .int .i64 m.grass.1, .int .i64 m.grass.2, .int .i64 m.drinks.1, .int .i64 m.drinks.2] := rowOf_setCell_o rnW4 _
      have hW5 : Below w.heap.size w (W4.setCell ⟨gn, 1, none⟩ (.int .i64 (m.load - q0))) := below_grown hW4 hG hW4.size (by have := HG.out; simp only; omega)
      clear hG cn fn zn rbW4 rcW4 rmW4 rnW4 hW4 e30 e31 e32 e33 e34 e35 e36 e37 e38 e39 e40
      generalize (W4.setCell ⟨gn, 1, none⟩ (.int .i64 (m.load - q0))) = W5 at *
      have zW5 := hW5.size
      refine quiet_wp (by kernel_rfl) (by kernel_rfl) ?_
      refine quiet_step rfl (.slice a n cap) (fun W hE => ?_) ?_
      · show Oper.quietUpon _ _ _ _ _
        go_simp
        try exact ⟨rfl, rfl⟩
      simp only [Act.put, List.setIfInBounds_toArray, List.set_cons_succ, List.set_cons_zero]
      refine quiet_step rfl (.int .u32 a2) (fun W hE => ?_) ?_
      · show Oper.quietUpon _ _ _ _ _
        go_simp
        first | exact ⟨rfl, (at_any a cap n xs 2 a2 W HN.out (HW.out.behindQ hW5 hE) (by omega) HA2.out).mono fun e w'' ⟨he, hB⟩ => ⟨he, Ext.trans hE hB⟩⟩ | exact (at_any a cap n xs 2 a2 W HN.out (HW.out.behindQ hW5 hE) (by omega) HA2.out).mono fun e w'' ⟨he, hB⟩ => ⟨he, Ext.trans hE hB⟩
      simp only [Act.put, List.setIfInBounds_toArray, List.set_cons_succ, List.set_cons_zero]
      refine quiet_step rfl (.int .i64 a2) (fun W hE => ?_) ?_
      · show Oper.quietUpon _ _ _ _ _
        go_simp
        exact IntWalk.i64_in _ ⟨by omega, by omega⟩
      simp only [Act.put, List.setIfInBounds_toArray, List.set_cons_succ, List.set_cons_zero]
      refine quiet_step rfl (.pointer (some ⟨w.heap.size + 1 + 1, 6, none⟩)) (fun W hE => ?_) ?_
      · show Oper.quietUpon _ _ _ _ _
        go_simp
        try exact ⟨rfl, rfl⟩
      simp only [Act.put, List.setIfInBounds_toArray, List.set_cons_succ, List.set_cons_zero]
      refine quiet_step rfl (.pointer (some ⟨w.heap.size + 1 + 1, 7, none⟩)) (fun W hE => ?_) ?_
      · show Oper.quietUpon _ _ _ _ _
        go_simp
        try exact ⟨rfl, rfl⟩
      simp only [Act.put, List.setIfInBounds_toArray, List.set_cons_succ, List.set_cons_zero]
      refine quiet_step rfl (.int .i64 m.drinks.2) (fun W hE => ?_) ?_
      · show Oper.quietUpon _ _ _ _ _
        obtain ⟨_, _, -, _⟩ := keep_row hE (rmW5 : rowOf _ _ = _)
        go_simp
        try exact ⟨rfl, rfl⟩
      simp only [Act.put, List.setIfInBounds_toArray, List.set_cons_succ, List.set_cons_zero]
      refine quiet_step rfl (.int .i64 (1000000 - m.drinks.2)) (fun W hE => ?_) ?_
      · show Oper.quietUpon _ _ _ _ _
        go_simp
        exact IntWalk.i64_in _ ⟨by omega, by omega⟩
      simp only [Act.put, List.setIfInBounds_toArray, List.set_cons_succ, List.set_cons_zero]
      refine quiet_step rfl (.int .i64 (1000000 - m.drinks.2 + 1)) (fun W hE => ?_) ?_
      · show Oper.quietUpon _ _ _ _ _
        go_simp
        exact IntWalk.i64_in _ ⟨by omega, by omega⟩
      simp only [Act.put, List.setIfInBounds_toArray, List.set_cons_succ, List.set_cons_zero]
      refine quiet_step rfl (.int .i64 q2) (fun W hE => ?_) ?_
      · show Oper.quietUpon _ _ _ _ _
        go_simp
        rw [if_neg (by omega)]
        exact ⟨rfl, rfl⟩
      simp only [Act.put, List.setIfInBounds_toArray, List.set_cons_succ, List.set_cons_zero]
      refine quiet_step rfl (.int .i64 q2) (fun W hE => ?_) ?_
      · show Oper.quietUpon _ _ _ _ _
        go_simp
        try exact ⟨rfl, rfl⟩
      simp only [Act.put, List.setIfInBounds_toArray, List.set_cons_succ, List.set_cons_zero]
      refine wpQuiet_nil ?_
      intro W hE
      have rbV1 := (keep_row hE rbW5).1
      have rcV1 := (keep_row hE rcW5).1
      have rmV1 := (keep_row hE rmW5).1
      have rnV1 := (keep_row hE rnW5).1
      have hV1 : Below w.heap.size w W := hW5.trans (Below.mono hE zW5)
      clear hE rbW5 rcW5 rmW5 rnW5 hW5 zW5
      generalize W = V1 at *
      have zV1 := hV1.size
      obtain ⟨_, cm_, fm_, zm_⟩ := row_facts rmV1
      go_wp2_with fail
      refine (span_any (m.drinks.1 + q2) (m.drinks.2 + q2) _).mono ?_
      rintro e V2 ⟨rfl, hB⟩
      clear cm_ fm_ zm_
      have rbV2 := (keep_row hB rbV1).1
      have rcV2 := (keep_row hB rcV1).1
      have rmV2 := (keep_row hB rmV1).1
      have rnV2 := (keep_row hB rnV1).1
      have hV2 : Below w.heap.size w V2 := hV1.trans (hB.mono zV1)
      clear hB rbV1 rcV1 rmV1 rnV1 hV1 zV1
      obtain ⟨_, cn, fn, zn⟩ := row_facts rnV2
      have hG := grown_setCell V2 ⟨gn, 6, none⟩ (.int .i64 (m.drinks.1 + q2))
      have hG2 := grown_setCell (V2.setCell ⟨gn, 6, none⟩ (.int .i64 (m.drinks.1 + q2))) ⟨gn, 7, none⟩ (.int .i64 (m.drinks.2 + q2))
      have rbV3 := row_grown (row_grown rbV2 hG (by have := HG.out; simp only; omega)) hG2 (by have := HG.out; simp only; omega)
      have rcV3 := row_grown (row_grown rcV2 hG (by have := HG.out; simp only; omega)) hG2 (by have := HG.out; simp only; omega)
      have rmV3 := row_grown (row_grown rmV2 hG (by have := HG.out; simp only; omega)) hG2 (by have := HG.out; simp only; omega)
      have rnV3 : rowOf ((V2.setCell ⟨gn, 6, none⟩ (.int .i64 (m.drinks.1 + q2))).setCell ⟨gn, 7, none⟩ (.int .i64 (m.drinks.2 + q2))) gn = some #[.int .i64 m.hours, .int .i64 (m.load - q0), .int .i64 m.heat.1, .int .i64 m.heat.2, .int .i64 m.grass.1, .int .i64 m.grass.2, .int .i64 (m.drinks.1 + q2), .int .i64 (m.drinks.2 + q2)] := rowOf_setCell_o (rowOf_setCell_o rnV2 _) _
      have hb1 := below_grown hV2 hG hV2.size (by have := HG.out; simp only; omega)
      have hV3 : Below w.heap.size w ((V2.setCell ⟨gn, 6, none⟩ (.int .i64 (m.drinks.1 + q2))).setCell ⟨gn, 7, none⟩ (.int .i64 (m.drinks.2 + q2))) := below_grown hb1 hG2 hb1.size (by have := HG.out; simp only; omega)
      go_wp2_with fail
      clear hG hG2 hb1 cn fn zn rbV2 rcV2 rmV2 rnV2 hV2
      generalize ((V2.setCell ⟨gn, 6, none⟩ (.int .i64 (m.drinks.1 + q2))).setCell ⟨gn, 7, none⟩ (.int .i64 (m.drinks.2 + q2))) = V3 at *
      have zV3 := hV3.size
      refine quiet_wp (by kernel_rfl) (by kernel_rfl) ?_
      refine quiet_step rfl (.slice a n cap) (fun W hE => ?_) ?_
      · show Oper.quietUpon _ _ _ _ _
        go_simp
        try exact ⟨rfl, rfl⟩
      simp only [Act.put, List.setIfInBounds_toArray, List.set_cons_succ, List.set_cons_zero]
      refine quiet_step rfl (.int .u32 a3) (fun W hE => ?_) ?_
      · show Oper.quietUpon _ _ _ _ _
        go_simp
        first | exact ⟨rfl, (at_any a cap n xs 3 a3 W HN.out (HW.out.behindQ hV3 hE) (by omega) HA3.out).mono fun e w'' ⟨he, hB⟩ => ⟨he, Ext.trans hE hB⟩⟩ | exact (at_any a cap n xs 3 a3 W HN.out (HW.out.behindQ hV3 hE) (by omega) HA3.out).mono fun e w'' ⟨he, hB⟩ => ⟨he, Ext.trans hE hB⟩
      simp only [Act.put, List.setIfInBounds_toArray, List.set_cons_succ, List.set_cons_zero]
      refine quiet_step rfl (.int .i64 a3) (fun W hE => ?_) ?_
      · show Oper.quietUpon _ _ _ _ _
        go_simp
        exact IntWalk.i64_in _ ⟨by omega, by omega⟩
      simp only [Act.put, List.setIfInBounds_toArray, List.set_cons_succ, List.set_cons_zero]
      refine quiet_step rfl (.pointer (some ⟨w.heap.size + 1 + 1, 4, none⟩)) (fun W hE => ?_) ?_
      · show Oper.quietUpon _ _ _ _ _
        go_simp
        try exact ⟨rfl, rfl⟩
      simp only [Act.put, List.setIfInBounds_toArray, List.set_cons_succ, List.set_cons_zero]
      refine quiet_step rfl (.pointer (some ⟨w.heap.size + 1 + 1, 5, none⟩)) (fun W hE => ?_) ?_
      · show Oper.quietUpon _ _ _ _ _
        go_simp
        try exact ⟨rfl, rfl⟩
      simp only [Act.put, List.setIfInBounds_toArray, List.set_cons_succ, List.set_cons_zero]
      refine quiet_step rfl (.int .i64 m.grass.2) (fun W hE => ?_) ?_
      · show Oper.quietUpon _ _ _ _ _
        obtain ⟨_, _, -, _⟩ := keep_row hE (rmV3 : rowOf _ _ = _)
        go_simp
        try exact ⟨rfl, rfl⟩
      simp only [Act.put, List.setIfInBounds_toArray, List.set_cons_succ, List.set_cons_zero]
      refine quiet_step rfl (.int .i64 (1000000 - m.grass.2)) (fun W hE => ?_) ?_
      · show Oper.quietUpon _ _ _ _ _
        go_simp
        exact IntWalk.i64_in _ ⟨by omega, by omega⟩
      simp only [Act.put, List.setIfInBounds_toArray, List.set_cons_succ, List.set_cons_zero]
      refine quiet_step rfl (.int .i64 (1000000 - m.grass.2 + 1)) (fun W hE => ?_) ?_
      · show Oper.quietUpon _ _ _ _ _
        go_simp
        exact IntWalk.i64_in _ ⟨by omega, by omega⟩
      simp only [Act.put, List.setIfInBounds_toArray, List.set_cons_succ, List.set_cons_zero]
      refine quiet_step rfl (.int .i64 q3) (fun W hE => ?_) ?_
      · show Oper.quietUpon _ _ _ _ _
        go_simp
        rw [if_neg (by omega)]
        exact ⟨rfl, rfl⟩
      simp only [Act.put, List.setIfInBounds_toArray, List.set_cons_succ, List.set_cons_zero]
      refine quiet_step rfl (.int .i64 q3) (fun W hE => ?_) ?_
      · show Oper.quietUpon _ _ _ _ _
        go_simp
        try exact ⟨rfl, rfl⟩
      simp only [Act.put, List.setIfInBounds_toArray, List.set_cons_succ, List.set_cons_zero]
      refine wpQuiet_nil ?_
      intro W hE
      have rbV4 := (keep_row hE rbV3).1
      have rcV4 := (keep_row hE rcV3).1
      have rmV4 := (keep_row hE rmV3).1
      have rnV4 := (keep_row hE rnV3).1
      have hV4 : Below w.heap.size w W := hV3.trans (Below.mono hE zV3)
      clear hE rbV3 rcV3 rmV3 rnV3 hV3 zV3
      generalize W = V4 at *
      have zV4 := hV4.size
      obtain ⟨_, cm_, fm_, zm_⟩ := row_facts rmV4
      go_wp2_with fail
      refine (span_any (m.grass.1 + q3) (m.grass.2 + q3) _).mono ?_
      rintro e V5 ⟨rfl, hB⟩
      clear cm_ fm_ zm_
      have rbV5 := (keep_row hB rbV4).1
      have rcV5 := (keep_row hB rcV4).1
      have rmV5 := (keep_row hB rmV4).1
      have rnV5 := (keep_row hB rnV4).1
      have hV5 : Below w.heap.size w V5 := hV4.trans (hB.mono zV4)
      clear hB rbV4 rcV4 rmV4 rnV4 hV4 zV4
      obtain ⟨_, cn, fn, zn⟩ := row_facts rnV5
      have hG := grown_setCell V5 ⟨gn, 4, none⟩ (.int .i64 (m.grass.1 + q3))
      have hG2 := grown_setCell (V5.setCell ⟨gn, 4, none⟩ (.int .i64 (m.grass.1 + q3))) ⟨gn, 5, none⟩ (.int .i64 (m.grass.2 + q3))
      have rbV6 := row_grown (row_grown rbV5 hG (by have := HG.out; simp only; omega)) hG2 (by have := HG.out; simp only; omega)
      have rcV6 := row_grown (row_grown rcV5 hG (by have := HG.out; simp only; omega)) hG2 (by have := HG.out; simp only; omega)
      have rmV6 := row_grown (row_grown rmV5 hG (by have := HG.out; simp only; omega)) hG2 (by have := HG.out; simp only; omega)
      have rnV6 : rowOf ((V5.setCell ⟨gn, 4, none⟩ (.int .i64 (m.grass.1 + q3))).setCell ⟨gn, 5, none⟩ (.int .i64 (m.grass.2 + q3))) gn = some #[.int .i64 m.hours, .int .i64 (m.load - q0), .int .i64 m.heat.1, .int .i64 m.heat.2, .int .i64 (m.grass.1 + q3), .int .i64 (m.grass.2 + q3), .int .i64 (m.drinks.1 + q2), .int .i64 (m.drinks.2 + q2)] := rowOf_setCell_o (rowOf_setCell_o rnV5 _) _
      have hb1 := below_grown hV5 hG hV5.size (by have := HG.out; simp only; omega)
      have hV6 : Below w.heap.size w ((V5.setCell ⟨gn, 4, none⟩ (.int .i64 (m.grass.1 + q3))).setCell ⟨gn, 5, none⟩ (.int .i64 (m.grass.2 + q3))) := below_grown hb1 hG2 hb1.size (by have := HG.out; simp only; omega)
      go_wp2_with fail
      clear hG hG2 hb1 cn fn zn rbV5 rcV5 rmV5 rnV5 hV5
      generalize ((V5.setCell ⟨gn, 4, none⟩ (.int .i64 (m.grass.1 + q3))).setCell ⟨gn, 5, none⟩ (.int .i64 (m.grass.2 + q3))) = V6 at *
      have zV6 := hV6.size
      obtain ⟨u, hu⟩ : ∃ u : Mr, u = ⟨m.hours, m.load - q0, (m.heat.1, m.heat.2), (m.grass.1 + q3, m.grass.2 + q3), (m.drinks.1 + q2, m.drinks.2 + q2)⟩ := ⟨_, rfl⟩
      have rn7 := day_of hu rnV6
      have hLG : Lgt u m := by subst hu; exact ⟨by simp only <;> omega, by simp only <;> omega, by simp only <;> omega, rfl, ⟨by simp only <;> omega, by simp only <;> omega⟩, ⟨by simp only <;> omega, by simp only <;> omega⟩⟩
      have hOK : okM u = true := okM_of (by have hh := HB.out.heat; subst hu; exact ⟨by simp only; omega, by simp only; omega, hh, by simp only; omega, by simp only; omega⟩)
      clear hu rnV6
      have HS := Lib.hid (light_said HC.out HM.out hOK hLG)
      clear hLG hOK b0 b2 b3 t0 t1 t2 t3 ml mh md mg i01 i02 i11 i12 i21 i22 i31 i32
      obtain ⟨p, hpp⟩ : ∃ y, aftC b c m = y := ⟨_, rfl⟩
      obtain ⟨fp, hfp⟩ : ∃ y, aftF b c m = y := ⟨_, rfl⟩
      obtain ⟨xp, hxp⟩ : ∃ y, chkA b c m = y := ⟨_, rfl⟩
      obtain ⟨r, hpr⟩ : ∃ y, aftC b c u = y := ⟨_, rfl⟩
      obtain ⟨fr, hfr⟩ : ∃ y, aftF b c u = y := ⟨_, rfl⟩
      obtain ⟨xr, hxr⟩ : ∃ y, chkA b c u = y := ⟨_, rfl⟩
      have HS2 := HS.out
      rw [hpp, hfp, hxp, hpr, hfr, hxr] at HS2
      have Kpp := Lib.hid hpp
      have Kfp := Lib.hid hfp
      have Kxp := Lib.hid hxp
      have Kpr := Lib.hid hpr
      have Kfr := Lib.hid hfr
      have Kxr := Lib.hid hxr
      clear HS hpp hfp hxp hpr hfr hxr
      have HS := Lib.hid HS2
      clear HS2
      go_wp2_with fail
      refine (After_x b c m p fp xp Kpp.out Kfp.out Kxp.out _).mono ?_
      rintro e V7 ⟨rfl, hB⟩
      obtain ⟨rbV7, -, -, zbV7⟩ := keep_row hB rbV6
      obtain ⟨rcV7, -, -, zcV7⟩ := keep_row hB rcV6
      obtain ⟨rnV7, -, -, znV7⟩ := keep_row hB rn7
      have hV7 : Below w.heap.size w V7 := hV6.trans (hB.mono zV6)
      clear hB rbV6 rcV6 rmV6 rn7 hV6 zV6
      have zV7 := hV7.size
      go_wp2_with fail
      refine (After_x b c u r fr xr Kpr.out Kfr.out Kxr.out _).mono ?_
      rintro e V8 ⟨rfl, hB⟩
      obtain ⟨rpV8, cpV8, gpV8, zpV8⟩ := keep_row hB (g := V7.heap.size) (by repeat (first | with_reducible assumption | with_reducible apply row_here0 | with_reducible apply row_here1 | with_reducible apply row_here2 | with_reducible apply row_here3 | with_reducible apply rowSkip))
      have hV8 : Below w.heap.size w V8 := hV7.trans (Below.trans (by have := hV7.size; go_grown) (hB.mono (by have := hV7.size; simp; try omega)))
      clear hB rbV7 rcV7 rnV7 zbV7 zcV7 znV7 hV7 zV7
      have zV8 := hV8.size
      rcases HS.out with ⟨h1, h2⟩ | ⟨h1, h2, h3, h4, h5, h6, h7, h8, h9⟩
      · rcases h2 with h2 | h2
        · subst h1 h2
          clear HS Kpp Kfp Kxp Kpr Kfr Kxr
          go_wp2
          go_returns
          exact ⟨rfl, by go_grown⟩
        · subst h1 h2
          clear HS Kpp Kfp Kxp Kpr Kfr Kxr
          go_wp2
          go_returns
          exact ⟨rfl, by go_grown⟩
      · subst h1 h2
        by_cases h0 : fp = 0
        · have h0r := h3 h0
          subst h0 h0r
          clear HS Kpp Kfp Kxp Kpr Kfr Kxr h3
          go_wp2
          go_returns
          exact ⟨rfl, by go_grown⟩
        · clear HS Kpp Kfp Kxp Kpr Kfr Kxr h3
          go_wp2
          go_returns
          exact ⟨rfl, by go_grown⟩
end Go.Proofs.Ytafdcbdbllpcnaa
