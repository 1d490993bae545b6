/- The walk of the outright property of what is known better. -/
import Derived.Test.YtafdcbdbllpcnaaNarrT
import Derived.Test.YtafdcbdbllpcnaaLeafI
set_option linter.unusedVariables false
set_option linter.unusedSimpArgs false
namespace Go.Proofs.Ytafdcbdbllpcnaa
open Go.RowKit
open Go.Proofs

attribute [local go_sem ↓] exec36l exec36s exec45s exec45l exec39s exec39l
attribute [local go_sem] load36 store36 load45 load39 store45 store39 rowOf_alloc rowOf_drew setRow_alloc one_int one_bool
attribute [local irreducible] wpQuiet

theorem at_i (a : Option Addr) (cap n : Nat) (xs : List Int) (i : Nat) (z v : Int) (w : World) (hz : z = (i : Int)) (hn : n = xs.length) (h : WordsIn w a cap xs) (hi : i < 100000) (hv : atS xs i = v) :
    Calls Try.prog 50 #[.slice a n cap, .int .i64 z] w fun e w' => e = .returned (.int .u32 v) ∧ Below w.heap.size w w' := by
  subst hz; exact at_any a cap n xs i v w hn h hi hv
theorem part_i (s : Int × Int) (xs : List Int) (j : Nat) (x y : Int) (w : World) (hs : s.1 ≤ s.2) (h1 : -1000000000 ≤ s.1) (h2 : s.2 ≤ 1000000000) (hx : inU x) (hy : inU y) (ex : atS xs j = x) (ey : atS xs (j + 1) = y) :
    Calls Try.prog 52 #[.agg #[.int .i64 s.1, .int .i64 s.2], .int .u32 x, .int .u32 y] w fun e w' => e = .returned (.agg #[.int .i64 (prt xs j s).1, .int .i64 (prt xs j s).2]) ∧ Below w.heap.size w w' :=
  part_any s x y _ w hs h1 h2 hx hy (by rw [prt, ex, ey])
theorem inner_i {v : Bool} (s t : Int × Int) (w : World) (hv : (decide (t.1 ≤ s.1) && decide (s.2 ≤ t.2)) = v) (hv1 : v = true) :
    Calls Try.prog 53 #[.agg #[.int .i64 s.1, .int .i64 s.2], .agg #[.int .i64 t.1, .int .i64 t.2]] w fun e w' => e = .returned (.bool true) ∧ Below w.heap.size w w' := by
  subst hv1; exact inner_any s t true w hv

set_option maxRecDepth 100000 in
set_option maxHeartbeats 16000000 in
theorem camelNarrow_walk (halive : ∀ W, Calls Try.prog 14 #[] W fun e w' => e = .returned (.bool true) ∧ Below W.heap.size W w') (b : Br) (c : Cm) (m : Mr) (a : Option Addr) (cap n : Nat) (xs : List Int) (w : World) (hn : n = xs.length) (hw : WordsIn w a cap xs) (hu : ∀ x ∈ xs, inU x) :
    Calls Try.prog 10 #[.agg #[.int .i64 b.full, .int .i64 b.fed, .int .i64 b.rest.1, .int .i64 b.rest.2, .int .i64 b.heat.1, .int .i64 b.heat.2, .int .i64 b.toil.1, .int .i64 b.toil.2, .int .i64 b.burn.1, .int .i64 b.burn.2, .int .i64 b.rub.1, .int .i64 b.rub.2, .int .i64 b.milk.1, .int .i64 b.milk.2, .int .i64 b.heal, .int .i64 b.strong.1, .int .i64 b.strong.2], .agg #[.int .i64 c.water.1, .int .i64 c.water.2, .int .i64 c.fat.1, .int .i64 c.fat.2, .int .i64 c.sore.1, .int .i64 c.sore.2, .bool c.milks], .agg #[.int .i64 m.hours, .int .i64 m.load, .int .i64 m.heat.1, .int .i64 m.heat.2, .int .i64 m.grass.1, .int .i64 m.grass.2, .int .i64 m.drinks.1, .int .i64 m.drinks.2], .slice a n cap] w fun e w' => e = .returned (.bool true) ∧ Below w.heap.size w w' := by
  have HA := Lib.hid halive
  have HN := Lib.hid hn
  have HW := Lib.hid hw
  have HU := Lib.hid hu
  cases hr : rdyS b c [m] with
  | false =>
    have HR := Lib.hid hr
    clear halive hn hw hu hr
    go_enter Try.func10, Try.ntmps10
    go_wp2_with fail
    refine (HA.out _).mono ?_
    rintro e W1 ⟨rfl, hB⟩
    have hW1 : Below w.heap.size w W1 := Below.trans (by go_grown) (hB.mono (by simp; try omega))
    have zW1 := hW1.size
    obtain ⟨rbW1, cbW1, gbW1, zbW1⟩ := keep_row hB (g := w.heap.size) (by repeat (first | with_reducible assumption | with_reducible apply row_here0 | with_reducible apply row_here1 | with_reducible apply row_here2 | with_reducible apply row_here3 | with_reducible apply rowSkip))
    obtain ⟨rcW1, ccW1, gcW1, zcW1⟩ := keep_row hB (g := w.heap.size + 1) (by repeat (first | with_reducible assumption | with_reducible apply row_here0 | with_reducible apply row_here1 | with_reducible apply row_here2 | with_reducible apply row_here3 | with_reducible apply rowSkip))
    obtain ⟨rmW1, cmW1, gmW1, zmW1⟩ := keep_row hB (g := w.heap.size + 1 + 1) (by repeat (first | with_reducible assumption | with_reducible apply row_here0 | with_reducible apply row_here1 | with_reducible apply row_here2 | with_reducible apply row_here3 | with_reducible apply rowSkip))
    clear hB
    go_wp2_with fail
    refine (ready_any b c (some ⟨W1.heap.size, 0, none⟩) 1 1 [m] _ _ rfl (days_row 1 (row_here0 _ _ _)) HR.out).mono ?_
    rintro e W2 ⟨rfl, hB⟩
    have hW2 : Below w.heap.size w W2 := hW1.trans (Below.trans (by have := hW1.size; go_grown) (hB.mono (by have := hW1.size; simp; try omega)))
    have zW2 := hW2.size
    obtain ⟨rbW2, cbW2, gbW2, zbW2⟩ := keep_row hB (g := w.heap.size) (by repeat (first | with_reducible assumption | with_reducible apply row_here0 | with_reducible apply row_here1 | with_reducible apply row_here2 | with_reducible apply row_here3 | with_reducible apply rowSkip))
    obtain ⟨rcW2, ccW2, gcW2, zcW2⟩ := keep_row hB (g := w.heap.size + 1) (by repeat (first | with_reducible assumption | with_reducible apply row_here0 | with_reducible apply row_here1 | with_reducible apply row_here2 | with_reducible apply row_here3 | with_reducible apply rowSkip))
    obtain ⟨rmW2, cmW2, gmW2, zmW2⟩ := keep_row hB (g := w.heap.size + 1 + 1) (by repeat (first | with_reducible assumption | with_reducible apply row_here0 | with_reducible apply row_here1 | with_reducible apply row_here2 | with_reducible apply row_here3 | with_reducible apply rowSkip))
    clear hB
    go_wp2
    go_returns
    exact ⟨rfl, hW2⟩
  | true =>
    have HR := Lib.hid hr
    obtain ⟨hc0, hm0⟩ := rdyS_one hr
    have HC := Lib.hid hc0
    have HM := Lib.hid hm0
    have HBB := Lib.hid (chkC_ok hc0).1
    have HBC := Lib.hid (chkC_ok hc0).2
    have HBM := Lib.hid (okM_bd hm0)
    clear halive hn hw hu hr hc0 hm0
    go_enter Try.func10, Try.ntmps10
    go_wp2_with fail
    refine (HA.out _).mono ?_
    rintro e W1 ⟨rfl, hB⟩
    have hW1 : Below w.heap.size w W1 := Below.trans (by go_grown) (hB.mono (by simp; try omega))
    have zW1 := hW1.size
    obtain ⟨rbW1, cbW1, gbW1, zbW1⟩ := keep_row hB (g := w.heap.size) (by repeat (first | with_reducible assumption | with_reducible apply row_here0 | with_reducible apply row_here1 | with_reducible apply row_here2 | with_reducible apply row_here3 | with_reducible apply rowSkip))
    obtain ⟨rcW1, ccW1, gcW1, zcW1⟩ := keep_row hB (g := w.heap.size + 1) (by repeat (first | with_reducible assumption | with_reducible apply row_here0 | with_reducible apply row_here1 | with_reducible apply row_here2 | with_reducible apply row_here3 | with_reducible apply rowSkip))
    obtain ⟨rmW1, cmW1, gmW1, zmW1⟩ := keep_row hB (g := w.heap.size + 1 + 1) (by repeat (first | with_reducible assumption | with_reducible apply row_here0 | with_reducible apply row_here1 | with_reducible apply row_here2 | with_reducible apply row_here3 | with_reducible apply rowSkip))
    clear hB
    go_wp2_with fail
    refine (ready_any b c (some ⟨W1.heap.size, 0, none⟩) 1 1 [m] _ _ rfl (days_row 1 (row_here0 _ _ _)) HR.out).mono ?_
    rintro e W2 ⟨rfl, hB⟩
    have hW2 : Below w.heap.size w W2 := hW1.trans (Below.trans (by have := hW1.size; go_grown) (hB.mono (by have := hW1.size; simp; try omega)))
    have zW2 := hW2.size
    obtain ⟨rbW2, cbW2, gbW2, zbW2⟩ := keep_row hB (g := w.heap.size) (by repeat (first | with_reducible assumption | with_reducible apply row_here0 | with_reducible apply row_here1 | with_reducible apply row_here2 | with_reducible apply row_here3 | with_reducible apply rowSkip))
    obtain ⟨rcW2, ccW2, gcW2, zcW2⟩ := keep_row hB (g := w.heap.size + 1) (by repeat (first | with_reducible assumption | with_reducible apply row_here0 | with_reducible apply row_here1 | with_reducible apply row_here2 | with_reducible apply row_here3 | with_reducible apply rowSkip))
    obtain ⟨rmW2, cmW2, gmW2, zmW2⟩ := keep_row hB (g := w.heap.size + 1 + 1) (by repeat (first | with_reducible assumption | with_reducible apply row_here0 | with_reducible apply row_here1 | with_reducible apply row_here2 | with_reducible apply row_here3 | with_reducible apply rowSkip))
    clear hB
    clear rbW1 cbW1 gbW1 zbW1 rcW1 ccW1 gcW1 zcW1 rmW1 cmW1 gmW1 zmW1 hW1 zW1
    go_wp2_with fail
    refine wp_drawz (by kernel_rfl) (XL (W2.heap.size) (nrL b c m)) (fun j => match j with | 6 => 10 | 7 => 11 | 8 => 12 | _ => 0) XL.refl (fun _ _ _ => XL.trans (nrL_ok b c m)) [some 42, some 43, some 44, some 10, some 11, some 12, none, none, none] (by kernel_rfl) (by kernel_rfl) (fun ix v W => match ix with
      | 0 => v = .agg #[.int .i64 b.full, .int .i64 b.fed, .int .i64 b.rest.1, .int .i64 b.rest.2, .int .i64 b.heat.1, .int .i64 b.heat.2, .int .i64 b.toil.1, .int .i64 b.toil.2, .int .i64 b.burn.1, .int .i64 b.burn.2, .int .i64 b.rub.1, .int .i64 b.rub.2, .int .i64 b.milk.1, .int .i64 b.milk.2, .int .i64 b.heal, .int .i64 b.strong.1, .int .i64 b.strong.2]
      | 1 => v = .agg #[.int .i64 c.water.1, .int .i64 c.water.2, .int .i64 c.fat.1, .int .i64 c.fat.2, .int .i64 c.sore.1, .int .i64 c.sore.2, .bool c.milks]
      | 2 => v = .agg #[.int .i64 m.hours, .int .i64 m.load, .int .i64 m.heat.1, .int .i64 m.heat.2, .int .i64 m.grass.1, .int .i64 m.grass.2, .int .i64 m.drinks.1, .int .i64 m.drinks.2]
      | 3 => NL (W2.heap.size) (#[.int .i64 0, .int .i64 0, .int .i64 0, .int .i64 0, .int .i64 0, .int .i64 0, .int .i64 0, .int .i64 0, .int .i64 0, .int .i64 0, .int .i64 0, .int .i64 0, .int .i64 0, .int .i64 0, .int .i64 0, .int .i64 0, .int .i64 0], #[.int .i64 b.full, .int .i64 b.fed, .int .i64 b.rest.1, .int .i64 b.rest.2, .int .i64 b.heat.1, .int .i64 b.heat.2, .int .i64 b.toil.1, .int .i64 b.toil.2, .int .i64 b.burn.1, .int .i64 b.burn.2, .int .i64 b.rub.1, .int .i64 b.rub.2, .int .i64 b.milk.1, .int .i64 b.milk.2, .int .i64 b.heal, .int .i64 b.strong.1, .int .i64 b.strong.2]) v W
      | 4 => NL (W2.heap.size) (#[.int .i64 0, .int .i64 0, .int .i64 0, .int .i64 0, .int .i64 0, .int .i64 0, .bool false], #[.int .i64 c.water.1, .int .i64 c.water.2, .int .i64 c.fat.1, .int .i64 c.fat.2, .int .i64 c.sore.1, .int .i64 c.sore.2, .bool c.milks]) v W
      | 5 => NL (W2.heap.size) (#[.int .i64 0, .int .i64 0, .int .i64 0, .int .i64 0, .int .i64 0, .int .i64 0, .int .i64 0, .int .i64 0], #[.int .i64 m.hours, .int .i64 m.load, .int .i64 m.heat.1, .int .i64 m.heat.2, .int .i64 m.grass.1, .int .i64 m.grass.2, .int .i64 m.drinks.1, .int .i64 m.drinks.2]) v W
      | 6 => SB #[.int .i64 b.full, .int .i64 b.fed, .int .i64 b.rest.1, .int .i64 b.rest.2, .int .i64 b.heat.1, .int .i64 b.heat.2, .int .i64 b.toil.1, .int .i64 b.toil.2, .int .i64 b.burn.1, .int .i64 b.burn.2, .int .i64 b.rub.1, .int .i64 b.rub.2, .int .i64 b.milk.1, .int .i64 b.milk.2, .int .i64 b.heal, .int .i64 b.strong.1, .int .i64 b.strong.2] v W
      | 7 => SB #[.int .i64 c.water.1, .int .i64 c.water.2, .int .i64 c.fat.1, .int .i64 c.fat.2, .int .i64 c.sore.1, .int .i64 c.sore.2, .bool c.milks] v W
      | 8 => SB #[.int .i64 m.hours, .int .i64 m.load, .int .i64 m.heat.1, .int .i64 m.heat.2, .int .i64 m.grass.1, .int .i64 m.grass.2, .int .i64 m.drinks.1, .int .i64 m.drinks.2] v W
      | _ => True) ⟨⟨?_, ?_⟩, ⟨?_, ?_⟩, ⟨?_, ?_⟩, ⟨?_, ?_⟩, ⟨?_, ?_⟩, ⟨?_, ?_⟩, ⟨?_, ?_⟩, ⟨?_, ?_⟩, ⟨?_, ?_⟩, ?_⟩
    · intro g h; cases h
    · intro b' W hE hb hdep K hK
      have e4 : b'.tmps[4]?.getD undef = .pointer (some ⟨w.heap.size, 0, none⟩) := hb 4 (by decide)
      clear hdep hb
      obtain ⟨_, _, -, _⟩ := row_facts (hE.row ((rowOf_drew _ _).trans rbW2) (by omega))
      obtain ⟨_, _, -, _⟩ := row_facts (hE.row ((rowOf_drew _ _).trans rcW2) (by omega))
      obtain ⟨_, _, -, _⟩ := row_facts (hE.row ((rowOf_drew _ _).trans rmW2) (by omega))
      go_wp2
      exact hK _ _ (XL.refl _) rfl
    · intro g h; cases h
    · intro b' W hE hb hdep K hK
      have e5 : b'.tmps[5]?.getD undef = .pointer (some ⟨(w.heap.size + 1), 0, none⟩) := hb 5 (by decide)
      clear hdep hb
      obtain ⟨_, _, -, _⟩ := row_facts (hE.row ((rowOf_drew _ _).trans rbW2) (by omega))
      obtain ⟨_, _, -, _⟩ := row_facts (hE.row ((rowOf_drew _ _).trans rcW2) (by omega))
      obtain ⟨_, _, -, _⟩ := row_facts (hE.row ((rowOf_drew _ _).trans rmW2) (by omega))
      go_wp2
      exact hK _ _ (XL.refl _) rfl
    · intro g h; cases h
    · intro b' W hE hb hdep K hK
      have e6 : b'.tmps[6]?.getD undef = .pointer (some ⟨(w.heap.size + 1 + 1), 0, none⟩) := hb 6 (by decide)
      clear hdep hb
      obtain ⟨_, _, -, _⟩ := row_facts (hE.row ((rowOf_drew _ _).trans rbW2) (by omega))
      obtain ⟨_, _, -, _⟩ := row_facts (hE.row ((rowOf_drew _ _).trans rcW2) (by omega))
      obtain ⟨_, _, -, _⟩ := row_facts (hE.row ((rowOf_drew _ _).trans rmW2) (by omega))
      go_wp2
      exact hK _ _ (XL.refl _) rfl
    · intro g h; cases h
    · intro b' W hE hb hdep K hK
      clear hdep hb
      go_wp2
      exact hK _ _ (Ext.xl (ext_alloc _ _)) ⟨rfl, by have := hE.size; simp at this; simp [blk]; omega, .inl (row_here0 _ _ _)⟩
    · intro g h; cases h
    · intro b' W hE hb hdep K hK
      clear hdep hb
      go_wp2
      exact hK _ _ (Ext.xl (ext_alloc _ _)) ⟨rfl, by have := hE.size; simp at this; simp [blk]; omega, .inl (row_here0 _ _ _)⟩
    · intro g h; cases h
    · intro b' W hE hb hdep K hK
      clear hdep hb
      go_wp2
      exact hK _ _ (Ext.xl (ext_alloc _ _)) ⟨rfl, by have := hE.size; simp at this; simp [blk]; omega, .inl (row_here0 _ _ _)⟩
    · intro g h; cases h
    · intro b' W hE hb hdep K hK
      have n10 : NL (W2.heap.size) (#[.int .i64 0, .int .i64 0, .int .i64 0, .int .i64 0, .int .i64 0, .int .i64 0, .int .i64 0, .int .i64 0, .int .i64 0, .int .i64 0, .int .i64 0, .int .i64 0, .int .i64 0, .int .i64 0, .int .i64 0, .int .i64 0, .int .i64 0], #[.int .i64 b.full, .int .i64 b.fed, .int .i64 b.rest.1, .int .i64 b.rest.2, .int .i64 b.heat.1, .int .i64 b.heat.2, .int .i64 b.toil.1, .int .i64 b.toil.2, .int .i64 b.burn.1, .int .i64 b.burn.2, .int .i64 b.rub.1, .int .i64 b.rub.2, .int .i64 b.milk.1, .int .i64 b.milk.2, .int .i64 b.heal, .int .i64 b.strong.1, .int .i64 b.strong.2]) (b'.tmps[10]?.getD undef) W := nlR (nrL_ok b c m) (by simp [nrL]) (hdep 3 (some 10) (by kernel_rfl) rfl)
      have e42 : b'.tmps[42]?.getD undef = .agg #[.int .i64 b.full, .int .i64 b.fed, .int .i64 b.rest.1, .int .i64 b.rest.2, .int .i64 b.heat.1, .int .i64 b.heat.2, .int .i64 b.toil.1, .int .i64 b.toil.2, .int .i64 b.burn.1, .int .i64 b.burn.2, .int .i64 b.rub.1, .int .i64 b.rub.2, .int .i64 b.milk.1, .int .i64 b.milk.2, .int .i64 b.heal, .int .i64 b.strong.1, .int .i64 b.strong.2] := pureL (hdep 0 (some 42) (by kernel_rfl) rfl)
      clear hdep hb
      exact wp_store_nl (nrL_ok b c m) (p := (#[.int .i64 0, .int .i64 0, .int .i64 0, .int .i64 0, .int .i64 0, .int .i64 0, .int .i64 0, .int .i64 0, .int .i64 0, .int .i64 0, .int .i64 0, .int .i64 0, .int .i64 0, .int .i64 0, .int .i64 0, .int .i64 0, .int .i64 0], #[.int .i64 b.full, .int .i64 b.fed, .int .i64 b.rest.1, .int .i64 b.rest.2, .int .i64 b.heat.1, .int .i64 b.heat.2, .int .i64 b.toil.1, .int .i64 b.toil.2, .int .i64 b.burn.1, .int .i64 b.burn.2, .int .i64 b.rub.1, .int .i64 b.rub.2, .int .i64 b.milk.1, .int .i64 b.milk.2, .int .i64 b.heal, .int .i64 b.strong.1, .int .i64 b.strong.2])) (by simp [nrL]) 36 10 (.tmp 42) rfl rfl n10 ((eval_tmp _ _).trans e42) (by kernel_rfl) rfl (by simp [one_int, one_bool]) (fun W' h1 h2 => hK W' h1 h2)
    · intro g h; cases h
    · intro b' W hE hb hdep K hK
      have n11 : NL (W2.heap.size) (#[.int .i64 0, .int .i64 0, .int .i64 0, .int .i64 0, .int .i64 0, .int .i64 0, .bool false], #[.int .i64 c.water.1, .int .i64 c.water.2, .int .i64 c.fat.1, .int .i64 c.fat.2, .int .i64 c.sore.1, .int .i64 c.sore.2, .bool c.milks]) (b'.tmps[11]?.getD undef) W := nlR (nrL_ok b c m) (by simp [nrL]) (hdep 4 (some 11) (by kernel_rfl) rfl)
      have e43 : b'.tmps[43]?.getD undef = .agg #[.int .i64 c.water.1, .int .i64 c.water.2, .int .i64 c.fat.1, .int .i64 c.fat.2, .int .i64 c.sore.1, .int .i64 c.sore.2, .bool c.milks] := pureL (hdep 1 (some 43) (by kernel_rfl) rfl)
      clear hdep hb
      exact wp_store_nl (nrL_ok b c m) (p := (#[.int .i64 0, .int .i64 0, .int .i64 0, .int .i64 0, .int .i64 0, .int .i64 0, .bool false], #[.int .i64 c.water.1, .int .i64 c.water.2, .int .i64 c.fat.1, .int .i64 c.fat.2, .int .i64 c.sore.1, .int .i64 c.sore.2, .bool c.milks])) (by simp [nrL]) 39 11 (.tmp 43) rfl rfl n11 ((eval_tmp _ _).trans e43) (by kernel_rfl) rfl (by simp [one_int, one_bool]) (fun W' h1 h2 => hK W' h1 h2)
    · intro g h; cases h
    · intro b' W hE hb hdep K hK
      have n12 : NL (W2.heap.size) (#[.int .i64 0, .int .i64 0, .int .i64 0, .int .i64 0, .int .i64 0, .int .i64 0, .int .i64 0, .int .i64 0], #[.int .i64 m.hours, .int .i64 m.load, .int .i64 m.heat.1, .int .i64 m.heat.2, .int .i64 m.grass.1, .int .i64 m.grass.2, .int .i64 m.drinks.1, .int .i64 m.drinks.2]) (b'.tmps[12]?.getD undef) W := nlR (nrL_ok b c m) (by simp [nrL]) (hdep 5 (some 12) (by kernel_rfl) rfl)
      have e44 : b'.tmps[44]?.getD undef = .agg #[.int .i64 m.hours, .int .i64 m.load, .int .i64 m.heat.1, .int .i64 m.heat.2, .int .i64 m.grass.1, .int .i64 m.grass.2, .int .i64 m.drinks.1, .int .i64 m.drinks.2] := pureL (hdep 2 (some 44) (by kernel_rfl) rfl)
      clear hdep hb
      exact wp_store_nl (nrL_ok b c m) (p := (#[.int .i64 0, .int .i64 0, .int .i64 0, .int .i64 0, .int .i64 0, .int .i64 0, .int .i64 0, .int .i64 0], #[.int .i64 m.hours, .int .i64 m.load, .int .i64 m.heat.1, .int .i64 m.heat.2, .int .i64 m.grass.1, .int .i64 m.grass.2, .int .i64 m.drinks.1, .int .i64 m.drinks.2])) (by simp [nrL]) 45 12 (.tmp 44) rfl rfl n12 ((eval_tmp _ _).trans e44) (by kernel_rfl) rfl (by simp [one_int, one_bool]) (fun W' h1 h2 => hK W' h1 h2)
    intro f W hE hR
    have e42 : f 42 = .agg #[.int .i64 b.full, .int .i64 b.fed, .int .i64 b.rest.1, .int .i64 b.rest.2, .int .i64 b.heat.1, .int .i64 b.heat.2, .int .i64 b.toil.1, .int .i64 b.toil.2, .int .i64 b.burn.1, .int .i64 b.burn.2, .int .i64 b.rub.1, .int .i64 b.rub.2, .int .i64 b.milk.1, .int .i64 b.milk.2, .int .i64 b.heal, .int .i64 b.strong.1, .int .i64 b.strong.2] := pureL (hR 0 (some 42) rfl)
    have e43 : f 43 = .agg #[.int .i64 c.water.1, .int .i64 c.water.2, .int .i64 c.fat.1, .int .i64 c.fat.2, .int .i64 c.sore.1, .int .i64 c.sore.2, .bool c.milks] := pureL (hR 1 (some 43) rfl)
    have e44 : f 44 = .agg #[.int .i64 m.hours, .int .i64 m.load, .int .i64 m.heat.1, .int .i64 m.heat.2, .int .i64 m.grass.1, .int .i64 m.grass.2, .int .i64 m.drinks.1, .int .i64 m.drinks.2] := pureL (hR 2 (some 44) rfl)
    have n10 : NL (W2.heap.size) (#[.int .i64 0, .int .i64 0, .int .i64 0, .int .i64 0, .int .i64 0, .int .i64 0, .int .i64 0, .int .i64 0, .int .i64 0, .int .i64 0, .int .i64 0, .int .i64 0, .int .i64 0, .int .i64 0, .int .i64 0, .int .i64 0, .int .i64 0], #[.int .i64 b.full, .int .i64 b.fed, .int .i64 b.rest.1, .int .i64 b.rest.2, .int .i64 b.heat.1, .int .i64 b.heat.2, .int .i64 b.toil.1, .int .i64 b.toil.2, .int .i64 b.burn.1, .int .i64 b.burn.2, .int .i64 b.rub.1, .int .i64 b.rub.2, .int .i64 b.milk.1, .int .i64 b.milk.2, .int .i64 b.heal, .int .i64 b.strong.1, .int .i64 b.strong.2]) (f 10) W := nlR (nrL_ok b c m) (by simp [nrL]) (hR 3 (some 10) rfl)
    have n11 : NL (W2.heap.size) (#[.int .i64 0, .int .i64 0, .int .i64 0, .int .i64 0, .int .i64 0, .int .i64 0, .bool false], #[.int .i64 c.water.1, .int .i64 c.water.2, .int .i64 c.fat.1, .int .i64 c.fat.2, .int .i64 c.sore.1, .int .i64 c.sore.2, .bool c.milks]) (f 11) W := nlR (nrL_ok b c m) (by simp [nrL]) (hR 4 (some 11) rfl)
    have n12 : NL (W2.heap.size) (#[.int .i64 0, .int .i64 0, .int .i64 0, .int .i64 0, .int .i64 0, .int .i64 0, .int .i64 0, .int .i64 0], #[.int .i64 m.hours, .int .i64 m.load, .int .i64 m.heat.1, .int .i64 m.heat.2, .int .i64 m.grass.1, .int .i64 m.grass.2, .int .i64 m.drinks.1, .int .i64 m.drinks.2]) (f 12) W := nlR (nrL_ok b c m) (by simp [nrL]) (hR 5 (some 12) rfl)
    have q10 : SB #[.int .i64 b.full, .int .i64 b.fed, .int .i64 b.rest.1, .int .i64 b.rest.2, .int .i64 b.heat.1, .int .i64 b.heat.2, .int .i64 b.toil.1, .int .i64 b.toil.2, .int .i64 b.burn.1, .int .i64 b.burn.2, .int .i64 b.rub.1, .int .i64 b.rub.2, .int .i64 b.milk.1, .int .i64 b.milk.2, .int .i64 b.heal, .int .i64 b.strong.1, .int .i64 b.strong.2] (f 10) W := sbL (nrL_ok b c m) (p := (#[.int .i64 0, .int .i64 0, .int .i64 0, .int .i64 0, .int .i64 0, .int .i64 0, .int .i64 0, .int .i64 0, .int .i64 0, .int .i64 0, .int .i64 0, .int .i64 0, .int .i64 0, .int .i64 0, .int .i64 0, .int .i64 0, .int .i64 0], #[.int .i64 b.full, .int .i64 b.fed, .int .i64 b.rest.1, .int .i64 b.rest.2, .int .i64 b.heat.1, .int .i64 b.heat.2, .int .i64 b.toil.1, .int .i64 b.toil.2, .int .i64 b.burn.1, .int .i64 b.burn.2, .int .i64 b.rub.1, .int .i64 b.rub.2, .int .i64 b.milk.1, .int .i64 b.milk.2, .int .i64 b.heal, .int .i64 b.strong.1, .int .i64 b.strong.2])) (by simp [nrL]) (hR 6 none rfl)
    have q11 : SB #[.int .i64 c.water.1, .int .i64 c.water.2, .int .i64 c.fat.1, .int .i64 c.fat.2, .int .i64 c.sore.1, .int .i64 c.sore.2, .bool c.milks] (f 11) W := sbL (nrL_ok b c m) (p := (#[.int .i64 0, .int .i64 0, .int .i64 0, .int .i64 0, .int .i64 0, .int .i64 0, .bool false], #[.int .i64 c.water.1, .int .i64 c.water.2, .int .i64 c.fat.1, .int .i64 c.fat.2, .int .i64 c.sore.1, .int .i64 c.sore.2, .bool c.milks])) (by simp [nrL]) (hR 7 none rfl)
    have q12 : SB #[.int .i64 m.hours, .int .i64 m.load, .int .i64 m.heat.1, .int .i64 m.heat.2, .int .i64 m.grass.1, .int .i64 m.grass.2, .int .i64 m.drinks.1, .int .i64 m.drinks.2] (f 12) W := sbL (nrL_ok b c m) (p := (#[.int .i64 0, .int .i64 0, .int .i64 0, .int .i64 0, .int .i64 0, .int .i64 0, .int .i64 0, .int .i64 0], #[.int .i64 m.hours, .int .i64 m.load, .int .i64 m.heat.1, .int .i64 m.heat.2, .int .i64 m.grass.1, .int .i64 m.grass.2, .int .i64 m.drinks.1, .int .i64 m.drinks.2])) (by simp [nrL]) (hR 8 none rfl)
    clear hR
    obtain ⟨p10, b10, -⟩ := n10
    have r10 := q10.row
    clear q10
    generalize blk (f 10) = gd at p10 b10 r10
    obtain ⟨p11, b11, -⟩ := n11
    have r11 := q11.row
    clear q11
    generalize blk (f 11) = ga at p11 b11 r11
    obtain ⟨p12, b12, -⟩ := n12
    have r12 := q12.row
    clear q12
    generalize blk (f 12) = gn at p12 b12 r12
    simp only [List.filterMap_cons, List.filterMap_nil, id, puts, Act.put, List.setIfInBounds_toArray, List.set_cons_succ, List.set_cons_zero, e42, e43, e44, p10, p11, p12]
    have rbW3 := hE.row ((rowOf_drew _ _).trans rbW2) zbW2
    have rcW3 := hE.row ((rowOf_drew _ _).trans rcW2) zcW2
    have rmW3 := hE.row ((rowOf_drew _ _).trans rmW2) zmW2
    have hW3 : Below w.heap.size w W := hE.below hW2.drew (by simpa using zW2) zW2
    have HGd := Lib.hid (Nat.le_trans zW2 b10)
    have HGa := Lib.hid (Nat.le_trans zW2 b11)
    have HGn := Lib.hid (Nat.le_trans zW2 b12)
    have Lbd := Lib.hid (Nat.ne_of_lt (Nat.lt_of_lt_of_le zbW2 b10))
    have Lba := Lib.hid (Nat.ne_of_lt (Nat.lt_of_lt_of_le zbW2 b11))
    have Lbn := Lib.hid (Nat.ne_of_lt (Nat.lt_of_lt_of_le zbW2 b12))
    have Lcd := Lib.hid (Nat.ne_of_lt (Nat.lt_of_lt_of_le zcW2 b10))
    have Lca := Lib.hid (Nat.ne_of_lt (Nat.lt_of_lt_of_le zcW2 b11))
    have Lcn := Lib.hid (Nat.ne_of_lt (Nat.lt_of_lt_of_le zcW2 b12))
    have Lmd := Lib.hid (Nat.ne_of_lt (Nat.lt_of_lt_of_le zmW2 b10))
    have Lma := Lib.hid (Nat.ne_of_lt (Nat.lt_of_lt_of_le zmW2 b11))
    have Lmn := Lib.hid (Nat.ne_of_lt (Nat.lt_of_lt_of_le zmW2 b12))
    have hda : gd ≠ ga := fun e => by rw [e, r11] at r10; exact absurd (congrArg Array.size (Option.some.inj r10)) (by simp)
    have hdn : gd ≠ gn := fun e => by rw [e, r12] at r10; exact absurd (congrArg Array.size (Option.some.inj r10)) (by simp)
    have han : ga ≠ gn := fun e => by rw [e, r12] at r11; exact absurd (congrArg Array.size (Option.some.inj r11)) (by simp)
    have hNS : NSt xs b c m gd ga gn 0 W := ⟨r10, r11, r12⟩
    have Hda := Lib.hid hda
    have Hdn := Lib.hid hdn
    have Han := Lib.hid han
    have zdW := (cell_of_rowOf r10).2.2
    have zaW := (cell_of_rowOf r11).2.2
    have znW := (cell_of_rowOf r12).2.2
    clear hE hda hdn han e42 e43 e44 p10 p11 p12 b10 b11 b12 r10 r11 r12 rbW2 cbW2 gbW2 zbW2 rcW2 ccW2 gcW2 zcW2 rmW2 cmW2 gmW2 zmW2 hW2 zW2
    generalize W = W3 at *
    have zW3 := hW3.size
    have HNS := Lib.hid hNS
    clear hNS
    go_wp2_with fail
    have HS4 := Lib.hid (HNS.out.ext (ext_alloc W3 (.cells #[.pointer (some ⟨gd, 2, none⟩), .pointer (some ⟨gd, 4, none⟩), .pointer (some ⟨gd, 6, none⟩), .pointer (some ⟨gd, 8, none⟩), .pointer (some ⟨gd, 10, none⟩), .pointer (some ⟨gd, 12, none⟩), .pointer (some ⟨gd, 15, none⟩), .pointer (some ⟨ga, 0, none⟩), .pointer (some ⟨ga, 2, none⟩), .pointer (some ⟨ga, 4, none⟩), .pointer (some ⟨gn, 2, none⟩), .pointer (some ⟨gn, 4, none⟩), .pointer (some ⟨gn, 6, none⟩)] 96)))
    have HP4 := Lib.hid (show rowOf (W3.alloc (.cells #[.pointer (some ⟨gd, 2, none⟩), .pointer (some ⟨gd, 4, none⟩), .pointer (some ⟨gd, 6, none⟩), .pointer (some ⟨gd, 8, none⟩), .pointer (some ⟨gd, 10, none⟩), .pointer (some ⟨gd, 12, none⟩), .pointer (some ⟨gd, 15, none⟩), .pointer (some ⟨ga, 0, none⟩), .pointer (some ⟨ga, 2, none⟩), .pointer (some ⟨ga, 4, none⟩), .pointer (some ⟨gn, 2, none⟩), .pointer (some ⟨gn, 4, none⟩), .pointer (some ⟨gn, 6, none⟩)] 96)) W3.heap.size = some (ptrs gd ga gn) from row_here0 _ _ _)
    have rbW4 := rowSkip (o := .cells #[.pointer (some ⟨gd, 2, none⟩), .pointer (some ⟨gd, 4, none⟩), .pointer (some ⟨gd, 6, none⟩), .pointer (some ⟨gd, 8, none⟩), .pointer (some ⟨gd, 10, none⟩), .pointer (some ⟨gd, 12, none⟩), .pointer (some ⟨gd, 15, none⟩), .pointer (some ⟨ga, 0, none⟩), .pointer (some ⟨ga, 2, none⟩), .pointer (some ⟨ga, 4, none⟩), .pointer (some ⟨gn, 2, none⟩), .pointer (some ⟨gn, 4, none⟩), .pointer (some ⟨gn, 6, none⟩)] 96) rbW3
    have rcW4 := rowSkip (o := .cells #[.pointer (some ⟨gd, 2, none⟩), .pointer (some ⟨gd, 4, none⟩), .pointer (some ⟨gd, 6, none⟩), .pointer (some ⟨gd, 8, none⟩), .pointer (some ⟨gd, 10, none⟩), .pointer (some ⟨gd, 12, none⟩), .pointer (some ⟨gd, 15, none⟩), .pointer (some ⟨ga, 0, none⟩), .pointer (some ⟨ga, 2, none⟩), .pointer (some ⟨ga, 4, none⟩), .pointer (some ⟨gn, 2, none⟩), .pointer (some ⟨gn, 4, none⟩), .pointer (some ⟨gn, 6, none⟩)] 96) rcW3
    have rmW4 := rowSkip (o := .cells #[.pointer (some ⟨gd, 2, none⟩), .pointer (some ⟨gd, 4, none⟩), .pointer (some ⟨gd, 6, none⟩), .pointer (some ⟨gd, 8, none⟩), .pointer (some ⟨gd, 10, none⟩), .pointer (some ⟨gd, 12, none⟩), .pointer (some ⟨gd, 15, none⟩), .pointer (some ⟨ga, 0, none⟩), .pointer (some ⟨ga, 2, none⟩), .pointer (some ⟨ga, 4, none⟩), .pointer (some ⟨gn, 2, none⟩), .pointer (some ⟨gn, 4, none⟩), .pointer (some ⟨gn, 6, none⟩)] 96) rmW3
    have hW4 : Below w.heap.size w (W3.alloc (.cells #[.pointer (some ⟨gd, 2, none⟩), .pointer (some ⟨gd, 4, none⟩), .pointer (some ⟨gd, 6, none⟩), .pointer (some ⟨gd, 8, none⟩), .pointer (some ⟨gd, 10, none⟩), .pointer (some ⟨gd, 12, none⟩), .pointer (some ⟨gd, 15, none⟩), .pointer (some ⟨ga, 0, none⟩), .pointer (some ⟨ga, 2, none⟩), .pointer (some ⟨ga, 4, none⟩), .pointer (some ⟨gn, 2, none⟩), .pointer (some ⟨gn, 4, none⟩), .pointer (some ⟨gn, 6, none⟩)] 96)) := hW3.alloc zW3 _
    have Hds := Lib.hid (Nat.ne_of_lt zdW)
    have Has := Lib.hid (Nat.ne_of_lt zaW)
    have Hns := Lib.hid (Nat.ne_of_lt znW)
    have Lbs := Lib.hid (Nat.ne_of_lt (row_facts rbW3).2.2.2)
    have Lcs := Lib.hid (Nat.ne_of_lt (row_facts rcW3).2.2.2)
    have Lms := Lib.hid (Nat.ne_of_lt (row_facts rmW3).2.2.2)
    clear rbW3 rcW3 rmW3 zdW zaW znW HNS hW3
    have HGs := Lib.hid zW3
    clear zW3
    generalize W3.heap.size = gs at *
    generalize (W3.alloc (.cells #[.pointer (some ⟨gd, 2, none⟩), .pointer (some ⟨gd, 4, none⟩), .pointer (some ⟨gd, 6, none⟩), .pointer (some ⟨gd, 8, none⟩), .pointer (some ⟨gd, 10, none⟩), .pointer (some ⟨gd, 12, none⟩), .pointer (some ⟨gd, 15, none⟩), .pointer (some ⟨ga, 0, none⟩), .pointer (some ⟨ga, 2, none⟩), .pointer (some ⟨ga, 4, none⟩), .pointer (some ⟨gn, 2, none⟩), .pointer (some ⟨gn, 4, none⟩), .pointer (some ⟨gn, 6, none⟩)] 96)) = W4 at *
    have zW4 := hW4.size
    go_loopw [13, 60] (fun k2 i wr => ∃ k j : Nat, k ≤ 13 ∧ k2 = .int .i64 (j : Int) ∧ i = .int .i64 (k : Int) ∧ Hid (j = 2 * k) ∧ Hid (NSt xs b c m gd ga gn k wr) ∧ Hid (rowOf wr gs = some (ptrs gd ga gn)) ∧ Hid (rowOf wr w.heap.size = some #[.int .i64 b.full, .int .i64 b.fed, .int .i64 b.rest.1, .int .i64 b.rest.2, .int .i64 b.heat.1, .int .i64 b.heat.2, .int .i64 b.toil.1, .int .i64 b.toil.2, .int .i64 b.burn.1, .int .i64 b.burn.2, .int .i64 b.rub.1, .int .i64 b.rub.2, .int .i64 b.milk.1, .int .i64 b.milk.2, .int .i64 b.heal, .int .i64 b.strong.1, .int .i64 b.strong.2]) ∧ Hid (rowOf wr (w.heap.size + 1) = some #[.int .i64 c.water.1, .int .i64 c.water.2, .int .i64 c.fat.1, .int .i64 c.fat.2, .int .i64 c.sore.1, .int .i64 c.sore.2, .bool c.milks]) ∧ Hid (rowOf wr (w.heap.size + 1 + 1) = some #[.int .i64 m.hours, .int .i64 m.load, .int .i64 m.heat.1, .int .i64 m.heat.2, .int .i64 m.grass.1, .int .i64 m.grass.2, .int .i64 m.drinks.1, .int .i64 m.drinks.2]) ∧ Below w.heap.size w wr) (fun _ i _ => 13 - (intOf i).toNat)
    case atStart => exact ⟨0, 0, by omega, rfl, rfl, rfl, HS4.out, HP4.out, rbW4, rcW4, rmW4, hW4⟩
    case round =>
      obtain ⟨k, j, hk, rfl, rfl, HJ, HNS, HP, hrb, hrc, hrm, hB0⟩ := hrel
      clear HS4 HP4 rbW4 rcW4 rmW4 hW4 zW4
      have zB := hB0.size
      by_cases hlt : k < 13
      · obtain ⟨g, o, cs, s, hp, hg, hrow, h0, h1, hsz, b1, b2, b3, hst⟩ := tgt (xs := xs) hlt HBB.out HBC.out HBM.out Hda.out Hdn.out Han.out
        rw [← HJ.out] at hst
        obtain ⟨cp, fp, zp⟩ := cell_of_rowOf HP.out
        have cpk := (cp k).trans hp
        have hrw := hrow _ HNS.out
        have HK := Lib.hid hst
        have hj : j < 99999 := by have := HJ.out; omega
        have Lg : w.heap.size ≤ g := by rcases hg with e | e | e <;> rw [e] <;> first | exact HGd.out | exact HGa.out | exact HGn.out
        have Nb := Lib.hid (show w.heap.size ≠ g from by rcases hg with e | e | e <;> rw [e] <;> first | exact Lbd.out | exact Lba.out | exact Lbn.out)
        have Nc := Lib.hid (show (w.heap.size + 1) ≠ g from by rcases hg with e | e | e <;> rw [e] <;> first | exact Lcd.out | exact Lca.out | exact Lcn.out)
        have Nm := Lib.hid (show (w.heap.size + 1 + 1) ≠ g from by rcases hg with e | e | e <;> rw [e] <;> first | exact Lmd.out | exact Lma.out | exact Lmn.out)
        have Ns := Lib.hid (show gs ≠ g from by rcases hg with e | e | e <;> rw [e] <;> first | exact Hds.out.symm | exact Has.out.symm | exact Hns.out.symm)
        obtain ⟨x, hx⟩ : ∃ x, atS xs j = x := ⟨_, rfl⟩
        obtain ⟨y, hy⟩ : ∃ y, atS xs (j + 1) = y := ⟨_, rfl⟩
        have HX := Lib.hid hx
        have HY := Lib.hid hy
        have IX := Lib.hid (show inU x from hx ▸ atS_in HU.out j)
        have IY := Lib.hid (show inU y from hy ▸ atS_in HU.out (j + 1))
        have hlt' : (k : Int) < 13 := by omega
        have Hg := Lib.hid hg
        clear hx hy hst hrow hp cp hg
        go_wp2_with fail
        refine wp_drawsR (by kernel_rfl) [] [some 64, some 65, some 66, some 67, some 68, some 69, some 70, some 71, some 72, some 73, some 74, some 75, some 76] (by kernel_rfl) (fun ix v W => match ix with
          | 0 => v = .pointer (some ⟨g, o, none⟩)
          | 1 => v = .pointer (some ⟨g, o, none⟩)
          | 2 => v = .pointer (some ⟨g, o, none⟩)
          | 3 => v = .agg #[.int .i64 s.1, .int .i64 s.2]
          | 4 => v = .slice a n cap
          | 5 => v = .int .i64 (j : Int)
          | 6 => v = .int .u32 x
          | 7 => v = .slice a n cap
          | 8 => v = .int .i64 (j : Int)
          | 9 => v = .int .i64 ((j : Int) + 1)
          | 10 => v = .int .u32 y
          | 11 => v = .agg #[.int .i64 (prt xs j s).1, .int .i64 (prt xs j s).2]
          | 12 => v = .pointer (some ⟨g, o, none⟩)
          | _ => True) ⟨⟨?_, ?_⟩, ⟨?_, ?_⟩, ⟨?_, ?_⟩, ⟨?_, ?_⟩, ⟨?_, ?_⟩, ⟨?_, ?_⟩, ⟨?_, ?_⟩, ⟨?_, ?_⟩, ⟨?_, ?_⟩, ⟨?_, ?_⟩, ⟨?_, ?_⟩, ⟨?_, ?_⟩, ⟨?_, ?_⟩, ?_⟩
        · intro g h; cases h
        · intro b' W hE hb hdep K hK
          have e15 : b'.tmps[15]?.getD undef = .pointer (some ⟨g, o, none⟩) := hb 15 (by decide)
          clear hdep hb
          go_wp2
          exact hK _ _ (XT.refl _ _) rfl
        · intro g h; cases h
        · intro b' W hE hb hdep K hK
          have e15 : b'.tmps[15]?.getD undef = .pointer (some ⟨g, o, none⟩) := hb 15 (by decide)
          clear hdep hb
          go_wp2
          exact hK _ _ (XT.refl _ _) rfl
        · intro g h; cases h
        · intro b' W hE hb hdep K hK
          have e65 : b'.tmps[65]?.getD undef = .pointer (some ⟨g, o, none⟩) := pureX (hdep 1 (some 65) (by kernel_rfl) rfl)
          clear hdep hb
          go_wp2
          exact hK _ _ (XT.refl _ _) rfl
        · intro g h; cases h
        · intro b' W hE hb hdep K hK
          have e66 : b'.tmps[66]?.getD undef = .pointer (some ⟨g, o, none⟩) := pureX (hdep 2 (some 66) (by kernel_rfl) rfl)
          clear hdep hb
          obtain ⟨_, cc, fc, zc⟩ := row_facts (hE.row ((rowOf_drew _ _).trans hrw) (by simp))
          have k0 := (cc o).trans h0
          have k1 := (cc (o + 1)).trans h1
          clear cc
          go_wp2
          exact hK _ _ (XT.refl _ _) rfl
        · intro g h; cases h
        · intro b' W hE hb hdep K hK
          have e3 : b'.tmps[3]?.getD undef = .slice a n cap := hb 3 (by decide)
          clear hdep hb
          go_wp2
          exact hK _ _ (XT.refl _ _) rfl
        · intro g h; cases h
        · intro b' W hE hb hdep K hK
          have e13 : b'.tmps[13]?.getD undef = .int .i64 (j : Int) := hb 13 (by decide)
          clear hdep hb
          go_wp2
          exact hK _ _ (XT.refl _ _) rfl
        · intro g h; cases h
        · intro b' W hE hb hdep K hK
          have e68 : b'.tmps[68]?.getD undef = .slice a n cap := pureX (hdep 4 (some 68) (by kernel_rfl) rfl)
          have e69 : b'.tmps[69]?.getD undef = .int .i64 (j : Int) := pureX (hdep 5 (some 69) (by kernel_rfl) rfl)
          clear hdep hb
          go_wp2_with fail
          refine (at_any a cap n xs j x _ HN.out (HW.out.behind hB0 (xt_ext2 hE)) (by omega) HX.out).mono ?_
          rintro e W' ⟨rfl, hB⟩
          exact hK _ _ (Ext.xt hB) rfl
        · intro g h; cases h
        · intro b' W hE hb hdep K hK
          have e3 : b'.tmps[3]?.getD undef = .slice a n cap := hb 3 (by decide)
          clear hdep hb
          go_wp2
          exact hK _ _ (XT.refl _ _) rfl
        · intro g h; cases h
        · intro b' W hE hb hdep K hK
          have e13 : b'.tmps[13]?.getD undef = .int .i64 (j : Int) := hb 13 (by decide)
          clear hdep hb
          go_wp2
          exact hK _ _ (XT.refl _ _) rfl
        · intro g h; cases h
        · intro b' W hE hb hdep K hK
          have e72 : b'.tmps[72]?.getD undef = .int .i64 (j : Int) := pureX (hdep 8 (some 72) (by kernel_rfl) rfl)
          clear hdep hb
          go_wp2
          exact hK _ _ (XT.refl _ _) rfl
        · intro g h; cases h
        · intro b' W hE hb hdep K hK
          have e71 : b'.tmps[71]?.getD undef = .slice a n cap := pureX (hdep 7 (some 71) (by kernel_rfl) rfl)
          have e73 : b'.tmps[73]?.getD undef = .int .i64 ((j : Int) + 1) := pureX (hdep 9 (some 73) (by kernel_rfl) rfl)
          clear hdep hb
          go_wp2_with fail
          refine (at_i a cap n xs (j + 1) ((j : Int) + 1) y _ (by omega) HN.out (HW.out.behind hB0 (xt_ext2 hE)) (by omega) HY.out).mono ?_
          rintro e W' ⟨rfl, hB⟩
          exact hK _ _ (Ext.xt hB) rfl
        · intro g h; cases h
        · intro b' W hE hb hdep K hK
          have e67 : b'.tmps[67]?.getD undef = .agg #[.int .i64 s.1, .int .i64 s.2] := pureX (hdep 3 (some 67) (by kernel_rfl) rfl)
          have e70 : b'.tmps[70]?.getD undef = .int .u32 x := pureX (hdep 6 (some 70) (by kernel_rfl) rfl)
          have e74 : b'.tmps[74]?.getD undef = .int .u32 y := pureX (hdep 10 (some 74) (by kernel_rfl) rfl)
          clear hdep hb
          go_wp2_with fail
          refine (part_i s xs j x y _ b1 b2 b3 IX.out IY.out HX.out HY.out).mono ?_
          rintro e W' ⟨rfl, hB⟩
          exact hK _ _ (Ext.xt hB) rfl
        · intro g h; cases h
        · intro b' W hE hb hdep K hK
          have e64 : b'.tmps[64]?.getD undef = .pointer (some ⟨g, o, none⟩) := pureX (hdep 0 (some 64) (by kernel_rfl) rfl)
          clear hdep hb
          go_wp2
          exact hK _ _ (XT.refl _ _) rfl
        intro f W hE hR
        have e64 : f 64 = .pointer (some ⟨g, o, none⟩) := pureX (hR 0 (some 64) rfl)
        have e65 : f 65 = .pointer (some ⟨g, o, none⟩) := pureX (hR 1 (some 65) rfl)
        have e66 : f 66 = .pointer (some ⟨g, o, none⟩) := pureX (hR 2 (some 66) rfl)
        have e67 : f 67 = .agg #[.int .i64 s.1, .int .i64 s.2] := pureX (hR 3 (some 67) rfl)
        have e68 : f 68 = .slice a n cap := pureX (hR 4 (some 68) rfl)
        have e69 : f 69 = .int .i64 (j : Int) := pureX (hR 5 (some 69) rfl)
        have e70 : f 70 = .int .u32 x := pureX (hR 6 (some 70) rfl)
        have e71 : f 71 = .slice a n cap := pureX (hR 7 (some 71) rfl)
        have e72 : f 72 = .int .i64 (j : Int) := pureX (hR 8 (some 72) rfl)
        have e73 : f 73 = .int .i64 ((j : Int) + 1) := pureX (hR 9 (some 73) rfl)
        have e74 : f 74 = .int .u32 y := pureX (hR 10 (some 74) rfl)
        have e75 : f 75 = .agg #[.int .i64 (prt xs j s).1, .int .i64 (prt xs j s).2] := pureX (hR 11 (some 75) rfl)
        have e76 : f 76 = .pointer (some ⟨g, o, none⟩) := pureX (hR 12 (some 76) rfl)
        clear hR
        have xE := drew_ext (xt_ext2 hE)
        have hNW := Lib.hid (HNS.out.ext xE)
        have kb := Lib.hid (xE.row hrb.out)
        have kc := Lib.hid (xE.row hrc.out)
        have km := Lib.hid (xE.row hrm.out)
        have ks := Lib.hid (xE.row HP.out)
        have hBW : Below w.heap.size w W := hB0.trans (Below.mono xE zB)
        refine wpL_store_part rfl 31 (.tmp 76) (.tmp 75) rfl (h := g) (off := o) ((puts_eval (by decide) rfl).trans e75) ((puts_eval (by decide) rfl).trans e76) (xE.row hrw) info31 (by simpa using hsz) (by simp [one_int]) ?_
        intro W6 hS
        have hW6 : Below w.heap.size w W6 := hBW.trans (hS.below _ Lg)
        have hN6 := Lib.hid (HK.out _ _ hNW.out hS)
        have jb := Lib.hid (hS.keeps Nb.out kb.out)
        have jc := Lib.hid (hS.keeps Nc.out kc.out)
        have jm := Lib.hid (hS.keeps Nm.out km.out)
        have js := Lib.hid (hS.keeps Ns.out ks.out)
        clear hS hE xE hBW kb kc km ks hNW HNS HP hrb hrc hrm hB0 zB hrw h0 h1
        simp only [List.filterMap_cons, List.filterMap_nil, id, puts, Act.put, List.setIfInBounds_toArray, List.set_cons_succ, List.set_cons_zero, e64, e65, e66, e67, e68, e69, e70, e71, e72, e73, e74, e75, e76]
        go_wp2
        exact ⟨⟨k + 1, j + 2, by omega, by go_num, by go_num, (by have := HJ.out; unfold Hid; omega), hN6, js, jb, jc, jm, hW6⟩, by simp [intOf]; omega⟩
      · obtain rfl : k = 13 := by omega
        obtain ⟨rbWR, cbWR, gbWR, zbWR⟩ := row_facts hrb.out
        obtain ⟨rcWR, ccWR, gcWR, zcWR⟩ := row_facts hrc.out
        obtain ⟨rmWR, cmWR, gmWR, zmWR⟩ := row_facts hrm.out
        have hrd := HNS.out.rd
        have hra := HNS.out.ra
        have hrn := HNS.out.rn
        rw [bK_13] at hrd
        rw [cK_13] at hra
        rw [mK_13] at hrn
        have hs := narrow_said (nar_of (xs := xs) HBB.out HBC.out HBM.out) HC.out HM.out
        obtain ⟨d, hd⟩ : ∃ y, nB xs b = y := ⟨_, rfl⟩
        obtain ⟨e, he⟩ : ∃ y, nC xs c = y := ⟨_, rfl⟩
        obtain ⟨u, hu⟩ : ∃ y, nM xs m = y := ⟨_, rfl⟩
        rw [hd] at hrd hs
        rw [he] at hra hs
        rw [hu] at hrn hs
        obtain ⟨rdWR, cdWR, gdWR, zdWR⟩ := row_facts hrd
        obtain ⟨raWR, caWR, gaWR, zaWR⟩ := row_facts hra
        obtain ⟨rnWR, cnWR, gnWR, znWR⟩ := row_facts hrn
        obtain ⟨f1, kf1⟩ : ∃ y, carR b c = y := ⟨_, rfl⟩
        obtain ⟨f2, kf2⟩ : ∃ y, carR d e = y := ⟨_, rfl⟩
        obtain ⟨y1, ky1⟩ : ∃ y, coW b c.milks m = y := ⟨_, rfl⟩
        obtain ⟨z1, kz1⟩ : ∃ y, coF b m = y := ⟨_, rfl⟩
        obtain ⟨y2, ky2⟩ : ∃ y, coW d e.milks u = y := ⟨_, rfl⟩
        obtain ⟨z2, kz2⟩ : ∃ y, coF d u = y := ⟨_, rfl⟩
        obtain ⟨p, kp⟩ : ∃ y, aftC b c m = y := ⟨_, rfl⟩
        obtain ⟨fp, kfp⟩ : ∃ y, aftF b c m = y := ⟨_, rfl⟩
        obtain ⟨xp, kxp⟩ : ∃ y, chkA b c m = y := ⟨_, rfl⟩
        obtain ⟨q, kq⟩ : ∃ y, aftC d e u = y := ⟨_, rfl⟩
        obtain ⟨fq, kfq⟩ : ∃ y, aftF d e u = y := ⟨_, rfl⟩
        obtain ⟨xq, kxq⟩ : ∃ y, chkA d e u = y := ⟨_, rfl⟩
        rw [kf1, kf2, ky1, kz1, ky2, kz2, kp, kfp, kxp, kq, kfq, kxq] at hs
        have Kf1 := Lib.hid kf1
        have Kf2 := Lib.hid kf2
        have Ky1 := Lib.hid ky1
        have Kz1 := Lib.hid kz1
        have Ky2 := Lib.hid ky2
        have Kz2 := Lib.hid kz2
        have Kp := Lib.hid kp
        have Kfp := Lib.hid kfp
        have Kxp := Lib.hid kxp
        have Kq := Lib.hid kq
        have Kfq := Lib.hid kfq
        have Kxq := Lib.hid kxq
        obtain ⟨hs1, hs2, hs3, hs4, hs5, hs6, hs7⟩ := hs
        have S1 := Lib.hid hs1
        have S2 := Lib.hid hs2
        have S3 := Lib.hid hs3
        have S4 := Lib.hid hs4
        have S5 := Lib.hid hs5
        have S6 := Lib.hid hs6
        have S7 := Lib.hid hs7
        clear hs1 hs2 hs3 hs4 hs5 hs6 hs7 hd he hu hrd hra hrn hrb hrc hrm HNS HP HJ hk hlt kf1 kf2 ky1 kz1 ky2 kz2 kp kfp kxp kq kfq kxq
        have hWR := hB0
        clear hB0 zB
        generalize wr = WR at *
        have zWR := hWR.size
        go_wp2_with fail
        refine (Carries_x b c f1 0 Kf1.out HC.out _).mono ?_
        rintro e W5 ⟨rfl, hB⟩
        have hW5 : Below w.heap.size w W5 := hWR.trans (Below.trans (by have := hWR.size; go_grown) (hB.mono (by have := hWR.size; simp; try omega)))
        have zW5 := hW5.size
        obtain ⟨rbW5, cbW5, gbW5, zbW5⟩ := keep_row hB (g := w.heap.size) (by repeat (first | with_reducible assumption | with_reducible apply row_here0 | with_reducible apply row_here1 | with_reducible apply row_here2 | with_reducible apply row_here3 | with_reducible apply rowSkip))
        obtain ⟨rcW5, ccW5, gcW5, zcW5⟩ := keep_row hB (g := w.heap.size + 1) (by repeat (first | with_reducible assumption | with_reducible apply row_here0 | with_reducible apply row_here1 | with_reducible apply row_here2 | with_reducible apply row_here3 | with_reducible apply rowSkip))
        obtain ⟨rmW5, cmW5, gmW5, zmW5⟩ := keep_row hB (g := w.heap.size + 1 + 1) (by repeat (first | with_reducible assumption | with_reducible apply row_here0 | with_reducible apply row_here1 | with_reducible apply row_here2 | with_reducible apply row_here3 | with_reducible apply rowSkip))
        obtain ⟨rdW5, cdW5, gdW5, zdW5⟩ := keep_row hB (g := gd) (by repeat (first | with_reducible assumption | with_reducible apply row_here0 | with_reducible apply row_here1 | with_reducible apply row_here2 | with_reducible apply row_here3 | with_reducible apply rowSkip))
        obtain ⟨raW5, caW5, gaW5, zaW5⟩ := keep_row hB (g := ga) (by repeat (first | with_reducible assumption | with_reducible apply row_here0 | with_reducible apply row_here1 | with_reducible apply row_here2 | with_reducible apply row_here3 | with_reducible apply rowSkip))
        obtain ⟨rnW5, cnW5, gnW5, znW5⟩ := keep_row hB (g := gn) (by repeat (first | with_reducible assumption | with_reducible apply row_here0 | with_reducible apply row_here1 | with_reducible apply row_here2 | with_reducible apply row_here3 | with_reducible apply rowSkip))
        clear hB
        clear hWR zWR rbWR cbWR gbWR zbWR rcWR ccWR gcWR zcWR rmWR cmWR gmWR zmWR rdWR cdWR gdWR zdWR raWR caWR gaWR zaWR rnWR cnWR gnWR znWR
        go_wp2_with fail
        refine (Carries_x d e f2 0 Kf2.out S1.out _).mono ?_
        rintro e W6 ⟨rfl, hB⟩
        have hW6 : Below w.heap.size w W6 := hW5.trans (Below.trans (by have := hW5.size; go_grown) (hB.mono (by have := hW5.size; simp; try omega)))
        have zW6 := hW6.size
        obtain ⟨rbW6, cbW6, gbW6, zbW6⟩ := keep_row hB (g := w.heap.size) (by repeat (first | with_reducible assumption | with_reducible apply row_here0 | with_reducible apply row_here1 | with_reducible apply row_here2 | with_reducible apply row_here3 | with_reducible apply rowSkip))
        obtain ⟨rcW6, ccW6, gcW6, zcW6⟩ := keep_row hB (g := w.heap.size + 1) (by repeat (first | with_reducible assumption | with_reducible apply row_here0 | with_reducible apply row_here1 | with_reducible apply row_here2 | with_reducible apply row_here3 | with_reducible apply rowSkip))
        obtain ⟨rmW6, cmW6, gmW6, zmW6⟩ := keep_row hB (g := w.heap.size + 1 + 1) (by repeat (first | with_reducible assumption | with_reducible apply row_here0 | with_reducible apply row_here1 | with_reducible apply row_here2 | with_reducible apply row_here3 | with_reducible apply rowSkip))
        obtain ⟨rdW6, cdW6, gdW6, zdW6⟩ := keep_row hB (g := gd) (by repeat (first | with_reducible assumption | with_reducible apply row_here0 | with_reducible apply row_here1 | with_reducible apply row_here2 | with_reducible apply row_here3 | with_reducible apply rowSkip))
        obtain ⟨raW6, caW6, gaW6, zaW6⟩ := keep_row hB (g := ga) (by repeat (first | with_reducible assumption | with_reducible apply row_here0 | with_reducible apply row_here1 | with_reducible apply row_here2 | with_reducible apply row_here3 | with_reducible apply rowSkip))
        obtain ⟨rnW6, cnW6, gnW6, znW6⟩ := keep_row hB (g := gn) (by repeat (first | with_reducible assumption | with_reducible apply row_here0 | with_reducible apply row_here1 | with_reducible apply row_here2 | with_reducible apply row_here3 | with_reducible apply rowSkip))
        obtain ⟨rsW6, csW6, gsW6, zsW6⟩ := keep_row hB (g := W5.heap.size) (by repeat (first | with_reducible assumption | with_reducible apply row_here0 | with_reducible apply row_here1 | with_reducible apply row_here2 | with_reducible apply row_here3 | with_reducible apply rowSkip))
        clear hB
        clear hW5 zW5 rbW5 cbW5 gbW5 zbW5 rcW5 ccW5 gcW5 zcW5 rmW5 cmW5 gmW5 zmW5 rdW5 cdW5 gdW5 zdW5 raW5 caW5 gaW5 zaW5 rnW5 cnW5 gnW5 znW5
        go_wp2_with fail
        refine (Cost_x b c.milks m y1 z1 0 Ky1.out Kz1.out S2.out _).mono ?_
        rintro e W7 ⟨rfl, hB⟩
        have hW7 : Below w.heap.size w W7 := hW6.trans (Below.trans (by have := hW6.size; go_grown) (hB.mono (by have := hW6.size; simp; try omega)))
        have zW7 := hW7.size
        obtain ⟨rbW7, cbW7, gbW7, zbW7⟩ := keep_row hB (g := w.heap.size) (by repeat (first | with_reducible assumption | with_reducible apply row_here0 | with_reducible apply row_here1 | with_reducible apply row_here2 | with_reducible apply row_here3 | with_reducible apply rowSkip))
        obtain ⟨rcW7, ccW7, gcW7, zcW7⟩ := keep_row hB (g := w.heap.size + 1) (by repeat (first | with_reducible assumption | with_reducible apply row_here0 | with_reducible apply row_here1 | with_reducible apply row_here2 | with_reducible apply row_here3 | with_reducible apply rowSkip))
        obtain ⟨rmW7, cmW7, gmW7, zmW7⟩ := keep_row hB (g := w.heap.size + 1 + 1) (by repeat (first | with_reducible assumption | with_reducible apply row_here0 | with_reducible apply row_here1 | with_reducible apply row_here2 | with_reducible apply row_here3 | with_reducible apply rowSkip))
        obtain ⟨rdW7, cdW7, gdW7, zdW7⟩ := keep_row hB (g := gd) (by repeat (first | with_reducible assumption | with_reducible apply row_here0 | with_reducible apply row_here1 | with_reducible apply row_here2 | with_reducible apply row_here3 | with_reducible apply rowSkip))
        obtain ⟨raW7, caW7, gaW7, zaW7⟩ := keep_row hB (g := ga) (by repeat (first | with_reducible assumption | with_reducible apply row_here0 | with_reducible apply row_here1 | with_reducible apply row_here2 | with_reducible apply row_here3 | with_reducible apply rowSkip))
        obtain ⟨rnW7, cnW7, gnW7, znW7⟩ := keep_row hB (g := gn) (by repeat (first | with_reducible assumption | with_reducible apply row_here0 | with_reducible apply row_here1 | with_reducible apply row_here2 | with_reducible apply row_here3 | with_reducible apply rowSkip))
        obtain ⟨rsW7, csW7, gsW7, zsW7⟩ := keep_row hB (g := W5.heap.size) (by repeat (first | with_reducible assumption | with_reducible apply row_here0 | with_reducible apply row_here1 | with_reducible apply row_here2 | with_reducible apply row_here3 | with_reducible apply rowSkip))
        obtain ⟨rtW7, ctW7, gtW7, ztW7⟩ := keep_row hB (g := W6.heap.size) (by repeat (first | with_reducible assumption | with_reducible apply row_here0 | with_reducible apply row_here1 | with_reducible apply row_here2 | with_reducible apply row_here3 | with_reducible apply rowSkip))
        clear hB
        clear hW6 zW6 rbW6 cbW6 gbW6 zbW6 rcW6 ccW6 gcW6 zcW6 rmW6 cmW6 gmW6 zmW6 rdW6 cdW6 gdW6 zdW6 raW6 caW6 gaW6 zaW6 rnW6 cnW6 gnW6 znW6 rsW6 csW6 gsW6 zsW6
        go_wp2_with fail
        refine (Cost_x d e.milks u y2 z2 0 Ky2.out Kz2.out S3.out _).mono ?_
        rintro e W8 ⟨rfl, hB⟩
        have hW8 : Below w.heap.size w W8 := hW7.trans (Below.trans (by have := hW7.size; go_grown) (hB.mono (by have := hW7.size; simp; try omega)))
        have zW8 := hW8.size
        obtain ⟨rbW8, cbW8, gbW8, zbW8⟩ := keep_row hB (g := w.heap.size) (by repeat (first | with_reducible assumption | with_reducible apply row_here0 | with_reducible apply row_here1 | with_reducible apply row_here2 | with_reducible apply row_here3 | with_reducible apply rowSkip))
        obtain ⟨rcW8, ccW8, gcW8, zcW8⟩ := keep_row hB (g := w.heap.size + 1) (by repeat (first | with_reducible assumption | with_reducible apply row_here0 | with_reducible apply row_here1 | with_reducible apply row_here2 | with_reducible apply row_here3 | with_reducible apply rowSkip))
        obtain ⟨rmW8, cmW8, gmW8, zmW8⟩ := keep_row hB (g := w.heap.size + 1 + 1) (by repeat (first | with_reducible assumption | with_reducible apply row_here0 | with_reducible apply row_here1 | with_reducible apply row_here2 | with_reducible apply row_here3 | with_reducible apply rowSkip))
        obtain ⟨rdW8, cdW8, gdW8, zdW8⟩ := keep_row hB (g := gd) (by repeat (first | with_reducible assumption | with_reducible apply row_here0 | with_reducible apply row_here1 | with_reducible apply row_here2 | with_reducible apply row_here3 | with_reducible apply rowSkip))
        obtain ⟨raW8, caW8, gaW8, zaW8⟩ := keep_row hB (g := ga) (by repeat (first | with_reducible assumption | with_reducible apply row_here0 | with_reducible apply row_here1 | with_reducible apply row_here2 | with_reducible apply row_here3 | with_reducible apply rowSkip))
        obtain ⟨rnW8, cnW8, gnW8, znW8⟩ := keep_row hB (g := gn) (by repeat (first | with_reducible assumption | with_reducible apply row_here0 | with_reducible apply row_here1 | with_reducible apply row_here2 | with_reducible apply row_here3 | with_reducible apply rowSkip))
        obtain ⟨rsW8, csW8, gsW8, zsW8⟩ := keep_row hB (g := W5.heap.size) (by repeat (first | with_reducible assumption | with_reducible apply row_here0 | with_reducible apply row_here1 | with_reducible apply row_here2 | with_reducible apply row_here3 | with_reducible apply rowSkip))
        obtain ⟨rtW8, ctW8, gtW8, ztW8⟩ := keep_row hB (g := W6.heap.size) (by repeat (first | with_reducible assumption | with_reducible apply row_here0 | with_reducible apply row_here1 | with_reducible apply row_here2 | with_reducible apply row_here3 | with_reducible apply rowSkip))
        obtain ⟨rxW8, cxW8, gxW8, zxW8⟩ := keep_row hB (g := W7.heap.size) (by repeat (first | with_reducible assumption | with_reducible apply row_here0 | with_reducible apply row_here1 | with_reducible apply row_here2 | with_reducible apply row_here3 | with_reducible apply rowSkip))
        obtain ⟨ryW8, cyW8, gyW8, zyW8⟩ := keep_row hB (g := W7.heap.size + 1) (by repeat (first | with_reducible assumption | with_reducible apply row_here0 | with_reducible apply row_here1 | with_reducible apply row_here2 | with_reducible apply row_here3 | with_reducible apply rowSkip))
        clear hB
        clear hW7 zW7 rbW7 cbW7 gbW7 zbW7 rcW7 ccW7 gcW7 zcW7 rmW7 cmW7 gmW7 zmW7 rdW7 cdW7 gdW7 zdW7 raW7 caW7 gaW7 zaW7 rnW7 cnW7 gnW7 znW7 rsW7 csW7 gsW7 zsW7 rtW7 ctW7 gtW7 ztW7
        go_wp2_with fail
        refine (inner_i f2 f1 _ S4.out rfl).mono ?_
        rintro e W9 ⟨rfl, hB⟩
        have hW9 : Below w.heap.size w W9 := hW8.trans (Below.trans (by have := hW8.size; go_grown) (hB.mono (by have := hW8.size; simp; try omega)))
        have zW9 := hW9.size
        obtain ⟨rbW9, cbW9, gbW9, zbW9⟩ := keep_row hB (g := w.heap.size) (by repeat (first | with_reducible assumption | with_reducible apply row_here0 | with_reducible apply row_here1 | with_reducible apply row_here2 | with_reducible apply row_here3 | with_reducible apply rowSkip))
        obtain ⟨rcW9, ccW9, gcW9, zcW9⟩ := keep_row hB (g := w.heap.size + 1) (by repeat (first | with_reducible assumption | with_reducible apply row_here0 | with_reducible apply row_here1 | with_reducible apply row_here2 | with_reducible apply row_here3 | with_reducible apply rowSkip))
        obtain ⟨rmW9, cmW9, gmW9, zmW9⟩ := keep_row hB (g := w.heap.size + 1 + 1) (by repeat (first | with_reducible assumption | with_reducible apply row_here0 | with_reducible apply row_here1 | with_reducible apply row_here2 | with_reducible apply row_here3 | with_reducible apply rowSkip))
        obtain ⟨rdW9, cdW9, gdW9, zdW9⟩ := keep_row hB (g := gd) (by repeat (first | with_reducible assumption | with_reducible apply row_here0 | with_reducible apply row_here1 | with_reducible apply row_here2 | with_reducible apply row_here3 | with_reducible apply rowSkip))
        obtain ⟨raW9, caW9, gaW9, zaW9⟩ := keep_row hB (g := ga) (by repeat (first | with_reducible assumption | with_reducible apply row_here0 | with_reducible apply row_here1 | with_reducible apply row_here2 | with_reducible apply row_here3 | with_reducible apply rowSkip))
        obtain ⟨rnW9, cnW9, gnW9, znW9⟩ := keep_row hB (g := gn) (by repeat (first | with_reducible assumption | with_reducible apply row_here0 | with_reducible apply row_here1 | with_reducible apply row_here2 | with_reducible apply row_here3 | with_reducible apply rowSkip))
        obtain ⟨rsW9, csW9, gsW9, zsW9⟩ := keep_row hB (g := W5.heap.size) (by repeat (first | with_reducible assumption | with_reducible apply row_here0 | with_reducible apply row_here1 | with_reducible apply row_here2 | with_reducible apply row_here3 | with_reducible apply rowSkip))
        obtain ⟨rtW9, ctW9, gtW9, ztW9⟩ := keep_row hB (g := W6.heap.size) (by repeat (first | with_reducible assumption | with_reducible apply row_here0 | with_reducible apply row_here1 | with_reducible apply row_here2 | with_reducible apply row_here3 | with_reducible apply rowSkip))
        obtain ⟨rxW9, cxW9, gxW9, zxW9⟩ := keep_row hB (g := W7.heap.size) (by repeat (first | with_reducible assumption | with_reducible apply row_here0 | with_reducible apply row_here1 | with_reducible apply row_here2 | with_reducible apply row_here3 | with_reducible apply rowSkip))
        obtain ⟨ryW9, cyW9, gyW9, zyW9⟩ := keep_row hB (g := W7.heap.size + 1) (by repeat (first | with_reducible assumption | with_reducible apply row_here0 | with_reducible apply row_here1 | with_reducible apply row_here2 | with_reducible apply row_here3 | with_reducible apply rowSkip))
        obtain ⟨rXW9, cXW9, gXW9, zXW9⟩ := keep_row hB (g := W8.heap.size) (by repeat (first | with_reducible assumption | with_reducible apply row_here0 | with_reducible apply row_here1 | with_reducible apply row_here2 | with_reducible apply row_here3 | with_reducible apply rowSkip))
        obtain ⟨rYW9, cYW9, gYW9, zYW9⟩ := keep_row hB (g := W8.heap.size + 1) (by repeat (first | with_reducible assumption | with_reducible apply row_here0 | with_reducible apply row_here1 | with_reducible apply row_here2 | with_reducible apply row_here3 | with_reducible apply rowSkip))
        clear hB
        clear hW8 zW8 rbW8 cbW8 gbW8 zbW8 rcW8 ccW8 gcW8 zcW8 rmW8 cmW8 gmW8 zmW8 rdW8 cdW8 gdW8 zdW8 raW8 caW8 gaW8 zaW8 rnW8 cnW8 gnW8 znW8 rsW8 csW8 gsW8 zsW8 rtW8 ctW8 gtW8 ztW8 rxW8 cxW8 gxW8 zxW8 ryW8 cyW8 gyW8 zyW8
        go_wp2_with fail
        refine (inner_i y2 y1 _ S5.out rfl).mono ?_
        rintro e W10 ⟨rfl, hB⟩
        have hW10 : Below w.heap.size w W10 := hW9.trans (Below.trans (by have := hW9.size; go_grown) (hB.mono (by have := hW9.size; simp; try omega)))
        have zW10 := hW10.size
        obtain ⟨rbW10, cbW10, gbW10, zbW10⟩ := keep_row hB (g := w.heap.size) (by repeat (first | with_reducible assumption | with_reducible apply row_here0 | with_reducible apply row_here1 | with_reducible apply row_here2 | with_reducible apply row_here3 | with_reducible apply rowSkip))
        obtain ⟨rcW10, ccW10, gcW10, zcW10⟩ := keep_row hB (g := w.heap.size + 1) (by repeat (first | with_reducible assumption | with_reducible apply row_here0 | with_reducible apply row_here1 | with_reducible apply row_here2 | with_reducible apply row_here3 | with_reducible apply rowSkip))
        obtain ⟨rmW10, cmW10, gmW10, zmW10⟩ := keep_row hB (g := w.heap.size + 1 + 1) (by repeat (first | with_reducible assumption | with_reducible apply row_here0 | with_reducible apply row_here1 | with_reducible apply row_here2 | with_reducible apply row_here3 | with_reducible apply rowSkip))
        obtain ⟨rdW10, cdW10, gdW10, zdW10⟩ := keep_row hB (g := gd) (by repeat (first | with_reducible assumption | with_reducible apply row_here0 | with_reducible apply row_here1 | with_reducible apply row_here2 | with_reducible apply row_here3 | with_reducible apply rowSkip))
        obtain ⟨raW10, caW10, gaW10, zaW10⟩ := keep_row hB (g := ga) (by repeat (first | with_reducible assumption | with_reducible apply row_here0 | with_reducible apply row_here1 | with_reducible apply row_here2 | with_reducible apply row_here3 | with_reducible apply rowSkip))
        obtain ⟨rnW10, cnW10, gnW10, znW10⟩ := keep_row hB (g := gn) (by repeat (first | with_reducible assumption | with_reducible apply row_here0 | with_reducible apply row_here1 | with_reducible apply row_here2 | with_reducible apply row_here3 | with_reducible apply rowSkip))
        obtain ⟨rsW10, csW10, gsW10, zsW10⟩ := keep_row hB (g := W5.heap.size) (by repeat (first | with_reducible assumption | with_reducible apply row_here0 | with_reducible apply row_here1 | with_reducible apply row_here2 | with_reducible apply row_here3 | with_reducible apply rowSkip))
        obtain ⟨rtW10, ctW10, gtW10, ztW10⟩ := keep_row hB (g := W6.heap.size) (by repeat (first | with_reducible assumption | with_reducible apply row_here0 | with_reducible apply row_here1 | with_reducible apply row_here2 | with_reducible apply row_here3 | with_reducible apply rowSkip))
        obtain ⟨rxW10, cxW10, gxW10, zxW10⟩ := keep_row hB (g := W7.heap.size) (by repeat (first | with_reducible assumption | with_reducible apply row_here0 | with_reducible apply row_here1 | with_reducible apply row_here2 | with_reducible apply row_here3 | with_reducible apply rowSkip))
        obtain ⟨ryW10, cyW10, gyW10, zyW10⟩ := keep_row hB (g := W7.heap.size + 1) (by repeat (first | with_reducible assumption | with_reducible apply row_here0 | with_reducible apply row_here1 | with_reducible apply row_here2 | with_reducible apply row_here3 | with_reducible apply rowSkip))
        obtain ⟨rXW10, cXW10, gXW10, zXW10⟩ := keep_row hB (g := W8.heap.size) (by repeat (first | with_reducible assumption | with_reducible apply row_here0 | with_reducible apply row_here1 | with_reducible apply row_here2 | with_reducible apply row_here3 | with_reducible apply rowSkip))
        obtain ⟨rYW10, cYW10, gYW10, zYW10⟩ := keep_row hB (g := W8.heap.size + 1) (by repeat (first | with_reducible assumption | with_reducible apply row_here0 | with_reducible apply row_here1 | with_reducible apply row_here2 | with_reducible apply row_here3 | with_reducible apply rowSkip))
        clear hB
        clear hW9 zW9 rbW9 cbW9 gbW9 zbW9 rcW9 ccW9 gcW9 zcW9 rmW9 cmW9 gmW9 zmW9 rdW9 cdW9 gdW9 zdW9 raW9 caW9 gaW9 zaW9 rnW9 cnW9 gnW9 znW9 rsW9 csW9 gsW9 zsW9 rtW9 ctW9 gtW9 ztW9 rxW9 cxW9 gxW9 zxW9 ryW9 cyW9 gyW9 zyW9 rXW9 cXW9 gXW9 zXW9 rYW9 cYW9 gYW9 zYW9
        go_wp2_with fail
        refine (inner_i z2 z1 _ S6.out rfl).mono ?_
        rintro e W11 ⟨rfl, hB⟩
        have hW11 : Below w.heap.size w W11 := hW10.trans (Below.trans (by have := hW10.size; go_grown) (hB.mono (by have := hW10.size; simp; try omega)))
        have zW11 := hW11.size
        obtain ⟨rbW11, cbW11, gbW11, zbW11⟩ := keep_row hB (g := w.heap.size) (by repeat (first | with_reducible assumption | with_reducible apply row_here0 | with_reducible apply row_here1 | with_reducible apply row_here2 | with_reducible apply row_here3 | with_reducible apply rowSkip))
        obtain ⟨rcW11, ccW11, gcW11, zcW11⟩ := keep_row hB (g := w.heap.size + 1) (by repeat (first | with_reducible assumption | with_reducible apply row_here0 | with_reducible apply row_here1 | with_reducible apply row_here2 | with_reducible apply row_here3 | with_reducible apply rowSkip))
        obtain ⟨rmW11, cmW11, gmW11, zmW11⟩ := keep_row hB (g := w.heap.size + 1 + 1) (by repeat (first | with_reducible assumption | with_reducible apply row_here0 | with_reducible apply row_here1 | with_reducible apply row_here2 | with_reducible apply row_here3 | with_reducible apply rowSkip))
        obtain ⟨rdW11, cdW11, gdW11, zdW11⟩ := keep_row hB (g := gd) (by repeat (first | with_reducible assumption | with_reducible apply row_here0 | with_reducible apply row_here1 | with_reducible apply row_here2 | with_reducible apply row_here3 | with_reducible apply rowSkip))
        obtain ⟨raW11, caW11, gaW11, zaW11⟩ := keep_row hB (g := ga) (by repeat (first | with_reducible assumption | with_reducible apply row_here0 | with_reducible apply row_here1 | with_reducible apply row_here2 | with_reducible apply row_here3 | with_reducible apply rowSkip))
        obtain ⟨rnW11, cnW11, gnW11, znW11⟩ := keep_row hB (g := gn) (by repeat (first | with_reducible assumption | with_reducible apply row_here0 | with_reducible apply row_here1 | with_reducible apply row_here2 | with_reducible apply row_here3 | with_reducible apply rowSkip))
        obtain ⟨rsW11, csW11, gsW11, zsW11⟩ := keep_row hB (g := W5.heap.size) (by repeat (first | with_reducible assumption | with_reducible apply row_here0 | with_reducible apply row_here1 | with_reducible apply row_here2 | with_reducible apply row_here3 | with_reducible apply rowSkip))
        obtain ⟨rtW11, ctW11, gtW11, ztW11⟩ := keep_row hB (g := W6.heap.size) (by repeat (first | with_reducible assumption | with_reducible apply row_here0 | with_reducible apply row_here1 | with_reducible apply row_here2 | with_reducible apply row_here3 | with_reducible apply rowSkip))
        obtain ⟨rxW11, cxW11, gxW11, zxW11⟩ := keep_row hB (g := W7.heap.size) (by repeat (first | with_reducible assumption | with_reducible apply row_here0 | with_reducible apply row_here1 | with_reducible apply row_here2 | with_reducible apply row_here3 | with_reducible apply rowSkip))
        obtain ⟨ryW11, cyW11, gyW11, zyW11⟩ := keep_row hB (g := W7.heap.size + 1) (by repeat (first | with_reducible assumption | with_reducible apply row_here0 | with_reducible apply row_here1 | with_reducible apply row_here2 | with_reducible apply row_here3 | with_reducible apply rowSkip))
        obtain ⟨rXW11, cXW11, gXW11, zXW11⟩ := keep_row hB (g := W8.heap.size) (by repeat (first | with_reducible assumption | with_reducible apply row_here0 | with_reducible apply row_here1 | with_reducible apply row_here2 | with_reducible apply row_here3 | with_reducible apply rowSkip))
        obtain ⟨rYW11, cYW11, gYW11, zYW11⟩ := keep_row hB (g := W8.heap.size + 1) (by repeat (first | with_reducible assumption | with_reducible apply row_here0 | with_reducible apply row_here1 | with_reducible apply row_here2 | with_reducible apply row_here3 | with_reducible apply rowSkip))
        clear hB
        clear hW10 zW10 rbW10 cbW10 gbW10 zbW10 rcW10 ccW10 gcW10 zcW10 rmW10 cmW10 gmW10 zmW10 rdW10 cdW10 gdW10 zdW10 raW10 caW10 gaW10 zaW10 rnW10 cnW10 gnW10 znW10 rsW10 csW10 gsW10 zsW10 rtW10 ctW10 gtW10 ztW10 rxW10 cxW10 gxW10 zxW10 ryW10 cyW10 gyW10 zyW10 rXW10 cXW10 gXW10 zXW10 rYW10 cYW10 gYW10 zYW10
        clear rsW11 csW11 gsW11 zsW11
        clear rtW11 ctW11 gtW11 ztW11
        clear rxW11 cxW11 gxW11 zxW11
        clear ryW11 cyW11 gyW11 zyW11
        clear rXW11 cXW11 gXW11 zXW11
        clear rYW11 cYW11 gYW11 zYW11
        go_wp2_with fail
        refine (After_x b c m p fp xp Kp.out Kfp.out Kxp.out _).mono ?_
        rintro e W12 ⟨rfl, hB⟩
        have hW12 : Below w.heap.size w W12 := hW11.trans (Below.trans (by have := hW11.size; go_grown) (hB.mono (by have := hW11.size; simp; try omega)))
        have zW12 := hW12.size
        obtain ⟨rbW12, cbW12, gbW12, zbW12⟩ := keep_row hB (g := w.heap.size) (by repeat (first | with_reducible assumption | with_reducible apply row_here0 | with_reducible apply row_here1 | with_reducible apply row_here2 | with_reducible apply row_here3 | with_reducible apply rowSkip))
        obtain ⟨rcW12, ccW12, gcW12, zcW12⟩ := keep_row hB (g := w.heap.size + 1) (by repeat (first | with_reducible assumption | with_reducible apply row_here0 | with_reducible apply row_here1 | with_reducible apply row_here2 | with_reducible apply row_here3 | with_reducible apply rowSkip))
        obtain ⟨rmW12, cmW12, gmW12, zmW12⟩ := keep_row hB (g := w.heap.size + 1 + 1) (by repeat (first | with_reducible assumption | with_reducible apply row_here0 | with_reducible apply row_here1 | with_reducible apply row_here2 | with_reducible apply row_here3 | with_reducible apply rowSkip))
        obtain ⟨rdW12, cdW12, gdW12, zdW12⟩ := keep_row hB (g := gd) (by repeat (first | with_reducible assumption | with_reducible apply row_here0 | with_reducible apply row_here1 | with_reducible apply row_here2 | with_reducible apply row_here3 | with_reducible apply rowSkip))
        obtain ⟨raW12, caW12, gaW12, zaW12⟩ := keep_row hB (g := ga) (by repeat (first | with_reducible assumption | with_reducible apply row_here0 | with_reducible apply row_here1 | with_reducible apply row_here2 | with_reducible apply row_here3 | with_reducible apply rowSkip))
        obtain ⟨rnW12, cnW12, gnW12, znW12⟩ := keep_row hB (g := gn) (by repeat (first | with_reducible assumption | with_reducible apply row_here0 | with_reducible apply row_here1 | with_reducible apply row_here2 | with_reducible apply row_here3 | with_reducible apply rowSkip))
        clear hB
        clear hW11 zW11 rbW11 cbW11 gbW11 zbW11 rcW11 ccW11 gcW11 zcW11 rmW11 cmW11 gmW11 zmW11 rdW11 cdW11 gdW11 zdW11 raW11 caW11 gaW11 zaW11 rnW11 cnW11 gnW11 znW11
        clear rbW12 cbW12 gbW12 zbW12
        clear rcW12 ccW12 gcW12 zcW12
        clear rmW12 cmW12 gmW12 zmW12
        go_wp2_with fail
        refine (After_x d e u q fq xq Kq.out Kfq.out Kxq.out _).mono ?_
        rintro e W13 ⟨rfl, hB⟩
        have hW13 : Below w.heap.size w W13 := hW12.trans (Below.trans (by have := hW12.size; go_grown) (hB.mono (by have := hW12.size; simp; try omega)))
        have zW13 := hW13.size
        obtain ⟨rdW13, cdW13, gdW13, zdW13⟩ := keep_row hB (g := gd) (by repeat (first | with_reducible assumption | with_reducible apply row_here0 | with_reducible apply row_here1 | with_reducible apply row_here2 | with_reducible apply row_here3 | with_reducible apply rowSkip))
        obtain ⟨raW13, caW13, gaW13, zaW13⟩ := keep_row hB (g := ga) (by repeat (first | with_reducible assumption | with_reducible apply row_here0 | with_reducible apply row_here1 | with_reducible apply row_here2 | with_reducible apply row_here3 | with_reducible apply rowSkip))
        obtain ⟨rnW13, cnW13, gnW13, znW13⟩ := keep_row hB (g := gn) (by repeat (first | with_reducible assumption | with_reducible apply row_here0 | with_reducible apply row_here1 | with_reducible apply row_here2 | with_reducible apply row_here3 | with_reducible apply rowSkip))
        obtain ⟨rpW13, cpW13, gpW13, zpW13⟩ := keep_row hB (g := W12.heap.size) (by repeat (first | with_reducible assumption | with_reducible apply row_here0 | with_reducible apply row_here1 | with_reducible apply row_here2 | with_reducible apply row_here3 | with_reducible apply rowSkip))
        clear hB
        clear hW12 zW12 rdW12 cdW12 gdW12 zdW12 raW12 caW12 gaW12 zaW12 rnW12 cnW12 gnW12 znW12
        clear rdW13 cdW13 gdW13 zdW13
        clear raW13 caW13 gaW13 zaW13
        clear rnW13 cnW13 gnW13 znW13
        rcases S7.out with ⟨h1, h2⟩ | ⟨h1, h2, h3⟩ | ⟨h1, h2, h3, h4, h5, h6⟩
        · subst h1 h2
          clear S7 Kf1 Kf2 Ky1 Kz1 Ky2 Kz2 Kp Kfp Kxp Kq Kfq Kxq
          go_wp2
          go_returns
          exact ⟨rfl, by go_grown⟩
        · subst h1 h2 h3
          clear S7 Kf1 Kf2 Ky1 Kz1 Ky2 Kz2 Kp Kfp Kxp Kq Kfq Kxq
          go_wp2
          go_returns
          exact ⟨rfl, by go_grown⟩
        · subst h1 h2
          have S4b := Lib.hid h4
          have S5b := Lib.hid h5
          have S6b := Lib.hid h6
          have S3b := Lib.hid h3
          clear h3 h4 h5 h6
          clear S7 Kf1 Kf2 Ky1 Kz1 Ky2 Kz2 Kp Kfp Kxp Kq Kfq Kxq
          go_wp2_with fail
          refine (inner_i q.water p.water _ S4b.out rfl).mono ?_
          rintro e W14 ⟨rfl, hB⟩
          have hW14 : Below w.heap.size w W14 := hW13.trans (Below.trans (by have := hW13.size; go_grown) (hB.mono (by have := hW13.size; simp; try omega)))
          have zW14 := hW14.size
          obtain ⟨rpW14, cpW14, gpW14, zpW14⟩ := keep_row hB (g := W12.heap.size) (by repeat (first | with_reducible assumption | with_reducible apply row_here0 | with_reducible apply row_here1 | with_reducible apply row_here2 | with_reducible apply row_here3 | with_reducible apply rowSkip))
          obtain ⟨rqW14, cqW14, gqW14, zqW14⟩ := keep_row hB (g := W13.heap.size) (by repeat (first | with_reducible assumption | with_reducible apply row_here0 | with_reducible apply row_here1 | with_reducible apply row_here2 | with_reducible apply row_here3 | with_reducible apply rowSkip))
          clear hB
          clear hW13 zW13 rpW13 cpW13 gpW13 zpW13
          go_wp2_with fail
          refine (inner_i q.fat p.fat _ S5b.out rfl).mono ?_
          rintro e W15 ⟨rfl, hB⟩
          have hW15 : Below w.heap.size w W15 := hW14.trans (Below.trans (by have := hW14.size; go_grown) (hB.mono (by have := hW14.size; simp; try omega)))
          have zW15 := hW15.size
          obtain ⟨rpW15, cpW15, gpW15, zpW15⟩ := keep_row hB (g := W12.heap.size) (by repeat (first | with_reducible assumption | with_reducible apply row_here0 | with_reducible apply row_here1 | with_reducible apply row_here2 | with_reducible apply row_here3 | with_reducible apply rowSkip))
          obtain ⟨rqW15, cqW15, gqW15, zqW15⟩ := keep_row hB (g := W13.heap.size) (by repeat (first | with_reducible assumption | with_reducible apply row_here0 | with_reducible apply row_here1 | with_reducible apply row_here2 | with_reducible apply row_here3 | with_reducible apply rowSkip))
          clear hB
          clear hW14 zW14 rpW14 cpW14 gpW14 zpW14 rqW14 cqW14 gqW14 zqW14
          go_wp2_with fail
          refine (inner_i q.sore p.sore _ S6b.out rfl).mono ?_
          rintro e W16 ⟨rfl, hB⟩
          have hW16 : Below w.heap.size w W16 := hW15.trans (Below.trans (by have := hW15.size; go_grown) (hB.mono (by have := hW15.size; simp; try omega)))
          have zW16 := hW16.size
          obtain ⟨rpW16, cpW16, gpW16, zpW16⟩ := keep_row hB (g := W12.heap.size) (by repeat (first | with_reducible assumption | with_reducible apply row_here0 | with_reducible apply row_here1 | with_reducible apply row_here2 | with_reducible apply row_here3 | with_reducible apply rowSkip))
          obtain ⟨rqW16, cqW16, gqW16, zqW16⟩ := keep_row hB (g := W13.heap.size) (by repeat (first | with_reducible assumption | with_reducible apply row_here0 | with_reducible apply row_here1 | with_reducible apply row_here2 | with_reducible apply row_here3 | with_reducible apply rowSkip))
          clear hB
          clear hW15 zW15 rpW15 cpW15 gpW15 zpW15 rqW15 cqW15 gqW15 zqW15
          by_cases h0 : fp = 0
          · have h0q := S3b.out h0
            subst h0 h0q
            go_wp2
            go_returns
            exact ⟨rfl, hW16⟩
          · go_wp2
            go_returns
            exact ⟨rfl, hW16⟩
end Go.Proofs.Ytafdcbdbllpcnaa
