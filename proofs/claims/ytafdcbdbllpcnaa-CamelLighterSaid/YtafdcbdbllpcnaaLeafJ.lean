/- Contract of package camel's cost: what a day takes from a valid breed's animal. -/
import Derived.Test.YtafdcbdbllpcnaaLeafE
import Derived.Test.YtafdcbdbllpcnaaBigT
set_option linter.unusedVariables false
set_option linter.unusedSimpArgs false
namespace Go.Proofs.Ytafdcbdbllpcnaa
open Go.RowKit
open Go.Proofs

attribute [local go_sem ↓] exec36l exec112l exec36s exec112s exec31s run_min2 run_max2
attribute [local go_sem] load36 load112 store36 store112 store31 build112 rowOf_alloc rowOf_drew setRow_alloc one_int one_bool run_min4

theorem res110 {fn : Func} {p : Tmp} (h : fn.results = #[.cell p 110]) {tmps : Array Value} {w : World} {g : Nat} (hp : tmps.getD p undef = .pointer (some ⟨g, 0, none⟩)) {cs : Array Value} (hg : rowOf w g = some cs) (hs : cs.size = 6) : (results fn tmps).run Try.prog w = .ok (.agg cs) w :=
  results_row h 6 Try.underlying110 rfl (by kernel_rfl) hp hg hs

set_option maxHeartbeats 4000000 in
theorem cost_any (b : Br) (c : Cm) (m : Mr) (w : World) (hb : BdB b) (hm : BdM m) :
    Calls Try.prog 64 #[.agg #[.int .i64 b.full, .int .i64 b.fed, .int .i64 b.rest.1, .int .i64 b.rest.2, .int .i64 b.heat.1, .int .i64 b.heat.2, .int .i64 b.toil.1, .int .i64 b.toil.2, .int .i64 b.burn.1, .int .i64 b.burn.2, .int .i64 b.rub.1, .int .i64 b.rub.2, .int .i64 b.milk.1, .int .i64 b.milk.2, .int .i64 b.heal, .int .i64 b.strong.1, .int .i64 b.strong.2, .int .i64 c.water.1, .int .i64 c.water.2, .int .i64 c.fat.1, .int .i64 c.fat.2, .int .i64 c.sore.1, .int .i64 c.sore.2, .bool c.milks], .agg #[.int .i64 m.hours, .int .i64 m.load, .int .i64 m.heat.1, .int .i64 m.heat.2, .int .i64 m.grass.1, .int .i64 m.grass.2, .int .i64 m.drinks.1, .int .i64 m.drinks.2]] w fun e w' => e = .returned (.agg #[.int .i64 (waS b c.milks m).1, .int .i64 (waS b c.milks m).2, .int .i64 (faS b m).1, .int .i64 (faS b m).2, .int .i64 (soS b m).1, .int .i64 (soS b m).2]) ∧ Below w.heap.size w w' := by
  obtain ⟨h1, h2, h3, h4⟩ := hsS_bd hm
  obtain ⟨u1, u2, u3, u4⟩ := buS_bd hm
  obtain ⟨l1, l2, l3, l4⟩ := ruS_bd hm
  obtain ⟨a1, a2, a3⟩ := hb.rest
  obtain ⟨b1, b2, b3⟩ := hb.heat
  obtain ⟨c1, c2, c3⟩ := hb.toil
  obtain ⟨d1, d2, d3⟩ := hb.burn
  obtain ⟨e1, e2, e3⟩ := hb.rub
  obtain ⟨f1, f2, f3⟩ := hb.milk
  obtain ⟨-, -, -, -, x1, x2, x3, x4⟩ := sc_bd (d := 1) (by omega) b1 b2 b3 h1 h2 h3 h4
  obtain ⟨-, -, -, -, y1, y2, y3, y4⟩ := sc_bd (d := 100000) (by omega) c1 c2 c3 u1 u2 u3 u4
  have hh := hm.hours
  have hl := hm.load
  have ht := hm.heat
  obtain ⟨p1, p2⟩ := mul_le hh.1 (by omega : 0 ≤ 100000 + m.load) hh.2 (by omega : 100000 + m.load ≤ 1100000)
  obtain ⟨p3, p4⟩ := mul_le hh.1 hl.1 hh.2 hl.2
  clear hb hm
  go_enter Try.func64, Try.ntmps64
  go_wp2_with fail
  refine (exactly_any _ _).mono ?_
  rintro e W1 ⟨rfl, hB⟩
  have hW1 : Below w.heap.size w W1 := Below.trans (by go_grown) (hB.mono (by simp; try omega))
  have zW1 := hW1.size
  obtain ⟨raW1, caW1, gaW1, zaW1⟩ := keep_row hB (g := w.heap.size) (by repeat (first | with_reducible assumption | with_reducible apply row_here0 | with_reducible apply row_here1 | with_reducible apply row_here2 | with_reducible apply row_here3 | with_reducible apply rowSkip))
  obtain ⟨rbW1, cbW1, gbW1, zbW1⟩ := keep_row hB (g := w.heap.size + 1) (by repeat (first | with_reducible assumption | with_reducible apply row_here0 | with_reducible apply row_here1 | with_reducible apply row_here2 | with_reducible apply row_here3 | with_reducible apply rowSkip))
  obtain ⟨rcW1, ccW1, gcW1, zcW1⟩ := keep_row hB (g := w.heap.size + 1 + 1) (by repeat (first | with_reducible assumption | with_reducible apply row_here0 | with_reducible apply row_here1 | with_reducible apply row_here2 | with_reducible apply row_here3 | with_reducible apply rowSkip))
  obtain ⟨rdW1, cdW1, gdW1, zdW1⟩ := keep_row hB (g := w.heap.size + 1 + 1 + 1) (by repeat (first | with_reducible assumption | with_reducible apply row_here0 | with_reducible apply row_here1 | with_reducible apply row_here2 | with_reducible apply row_here3 | with_reducible apply rowSkip))
  clear hB
  go_wp2_with fail
  have hW2 : Below w.heap.size w (W1.alloc (.cells #[.int .i64 (m.hours * (100000 + m.load)), .int .i64 (m.hours * (100000 + m.load))] 31)) := by go_grown
  have raW2 : rowOf (W1.alloc (.cells #[.int .i64 (m.hours * (100000 + m.load)), .int .i64 (m.hours * (100000 + m.load))] 31)) w.heap.size = some #[.int .i64 b.full, .int .i64 b.fed, .int .i64 b.rest.1, .int .i64 b.rest.2, .int .i64 b.heat.1, .int .i64 b.heat.2, .int .i64 b.toil.1, .int .i64 b.toil.2, .int .i64 b.burn.1, .int .i64 b.burn.2, .int .i64 b.rub.1, .int .i64 b.rub.2, .int .i64 b.milk.1, .int .i64 b.milk.2, .int .i64 b.heal, .int .i64 b.strong.1, .int .i64 b.strong.2, .int .i64 c.water.1, .int .i64 c.water.2, .int .i64 c.fat.1, .int .i64 c.fat.2, .int .i64 c.sore.1, .int .i64 c.sore.2, .bool c.milks] := rowSkip raW1
  have rbW2 : rowOf (W1.alloc (.cells #[.int .i64 (m.hours * (100000 + m.load)), .int .i64 (m.hours * (100000 + m.load))] 31)) (w.heap.size + 1) = some #[.int .i64 m.hours, .int .i64 m.load, .int .i64 m.heat.1, .int .i64 m.heat.2, .int .i64 m.grass.1, .int .i64 m.grass.2, .int .i64 m.drinks.1, .int .i64 m.drinks.2] := rowSkip rbW1
  have rcW2 : rowOf (W1.alloc (.cells #[.int .i64 (m.hours * (100000 + m.load)), .int .i64 (m.hours * (100000 + m.load))] 31)) (w.heap.size + 1 + 1) = some #[.int .i64 0, .int .i64 0, .int .i64 0, .int .i64 0, .int .i64 0, .int .i64 0] := rowSkip rcW1
  have rdW2 : rowOf (W1.alloc (.cells #[.int .i64 (m.hours * (100000 + m.load)), .int .i64 (m.hours * (100000 + m.load))] 31)) (w.heap.size + 1 + 1 + 1) = some #[.int .i64 (hsS m).1, .int .i64 (hsS m).2] := rowSkip rdW1
  have rtW2 : rowOf (W1.alloc (.cells #[.int .i64 (m.hours * (100000 + m.load)), .int .i64 (m.hours * (100000 + m.load))] 31)) W1.heap.size = some #[.int .i64 (buS m).1, .int .i64 (buS m).2] := row_here0 _ _ _
  have zW2 := hW2.size
  have zz : w.heap.size + 1 + 1 + 1 < W1.heap.size := zdW1
  have zz2 : W1.heap.size < (W1.alloc (.cells #[.int .i64 (m.hours * (100000 + m.load)), .int .i64 (m.hours * (100000 + m.load))] 31)).heap.size := by simp
  generalize W1.alloc (.cells #[.int .i64 (m.hours * (100000 + m.load)), .int .i64 (m.hours * (100000 + m.load))] 31) = W2 at hW2 raW2 rbW2 rcW2 rdW2 rtW2 zW2 zz2 ⊢
  clear raW1 caW1 gaW1 rbW1 cbW1 gbW1 rcW1 ccW1 gcW1 rdW1 cdW1 gdW1
  refine wp_drawn_list (by kernel_rfl) [26, 27, 28, 29, 30, 31, 32, 33, 34, 35, 36, 37, 38, 39, 40, 41, 42, 7] (by kernel_rfl) rfl (fun ix v W => match ix with
    | 0 => v = .pointer (some ⟨w.heap.size, 0, none⟩)
    | 1 => v = .pointer (some ⟨w.heap.size, 2, none⟩)
    | 2 => v = .agg #[.int .i64 b.rest.1, .int .i64 b.rest.2]
    | 3 => v = .pointer (some ⟨w.heap.size, 0, none⟩)
    | 4 => v = .pointer (some ⟨w.heap.size, 4, none⟩)
    | 5 => v = .agg #[.int .i64 b.heat.1, .int .i64 b.heat.2]
    | 6 => v = .agg #[.int .i64 (hsS m).1, .int .i64 (hsS m).2]
    | 7 => SL v 2 #[.int .i64 b.heat.1, .int .i64 b.heat.2, .int .i64 (hsS m).1, .int .i64 (hsS m).2] W
    | 8 => v = .agg #[.int .i64 (sc 1 b.heat (hsS m)).1, .int .i64 (sc 1 b.heat (hsS m)).2]
    | 9 => v = .pointer (some ⟨w.heap.size, 0, none⟩)
    | 10 => v = .pointer (some ⟨w.heap.size, 6, none⟩)
    | 11 => v = .agg #[.int .i64 b.toil.1, .int .i64 b.toil.2]
    | 12 => v = .agg #[.int .i64 (buS m).1, .int .i64 (buS m).2]
    | 13 => SL v 2 #[.int .i64 b.toil.1, .int .i64 b.toil.2, .int .i64 (buS m).1, .int .i64 (buS m).2] W
    | 14 => v = .agg #[.int .i64 (sc 100000 b.toil (buS m)).1, .int .i64 (sc 100000 b.toil (buS m)).2]
    | 15 => SL v 3 #[.int .i64 b.rest.1, .int .i64 b.rest.2, .int .i64 (sc 1 b.heat (hsS m)).1, .int .i64 (sc 1 b.heat (hsS m)).2, .int .i64 (sc 100000 b.toil (buS m)).1, .int .i64 (sc 100000 b.toil (buS m)).2] W
    | 16 => v = .agg #[.int .i64 (wa0S b m).1, .int .i64 (wa0S b m).2]
    | 17 => PT v #[.int .i64 0, .int .i64 0] (W2.heap.size) W
    | _ => True) ⟨?_, ?_, ?_, ?_, ?_, ?_, ?_, ?_, ?_, ?_, ?_, ?_, ?_, ?_, ?_, ?_, ?_, ?_, ?_⟩
  · intro b' W hE hb hdep K hK
    have e2 : b'.tmps[2]?.getD undef = .pointer (some ⟨w.heap.size, 0, none⟩) := hb 2 (by decide)
    clear hdep hb
    go_wp2
    exact hK _ _ (Ext.refl _) rfl
  · intro b' W hE hb hdep K hK
    have e26 : b'.tmps[26]?.getD undef = .pointer (some ⟨w.heap.size, 0, none⟩) := pureR (hdep 0 26 (by kernel_rfl) rfl)
    clear hdep hb
    go_wp2
    exact hK _ _ (Ext.refl _) rfl
  · intro b' W hE hb hdep K hK
    have e27 : b'.tmps[27]?.getD undef = .pointer (some ⟨w.heap.size, 2, none⟩) := pureR (hdep 1 27 (by kernel_rfl) rfl)
    clear hdep hb
    obtain ⟨_, _, -, _⟩ := keep_row hE ((raW2 : rowOf _ _ = _))
    obtain ⟨_, _, -, _⟩ := keep_row hE ((rdW2 : rowOf _ _ = _))
    obtain ⟨_, _, -, _⟩ := keep_row hE ((rtW2 : rowOf _ _ = _))
    go_wp2
    exact hK _ _ (Ext.refl _) rfl
  · intro b' W hE hb hdep K hK
    have e2 : b'.tmps[2]?.getD undef = .pointer (some ⟨w.heap.size, 0, none⟩) := hb 2 (by decide)
    clear hdep hb
    go_wp2
    exact hK _ _ (Ext.refl _) rfl
  · intro b' W hE hb hdep K hK
    have e29 : b'.tmps[29]?.getD undef = .pointer (some ⟨w.heap.size, 0, none⟩) := pureR (hdep 3 29 (by kernel_rfl) rfl)
    clear hdep hb
    go_wp2
    exact hK _ _ (Ext.refl _) rfl
  · intro b' W hE hb hdep K hK
    have e30 : b'.tmps[30]?.getD undef = .pointer (some ⟨w.heap.size, 4, none⟩) := pureR (hdep 4 30 (by kernel_rfl) rfl)
    clear hdep hb
    obtain ⟨_, _, -, _⟩ := keep_row hE ((raW2 : rowOf _ _ = _))
    obtain ⟨_, _, -, _⟩ := keep_row hE ((rdW2 : rowOf _ _ = _))
    obtain ⟨_, _, -, _⟩ := keep_row hE ((rtW2 : rowOf _ _ = _))
    go_wp2
    exact hK _ _ (Ext.refl _) rfl
  · intro b' W hE hb hdep K hK
    have e5 : b'.tmps[5]?.getD undef = .pointer (some ⟨w.heap.size + 1 + 1 + 1, 0, none⟩) := hb 5 (by decide)
    clear hdep hb
    obtain ⟨_, _, -, _⟩ := keep_row hE ((raW2 : rowOf _ _ = _))
    obtain ⟨_, _, -, _⟩ := keep_row hE ((rdW2 : rowOf _ _ = _))
    obtain ⟨_, _, -, _⟩ := keep_row hE ((rtW2 : rowOf _ _ = _))
    go_wp2
    exact hK _ _ (Ext.refl _) rfl
  · intro b' W hE hb hdep K hK
    have e31 : b'.tmps[31]?.getD undef = .agg #[.int .i64 b.heat.1, .int .i64 b.heat.2] := pureR (hdep 5 31 (by kernel_rfl) rfl)
    have e32 : b'.tmps[32]?.getD undef = .agg #[.int .i64 (hsS m).1, .int .i64 (hsS m).2] := pureR (hdep 6 32 (by kernel_rfl) rfl)
    clear hdep hb
    go_wp2
    exact hK _ _ (ext_alloc _ _) ⟨rfl, row_here0 _ _ _⟩
  · intro b' W hE hb hdep K hK
    have s33 : SL (b'.tmps[33]?.getD undef) 2 #[.int .i64 b.heat.1, .int .i64 b.heat.2, .int .i64 (hsS m).1, .int .i64 (hsS m).2] W := sliceR (hdep 7 33 (by kernel_rfl) rfl)
    have e33 := s33.eq
    have r33 := s33.row
    clear s33
    generalize blk (b'.tmps[33]?.getD undef) = g33 at e33 r33
    clear hdep hb
    go_wp2_with fail
    refine (sc2 1 b.heat (hsS m) 100000 40 _ _ _ r33 (by omega) (by omega) b1 b2 b3 h1 h2 h3 h4 (by omega) (by omega)).mono ?_
    rintro e W' ⟨rfl, hB⟩
    exact hK _ _ hB rfl
  · intro b' W hE hb hdep K hK
    have e2 : b'.tmps[2]?.getD undef = .pointer (some ⟨w.heap.size, 0, none⟩) := hb 2 (by decide)
    clear hdep hb
    go_wp2
    exact hK _ _ (Ext.refl _) rfl
  · intro b' W hE hb hdep K hK
    have e35 : b'.tmps[35]?.getD undef = .pointer (some ⟨w.heap.size, 0, none⟩) := pureR (hdep 9 35 (by kernel_rfl) rfl)
    clear hdep hb
    go_wp2
    exact hK _ _ (Ext.refl _) rfl
  · intro b' W hE hb hdep K hK
    have e36 : b'.tmps[36]?.getD undef = .pointer (some ⟨w.heap.size, 6, none⟩) := pureR (hdep 10 36 (by kernel_rfl) rfl)
    clear hdep hb
    obtain ⟨_, _, -, _⟩ := keep_row hE ((raW2 : rowOf _ _ = _))
    obtain ⟨_, _, -, _⟩ := keep_row hE ((rdW2 : rowOf _ _ = _))
    obtain ⟨_, _, -, _⟩ := keep_row hE ((rtW2 : rowOf _ _ = _))
    go_wp2
    exact hK _ _ (Ext.refl _) rfl
  · intro b' W hE hb hdep K hK
    have e6 : b'.tmps[6]?.getD undef = .pointer (some ⟨W1.heap.size, 0, none⟩) := hb 6 (by decide)
    clear hdep hb
    obtain ⟨_, _, -, _⟩ := keep_row hE ((raW2 : rowOf _ _ = _))
    obtain ⟨_, _, -, _⟩ := keep_row hE ((rdW2 : rowOf _ _ = _))
    obtain ⟨_, _, -, _⟩ := keep_row hE ((rtW2 : rowOf _ _ = _))
    go_wp2
    exact hK _ _ (Ext.refl _) rfl
  · intro b' W hE hb hdep K hK
    have e37 : b'.tmps[37]?.getD undef = .agg #[.int .i64 b.toil.1, .int .i64 b.toil.2] := pureR (hdep 11 37 (by kernel_rfl) rfl)
    have e38 : b'.tmps[38]?.getD undef = .agg #[.int .i64 (buS m).1, .int .i64 (buS m).2] := pureR (hdep 12 38 (by kernel_rfl) rfl)
    clear hdep hb
    go_wp2
    exact hK _ _ (ext_alloc _ _) ⟨rfl, row_here0 _ _ _⟩
  · intro b' W hE hb hdep K hK
    have s39 : SL (b'.tmps[39]?.getD undef) 2 #[.int .i64 b.toil.1, .int .i64 b.toil.2, .int .i64 (buS m).1, .int .i64 (buS m).2] W := sliceR (hdep 13 39 (by kernel_rfl) rfl)
    have e39 := s39.eq
    have r39 := s39.row
    clear s39
    generalize blk (b'.tmps[39]?.getD undef) = g39 at e39 r39
    clear hdep hb
    go_wp2_with fail
    refine (sc2 100000 b.toil (buS m) 100000 26400000 _ _ _ r39 (by omega) (by omega) c1 c2 c3 u1 u2 u3 u4 (by omega) (by omega)).mono ?_
    rintro e W' ⟨rfl, hB⟩
    exact hK _ _ hB rfl
  · intro b' W hE hb hdep K hK
    have e28 : b'.tmps[28]?.getD undef = .agg #[.int .i64 b.rest.1, .int .i64 b.rest.2] := pureR (hdep 2 28 (by kernel_rfl) rfl)
    have e34 : b'.tmps[34]?.getD undef = .agg #[.int .i64 (sc 1 b.heat (hsS m)).1, .int .i64 (sc 1 b.heat (hsS m)).2] := pureR (hdep 8 34 (by kernel_rfl) rfl)
    have e40 : b'.tmps[40]?.getD undef = .agg #[.int .i64 (sc 100000 b.toil (buS m)).1, .int .i64 (sc 100000 b.toil (buS m)).2] := pureR (hdep 14 40 (by kernel_rfl) rfl)
    clear hdep hb
    go_wp2
    exact hK _ _ (ext_alloc _ _) ⟨rfl, row_here0 _ _ _⟩
  · intro b' W hE hb hdep K hK
    have s41 : SL (b'.tmps[41]?.getD undef) 3 #[.int .i64 b.rest.1, .int .i64 b.rest.2, .int .i64 (sc 1 b.heat (hsS m)).1, .int .i64 (sc 1 b.heat (hsS m)).2, .int .i64 (sc 100000 b.toil (buS m)).1, .int .i64 (sc 100000 b.toil (buS m)).2] W := sliceR (hdep 15 41 (by kernel_rfl) rfl)
    have e41 := s41.eq
    have r41 := s41.row
    clear s41
    generalize blk (b'.tmps[41]?.getD undef) = g41 at e41 r41
    clear hdep hb
    go_wp2_with fail
    refine (ad3 b.rest (sc 1 b.heat (hsS m)) (sc 100000 b.toil (buS m)) _ _ _ r41 (by omega) (by omega) (by omega) (by omega) (by omega) (by omega) (by omega) (by omega) (by omega) (by omega) (by omega) (by omega)).mono ?_
    rintro e W' ⟨rfl, hB⟩
    exact hK _ _ hB rfl
  · intro b' W hE hb hdep K hK
    clear hdep hb
    go_wp2
    exact hK _ _ (ext_alloc _ _) ⟨rfl, row_here0 _ _ _, by have := hE.size; simp at this; simp [blk]; omega⟩
  intro f W hE hR
  have e26 : f 26 = .pointer (some ⟨w.heap.size, 0, none⟩) := pureR (hR 0 26 rfl)
  have e27 : f 27 = .pointer (some ⟨w.heap.size, 2, none⟩) := pureR (hR 1 27 rfl)
  have e28 : f 28 = .agg #[.int .i64 b.rest.1, .int .i64 b.rest.2] := pureR (hR 2 28 rfl)
  have e29 : f 29 = .pointer (some ⟨w.heap.size, 0, none⟩) := pureR (hR 3 29 rfl)
  have e30 : f 30 = .pointer (some ⟨w.heap.size, 4, none⟩) := pureR (hR 4 30 rfl)
  have e31 : f 31 = .agg #[.int .i64 b.heat.1, .int .i64 b.heat.2] := pureR (hR 5 31 rfl)
  have e32 : f 32 = .agg #[.int .i64 (hsS m).1, .int .i64 (hsS m).2] := pureR (hR 6 32 rfl)
  have e34 : f 34 = .agg #[.int .i64 (sc 1 b.heat (hsS m)).1, .int .i64 (sc 1 b.heat (hsS m)).2] := pureR (hR 8 34 rfl)
  have e35 : f 35 = .pointer (some ⟨w.heap.size, 0, none⟩) := pureR (hR 9 35 rfl)
  have e36 : f 36 = .pointer (some ⟨w.heap.size, 6, none⟩) := pureR (hR 10 36 rfl)
  have e37 : f 37 = .agg #[.int .i64 b.toil.1, .int .i64 b.toil.2] := pureR (hR 11 37 rfl)
  have e38 : f 38 = .agg #[.int .i64 (buS m).1, .int .i64 (buS m).2] := pureR (hR 12 38 rfl)
  have e40 : f 40 = .agg #[.int .i64 (sc 100000 b.toil (buS m)).1, .int .i64 (sc 100000 b.toil (buS m)).2] := pureR (hR 14 40 rfl)
  have e42 : f 42 = .agg #[.int .i64 (wa0S b m).1, .int .i64 (wa0S b m).2] := pureR (hR 16 42 rfl)
  have hp : PT (f 7) #[.int .i64 0, .int .i64 0] (W2.heap.size) W := pointR (hR 17 7 rfl)
  clear hR
  refine wpL_store_pt rfl 31 (.tmp 7) (.tmp 42) rfl (vs := #[.int .i64 (wa0S b m).1, .int .i64 (wa0S b m).2]) ((puts_eval (by decide) rfl).trans e42) (puts_eval (by decide) rfl) hp (by kernel_rfl) rfl (by simp [one_int, one_bool]) ?_
  intro h W3 hbase e7 hlt hS
  clear hp
  simp only [puts, Act.put, List.setIfInBounds_toArray, List.set_cons_succ, List.set_cons_zero, e26, e27, e28, e29, e30, e31, e32, e34, e35, e36, e37, e38, e40, e42, e7]
  have zE := hE.size
  simp only [World.size_alloc, World.size_drew] at zE
  obtain ⟨raW3, caW3, gaW3, zaW3⟩ := row_facts (hS.keeps (g := w.heap.size) (by omega) (hE.row ((rowOf_drew _ _).trans (by repeat (first | with_reducible assumption | with_reducible apply row_here0 | with_reducible apply row_here1 | with_reducible apply row_here2 | with_reducible apply row_here3 | with_reducible apply rowSkip)))))
  obtain ⟨rbW3, cbW3, gbW3, zbW3⟩ := row_facts (hS.keeps (g := w.heap.size + 1) (by omega) (hE.row ((rowOf_drew _ _).trans (by repeat (first | with_reducible assumption | with_reducible apply row_here0 | with_reducible apply row_here1 | with_reducible apply row_here2 | with_reducible apply row_here3 | with_reducible apply rowSkip)))))
  obtain ⟨rcW3, ccW3, gcW3, zcW3⟩ := row_facts (hS.keeps (g := w.heap.size + 1 + 1) (by omega) (hE.row ((rowOf_drew _ _).trans (by repeat (first | with_reducible assumption | with_reducible apply row_here0 | with_reducible apply row_here1 | with_reducible apply row_here2 | with_reducible apply row_here3 | with_reducible apply rowSkip)))))
  obtain ⟨rtW3, ctW3, gtW3, ztW3⟩ := row_facts (hS.keeps (g := W1.heap.size) (by omega) (hE.row ((rowOf_drew _ _).trans (by repeat (first | with_reducible assumption | with_reducible apply row_here0 | with_reducible apply row_here1 | with_reducible apply row_here2 | with_reducible apply row_here3 | with_reducible apply rowSkip)))))
  obtain ⟨rhW3, chW3, ghW3, zhW3⟩ := row_facts hS.row
  have hW3 : Below w.heap.size w W3 := ((drew_ext hE).below (by have := hW2.size; go_grown) (by have := hW2.size; simp; try omega)).trans (hS.below _ (by omega))
  have zW3 := hW3.size
  clear hS hE zE
  clear raW2 rbW2 rcW2 rdW2 rtW2
  obtain ⟨v1, v2, v3, v4⟩ : 0 ≤ (wa0S b m).1 ∧ (wa0S b m).1 ≤ 1000000000000 * 10 ∧ 0 ≤ (wa0S b m).2 ∧ (wa0S b m).2 ≤ 1000000000000 * 10 := by simp only [wa0S, ad]; omega
  cases hk : c.milks with
  | false =>
    rw [hk] at raW3 caW3
    go_wp2_with fail
    refine wp_drawn_list (by kernel_rfl) [51, 52, 53, 54, 55, 56, 57, 58, 59, 60, 61, 62, 63, 64, 65, 66, 67, 68, 69] (by kernel_rfl) rfl (fun ix v W => match ix with
      | 0 => v = .agg #[.int .i64 (wa0S b m).1, .int .i64 (wa0S b m).2]
      | 1 => v = .pointer (some ⟨w.heap.size, 0, none⟩)
      | 2 => v = .pointer (some ⟨w.heap.size, 8, none⟩)
      | 3 => v = .agg #[.int .i64 b.burn.1, .int .i64 b.burn.2]
      | 4 => v = .agg #[.int .i64 (buS m).1, .int .i64 (buS m).2]
      | 5 => SL v 2 #[.int .i64 b.burn.1, .int .i64 b.burn.2, .int .i64 (buS m).1, .int .i64 (buS m).2] W
      | 6 => v = .agg #[.int .i64 (faS b m).1, .int .i64 (faS b m).2]
      | 7 => v = .pointer (some ⟨w.heap.size, 0, none⟩)
      | 8 => v = .pointer (some ⟨w.heap.size, 10, none⟩)
      | 9 => v = .agg #[.int .i64 b.rub.1, .int .i64 b.rub.2]
      | 10 => v = .pointer (some ⟨w.heap.size + 1, 0, none⟩)
      | 11 => v = .int .i64 m.hours
      | 12 => v = .pointer (some ⟨w.heap.size + 1, 1, none⟩)
      | 13 => v = .int .i64 m.load
      | 14 => v = .int .i64 (m.hours * m.load)
      | 15 => v = .agg #[.int .i64 (ruS m).1, .int .i64 (ruS m).2]
      | 16 => SL v 2 #[.int .i64 b.rub.1, .int .i64 b.rub.2, .int .i64 (ruS m).1, .int .i64 (ruS m).2] W
      | 17 => v = .agg #[.int .i64 (soS b m).1, .int .i64 (soS b m).2]
      | 18 => v = .agg #[.int .i64 (wa0S b m).1, .int .i64 (wa0S b m).2, .int .i64 (faS b m).1, .int .i64 (faS b m).2, .int .i64 (soS b m).1, .int .i64 (soS b m).2]
      | _ => True) ⟨?_, ?_, ?_, ?_, ?_, ?_, ?_, ?_, ?_, ?_, ?_, ?_, ?_, ?_, ?_, ?_, ?_, ?_, ?_, ?_⟩
    · intro b' W hE hb hdep K hK
      have e7 : b'.tmps[7]?.getD undef = .pointer (some ⟨h, 0, none⟩) := hb 7 (by decide)
      clear hdep hb
      obtain ⟨_, _, -, _⟩ := keep_row hE ((raW3 : rowOf _ _ = _))
      obtain ⟨_, _, -, _⟩ := keep_row hE ((rbW3 : rowOf _ _ = _))
      obtain ⟨_, _, -, _⟩ := keep_row hE ((rtW3 : rowOf _ _ = _))
      obtain ⟨_, _, -, _⟩ := keep_row hE ((rhW3 : rowOf _ _ = _))
      go_wp2
      exact hK _ _ (Ext.refl _) rfl
    · intro b' W hE hb hdep K hK
      have e2 : b'.tmps[2]?.getD undef = .pointer (some ⟨w.heap.size, 0, none⟩) := hb 2 (by decide)
      clear hdep hb
      go_wp2
      exact hK _ _ (Ext.refl _) rfl
    · intro b' W hE hb hdep K hK
      have e52 : b'.tmps[52]?.getD undef = .pointer (some ⟨w.heap.size, 0, none⟩) := pureR (hdep 1 52 (by kernel_rfl) rfl)
      clear hdep hb
      go_wp2
      exact hK _ _ (Ext.refl _) rfl
    · intro b' W hE hb hdep K hK
      have e53 : b'.tmps[53]?.getD undef = .pointer (some ⟨w.heap.size, 8, none⟩) := pureR (hdep 2 53 (by kernel_rfl) rfl)
      clear hdep hb
      obtain ⟨_, _, -, _⟩ := keep_row hE ((raW3 : rowOf _ _ = _))
      obtain ⟨_, _, -, _⟩ := keep_row hE ((rbW3 : rowOf _ _ = _))
      obtain ⟨_, _, -, _⟩ := keep_row hE ((rtW3 : rowOf _ _ = _))
      obtain ⟨_, _, -, _⟩ := keep_row hE ((rhW3 : rowOf _ _ = _))
      go_wp2
      exact hK _ _ (Ext.refl _) rfl
    · intro b' W hE hb hdep K hK
      have e6 : b'.tmps[6]?.getD undef = .pointer (some ⟨W1.heap.size, 0, none⟩) := hb 6 (by decide)
      clear hdep hb
      obtain ⟨_, _, -, _⟩ := keep_row hE ((raW3 : rowOf _ _ = _))
      obtain ⟨_, _, -, _⟩ := keep_row hE ((rbW3 : rowOf _ _ = _))
      obtain ⟨_, _, -, _⟩ := keep_row hE ((rtW3 : rowOf _ _ = _))
      obtain ⟨_, _, -, _⟩ := keep_row hE ((rhW3 : rowOf _ _ = _))
      go_wp2
      exact hK _ _ (Ext.refl _) rfl
    · intro b' W hE hb hdep K hK
      have e54 : b'.tmps[54]?.getD undef = .agg #[.int .i64 b.burn.1, .int .i64 b.burn.2] := pureR (hdep 3 54 (by kernel_rfl) rfl)
      have e55 : b'.tmps[55]?.getD undef = .agg #[.int .i64 (buS m).1, .int .i64 (buS m).2] := pureR (hdep 4 55 (by kernel_rfl) rfl)
      clear hdep hb
      go_wp2
      exact hK _ _ (ext_alloc _ _) ⟨rfl, row_here0 _ _ _⟩
    · intro b' W hE hb hdep K hK
      have s56 : SL (b'.tmps[56]?.getD undef) 2 #[.int .i64 b.burn.1, .int .i64 b.burn.2, .int .i64 (buS m).1, .int .i64 (buS m).2] W := sliceR (hdep 5 56 (by kernel_rfl) rfl)
      have e56 := s56.eq
      have r56 := s56.row
      clear s56
      generalize blk (b'.tmps[56]?.getD undef) = g56 at e56 r56
      clear hdep hb
      go_wp2_with fail
      refine (sc2 100000 b.burn (buS m) 100000 26400000 _ _ _ r56 (by omega) (by omega) d1 d2 d3 u1 u2 u3 u4 (by omega) (by omega)).mono ?_
      rintro e W' ⟨rfl, hB⟩
      exact hK _ _ hB rfl
    · intro b' W hE hb hdep K hK
      have e2 : b'.tmps[2]?.getD undef = .pointer (some ⟨w.heap.size, 0, none⟩) := hb 2 (by decide)
      clear hdep hb
      go_wp2
      exact hK _ _ (Ext.refl _) rfl
    · intro b' W hE hb hdep K hK
      have e58 : b'.tmps[58]?.getD undef = .pointer (some ⟨w.heap.size, 0, none⟩) := pureR (hdep 7 58 (by kernel_rfl) rfl)
      clear hdep hb
      go_wp2
      exact hK _ _ (Ext.refl _) rfl
    · intro b' W hE hb hdep K hK
      have e59 : b'.tmps[59]?.getD undef = .pointer (some ⟨w.heap.size, 10, none⟩) := pureR (hdep 8 59 (by kernel_rfl) rfl)
      clear hdep hb
      obtain ⟨_, _, -, _⟩ := keep_row hE ((raW3 : rowOf _ _ = _))
      obtain ⟨_, _, -, _⟩ := keep_row hE ((rbW3 : rowOf _ _ = _))
      obtain ⟨_, _, -, _⟩ := keep_row hE ((rtW3 : rowOf _ _ = _))
      obtain ⟨_, _, -, _⟩ := keep_row hE ((rhW3 : rowOf _ _ = _))
      go_wp2
      exact hK _ _ (Ext.refl _) rfl
    · intro b' W hE hb hdep K hK
      have e3 : b'.tmps[3]?.getD undef = .pointer (some ⟨w.heap.size + 1, 0, none⟩) := hb 3 (by decide)
      clear hdep hb
      go_wp2
      exact hK _ _ (Ext.refl _) rfl
    · intro b' W hE hb hdep K hK
      have e61 : b'.tmps[61]?.getD undef = .pointer (some ⟨w.heap.size + 1, 0, none⟩) := pureR (hdep 10 61 (by kernel_rfl) rfl)
      clear hdep hb
      obtain ⟨_, _, -, _⟩ := keep_row hE ((raW3 : rowOf _ _ = _))
      obtain ⟨_, _, -, _⟩ := keep_row hE ((rbW3 : rowOf _ _ = _))
      obtain ⟨_, _, -, _⟩ := keep_row hE ((rtW3 : rowOf _ _ = _))
      obtain ⟨_, _, -, _⟩ := keep_row hE ((rhW3 : rowOf _ _ = _))
      go_wp2
      exact hK _ _ (Ext.refl _) rfl
    · intro b' W hE hb hdep K hK
      have e3 : b'.tmps[3]?.getD undef = .pointer (some ⟨w.heap.size + 1, 0, none⟩) := hb 3 (by decide)
      clear hdep hb
      go_wp2
      exact hK _ _ (Ext.refl _) rfl
    · intro b' W hE hb hdep K hK
      have e63 : b'.tmps[63]?.getD undef = .pointer (some ⟨w.heap.size + 1, 1, none⟩) := pureR (hdep 12 63 (by kernel_rfl) rfl)
      clear hdep hb
      obtain ⟨_, _, -, _⟩ := keep_row hE ((raW3 : rowOf _ _ = _))
      obtain ⟨_, _, -, _⟩ := keep_row hE ((rbW3 : rowOf _ _ = _))
      obtain ⟨_, _, -, _⟩ := keep_row hE ((rtW3 : rowOf _ _ = _))
      obtain ⟨_, _, -, _⟩ := keep_row hE ((rhW3 : rowOf _ _ = _))
      go_wp2
      exact hK _ _ (Ext.refl _) rfl
    · intro b' W hE hb hdep K hK
      have e62 : b'.tmps[62]?.getD undef = .int .i64 m.hours := pureR (hdep 11 62 (by kernel_rfl) rfl)
      have e64 : b'.tmps[64]?.getD undef = .int .i64 m.load := pureR (hdep 13 64 (by kernel_rfl) rfl)
      clear hdep hb
      go_wp2
      exact hK _ _ (Ext.refl _) rfl
    · intro b' W hE hb hdep K hK
      have e65 : b'.tmps[65]?.getD undef = .int .i64 (m.hours * m.load) := pureR (hdep 14 65 (by kernel_rfl) rfl)
      clear hdep hb
      go_wp2_with fail
      refine (exactly_any _ _).mono ?_
      rintro e W' ⟨rfl, hB⟩
      exact hK _ _ hB rfl
    · intro b' W hE hb hdep K hK
      have e60 : b'.tmps[60]?.getD undef = .agg #[.int .i64 b.rub.1, .int .i64 b.rub.2] := pureR (hdep 9 60 (by kernel_rfl) rfl)
      have e66 : b'.tmps[66]?.getD undef = .agg #[.int .i64 (ruS m).1, .int .i64 (ruS m).2] := pureR (hdep 15 66 (by kernel_rfl) rfl)
      clear hdep hb
      go_wp2
      exact hK _ _ (ext_alloc _ _) ⟨rfl, row_here0 _ _ _⟩
    · intro b' W hE hb hdep K hK
      have s67 : SL (b'.tmps[67]?.getD undef) 2 #[.int .i64 b.rub.1, .int .i64 b.rub.2, .int .i64 (ruS m).1, .int .i64 (ruS m).2] W := sliceR (hdep 16 67 (by kernel_rfl) rfl)
      have e67 := s67.eq
      have r67 := s67.row
      clear s67
      generalize blk (b'.tmps[67]?.getD undef) = g67 at e67 r67
      clear hdep hb
      go_wp2_with fail
      refine (sc2 1000000 b.rub (ruS m) 100000 24000000 _ _ _ r67 (by omega) (by omega) e1 e2 e3 l1 l2 l3 l4 (by omega) (by omega)).mono ?_
      rintro e W' ⟨rfl, hB⟩
      exact hK _ _ hB rfl
    · intro b' W hE hb hdep K hK
      have e51 : b'.tmps[51]?.getD undef = .agg #[.int .i64 (wa0S b m).1, .int .i64 (wa0S b m).2] := pureR (hdep 0 51 (by kernel_rfl) rfl)
      have e57 : b'.tmps[57]?.getD undef = .agg #[.int .i64 (faS b m).1, .int .i64 (faS b m).2] := pureR (hdep 6 57 (by kernel_rfl) rfl)
      have e68 : b'.tmps[68]?.getD undef = .agg #[.int .i64 (soS b m).1, .int .i64 (soS b m).2] := pureR (hdep 17 68 (by kernel_rfl) rfl)
      clear hdep hb
      go_wp2
      exact hK _ _ (Ext.refl _) rfl
    intro f W hE hR
    have e51 : f 51 = .agg #[.int .i64 (wa0S b m).1, .int .i64 (wa0S b m).2] := pureR (hR 0 51 rfl)
    have e52 : f 52 = .pointer (some ⟨w.heap.size, 0, none⟩) := pureR (hR 1 52 rfl)
    have e53 : f 53 = .pointer (some ⟨w.heap.size, 8, none⟩) := pureR (hR 2 53 rfl)
    have e54 : f 54 = .agg #[.int .i64 b.burn.1, .int .i64 b.burn.2] := pureR (hR 3 54 rfl)
    have e55 : f 55 = .agg #[.int .i64 (buS m).1, .int .i64 (buS m).2] := pureR (hR 4 55 rfl)
    have e57 : f 57 = .agg #[.int .i64 (faS b m).1, .int .i64 (faS b m).2] := pureR (hR 6 57 rfl)
    have e58 : f 58 = .pointer (some ⟨w.heap.size, 0, none⟩) := pureR (hR 7 58 rfl)
    have e59 : f 59 = .pointer (some ⟨w.heap.size, 10, none⟩) := pureR (hR 8 59 rfl)
    have e60 : f 60 = .agg #[.int .i64 b.rub.1, .int .i64 b.rub.2] := pureR (hR 9 60 rfl)
    have e61 : f 61 = .pointer (some ⟨w.heap.size + 1, 0, none⟩) := pureR (hR 10 61 rfl)
    have e62 : f 62 = .int .i64 m.hours := pureR (hR 11 62 rfl)
    have e63 : f 63 = .pointer (some ⟨w.heap.size + 1, 1, none⟩) := pureR (hR 12 63 rfl)
    have e64 : f 64 = .int .i64 m.load := pureR (hR 13 64 rfl)
    have e65 : f 65 = .int .i64 (m.hours * m.load) := pureR (hR 14 65 rfl)
    have e66 : f 66 = .agg #[.int .i64 (ruS m).1, .int .i64 (ruS m).2] := pureR (hR 15 66 rfl)
    have e68 : f 68 = .agg #[.int .i64 (soS b m).1, .int .i64 (soS b m).2] := pureR (hR 17 68 rfl)
    have e69 : f 69 = .agg #[.int .i64 (wa0S b m).1, .int .i64 (wa0S b m).2, .int .i64 (faS b m).1, .int .i64 (faS b m).2, .int .i64 (soS b m).1, .int .i64 (soS b m).2] := pureR (hR 18 69 rfl)
    clear hR
    refine wpL_store_known rfl 110 (.tmp 4) (.tmp 69) rfl (vs := #[.int .i64 (wa0S b m).1, .int .i64 (wa0S b m).2, .int .i64 (faS b m).1, .int .i64 (faS b m).2, .int .i64 (soS b m).1, .int .i64 (soS b m).2]) (h := w.heap.size + 1 + 1) ((puts_eval (by decide) rfl).trans e69) (puts_other (by decide)) (hE.row ((rowOf_drew _ _).trans rcW3)) (by kernel_rfl) rfl (by simp [one_int, one_bool]) ?_
    intro W9 hS
    simp only [puts, Act.put, List.setIfInBounds_toArray, List.set_cons_succ, List.set_cons_zero, e51, e52, e53, e54, e55, e57, e58, e59, e60, e61, e62, e63, e64, e65, e66, e68, e69]
    have zE := hE.size
    simp only [World.size_alloc, World.size_drew] at zE
    obtain ⟨rhW9, chW9, ghW9, zhW9⟩ := row_facts hS.row
    have hW9 : Below w.heap.size w W9 := ((drew_ext hE).below (by have := hW3.size; go_grown) (by have := hW3.size; simp; try omega)).trans (hS.below _ (by omega))
    have zW9 := hW9.size
    clear hS hE zE
    go_wp2
    exact bodyPost_ret (res110 Try.results64 rfl rhW9 rfl) rfl ⟨by rw [hk]; rfl, hW9⟩
  | true =>
    rw [hk] at raW3 caW3
    go_wp2_with fail
    refine (ad2 (wa0S b m) b.milk _ _ _ (by repeat (first | with_reducible assumption | with_reducible apply row_here0 | with_reducible apply row_here1 | with_reducible apply row_here2 | with_reducible apply row_here3 | with_reducible apply rowSkip)) (by omega) (by omega) (by omega) (by omega) (by omega) (by omega) (by omega) (by omega)).mono ?_
    rintro e W4 ⟨rfl, hB⟩
    have hW4 : Below w.heap.size w W4 := hW3.trans (Below.trans (by have := hW3.size; go_grown) (hB.mono (by have := hW3.size; simp; try omega)))
    have zW4 := hW4.size
    obtain ⟨raW4, caW4, gaW4, zaW4⟩ := keep_row hB (g := w.heap.size) (by repeat (first | with_reducible assumption | with_reducible apply row_here0 | with_reducible apply row_here1 | with_reducible apply row_here2 | with_reducible apply row_here3 | with_reducible apply rowSkip))
    obtain ⟨rbW4, cbW4, gbW4, zbW4⟩ := keep_row hB (g := w.heap.size + 1) (by repeat (first | with_reducible assumption | with_reducible apply row_here0 | with_reducible apply row_here1 | with_reducible apply row_here2 | with_reducible apply row_here3 | with_reducible apply rowSkip))
    obtain ⟨rcW4, ccW4, gcW4, zcW4⟩ := keep_row hB (g := w.heap.size + 1 + 1) (by repeat (first | with_reducible assumption | with_reducible apply row_here0 | with_reducible apply row_here1 | with_reducible apply row_here2 | with_reducible apply row_here3 | with_reducible apply rowSkip))
    obtain ⟨rtW4, ctW4, gtW4, ztW4⟩ := keep_row hB (g := W1.heap.size) (by repeat (first | with_reducible assumption | with_reducible apply row_here0 | with_reducible apply row_here1 | with_reducible apply row_here2 | with_reducible apply row_here3 | with_reducible apply rowSkip))
    obtain ⟨rhW4, chW4, ghW4, zhW4⟩ := keep_row hB (g := h) (by repeat (first | with_reducible assumption | with_reducible apply row_here0 | with_reducible apply row_here1 | with_reducible apply row_here2 | with_reducible apply row_here3 | with_reducible apply rowSkip))
    clear hB
    go_wp2_with fail
    have hS := stored_setRow rhW4 #[.int .i64 (ad (wa0S b m) b.milk).1, .int .i64 (ad (wa0S b m) b.milk).2]
    have hW5 : Below w.heap.size w (W4.setRow h #[.int .i64 (ad (wa0S b m) b.milk).1, .int .i64 (ad (wa0S b m) b.milk).2]) := hW4.trans (hS.below _ (by omega))
    have raW5 := hS.keeps (g := w.heap.size) (by omega) raW4
    have rbW5 := hS.keeps (g := w.heap.size + 1) (by omega) rbW4
    have rcW5 := hS.keeps (g := w.heap.size + 1 + 1) (by omega) rcW4
    have rtW5 := hS.keeps (g := W1.heap.size) (by omega) rtW4
    have rhW5 := hS.row
    clear hS
    generalize W4.setRow h #[.int .i64 (ad (wa0S b m) b.milk).1, .int .i64 (ad (wa0S b m) b.milk).2] = W5 at hW5 raW5 rbW5 rcW5 rtW5 rhW5 ⊢
    clear raW3 caW3 gaW3 rbW3 cbW3 gbW3 rcW3 ccW3 gcW3 rtW3 ctW3 gtW3 rhW3 chW3 ghW3 raW4 caW4 gaW4 rbW4 cbW4 gbW4 rcW4 ccW4 gcW4 rtW4 ctW4 gtW4 rhW4 chW4 ghW4
    refine wp_drawn_list (by kernel_rfl) [51, 52, 53, 54, 55, 56, 57, 58, 59, 60, 61, 62, 63, 64, 65, 66, 67, 68, 69] (by kernel_rfl) rfl (fun ix v W => match ix with
      | 0 => v = .agg #[.int .i64 (ad (wa0S b m) b.milk).1, .int .i64 (ad (wa0S b m) b.milk).2]
      | 1 => v = .pointer (some ⟨w.heap.size, 0, none⟩)
      | 2 => v = .pointer (some ⟨w.heap.size, 8, none⟩)
      | 3 => v = .agg #[.int .i64 b.burn.1, .int .i64 b.burn.2]
      | 4 => v = .agg #[.int .i64 (buS m).1, .int .i64 (buS m).2]
      | 5 => SL v 2 #[.int .i64 b.burn.1, .int .i64 b.burn.2, .int .i64 (buS m).1, .int .i64 (buS m).2] W
      | 6 => v = .agg #[.int .i64 (faS b m).1, .int .i64 (faS b m).2]
      | 7 => v = .pointer (some ⟨w.heap.size, 0, none⟩)
      | 8 => v = .pointer (some ⟨w.heap.size, 10, none⟩)
      | 9 => v = .agg #[.int .i64 b.rub.1, .int .i64 b.rub.2]
      | 10 => v = .pointer (some ⟨w.heap.size + 1, 0, none⟩)
      | 11 => v = .int .i64 m.hours
      | 12 => v = .pointer (some ⟨w.heap.size + 1, 1, none⟩)
      | 13 => v = .int .i64 m.load
      | 14 => v = .int .i64 (m.hours * m.load)
      | 15 => v = .agg #[.int .i64 (ruS m).1, .int .i64 (ruS m).2]
      | 16 => SL v 2 #[.int .i64 b.rub.1, .int .i64 b.rub.2, .int .i64 (ruS m).1, .int .i64 (ruS m).2] W
      | 17 => v = .agg #[.int .i64 (soS b m).1, .int .i64 (soS b m).2]
      | 18 => v = .agg #[.int .i64 (ad (wa0S b m) b.milk).1, .int .i64 (ad (wa0S b m) b.milk).2, .int .i64 (faS b m).1, .int .i64 (faS b m).2, .int .i64 (soS b m).1, .int .i64 (soS b m).2]
      | _ => True) ⟨?_, ?_, ?_, ?_, ?_, ?_, ?_, ?_, ?_, ?_, ?_, ?_, ?_, ?_, ?_, ?_, ?_, ?_, ?_, ?_⟩
    · intro b' W hE hb hdep K hK
      have e7 : b'.tmps[7]?.getD undef = .pointer (some ⟨h, 0, none⟩) := hb 7 (by decide)
      clear hdep hb
      obtain ⟨_, _, -, _⟩ := keep_row hE ((raW5 : rowOf _ _ = _))
      obtain ⟨_, _, -, _⟩ := keep_row hE ((rbW5 : rowOf _ _ = _))
      obtain ⟨_, _, -, _⟩ := keep_row hE ((rtW5 : rowOf _ _ = _))
      obtain ⟨_, _, -, _⟩ := keep_row hE ((rhW5 : rowOf _ _ = _))
      go_wp2
      exact hK _ _ (Ext.refl _) rfl
    · intro b' W hE hb hdep K hK
      have e2 : b'.tmps[2]?.getD undef = .pointer (some ⟨w.heap.size, 0, none⟩) := hb 2 (by decide)
      clear hdep hb
      go_wp2
      exact hK _ _ (Ext.refl _) rfl
    · intro b' W hE hb hdep K hK
      have e52 : b'.tmps[52]?.getD undef = .pointer (some ⟨w.heap.size, 0, none⟩) := pureR (hdep 1 52 (by kernel_rfl) rfl)
      clear hdep hb
      go_wp2
      exact hK _ _ (Ext.refl _) rfl
    · intro b' W hE hb hdep K hK
      have e53 : b'.tmps[53]?.getD undef = .pointer (some ⟨w.heap.size, 8, none⟩) := pureR (hdep 2 53 (by kernel_rfl) rfl)
      clear hdep hb
      obtain ⟨_, _, -, _⟩ := keep_row hE ((raW5 : rowOf _ _ = _))
      obtain ⟨_, _, -, _⟩ := keep_row hE ((rbW5 : rowOf _ _ = _))
      obtain ⟨_, _, -, _⟩ := keep_row hE ((rtW5 : rowOf _ _ = _))
      obtain ⟨_, _, -, _⟩ := keep_row hE ((rhW5 : rowOf _ _ = _))
      go_wp2
      exact hK _ _ (Ext.refl _) rfl
    · intro b' W hE hb hdep K hK
      have e6 : b'.tmps[6]?.getD undef = .pointer (some ⟨W1.heap.size, 0, none⟩) := hb 6 (by decide)
      clear hdep hb
      obtain ⟨_, _, -, _⟩ := keep_row hE ((raW5 : rowOf _ _ = _))
      obtain ⟨_, _, -, _⟩ := keep_row hE ((rbW5 : rowOf _ _ = _))
      obtain ⟨_, _, -, _⟩ := keep_row hE ((rtW5 : rowOf _ _ = _))
      obtain ⟨_, _, -, _⟩ := keep_row hE ((rhW5 : rowOf _ _ = _))
      go_wp2
      exact hK _ _ (Ext.refl _) rfl
    · intro b' W hE hb hdep K hK
      have e54 : b'.tmps[54]?.getD undef = .agg #[.int .i64 b.burn.1, .int .i64 b.burn.2] := pureR (hdep 3 54 (by kernel_rfl) rfl)
      have e55 : b'.tmps[55]?.getD undef = .agg #[.int .i64 (buS m).1, .int .i64 (buS m).2] := pureR (hdep 4 55 (by kernel_rfl) rfl)
      clear hdep hb
      go_wp2
      exact hK _ _ (ext_alloc _ _) ⟨rfl, row_here0 _ _ _⟩
    · intro b' W hE hb hdep K hK
      have s56 : SL (b'.tmps[56]?.getD undef) 2 #[.int .i64 b.burn.1, .int .i64 b.burn.2, .int .i64 (buS m).1, .int .i64 (buS m).2] W := sliceR (hdep 5 56 (by kernel_rfl) rfl)
      have e56 := s56.eq
      have r56 := s56.row
      clear s56
      generalize blk (b'.tmps[56]?.getD undef) = g56 at e56 r56
      clear hdep hb
      go_wp2_with fail
      refine (sc2 100000 b.burn (buS m) 100000 26400000 _ _ _ r56 (by omega) (by omega) d1 d2 d3 u1 u2 u3 u4 (by omega) (by omega)).mono ?_
      rintro e W' ⟨rfl, hB⟩
      exact hK _ _ hB rfl
    · intro b' W hE hb hdep K hK
      have e2 : b'.tmps[2]?.getD undef = .pointer (some ⟨w.heap.size, 0, none⟩) := hb 2 (by decide)
      clear hdep hb
      go_wp2
      exact hK _ _ (Ext.refl _) rfl
    · intro b' W hE hb hdep K hK
      have e58 : b'.tmps[58]?.getD undef = .pointer (some ⟨w.heap.size, 0, none⟩) := pureR (hdep 7 58 (by kernel_rfl) rfl)
      clear hdep hb
      go_wp2
      exact hK _ _ (Ext.refl _) rfl
    · intro b' W hE hb hdep K hK
      have e59 : b'.tmps[59]?.getD undef = .pointer (some ⟨w.heap.size, 10, none⟩) := pureR (hdep 8 59 (by kernel_rfl) rfl)
      clear hdep hb
      obtain ⟨_, _, -, _⟩ := keep_row hE ((raW5 : rowOf _ _ = _))
      obtain ⟨_, _, -, _⟩ := keep_row hE ((rbW5 : rowOf _ _ = _))
      obtain ⟨_, _, -, _⟩ := keep_row hE ((rtW5 : rowOf _ _ = _))
      obtain ⟨_, _, -, _⟩ := keep_row hE ((rhW5 : rowOf _ _ = _))
      go_wp2
      exact hK _ _ (Ext.refl _) rfl
    · intro b' W hE hb hdep K hK
      have e3 : b'.tmps[3]?.getD undef = .pointer (some ⟨w.heap.size + 1, 0, none⟩) := hb 3 (by decide)
      clear hdep hb
      go_wp2
      exact hK _ _ (Ext.refl _) rfl
    · intro b' W hE hb hdep K hK
      have e61 : b'.tmps[61]?.getD undef = .pointer (some ⟨w.heap.size + 1, 0, none⟩) := pureR (hdep 10 61 (by kernel_rfl) rfl)
      clear hdep hb
      obtain ⟨_, _, -, _⟩ := keep_row hE ((raW5 : rowOf _ _ = _))
      obtain ⟨_, _, -, _⟩ := keep_row hE ((rbW5 : rowOf _ _ = _))
      obtain ⟨_, _, -, _⟩ := keep_row hE ((rtW5 : rowOf _ _ = _))
      obtain ⟨_, _, -, _⟩ := keep_row hE ((rhW5 : rowOf _ _ = _))
      go_wp2
      exact hK _ _ (Ext.refl _) rfl
    · intro b' W hE hb hdep K hK
      have e3 : b'.tmps[3]?.getD undef = .pointer (some ⟨w.heap.size + 1, 0, none⟩) := hb 3 (by decide)
      clear hdep hb
      go_wp2
      exact hK _ _ (Ext.refl _) rfl
    · intro b' W hE hb hdep K hK
      have e63 : b'.tmps[63]?.getD undef = .pointer (some ⟨w.heap.size + 1, 1, none⟩) := pureR (hdep 12 63 (by kernel_rfl) rfl)
      clear hdep hb
      obtain ⟨_, _, -, _⟩ := keep_row hE ((raW5 : rowOf _ _ = _))
      obtain ⟨_, _, -, _⟩ := keep_row hE ((rbW5 : rowOf _ _ = _))
      obtain ⟨_, _, -, _⟩ := keep_row hE ((rtW5 : rowOf _ _ = _))
      obtain ⟨_, _, -, _⟩ := keep_row hE ((rhW5 : rowOf _ _ = _))
      go_wp2
      exact hK _ _ (Ext.refl _) rfl
    · intro b' W hE hb hdep K hK
      have e62 : b'.tmps[62]?.getD undef = .int .i64 m.hours := pureR (hdep 11 62 (by kernel_rfl) rfl)
      have e64 : b'.tmps[64]?.getD undef = .int .i64 m.load := pureR (hdep 13 64 (by kernel_rfl) rfl)
      clear hdep hb
      go_wp2
      exact hK _ _ (Ext.refl _) rfl
    · intro b' W hE hb hdep K hK
      have e65 : b'.tmps[65]?.getD undef = .int .i64 (m.hours * m.load) := pureR (hdep 14 65 (by kernel_rfl) rfl)
      clear hdep hb
      go_wp2_with fail
      refine (exactly_any _ _).mono ?_
      rintro e W' ⟨rfl, hB⟩
      exact hK _ _ hB rfl
    · intro b' W hE hb hdep K hK
      have e60 : b'.tmps[60]?.getD undef = .agg #[.int .i64 b.rub.1, .int .i64 b.rub.2] := pureR (hdep 9 60 (by kernel_rfl) rfl)
      have e66 : b'.tmps[66]?.getD undef = .agg #[.int .i64 (ruS m).1, .int .i64 (ruS m).2] := pureR (hdep 15 66 (by kernel_rfl) rfl)
      clear hdep hb
      go_wp2
      exact hK _ _ (ext_alloc _ _) ⟨rfl, row_here0 _ _ _⟩
    · intro b' W hE hb hdep K hK
      have s67 : SL (b'.tmps[67]?.getD undef) 2 #[.int .i64 b.rub.1, .int .i64 b.rub.2, .int .i64 (ruS m).1, .int .i64 (ruS m).2] W := sliceR (hdep 16 67 (by kernel_rfl) rfl)
      have e67 := s67.eq
      have r67 := s67.row
      clear s67
      generalize blk (b'.tmps[67]?.getD undef) = g67 at e67 r67
      clear hdep hb
      go_wp2_with fail
      refine (sc2 1000000 b.rub (ruS m) 100000 24000000 _ _ _ r67 (by omega) (by omega) e1 e2 e3 l1 l2 l3 l4 (by omega) (by omega)).mono ?_
      rintro e W' ⟨rfl, hB⟩
      exact hK _ _ hB rfl
    · intro b' W hE hb hdep K hK
      have e51 : b'.tmps[51]?.getD undef = .agg #[.int .i64 (ad (wa0S b m) b.milk).1, .int .i64 (ad (wa0S b m) b.milk).2] := pureR (hdep 0 51 (by kernel_rfl) rfl)
      have e57 : b'.tmps[57]?.getD undef = .agg #[.int .i64 (faS b m).1, .int .i64 (faS b m).2] := pureR (hdep 6 57 (by kernel_rfl) rfl)
      have e68 : b'.tmps[68]?.getD undef = .agg #[.int .i64 (soS b m).1, .int .i64 (soS b m).2] := pureR (hdep 17 68 (by kernel_rfl) rfl)
      clear hdep hb
      go_wp2
      exact hK _ _ (Ext.refl _) rfl
    intro f W hE hR
    have e51 : f 51 = .agg #[.int .i64 (ad (wa0S b m) b.milk).1, .int .i64 (ad (wa0S b m) b.milk).2] := pureR (hR 0 51 rfl)
    have e52 : f 52 = .pointer (some ⟨w.heap.size, 0, none⟩) := pureR (hR 1 52 rfl)
    have e53 : f 53 = .pointer (some ⟨w.heap.size, 8, none⟩) := pureR (hR 2 53 rfl)
    have e54 : f 54 = .agg #[.int .i64 b.burn.1, .int .i64 b.burn.2] := pureR (hR 3 54 rfl)
    have e55 : f 55 = .agg #[.int .i64 (buS m).1, .int .i64 (buS m).2] := pureR (hR 4 55 rfl)
    have e57 : f 57 = .agg #[.int .i64 (faS b m).1, .int .i64 (faS b m).2] := pureR (hR 6 57 rfl)
    have e58 : f 58 = .pointer (some ⟨w.heap.size, 0, none⟩) := pureR (hR 7 58 rfl)
    have e59 : f 59 = .pointer (some ⟨w.heap.size, 10, none⟩) := pureR (hR 8 59 rfl)
    have e60 : f 60 = .agg #[.int .i64 b.rub.1, .int .i64 b.rub.2] := pureR (hR 9 60 rfl)
    have e61 : f 61 = .pointer (some ⟨w.heap.size + 1, 0, none⟩) := pureR (hR 10 61 rfl)
    have e62 : f 62 = .int .i64 m.hours := pureR (hR 11 62 rfl)
    have e63 : f 63 = .pointer (some ⟨w.heap.size + 1, 1, none⟩) := pureR (hR 12 63 rfl)
    have e64 : f 64 = .int .i64 m.load := pureR (hR 13 64 rfl)
    have e65 : f 65 = .int .i64 (m.hours * m.load) := pureR (hR 14 65 rfl)
    have e66 : f 66 = .agg #[.int .i64 (ruS m).1, .int .i64 (ruS m).2] := pureR (hR 15 66 rfl)
    have e68 : f 68 = .agg #[.int .i64 (soS b m).1, .int .i64 (soS b m).2] := pureR (hR 17 68 rfl)
    have e69 : f 69 = .agg #[.int .i64 (ad (wa0S b m) b.milk).1, .int .i64 (ad (wa0S b m) b.milk).2, .int .i64 (faS b m).1, .int .i64 (faS b m).2, .int .i64 (soS b m).1, .int .i64 (soS b m).2] := pureR (hR 18 69 rfl)
    clear hR
    refine wpL_store_known rfl 110 (.tmp 4) (.tmp 69) rfl (vs := #[.int .i64 (ad (wa0S b m) b.milk).1, .int .i64 (ad (wa0S b m) b.milk).2, .int .i64 (faS b m).1, .int .i64 (faS b m).2, .int .i64 (soS b m).1, .int .i64 (soS b m).2]) (h := w.heap.size + 1 + 1) ((puts_eval (by decide) rfl).trans e69) (puts_other (by decide)) (hE.row ((rowOf_drew _ _).trans rcW5)) (by kernel_rfl) rfl (by simp [one_int, one_bool]) ?_
    intro W9 hS
    simp only [puts, Act.put, List.setIfInBounds_toArray, List.set_cons_succ, List.set_cons_zero, e51, e52, e53, e54, e55, e57, e58, e59, e60, e61, e62, e63, e64, e65, e66, e68, e69]
    have zE := hE.size
    simp only [World.size_alloc, World.size_drew] at zE
    obtain ⟨rhW9, chW9, ghW9, zhW9⟩ := row_facts hS.row
    have hW9 : Below w.heap.size w W9 := ((drew_ext hE).below (by have := hW5.size; go_grown) (by have := hW5.size; simp; try omega)).trans (hS.below _ (by omega))
    have zW9 := hW9.size
    clear hS hE zE
    go_wp2
    exact bodyPost_ret (res110 Try.results64 rfl rhW9 rfl) rfl ⟨by rw [hk]; rfl, hW9⟩
end Go.Proofs.Ytafdcbdbllpcnaa
/- Contracts of package camel's clamped and refilled: what they return, for all spans within bounds. -/
namespace Go.Proofs.Ytafdcbdbllpcnaa
open Go.RowKit
open Go.Proofs

attribute [local go_sem ↓] exec36l exec112l exec36s exec112s exec31s run_min2 run_max2
attribute [local go_sem] load36 load112 store36 store112 store31 build112 rowOf_alloc rowOf_drew setRow_alloc one_int one_bool run_min4

theorem clamped_any (s : Int × Int) (most : Int) (w : World) :
    Calls Try.prog 89 #[.agg #[.int .i64 s.1, .int .i64 s.2], .int .i64 most] w fun e w' => e = .returned (.agg #[.int .i64 (cl most s).1, .int .i64 (cl most s).2]) ∧ Below w.heap.size w w' := by
  go_enter Try.func89, Try.ntmps89
  go_wp2
  go_returns
  exact ⟨rfl, by go_grown⟩
theorem ls_any (s t : Int × Int) (w : World) (h1 : -1000000000000000 ≤ s.1 - t.2) (h2 : s.1 - t.2 ≤ 1000000000000000) (h3 : -1000000000000000 ≤ s.2 - t.1) (h4 : s.2 - t.1 ≤ 1000000000000000) :
    Calls Try.prog 87 #[.agg #[.int .i64 s.1, .int .i64 s.2], .agg #[.int .i64 t.1, .int .i64 t.2]] w fun e w' => e = .returned (.agg #[.int .i64 (ls s t).1, .int .i64 (ls s t).2]) ∧ Below w.heap.size w w' :=
  less_any s.1 s.2 t.1 t.2 w h1 h2 h3 h4

set_option maxHeartbeats 1000000 in
theorem refilled_any (h k g : Int × Int) (most : Int) (w : World) (h1 : 0 ≤ h.1) (h2 : h.1 ≤ 1000000) (h3 : 0 ≤ h.2) (h4 : h.2 ≤ 1000000)
    (k1 : 0 ≤ k.1) (k2 : k.1 ≤ 100000000000000) (k3 : 0 ≤ k.2) (k4 : k.2 ≤ 100000000000000) (g1 : 0 ≤ g.1) (g2 : g.1 ≤ 1000000) (g3 : 0 ≤ g.2) (g4 : g.2 ≤ 1000000) (m1 : 0 ≤ most) (m2 : most ≤ 1000000) :
    Calls Try.prog 88 #[.agg #[.int .i64 h.1, .int .i64 h.2], .agg #[.int .i64 k.1, .int .i64 k.2], .agg #[.int .i64 g.1, .int .i64 g.2], .int .i64 most] w fun e w' => e = .returned (.agg #[.int .i64 (refS most h k g).1, .int .i64 (refS most h k g).2]) ∧ Below w.heap.size w w' := by
  obtain ⟨p1, p2, p3, p4⟩ := cl_bd (most := most) (s := ls h k) m1
  go_enter Try.func88, Try.ntmps88
  go_wp2_with fail
  have hW0 : Below w.heap.size w ((((w.alloc (.cells #[.int .i64 h.1, .int .i64 h.2] 31)).alloc (.cells #[.int .i64 k.1, .int .i64 k.2] 31)).alloc (.cells #[.int .i64 g.1, .int .i64 g.2] 31)).alloc (.cells #[.int .i64 0, .int .i64 0] 31)) := by go_grown
  have raW0 : rowOf ((((w.alloc (.cells #[.int .i64 h.1, .int .i64 h.2] 31)).alloc (.cells #[.int .i64 k.1, .int .i64 k.2] 31)).alloc (.cells #[.int .i64 g.1, .int .i64 g.2] 31)).alloc (.cells #[.int .i64 0, .int .i64 0] 31)) w.heap.size = some #[.int .i64 h.1, .int .i64 h.2] := (by repeat (first | with_reducible assumption | with_reducible apply row_here0 | with_reducible apply row_here1 | with_reducible apply row_here2 | with_reducible apply row_here3 | with_reducible apply rowSkip))
  have rbW0 : rowOf ((((w.alloc (.cells #[.int .i64 h.1, .int .i64 h.2] 31)).alloc (.cells #[.int .i64 k.1, .int .i64 k.2] 31)).alloc (.cells #[.int .i64 g.1, .int .i64 g.2] 31)).alloc (.cells #[.int .i64 0, .int .i64 0] 31)) (w.heap.size + 1) = some #[.int .i64 k.1, .int .i64 k.2] := (by repeat (first | with_reducible assumption | with_reducible apply row_here0 | with_reducible apply row_here1 | with_reducible apply row_here2 | with_reducible apply row_here3 | with_reducible apply rowSkip))
  have rcW0 : rowOf ((((w.alloc (.cells #[.int .i64 h.1, .int .i64 h.2] 31)).alloc (.cells #[.int .i64 k.1, .int .i64 k.2] 31)).alloc (.cells #[.int .i64 g.1, .int .i64 g.2] 31)).alloc (.cells #[.int .i64 0, .int .i64 0] 31)) (w.heap.size + 1 + 1) = some #[.int .i64 g.1, .int .i64 g.2] := (by repeat (first | with_reducible assumption | with_reducible apply row_here0 | with_reducible apply row_here1 | with_reducible apply row_here2 | with_reducible apply row_here3 | with_reducible apply rowSkip))
  have rdW0 : rowOf ((((w.alloc (.cells #[.int .i64 h.1, .int .i64 h.2] 31)).alloc (.cells #[.int .i64 k.1, .int .i64 k.2] 31)).alloc (.cells #[.int .i64 g.1, .int .i64 g.2] 31)).alloc (.cells #[.int .i64 0, .int .i64 0] 31)) (w.heap.size + 1 + 1 + 1) = some #[.int .i64 0, .int .i64 0] := (by repeat (first | with_reducible assumption | with_reducible apply row_here0 | with_reducible apply row_here1 | with_reducible apply row_here2 | with_reducible apply row_here3 | with_reducible apply rowSkip))
  generalize ((((w.alloc (.cells #[.int .i64 h.1, .int .i64 h.2] 31)).alloc (.cells #[.int .i64 k.1, .int .i64 k.2] 31)).alloc (.cells #[.int .i64 g.1, .int .i64 g.2] 31)).alloc (.cells #[.int .i64 0, .int .i64 0] 31)) = W0 at hW0 raW0 rbW0 rcW0 rdW0 ⊢
  refine wp_drawn_list (by kernel_rfl) [9, 10, 11, 12, 13, 14, 15, 16, 17, 18] (by kernel_rfl) rfl (fun ix v W => match ix with
    | 0 => v = .agg #[.int .i64 h.1, .int .i64 h.2]
    | 1 => v = .agg #[.int .i64 k.1, .int .i64 k.2]
    | 2 => v = .agg #[.int .i64 (ls h k).1, .int .i64 (ls h k).2]
    | 3 => v = .int .i64 most
    | 4 => v = .agg #[.int .i64 (cl most (ls h k)).1, .int .i64 (cl most (ls h k)).2]
    | 5 => v = .agg #[.int .i64 g.1, .int .i64 g.2]
    | 6 => SL v 2 #[.int .i64 (cl most (ls h k)).1, .int .i64 (cl most (ls h k)).2, .int .i64 g.1, .int .i64 g.2] W
    | 7 => v = .agg #[.int .i64 (ad (cl most (ls h k)) g).1, .int .i64 (ad (cl most (ls h k)) g).2]
    | 8 => v = .int .i64 most
    | 9 => v = .agg #[.int .i64 (refS most h k g).1, .int .i64 (refS most h k g).2]
    | _ => True) ⟨?_, ?_, ?_, ?_, ?_, ?_, ?_, ?_, ?_, ?_, ?_⟩
  · intro b' W hE hb hdep K hK
    have e4 : b'.tmps[4]?.getD undef = .pointer (some ⟨w.heap.size, 0, none⟩) := hb 4 (by decide)
    clear hdep hb
    obtain ⟨_, _, -, _⟩ := keep_row hE ((raW0 : rowOf _ _ = _))
    obtain ⟨_, _, -, _⟩ := keep_row hE ((rbW0 : rowOf _ _ = _))
    obtain ⟨_, _, -, _⟩ := keep_row hE ((rcW0 : rowOf _ _ = _))
    go_wp2
    exact hK _ _ (Ext.refl _) rfl
  · intro b' W hE hb hdep K hK
    have e5 : b'.tmps[5]?.getD undef = .pointer (some ⟨w.heap.size + 1, 0, none⟩) := hb 5 (by decide)
    clear hdep hb
    obtain ⟨_, _, -, _⟩ := keep_row hE ((raW0 : rowOf _ _ = _))
    obtain ⟨_, _, -, _⟩ := keep_row hE ((rbW0 : rowOf _ _ = _))
    obtain ⟨_, _, -, _⟩ := keep_row hE ((rcW0 : rowOf _ _ = _))
    go_wp2
    exact hK _ _ (Ext.refl _) rfl
  · intro b' W hE hb hdep K hK
    have e9 : b'.tmps[9]?.getD undef = .agg #[.int .i64 h.1, .int .i64 h.2] := pureR (hdep 0 9 (by kernel_rfl) rfl)
    have e10 : b'.tmps[10]?.getD undef = .agg #[.int .i64 k.1, .int .i64 k.2] := pureR (hdep 1 10 (by kernel_rfl) rfl)
    clear hdep hb
    go_wp2_with fail
    refine (ls_any h k _ (by omega) (by omega) (by omega) (by omega)).mono ?_
    rintro e W' ⟨rfl, hB⟩
    exact hK _ _ hB rfl
  · intro b' W hE hb hdep K hK
    have e3 : b'.tmps[3]?.getD undef = .int .i64 most := hb 3 (by decide)
    clear hdep hb
    go_wp2
    exact hK _ _ (Ext.refl _) rfl
  · intro b' W hE hb hdep K hK
    have e11 : b'.tmps[11]?.getD undef = .agg #[.int .i64 (ls h k).1, .int .i64 (ls h k).2] := pureR (hdep 2 11 (by kernel_rfl) rfl)
    have e12 : b'.tmps[12]?.getD undef = .int .i64 most := pureR (hdep 3 12 (by kernel_rfl) rfl)
    clear hdep hb
    go_wp2_with fail
    refine (clamped_any (ls h k) most _).mono ?_
    rintro e W' ⟨rfl, hB⟩
    exact hK _ _ hB rfl
  · intro b' W hE hb hdep K hK
    have e6 : b'.tmps[6]?.getD undef = .pointer (some ⟨w.heap.size + 1 + 1, 0, none⟩) := hb 6 (by decide)
    clear hdep hb
    obtain ⟨_, _, -, _⟩ := keep_row hE ((raW0 : rowOf _ _ = _))
    obtain ⟨_, _, -, _⟩ := keep_row hE ((rbW0 : rowOf _ _ = _))
    obtain ⟨_, _, -, _⟩ := keep_row hE ((rcW0 : rowOf _ _ = _))
    go_wp2
    exact hK _ _ (Ext.refl _) rfl
  · intro b' W hE hb hdep K hK
    have e13 : b'.tmps[13]?.getD undef = .agg #[.int .i64 (cl most (ls h k)).1, .int .i64 (cl most (ls h k)).2] := pureR (hdep 4 13 (by kernel_rfl) rfl)
    have e14 : b'.tmps[14]?.getD undef = .agg #[.int .i64 g.1, .int .i64 g.2] := pureR (hdep 5 14 (by kernel_rfl) rfl)
    clear hdep hb
    go_wp2
    exact hK _ _ (ext_alloc _ _) ⟨rfl, row_here0 _ _ _⟩
  · intro b' W hE hb hdep K hK
    have s15 : SL (b'.tmps[15]?.getD undef) 2 #[.int .i64 (cl most (ls h k)).1, .int .i64 (cl most (ls h k)).2, .int .i64 g.1, .int .i64 g.2] W := sliceR (hdep 6 15 (by kernel_rfl) rfl)
    have e15 := s15.eq
    have r15 := s15.row
    clear s15
    generalize blk (b'.tmps[15]?.getD undef) = g15 at e15 r15
    clear hdep hb
    go_wp2_with fail
    refine (ad2 (cl most (ls h k)) g _ _ _ r15 (by omega) (by omega) (by omega) (by omega) (by omega) (by omega) (by omega) (by omega)).mono ?_
    rintro e W' ⟨rfl, hB⟩
    exact hK _ _ hB rfl
  · intro b' W hE hb hdep K hK
    have e3 : b'.tmps[3]?.getD undef = .int .i64 most := hb 3 (by decide)
    clear hdep hb
    go_wp2
    exact hK _ _ (Ext.refl _) rfl
  · intro b' W hE hb hdep K hK
    have e16 : b'.tmps[16]?.getD undef = .agg #[.int .i64 (ad (cl most (ls h k)) g).1, .int .i64 (ad (cl most (ls h k)) g).2] := pureR (hdep 7 16 (by kernel_rfl) rfl)
    have e17 : b'.tmps[17]?.getD undef = .int .i64 most := pureR (hdep 8 17 (by kernel_rfl) rfl)
    clear hdep hb
    go_wp2_with fail
    refine (clamped_any (ad (cl most (ls h k)) g) most _).mono ?_
    rintro e W' ⟨rfl, hB⟩
    exact hK _ _ hB rfl
  intro f W hE hR
  have e9 : f 9 = .agg #[.int .i64 h.1, .int .i64 h.2] := pureR (hR 0 9 rfl)
  have e10 : f 10 = .agg #[.int .i64 k.1, .int .i64 k.2] := pureR (hR 1 10 rfl)
  have e11 : f 11 = .agg #[.int .i64 (ls h k).1, .int .i64 (ls h k).2] := pureR (hR 2 11 rfl)
  have e12 : f 12 = .int .i64 most := pureR (hR 3 12 rfl)
  have e13 : f 13 = .agg #[.int .i64 (cl most (ls h k)).1, .int .i64 (cl most (ls h k)).2] := pureR (hR 4 13 rfl)
  have e14 : f 14 = .agg #[.int .i64 g.1, .int .i64 g.2] := pureR (hR 5 14 rfl)
  have e16 : f 16 = .agg #[.int .i64 (ad (cl most (ls h k)) g).1, .int .i64 (ad (cl most (ls h k)) g).2] := pureR (hR 7 16 rfl)
  have e17 : f 17 = .int .i64 most := pureR (hR 8 17 rfl)
  have e18 : f 18 = .agg #[.int .i64 (refS most h k g).1, .int .i64 (refS most h k g).2] := pureR (hR 9 18 rfl)
  clear hR
  refine wpL_store_known rfl 31 (.tmp 8) (.tmp 18) rfl (vs := #[.int .i64 (refS most h k g).1, .int .i64 (refS most h k g).2]) (h := w.heap.size + 1 + 1 + 1) ((puts_eval (by decide) rfl).trans e18) (puts_other (by decide)) (hE.row ((rowOf_drew _ _).trans rdW0)) (by kernel_rfl) rfl (by simp [one_int, one_bool]) ?_
  intro W4 hS
  simp only [puts, Act.put, List.setIfInBounds_toArray, List.set_cons_succ, List.set_cons_zero, e9, e10, e11, e12, e13, e14, e16, e17, e18]
  have zE := hE.size
  simp only [World.size_alloc, World.size_drew] at zE
  obtain ⟨rhW4, chW4, ghW4, zhW4⟩ := row_facts hS.row
  have hW4 : Below w.heap.size w W4 := ((drew_ext hE).below (by have := hW0.size; go_grown) (by have := hW0.size; simp; try omega)).trans (hS.below _ (by omega))
  have zW4 := hW4.size
  clear hS hE zE
  go_wp2
  exact bodyPost_ret (res31 Try.results88 rfl rhW4 rfl) rfl ⟨rfl, hW4⟩
end Go.Proofs.Ytafdcbdbllpcnaa
