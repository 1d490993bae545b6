/- The walk of the third property: Heaviest and Thirst agree with the reference's, for every breed, animal, list of days and list of animals. -/
import Derived.Test.YtafdcbdbllpcnaaHerdL
import Derived.Test.YtafdcbdbllpcnaaLeafU
import Derived.Test.YtafdcbdbllpcnaaRefO
import Derived.Test.YtafdcbdbllpcnaaRefL
namespace Go.Proofs.Ytafdcbdbllpcnaa
open Go.RowKit
open Go.Proofs

attribute [local go_sem ↓] exec36l exec112l exec36s exec112s exec31s run_min2 run_max2
attribute [local go_sem] load36 load112 store36 store112 store31 build112 rowOf_alloc rowOf_drew setRow_alloc one_int one_bool run_min4
attribute [local go_sem ↓] exec39s exec39l
attribute [local go_sem] store39 load39

theorem DaysIn.ext {W W' : World} {a : Option Addr} {cap : Nat} {ms : List Mr} (h : DaysIn W a cap ms) (hE : Ext W W') : DaysIn W' a cap ms := h.below hE (Nat.le_refl _) hE.size
theorem info39y : (Try.prog.info? 39).map (fun i => (i.zero, i.size, i.bytes)) = some (some (.agg #[.int .i64 0, .int .i64 0, .int .i64 0, .int .i64 0, .int .i64 0, .int .i64 0, .bool false]), 7, 56) := by kernel_rfl
theorem owns_new39 {w : World} {g base e size : Nat} (hg : w.heap.size = g) (hb : base ≤ g) : (w.alloc (.cells #[] e)).ownsRow base e size (.slice (some ⟨g, 0, none⟩) 0 0) 0 [] := by
  subst hg; exact World.ownsRow_made _ #[] 0 hb (by decide) (by simp)
theorem Thirst_x (b : Br) (a : Option Addr) (cap n : Nat) (cs : List Cm) (t : (Int × Int) × Int) (hn : n = cs.length) (ht : thR b cs = t) (w : World) (h : HerdIn w a cap cs) (hl : cs.length ≤ 100000) :
    Calls Try.prog 18 #[.agg #[.int .i64 b.full, .int .i64 b.fed, .int .i64 b.rest.1, .int .i64 b.rest.2, .int .i64 b.heat.1, .int .i64 b.heat.2, .int .i64 b.toil.1, .int .i64 b.toil.2, .int .i64 b.burn.1, .int .i64 b.burn.2, .int .i64 b.rub.1, .int .i64 b.rub.2, .int .i64 b.milk.1, .int .i64 b.milk.2, .int .i64 b.heal, .int .i64 b.strong.1, .int .i64 b.strong.2], .slice a n cap] w fun e w' => e = .returned (.tuple #[.agg #[.int .i64 t.1.1, .int .i64 t.1.2], .int .i64 t.2]) ∧ Below w.heap.size w w' := by
  subst hn ht; exact Thirst_any b a cap cs w h hl
theorem rThirst_x (b : Br) (a : Option Addr) (cap n : Nat) (cs : List Cm) (t : (Int × Int) × Int) (hn : n = cs.length) (ht : thR b cs = t) (w : World) (h : HerdIn w a cap cs) (hl : cs.length ≤ 100000) :
    Calls Try.prog 41 #[.agg #[.int .i64 b.full, .int .i64 b.fed, .int .i64 b.rest.1, .int .i64 b.rest.2, .int .i64 b.heat.1, .int .i64 b.heat.2, .int .i64 b.toil.1, .int .i64 b.toil.2, .int .i64 b.burn.1, .int .i64 b.burn.2, .int .i64 b.rub.1, .int .i64 b.rub.2, .int .i64 b.milk.1, .int .i64 b.milk.2, .int .i64 b.heal, .int .i64 b.strong.1, .int .i64 b.strong.2], .slice a n cap] w fun e w' => e = .returned (.tuple #[.agg #[.int .i64 t.1.1, .int .i64 t.1.2], .int .i64 t.2]) ∧ Below w.heap.size w w' := by
  subst hn ht; exact rThirst_any b a cap cs w h hl

set_option maxRecDepth 100000 in
set_option maxHeartbeats 8000000 in
theorem camelLoads_walk (b : Br) (c : Cm) (a : Option Addr) (cap n : Nat) (ms : List Mr) (ha : Option Addr) (hcap m : Nat) (cs : List Cm) (w : World) (hn : n = ms.length) (hm : m = cs.length) (h : DaysIn w a cap ms) (hh : HerdIn w ha hcap cs) :
    Calls Try.prog 6 #[.agg #[.int .i64 b.full, .int .i64 b.fed, .int .i64 b.rest.1, .int .i64 b.rest.2, .int .i64 b.heat.1, .int .i64 b.heat.2, .int .i64 b.toil.1, .int .i64 b.toil.2, .int .i64 b.burn.1, .int .i64 b.burn.2, .int .i64 b.rub.1, .int .i64 b.rub.2, .int .i64 b.milk.1, .int .i64 b.milk.2, .int .i64 b.heal, .int .i64 b.strong.1, .int .i64 b.strong.2], .agg #[.int .i64 c.water.1, .int .i64 c.water.2, .int .i64 c.fat.1, .int .i64 c.fat.2, .int .i64 c.sore.1, .int .i64 c.sore.2, .bool c.milks], .slice a n cap, .slice ha m hcap] w fun e w' => e = .returned (.bool true) ∧ Below w.heap.size w w' := by
  have HN := Lib.hid hn
  have HM := Lib.hid hm
  have H0 := Lib.hid h
  have H1 := Lib.hid hh
  by_cases h100 : n ≤ 100
  · by_cases h50 : m ≤ 50
    · obtain ⟨r, hr⟩ : ∃ r, heaS b c ms (chkT b c ms) = r := ⟨_, rfl⟩
      obtain ⟨t, ht⟩ : ∃ t, thR b cs = t := ⟨_, rfl⟩
      have Hr := Lib.hid hr
      have Ht := Lib.hid ht
      have hl : ms.length ≤ 100000 := by omega
      have hcl : cs.length ≤ 100000 := by omega
      have hn100 : (n : Int) ≤ 100 := by omega
      have hm50 : (m : Int) ≤ 50 := by omega
      obtain ⟨i0, hi0, hz0, hz1, hz2⟩ := info_parts info39y
      clear hr ht hn hm h hh
      go_enter Try.func6, Try.ntmps6
      go_wp2_with (first
        | (at_builtin; refine wpList_clone rfl _ _ 41 rfl (w.heap.size + 1 + 1) 39 i0 (.agg #[.int .i64 0, .int .i64 0, .int .i64 0, .int .i64 0, .int .i64 0, .int .i64 0, .bool false]) 7 56 Try.underlying41 hi0 hz0 hz1 hz2 rfl (by decide) (w.heap.size + 1 + 1) 0 rfl ?own ha m hcap (cs.flatMap camCells) rfl ?len ?src cam_one (by unfold maxLen; omega) (by omega) (by simp) ?_)
        | fail)
      case own => exact owns_new39 (by simp) (Nat.le_refl _)
      case len => rw [flat_len camCells 7 cam_len, HM.out]
      case src => exact herd_src HM.out H1.out (by go_grown)
      intro g cp w1 hown1 hgrow1
      have raWA' := row_grownO (g := w.heap.size) (by repeat (first | with_reducible apply row_here0 | with_reducible apply row_here1 | with_reducible apply row_here2 | with_reducible apply rowSkip)) hgrow1 (fun i e => by cases e; omega)
      have rbWA' := row_grownO (g := w.heap.size + 1) (by repeat (first | with_reducible apply row_here0 | with_reducible apply row_here1 | with_reducible apply row_here2 | with_reducible apply rowSkip)) hgrow1 (fun i e => by cases e; omega)
      have hWA : Below w.heap.size w w1 := Below.grown (by go_grown) hgrow1 (by simp; omega) (fun i e => by cases e; omega)
      obtain ⟨hO1, hO2⟩ := herd_own HM.out hown1
      have zWA := hWA.size
      have ohWA := Lib.hid hO1
      have llWA := Lib.hid (H0.out.below hWA (Nat.le_refl _) zWA)
      have lhWA := Lib.hid (H1.out.ext hWA)
      clear hown1 hgrow1 hi0 hz0 hz1 hz2 hO1
      generalize w1 = WA at *
      obtain ⟨raWA, caWA, gaWA, zaWA⟩ := row_facts raWA'
      clear raWA'
      obtain ⟨rbWA, cbWA, gbWA, zbWA⟩ := row_facts rbWA'
      clear rbWA'
      go_wp2_with fail
      refine (Heaviest_any b c a cap n ms r Hr.out _ HN.out llWA.out hl).mono ?_
      rintro e W2 ⟨rfl, hB⟩
      have xW2 : Ext WA W2 := Below.trans (by go_grown) (hB.mono (by simp; try omega))
      have ohW2 := Lib.hid (ohWA.out.ext xW2)
      have llW2 := Lib.hid (llWA.out.ext xW2)
      have lhW2 := Lib.hid (lhWA.out.ext xW2)
      have hW2 : Below w.heap.size w W2 := hWA.trans (Below.trans (by have := hWA.size; go_grown) (hB.mono (by have := hWA.size; simp; try omega)))
      have zW2 := hW2.size
      obtain ⟨raW2, caW2, gaW2, zaW2⟩ := keep_row hB (g := w.heap.size) (by repeat (first | with_reducible assumption | with_reducible apply row_here0 | with_reducible apply row_here1 | with_reducible apply row_here2 | with_reducible apply row_here3 | with_reducible apply rowSkip))
      obtain ⟨rbW2, cbW2, gbW2, zbW2⟩ := keep_row hB (g := w.heap.size + 1) (by repeat (first | with_reducible assumption | with_reducible apply row_here0 | with_reducible apply row_here1 | with_reducible apply row_here2 | with_reducible apply row_here3 | with_reducible apply rowSkip))
      clear hB
      clear raWA caWA gaWA rbWA cbWA gbWA
      go_wp2_with fail
      refine (rHeaviest_any b c a cap n ms r Hr.out _ HN.out llW2.out hl).mono ?_
      rintro e W3 ⟨rfl, hB⟩
      have xW3 : Ext W2 W3 := Below.trans (by go_grown) (hB.mono (by simp; try omega))
      have ohW3 := Lib.hid (ohW2.out.ext xW3)
      have llW3 := Lib.hid (llW2.out.ext xW3)
      have lhW3 := Lib.hid (lhW2.out.ext xW3)
      have hW3 : Below w.heap.size w W3 := hW2.trans (Below.trans (by have := hW2.size; go_grown) (hB.mono (by have := hW2.size; simp; try omega)))
      have zW3 := hW3.size
      obtain ⟨raW3, caW3, gaW3, zaW3⟩ := keep_row hB (g := w.heap.size) (by repeat (first | with_reducible assumption | with_reducible apply row_here0 | with_reducible apply row_here1 | with_reducible apply row_here2 | with_reducible apply row_here3 | with_reducible apply rowSkip))
      obtain ⟨rbW3, cbW3, gbW3, zbW3⟩ := keep_row hB (g := w.heap.size + 1) (by repeat (first | with_reducible assumption | with_reducible apply row_here0 | with_reducible apply row_here1 | with_reducible apply row_here2 | with_reducible apply row_here3 | with_reducible apply rowSkip))
      clear hB
      clear raW2 caW2 gaW2 rbW2 cbW2 gbW2
      go_wp2_with fail
      refine (Thirst_x b (some ⟨g, 0, none⟩) cp m cs t HM.out Ht.out _ ohW3.out hcl).mono ?_
      rintro e W4 ⟨rfl, hB⟩
      have xW4 : Ext W3 W4 := Below.trans (by go_grown) (hB.mono (by simp; try omega))
      have ohW4 := Lib.hid (ohW3.out.ext xW4)
      have llW4 := Lib.hid (llW3.out.ext xW4)
      have lhW4 := Lib.hid (lhW3.out.ext xW4)
      have hW4 : Below w.heap.size w W4 := hW3.trans (Below.trans (by have := hW3.size; go_grown) (hB.mono (by have := hW3.size; simp; try omega)))
      have zW4 := hW4.size
      obtain ⟨raW4, caW4, gaW4, zaW4⟩ := keep_row hB (g := w.heap.size) (by repeat (first | with_reducible assumption | with_reducible apply row_here0 | with_reducible apply row_here1 | with_reducible apply row_here2 | with_reducible apply row_here3 | with_reducible apply rowSkip))
      obtain ⟨rbW4, cbW4, gbW4, zbW4⟩ := keep_row hB (g := w.heap.size + 1) (by repeat (first | with_reducible assumption | with_reducible apply row_here0 | with_reducible apply row_here1 | with_reducible apply row_here2 | with_reducible apply row_here3 | with_reducible apply rowSkip))
      clear hB
      clear raW3 caW3 gaW3 rbW3 cbW3 gbW3
      go_wp2_with fail
      refine (rThirst_x b ha hcap m cs t HM.out Ht.out _ (lhW4.out.ext (ext_alloc _ _)) hcl).mono ?_
      rintro e W5 ⟨rfl, hB⟩
      have xW5 : Ext W4 W5 := Below.trans (by go_grown) (hB.mono (by simp; try omega))
      have ohW5 := Lib.hid (ohW4.out.ext xW5)
      have llW5 := Lib.hid (llW4.out.ext xW5)
      have lhW5 := Lib.hid (lhW4.out.ext xW5)
      have hW5 : Below w.heap.size w W5 := hW4.trans (Below.trans (by have := hW4.size; go_grown) (hB.mono (by have := hW4.size; simp; try omega)))
      have zW5 := hW5.size
      obtain ⟨raW5, caW5, gaW5, zaW5⟩ := keep_row hB (g := w.heap.size) (by repeat (first | with_reducible assumption | with_reducible apply row_here0 | with_reducible apply row_here1 | with_reducible apply row_here2 | with_reducible apply row_here3 | with_reducible apply rowSkip))
      obtain ⟨rbW5, cbW5, gbW5, zbW5⟩ := keep_row hB (g := w.heap.size + 1) (by repeat (first | with_reducible assumption | with_reducible apply row_here0 | with_reducible apply row_here1 | with_reducible apply row_here2 | with_reducible apply row_here3 | with_reducible apply rowSkip))
      obtain ⟨rpW5, cpW5, gpW5, zpW5⟩ := keep_row hB (g := W4.heap.size) (by repeat (first | with_reducible assumption | with_reducible apply row_here0 | with_reducible apply row_here1 | with_reducible apply row_here2 | with_reducible apply row_here3 | with_reducible apply rowSkip))
      clear hB
      clear raW4 caW4 gaW4 rbW4 cbW4 gbW4
      go_wp2_with fail
      have hE6 : Ext W5 (W5.alloc (.cells #[.int .i64 t.1.1, .int .i64 t.1.2] 31)) := ext_alloc _ _
      refine (same_herd HM.out (ohW5.out.ext hE6) (lhW5.out.ext hE6) hcl).mono ?_
      rintro e W9 ⟨rfl, hB⟩
      have hW9 : Below w.heap.size w W9 := (hW5.alloc zW5 _).trans (hB.mono (by simp; omega))
      clear hB hE6
      go_wp2
      go_returns
      exact ⟨rfl, hW9⟩
    · have hm50 : ¬ (m : Int) ≤ 50 := by omega
      have hm51 : (50 : Int) < (m : Int) := by omega
      have hn100 : (n : Int) ≤ 100 := by omega
      clear h100 h50 h hh hn hm
      go_enter Try.func6, Try.ntmps6
      go_wp2
      go_returns
      exact ⟨rfl, by go_grown⟩
  · have hn100 : ¬ (n : Int) ≤ 100 := by omega
    have hn101 : (100 : Int) < (n : Int) := by omega
    clear h100 h hh hn hm
    go_enter Try.func6, Try.ntmps6
    go_wp2
    go_returns
    exact ⟨rfl, by go_grown⟩
end Go.Proofs.Ytafdcbdbllpcnaa
