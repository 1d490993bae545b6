/- The walk of the law of wells: water and work agree with the reference's, for every land and all draws. -/
import Derived.Test.YtkodjegpdkfjkaaWaD
import Derived.Test.YtkodjegpdkfjkaaWaE
import Derived.Test.YtkodjegpdkfjkaaWaF
import Derived.Test.YtkodjegpdkfjkaaCpy
set_option linter.unusedVariables false
set_option linter.unusedSimpArgs false
namespace Go.Proofs.Ytkodjegpdkfjkaa
open Go.RowKit
open Go.Proofs

set_option maxRecDepth 100000 in
set_option maxHeartbeats 8000000 in
theorem wayWells_walk (a1 a2 a : Option Addr) (cap1 cap2 cap n1 n2 n : Nat) (ws : List Wl) (ls : List Lg) (ds : List Dr) (well day water teams : Int) (w : World) (hn1 : n1 = ws.length) (hn2 : n2 = ls.length) (hn : n = ds.length) (h : LandIn w.heap.size w a1 a2 ws ls) (hd : DrawsIn w a ds) (ha : a = none → n = 0 ∧ cap = 0) :
    Calls Try.prog 7 #[.agg #[.slice a1 n1 cap1, .slice a2 n2 cap2], .int .i64 well, .slice a n cap, .int .i64 day, .int .i64 water, .int .i64 teams] w fun e w' => e = .returned (.bool true) ∧ Below w.heap.size w w' := by
  have HN1 := Lib.hid hn1
  have HN2 := Lib.hid hn2
  have HN := Lib.hid hn
  have HL := Lib.hid h
  have H0 := Lib.hid hd
  have HA := Lib.hid ha
  clear hn1 hn2 hn h hd ha
  cases hg : greatL n1 n2 ls with
  | true =>
    have HG := Lib.hid hg
    clear hg
    go_enter Try.func7, Try.ntmps7
    go_wp2_with fail
    refine (Great_x a1 a2 cap1 cap2 n1 n2 ws ls true _ HN2.out (HL.out.at_ (by go_grown)) HG.out).mono ?_
    rintro e W1 ⟨rfl, hB⟩
    have hW1 : Below w.heap.size w W1 := Below.trans (by go_grown) (hB.mono (by simp; try omega))
    have zW1 := hW1.size
    clear hB
    go_wp2
    go_returns
    exact ⟨rfl, hW1⟩
  | false =>
    have HG := Lib.hid hg
    clear hg
    by_cases h250 : n ≤ 250
    · obtain ⟨R, hR⟩ : ∃ r, watR ws ls well day ds = r := ⟨_, rfl⟩
      obtain ⟨c, hc⟩ : ∃ r, chkH ws ls well water teams = r := ⟨_, rfl⟩
      obtain ⟨q, hq⟩ : ∃ r, hrs ws ls well water teams = r := ⟨_, rfl⟩
      have HR := Lib.hid hR
      have HC := Lib.hid hc
      have HQ := Lib.hid hq
      have h250i : (n : Int) ≤ 250 := by omega
      obtain ⟨i0, hi0, hz0, hz1, hz2⟩ := info_parts info54y
      clear hR hc hq
      go_enter Try.func7, Try.ntmps7
      go_wp2_with fail
      refine (Great_x a1 a2 cap1 cap2 n1 n2 ws ls false _ HN2.out (HL.out.at_ (by go_grown)) HG.out).mono ?_
      rintro e W1 ⟨rfl, hB⟩
      have hW1 : Below w.heap.size w W1 := Below.trans (by go_grown) (hB.mono (by simp; try omega))
      have zW1 := hW1.size
      obtain ⟨rsW1, csW1, gsW1, zsW1⟩ := keep_row hB (g := w.heap.size) (by repeat (first | with_reducible assumption | with_reducible apply row_here0 | with_reducible apply row_here1 | with_reducible apply row_here2 | with_reducible apply row_here3 | with_reducible apply rowSkip))
      clear hB
      go_wp2_with (first
        | (at_builtin; refine wpList_clone rfl _ _ 55 rfl W1.heap.size 54 i0 (.agg #[.int .i64 0, .int .i64 0, .int .i64 0]) 3 24 Try.underlying55 hi0 hz0 hz1 hz2 rfl (by decide) W1.heap.size 0 rfl ?own a n cap (ds.flatMap drCells) rfl ?len ?src dr_one (by unfold maxLen; omega) (by omega) (by simp) ?_)
        | fail)
      case own => exact owns_newD rfl (Nat.le_refl _)
      case len => rw [flat_len drCells 3 dr_len, HN.out]
      case src => exact draws_src HN.out H0.out HA.out (by go_grown)
      intro g cp w1 hown1 hgrow1
      have rsWA' := row_grownO (g := w.heap.size) (rowSkip rsW1) hgrow1 (fun i e => by cases e; omega)
      have hWA : Below w.heap.size w w1 := Below.grown (hW1.alloc zW1 _) hgrow1 (by simp; omega) (fun i e => by cases e; omega)
      obtain ⟨hO1, hO2⟩ := draws_own HN.out hown1
      have zWA := hWA.size
      have ohWA := Lib.hid hO1
      have lhWA := Lib.hid (H0.out.at_ hWA)
      clear hown1 hgrow1 hi0 hz0 hz1 hz2 hO1 rsW1 csW1 gsW1 zsW1
      generalize w1 = WA at *
      obtain ⟨rsWA, csWA, gsWA, zsWA⟩ := row_facts rsWA'
      clear rsWA'
      go_wp2_with fail
      refine (Water_x a1 a2 (some ⟨g, 0, none⟩) cap1 cap2 cp n1 n2 n ws ls ds well day R _ HN1.out HN2.out HN.out (HL.out.at_ hWA) ohWA.out HR.out).mono ?_
      rintro e W2 ⟨rfl, hB⟩
      have xW2 : Ext WA W2 := Below.trans (by go_grown) (hB.mono (by simp; try omega))
      have ohW2 := Lib.hid (ohWA.out.ext xW2)
      have lhW2 := Lib.hid (lhWA.out.ext xW2)
      have hW2 : Below w.heap.size w W2 := hWA.trans (Below.trans (by have := hWA.size; go_grown) (hB.mono (by have := hWA.size; simp; try omega)))
      have zW2 := hW2.size
      obtain ⟨rsW2, csW2, gsW2, zsW2⟩ := keep_row hB (g := w.heap.size) (by repeat (first | with_reducible assumption | with_reducible apply row_here0 | with_reducible apply row_here1 | with_reducible apply row_here2 | with_reducible apply row_here3 | with_reducible apply rowSkip))
      clear hB
      clear rsWA csWA gsWA
      go_wp2_with fail
      refine (rWater_x a1 a2 a cap1 cap2 cap n1 n2 n ws ls ds well day R _ HN1.out HN2.out HN.out (HL.out.at_ (hW2.alloc zW2 _)) (lhW2.out.ext (ext_alloc _ _)) HR.out).mono ?_
      rintro e W3 ⟨rfl, hB⟩
      have xW3 : Ext W2 W3 := Below.trans (by go_grown) (hB.mono (by simp; try omega))
      have ohW3 := Lib.hid (ohW2.out.ext xW3)
      have lhW3 := Lib.hid (lhW2.out.ext xW3)
      have hW3 : Below w.heap.size w W3 := hW2.trans (Below.trans (by have := hW2.size; go_grown) (hB.mono (by have := hW2.size; simp; try omega)))
      have zW3 := hW3.size
      obtain ⟨rsW3, csW3, gsW3, zsW3⟩ := keep_row hB (g := w.heap.size) (by repeat (first | with_reducible assumption | with_reducible apply row_here0 | with_reducible apply row_here1 | with_reducible apply row_here2 | with_reducible apply row_here3 | with_reducible apply rowSkip))
      obtain ⟨rpW3, cpW3, gpW3, zpW3⟩ := keep_row hB (g := W2.heap.size) (by repeat (first | with_reducible assumption | with_reducible apply row_here0 | with_reducible apply row_here1 | with_reducible apply row_here2 | with_reducible apply row_here3 | with_reducible apply rowSkip))
      clear hB
      clear rsW2 csW2 gsW2
      go_wp2_with fail
      refine (Work_x a1 a2 cap1 cap2 n1 n2 ws ls well water teams q c _ HN1.out HN2.out (HL.out.at_ (hW3.alloc zW3 _)) HC.out HQ.out).mono ?_
      rintro e W4 ⟨rfl, hB⟩
      have xW4 : Ext W3 W4 := Below.trans (by go_grown) (hB.mono (by simp; try omega))
      have ohW4 := Lib.hid (ohW3.out.ext xW4)
      have lhW4 := Lib.hid (lhW3.out.ext xW4)
      have hW4 : Below w.heap.size w W4 := hW3.trans (Below.trans (by have := hW3.size; go_grown) (hB.mono (by have := hW3.size; simp; try omega)))
      have zW4 := hW4.size
      obtain ⟨rsW4, csW4, gsW4, zsW4⟩ := keep_row hB (g := w.heap.size) (by repeat (first | with_reducible assumption | with_reducible apply row_here0 | with_reducible apply row_here1 | with_reducible apply row_here2 | with_reducible apply row_here3 | with_reducible apply rowSkip))
      obtain ⟨rpW4, cpW4, gpW4, zpW4⟩ := keep_row hB (g := W2.heap.size) (by repeat (first | with_reducible assumption | with_reducible apply row_here0 | with_reducible apply row_here1 | with_reducible apply row_here2 | with_reducible apply row_here3 | with_reducible apply rowSkip))
      obtain ⟨rqW4, cqW4, gqW4, zqW4⟩ := keep_row hB (g := W3.heap.size) (by repeat (first | with_reducible assumption | with_reducible apply row_here0 | with_reducible apply row_here1 | with_reducible apply row_here2 | with_reducible apply row_here3 | with_reducible apply rowSkip))
      clear hB
      clear rsW3 csW3 gsW3 rpW3 cpW3 gpW3
      go_wp2_with fail
      refine (rWork_x a1 a2 cap1 cap2 n1 n2 ws ls well water teams q c _ HN1.out HN2.out (HL.out.at_ hW4) HC.out HQ.out).mono ?_
      rintro e W5 ⟨rfl, hB⟩
      have xW5 : Ext W4 W5 := Below.trans (by go_grown) (hB.mono (by simp; try omega))
      have ohW5 := Lib.hid (ohW4.out.ext xW5)
      have lhW5 := Lib.hid (lhW4.out.ext xW5)
      have hW5 : Below w.heap.size w W5 := hW4.trans (Below.trans (by have := hW4.size; go_grown) (hB.mono (by have := hW4.size; simp; try omega)))
      have zW5 := hW5.size
      obtain ⟨rsW5, csW5, gsW5, zsW5⟩ := keep_row hB (g := w.heap.size) (by repeat (first | with_reducible assumption | with_reducible apply row_here0 | with_reducible apply row_here1 | with_reducible apply row_here2 | with_reducible apply row_here3 | with_reducible apply rowSkip))
      obtain ⟨rpW5, cpW5, gpW5, zpW5⟩ := keep_row hB (g := W2.heap.size) (by repeat (first | with_reducible assumption | with_reducible apply row_here0 | with_reducible apply row_here1 | with_reducible apply row_here2 | with_reducible apply row_here3 | with_reducible apply rowSkip))
      obtain ⟨rqW5, cqW5, gqW5, zqW5⟩ := keep_row hB (g := W3.heap.size) (by repeat (first | with_reducible assumption | with_reducible apply row_here0 | with_reducible apply row_here1 | with_reducible apply row_here2 | with_reducible apply row_here3 | with_reducible apply rowSkip))
      clear hB
      clear rsW4 csW4 gsW4 rpW4 cpW4 gpW4 rqW4 cqW4 gqW4
      go_wp2_with fail
      go_loopw [24, 71] (fun _ i wr => ∃ k : Nat, k ≤ n ∧ i = .int .i64 (k : Int) ∧ Hid (Ext W5 wr)) (fun _ i _ => n - (intOf i).toNat)
      case atStart => exact ⟨0, Nat.zero_le _, rfl, Ext.refl _⟩
      case round =>
        obtain ⟨k, hk, rfl, hE8⟩ := hrel
        by_cases hlt : k < n
        · have hlm : k < ds.length := by have := HN.out; omega
          obtain ⟨p1, o1, e1, m1, l1⟩ := (ohW5.out.ext hE8.out).get hlm
          obtain ⟨p2, o2, rfl, m2, l2⟩ := (lhW5.out.ext hE8.out).get hlm
          cases e1
          rw [Nat.zero_add] at m1
          generalize ds[k] = md at m1 m2
          obtain ⟨c0, c1, c2⟩ := m1
          obtain ⟨d0, d1, d2⟩ := m2
          have hlt' : (k : Int) < (n : Int) := by omega
          go_wp2_with fail
          go_quiet (fail)
          go_wp2
          exact ⟨⟨k + 1, by omega, by go_num, below_drewN hE8.out _⟩, by simp [intOf]; omega⟩
        · obtain rfl : k = n := by omega
          obtain ⟨rp, cp8, gp8, zp8⟩ := keep_row hE8.out rpW5
          obtain ⟨rq, cq8, gq8, zq8⟩ := keep_row hE8.out rqW5
          have hWR := Lib.hid (hW5.trans (Below.mono hE8.out zW5))
          go_wp2
          go_returns
          exact ⟨rfl, hWR.out⟩
    · have h250i : ¬ (n : Int) ≤ 250 := by omega
      have h251 : (250 : Int) < (n : Int) := by omega
      go_enter Try.func7, Try.ntmps7
      go_wp2_with fail
      refine (Great_x a1 a2 cap1 cap2 n1 n2 ws ls false _ HN2.out (HL.out.at_ (by go_grown)) HG.out).mono ?_
      rintro e W1 ⟨rfl, hB⟩
      have hW1 : Below w.heap.size w W1 := Below.trans (by go_grown) (hB.mono (by simp; try omega))
      have zW1 := hW1.size
      clear hB
      go_wp2
      go_returns
      exact ⟨rfl, hW1⟩
end Go.Proofs.Ytkodjegpdkfjkaa
