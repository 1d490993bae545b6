/- Contract of the reference's check of a land. -/
import Derived.Test.YtkodjegpdkfjkaaWlC
set_option linter.unusedVariables false
set_option linter.unusedSimpArgs false
namespace Go.Proofs.Ytkodjegpdkfjkaa
open Go.RowKit
open Go.Proofs

def okLgA (n : Int) (x : Lg) : Bool := okN x.src 0 (n - 1) && (okN x.dst 0 (n - 1) && (decide (x.src ≠ x.dst) && (okSp x.long 1 1000000 && decide (x.gates.length ≤ 6))))
theorem okLg_parts (n : Int) (x : Lg) : okLg n x = (okLgA n x && okGts (-1) x.gates) := by simp [okLg, okLgB, okLgA, Bool.and_assoc]

set_option maxRecDepth 100000 in
set_option maxHeartbeats 16000000 in
theorem rLand_x (a1 a2 : Option Addr) (cap1 cap2 n1 n2 : Nat) (ws : List Wl) (ls : List Lg) (x : Bool) (w : World) (hn1 : n1 = ws.length) (hn2 : n2 = ls.length) (h : LandIn w.heap.size w a1 a2 ws ls) (hx : okLand ws ls = x) :
    Calls Try.prog 83 #[.agg #[.slice a1 n1 cap1, .slice a2 n2 cap2]] w fun e w' => e = .returned (.bool x) ∧ Below w.heap.size w w' := by
  have HN1 := Lib.hid hn1
  have HN2 := Lib.hid hn2
  have HL := Lib.hid h
  rw [okLand_parts, ← hn1, ← hn2] at hx
  have HX := Lib.hid hx
  cases h12 : okN (n1 : Int) 1 12 with
  | false =>
    rw [h12] at hx
    simp only [Bool.false_and] at hx
    subst hx
    have H := Lib.hid h12
    clear hn1 hn2 h h12 HX HN1 HN2 HL
    go_enter Try.func83, Try.ntmps83
    go_wp2_with fail
    refine (within_x _ _ _ false H.out _).mono ?_
    rintro e W1 ⟨rfl, hB⟩
    have hW1 : Below w.heap.size w W1 := Below.trans (by go_grown) (hB.mono (by simp; try omega))
    have zW1 := hW1.size
    obtain ⟨rsW1, csW1, gsW1, zsW1⟩ := keep_row hB (g := w.heap.size) (by repeat (first | with_reducible assumption | with_reducible apply row_here0 | with_reducible apply row_here1 | with_reducible apply row_here2 | with_reducible apply row_here3 | with_reducible apply rowSkip))
    clear hB
    go_wp2
    go_returns
    exact ⟨rfl, hW1⟩
  | true =>
    rw [h12] at hx
    simp only [Bool.true_and] at hx
    have H := Lib.hid h12
    have hb12 := h12
    simp only [okN, Bool.and_eq_true, decide_eq_true_eq] at hb12
    obtain ⟨b1, b2⟩ := hb12
    by_cases h24 : n2 ≤ 24
    · have hx2 := Lib.hid (show (ws.all okWl && ls.all (okLg n1)) = x by rw [← hx]; simp [h24])
      have h24' : (n2 : Int) ≤ 24 := by omega
      clear hn1 hn2 h h12 hx HX
      go_enter Try.func83, Try.ntmps83
      go_wp2_with fail
      refine (within_x _ _ _ true H.out _).mono ?_
      rintro e W1 ⟨rfl, hB⟩
      have hW1 : Below w.heap.size w W1 := Below.trans (by go_grown) (hB.mono (by simp; try omega))
      have zW1 := hW1.size
      obtain ⟨rsW1, csW1, gsW1, zsW1⟩ := keep_row hB (g := w.heap.size) (by repeat (first | with_reducible assumption | with_reducible apply row_here0 | with_reducible apply row_here1 | with_reducible apply row_here2 | with_reducible apply row_here3 | with_reducible apply rowSkip))
      clear hB
      go_wp2_with fail
      go_loopw [3] (fun i wr => ∃ k : Nat, k ≤ n1 ∧ i = .int .i64 (k : Int) ∧ Hid (AllTo okWl ws k) ∧ Hid (rowOf wr w.heap.size = some #[.slice a1 n1 cap1, .slice a2 n2 cap2]) ∧ Below w.heap.size w wr) (fun i _ => n1 - (intOf i).toNat)
      case atStart => exact ⟨0, Nat.zero_le _, rfl, AllTo.zero _ _, rsW1, hW1⟩
      case round =>
        clear rsW1 csW1 gsW1 zsW1 hW1 zW1
        obtain ⟨k, hk, rfl, hA, hr, hB0⟩ := hrel
        have hz := hB0.size
        obtain ⟨rs, cs, gs, zs⟩ := row_facts hr.out
        by_cases hlt : k < n1
        · have hkg : k < ws.length := by have := HN1.out; omega
          obtain ⟨g, off, rfl, hg, hgb⟩ := HL.out.wells.get hkg
          obtain ⟨c0, c1, c2, c3, c4, c5, c6, c7, c8⟩ := hg.below hB0 _ _ _ hgb
          obtain ⟨v, hv⟩ : ∃ v, ws[k] = v := ⟨_, rfl⟩
          rw [hv] at c0 c1 c2 c3 c4 c5 c6 c7 c8
          have HV := Lib.hid hv
          have hlt' : (k : Int) < (n1 : Int) := by omega
          clear hg hv hr
          go_upto_region 7 with fail
          have rx0 : rowOf (wr.alloc (.cells #[.int .i64 v.x, .int .i64 v.y, .int .i64 v.depth, .int .i64 v.yield.1, .int .i64 v.yield.2, .int .i64 v.room, .int .i64 v.has.1, .int .i64 v.has.2, .int .i64 v.owner] 111)) wr.heap.size = some #[.int .i64 v.x, .int .i64 v.y, .int .i64 v.depth, .int .i64 v.yield.1, .int .i64 v.yield.2, .int .i64 v.room, .int .i64 v.has.1, .int .i64 v.has.2, .int .i64 v.owner] := row_here0 _ _ _
          have rs0 : rowOf (wr.alloc (.cells #[.int .i64 v.x, .int .i64 v.y, .int .i64 v.depth, .int .i64 v.yield.1, .int .i64 v.yield.2, .int .i64 v.room, .int .i64 v.has.1, .int .i64 v.has.2, .int .i64 v.owner] 111)) w.heap.size = some #[.slice (some ⟨g, off, none⟩) n1 cap1, .slice a2 n2 cap2] := rowSkip rs
          have hX := hB0.trans (Below.mono (ext_alloc wr (.cells #[.int .i64 v.x, .int .i64 v.y, .int .i64 v.depth, .int .i64 v.yield.1, .int .i64 v.yield.2, .int .i64 v.room, .int .i64 v.has.1, .int .i64 v.has.2, .int .i64 v.owner] 111)) hz)
          clear c0 c1 c2 c3 c4 c5 c6 c7 c8 rs cs gs zs
          generalize wr.heap.size = gx at *
          generalize (wr.alloc (.cells #[.int .i64 v.x, .int .i64 v.y, .int .i64 v.depth, .int .i64 v.yield.1, .int .i64 v.yield.2, .int .i64 v.room, .int .i64 v.has.1, .int .i64 v.has.2, .int .i64 v.owner] 111)) = X at *
          obtain ⟨_, cx, fx, zx⟩ := row_facts rx0
          go_cut [74] (fun c wx => c = .bool (!okWl v) ∧ Ext X wx)
          case first =>
            have hw : Ext X X := Below.refl _ _
            go_wp2_with (first | (go_at_call 79; refine (within_any _ _ _ _).mono ?_; rintro e W ⟨rfl, hB⟩; obtain ⟨r1, c1, -, s1⟩ := keep_row hB (g := gx) (by repeat (first | with_reducible assumption | with_reducible apply row_here0 | with_reducible apply row_here1 | with_reducible apply row_here2 | with_reducible apply row_here3 | with_reducible apply rowSkip)); have hw : Ext X W := Below.trans hw (Below.mono hB (Below.size hw)); clear hB) | (go_at_call 103; refine (spanned_any _ _ _ _).mono ?_; rintro e W ⟨rfl, hB⟩; obtain ⟨r1, c1, -, s1⟩ := keep_row hB (g := gx) (by repeat (first | with_reducible assumption | with_reducible apply row_here0 | with_reducible apply row_here1 | with_reducible apply row_here2 | with_reducible apply row_here3 | with_reducible apply rowSkip)); have hw : Ext X W := Below.trans hw (Below.mono hB (Below.size hw)); clear hB))
            all_goals go_meet
            all_goals refine ⟨congrArg Value.bool ?_, hw⟩
            all_goals try simp only [Bool.not_eq_true', Bool.not_eq_false', Bool.not_eq_true] at *
            all_goals simp [okWl, *]
          case rest =>
            obtain ⟨rfl, hE⟩ := hcut
            have hZ := hX.trans (Below.mono hE hX.size)
            have rs1 := Lib.hid (keep_row hE rs0).1
            clear hE hX rx0 rs0 cx fx zx
            generalize wc = Z at *
            cases hok : okWl v with
            | true =>
              have HG2 := Lib.hid (hA.out.step hkg (by rw [HV.out]; exact hok))
              clear hok
              go_wp2
              go_roundw
              case rel =>
                first
                | exact ⟨k + 1, hlt, by go_num, HG2, rs1, hZ⟩
                | ((repeat apply Exists.intro); exact ⟨⟨k + 1, hlt, by go_num, HG2, rs1, hZ⟩, rfl⟩)
              case measure => simp [intOf]; omega
            | false =>
              have hx3 : false = x := by rw [← hx2.out, all_no hkg (by rw [HV.out]; exact hok)]; rfl
              subst hx3
              clear hok hx2
              go_wp2
              go_returns
              exact ⟨rfl, hZ⟩
        · obtain rfl : n1 = k := by omega
          have hx4 := Lib.hid (show ls.all (okLg n1) = x by rw [← hx2.out, hA.out.all (by rw [← HN1.out]; exact Nat.le_refl _)]; rfl)
          clear hx2 hA
          go_wp2_with fail
          clear rs cs gs zs
          go_loopw [5] (fun i wr => ∃ k : Nat, k ≤ n2 ∧ i = .int .i64 (k : Int) ∧ Hid (AllTo (okLg n1) ls k) ∧ Hid (rowOf wr w.heap.size = some #[.slice a1 n1 cap1, .slice a2 n2 cap2]) ∧ Below w.heap.size w wr) (fun i _ => n2 - (intOf i).toNat)
          case atStart => exact ⟨0, Nat.zero_le _, rfl, AllTo.zero _ _, hr, hB0⟩
          case round =>
            clear hr hB0 hz
            obtain ⟨k, hk, rfl, hA, hr, hB0⟩ := hrel
            have hz := hB0.size
            obtain ⟨rs, cs, gs, zs⟩ := row_facts hr.out
            by_cases hlt : k < n2
            · have hkg : k < ls.length := by have := HN2.out; omega
              obtain ⟨g, off, rfl, hg, hgb⟩ := HL.out.legs.get hkg
              obtain ⟨c0, c1, c2, c3, ga, gcap, c4, hgt⟩ := hg.below hB0 (Nat.le_refl _) _ _ _ hgb
              obtain ⟨v, hv⟩ : ∃ v, ls[k] = v := ⟨_, rfl⟩
              rw [hv] at c0 c1 c2 c3 c4 hgt
              have HV := Lib.hid hv
              have hlt' : (k : Int) < (n2 : Int) := by omega
              have HGT := Lib.hid (fun W' (hB : Below w.heap.size wr W') => gates_in hgt hB hz)
              obtain ⟨gl, hgl⟩ : ∃ y, v.gates.length = y := ⟨_, rfl⟩
              rw [hgl] at c4
              have HGL := Lib.hid hgl
              clear hg hv hr hgt hgl
              go_upto_region 13 with fail
              have rx0 : rowOf (wr.alloc (.cells #[.int .i64 v.src, .int .i64 v.dst, .int .i64 v.long.1, .int .i64 v.long.2, .slice ga gl gcap] 45)) wr.heap.size = some #[.int .i64 v.src, .int .i64 v.dst, .int .i64 v.long.1, .int .i64 v.long.2, .slice ga gl gcap] := row_here0 _ _ _
              have rs0 : rowOf (wr.alloc (.cells #[.int .i64 v.src, .int .i64 v.dst, .int .i64 v.long.1, .int .i64 v.long.2, .slice ga gl gcap] 45)) w.heap.size = some #[.slice a1 n1 cap1, .slice (some ⟨g, off, none⟩) n2 cap2] := rowSkip rs
              have hX0 : Below w.heap.size wr (wr.alloc (.cells #[.int .i64 v.src, .int .i64 v.dst, .int .i64 v.long.1, .int .i64 v.long.2, .slice ga gl gcap] 45)) := Below.mono (ext_alloc _ _) hz
              have hX := hB0.trans hX0
              clear c0 c1 c2 c3 c4 rs cs gs zs
              have hzx : w.heap.size ≤ wr.heap.size := hz
              generalize wr.heap.size = gx at *
              generalize (wr.alloc (.cells #[.int .i64 v.src, .int .i64 v.dst, .int .i64 v.long.1, .int .i64 v.long.2, .slice ga gl gcap] 45)) = X at *
              obtain ⟨_, cx, fx, zx⟩ := row_facts rx0
              obtain ⟨_, cs, fs, zs⟩ := row_facts rs0
              obtain ⟨oka, hoka⟩ : ∃ y, okLgA n1 v = y := ⟨_, rfl⟩
              have HOA := Lib.hid hoka
              have hga : okLgA n1 v = (okN v.src 0 ((n1 : Int) - 1) && (okN v.dst 0 ((n1 : Int) - 1) && (decide (v.src ≠ v.dst) && (okSp v.long 1 1000000 && decide (gl ≤ 6))))) := by rw [← HGL.out]; rfl
              have HGA := Lib.hid hga
              clear hga hoka
              go_cut [123] (fun c wx => c = .bool (!okLgA n1 v) ∧ Ext X wx)
              case first =>
                have hw : Ext X X := Below.refl _ _
                go_wp2_with (first | (go_at_call 79; refine (within_any _ _ _ _).mono ?_; rintro e W ⟨rfl, hB⟩; obtain ⟨r1, c1, -, s1⟩ := keep_row hB (g := gx) (by repeat (first | with_reducible assumption | with_reducible apply row_here0 | with_reducible apply row_here1 | with_reducible apply row_here2 | with_reducible apply row_here3 | with_reducible apply rowSkip)); obtain ⟨r2, c2, -, s2⟩ := keep_row hB (g := w.heap.size) (by repeat (first | with_reducible assumption | with_reducible apply row_here0 | with_reducible apply row_here1 | with_reducible apply row_here2 | with_reducible apply row_here3 | with_reducible apply rowSkip)); have hw : Ext X W := Below.trans hw (Below.mono hB (Below.size hw)); clear hB) | (go_at_call 103; refine (spanned_any _ _ _ _).mono ?_; rintro e W ⟨rfl, hB⟩; obtain ⟨r1, c1, -, s1⟩ := keep_row hB (g := gx) (by repeat (first | with_reducible assumption | with_reducible apply row_here0 | with_reducible apply row_here1 | with_reducible apply row_here2 | with_reducible apply row_here3 | with_reducible apply rowSkip)); obtain ⟨r2, c2, -, s2⟩ := keep_row hB (g := w.heap.size) (by repeat (first | with_reducible assumption | with_reducible apply row_here0 | with_reducible apply row_here1 | with_reducible apply row_here2 | with_reducible apply row_here3 | with_reducible apply rowSkip)); have hw : Ext X W := Below.trans hw (Below.mono hB (Below.size hw)); clear hB))
                all_goals go_meet
                all_goals refine ⟨congrArg Value.bool ?_, hw⟩
                all_goals rw [HGA.out]
                all_goals try simp only [Bool.not_eq_true', Bool.not_eq_false', Bool.not_eq_true] at *
                all_goals simp [*]
                all_goals rw [show (v.src == v.dst) = false by simpa using ‹¬ v.src = v.dst›, Bool.false_or]
                all_goals by_cases h6 : gl ≤ 6
                all_goals first | (rw [decide_eq_true h6, decide_eq_false (by omega)]; rfl) | (rw [decide_eq_false h6, decide_eq_true (by omega)]; rfl)
              case rest =>
                obtain ⟨rfl, hE⟩ := hcut
                have hZ0 := hX0.trans (Below.mono hE (Nat.le_trans hzx (Nat.le_of_lt zx)))
                have hZ := hX.trans (Below.mono hE hX.size)
                obtain ⟨rx1, cx1, fx1, zx1⟩ := keep_row hE rx0
                obtain ⟨rs1, cs1, fs1, zs1⟩ := keep_row hE rs0
                clear hE hX hX0 rx0 rs0 cx fx zx cs fs zs
                generalize wc = Z at *
                cases hok : okLgA n1 v with
                | false =>
                  have hx3 : false = x := by rw [← hx4.out, all_no hkg (by rw [HV.out, okLg_parts, hok]; rfl)]
                  subst hx3
                  clear hok hx4
                  go_wp2
                  go_returns
                  exact ⟨rfl, hZ⟩
                | true =>
                  have HOK := Lib.hid hok
                  have hg6 : gl ≤ 6 := by rw [HGA.out] at hok; simp at hok; omega
                  have hGS := HGT.out Z hZ0
                  have HGS := Lib.hid hGS
                  clear hok hGS hZ0 HGT
                  go_wp2_with fail
                  clear cx1 fx1 zx1 cs1 fs1 zs1
                  go_loopw [7, 8] (fun l i wr => ∃ k : Nat, k ≤ gl ∧ l = .int .i64 (lastG v.gates k) ∧ i = .int .i64 (k : Int) ∧ Hid (GtsTo v.gates k) ∧ Hid (rowOf wr gx = some #[.int .i64 v.src, .int .i64 v.dst, .int .i64 v.long.1, .int .i64 v.long.2, .slice ga gl gcap]) ∧ Hid (rowOf wr w.heap.size = some #[.slice a1 n1 cap1, .slice (some ⟨g, off, none⟩) n2 cap2]) ∧ Below w.heap.size w wr ∧ Ext Z wr) (fun _ i _ => gl - (intOf i).toNat)
                  case atStart => exact ⟨0, Nat.zero_le _, rfl, rfl, GtsTo.zero _, rx1, rs1, hZ, Below.refl _ _⟩
                  case round =>
                    obtain ⟨j, hj, rfl, rfl, hG, hrx, hrs, hB1, hE1⟩ := hrel
                    have hz1 := hB1.size
                    obtain ⟨rx, cx, fx, zx⟩ := row_facts hrx.out
                    obtain ⟨rs, cs, fs, zs⟩ := row_facts hrs.out
                    by_cases hltj : j < gl
                    · have hjg : j < v.gates.length := by have := HGL.out; omega
                      obtain ⟨g', off', rfl, hg, hgb⟩ := HGS.out.get hjg
                      obtain ⟨c0, c1, c2, c3⟩ := hg.below hE1 _ _ _ hgb
                      have hltj' : (j : Int) < (gl : Int) := by omega
                      have HLS := Lib.hid (lastG_succ hjg)
                      obtain ⟨y, hy⟩ : ∃ y, v.gates[j] = y := ⟨_, rfl⟩
                      obtain ⟨la, hla⟩ : ∃ y, lastG v.gates j = y := ⟨_, rfl⟩
                      rw [hy] at c0 c1 c2 c3
                      rw [hla]
                      have HY := Lib.hid hy
                      have HLA := Lib.hid hla
                      clear hg hy hla
                      go_upto_region 20 with fail
                      have ry0 : rowOf (wr.alloc (.cells #[.int .i64 y.opens.1, .int .i64 y.opens.2, .int .i64 y.shuts.1, .int .i64 y.shuts.2] 98)) wr.heap.size = some #[.int .i64 y.opens.1, .int .i64 y.opens.2, .int .i64 y.shuts.1, .int .i64 y.shuts.2] := row_here0 _ _ _
                      have rx2 : rowOf (wr.alloc (.cells #[.int .i64 y.opens.1, .int .i64 y.opens.2, .int .i64 y.shuts.1, .int .i64 y.shuts.2] 98)) gx = some #[.int .i64 v.src, .int .i64 v.dst, .int .i64 v.long.1, .int .i64 v.long.2, .slice (some ⟨g', off', none⟩) gl gcap] := rowSkip rx
                      have rs2 : rowOf (wr.alloc (.cells #[.int .i64 y.opens.1, .int .i64 y.opens.2, .int .i64 y.shuts.1, .int .i64 y.shuts.2] 98)) w.heap.size = some #[.slice a1 n1 cap1, .slice (some ⟨g, off, none⟩) n2 cap2] := rowSkip rs
                      have hY := hB1.trans (Below.mono (ext_alloc wr (.cells #[.int .i64 y.opens.1, .int .i64 y.opens.2, .int .i64 y.shuts.1, .int .i64 y.shuts.2] 98)) hz1)
                      have hEY := Below.trans hE1 (Below.mono (ext_alloc wr (.cells #[.int .i64 y.opens.1, .int .i64 y.opens.2, .int .i64 y.shuts.1, .int .i64 y.shuts.2] 98)) hE1.size)
                      clear c0 c1 c2 c3 rx cx fx zx rs cs fs zs hrx hrs hB1 hE1 hz1
                      generalize wr.heap.size = gy at *
                      generalize (wr.alloc (.cells #[.int .i64 y.opens.1, .int .i64 y.opens.2, .int .i64 y.shuts.1, .int .i64 y.shuts.2] 98)) = Y at *
                      obtain ⟨_, cg, fg, zg⟩ := row_facts ry0
                      go_cut [161] (fun c wx => c = .bool (!okGt la y) ∧ Ext Y wx)
                      case first =>
                        have hw : Ext Y Y := Below.refl _ _
                        go_wp2_with (go_at_call 103; refine (spanned_any _ _ _ _).mono ?_; rintro e W ⟨rfl, hB⟩; obtain ⟨r1, c1, -, s1⟩ := keep_row hB (g := gy) (by repeat (first | with_reducible assumption | with_reducible apply row_here0 | with_reducible apply row_here1 | with_reducible apply row_here2 | with_reducible apply row_here3 | with_reducible apply rowSkip)); have hw : Ext Y W := Below.trans hw (Below.mono hB (Below.size hw)); clear hB)
                        all_goals go_meet
                        all_goals refine ⟨congrArg Value.bool ?_, hw⟩
                        all_goals try simp only [Bool.not_eq_true', Bool.not_eq_false', Bool.not_eq_true, Int.not_lt, Int.not_le] at *
                        all_goals simp [okGt, *]
                        all_goals rw [show decide (y.shuts.2 < y.opens.1) = false from decide_eq_false (by omega)]
                        all_goals by_cases hz2 : y.opens.1 ≤ la
                        all_goals simp [hz2, Int.not_lt.2, Int.not_le.1]
                        all_goals omega
                      case rest =>
                        obtain ⟨rfl, hE⟩ := hcut
                        have hV := hY.trans (Below.mono hE hY.size)
                        have hEV := Below.trans hEY (Below.mono hE (Below.size hEY))
                        have rx3 := Lib.hid (keep_row hE rx2).1
                        have rs3 := Lib.hid (keep_row hE rs2).1
                        obtain ⟨_, cg2, fg2, zg2⟩ := keep_row hE ry0
                        clear hE hY hEY rx2 rs2 ry0 cg fg zg
                        generalize wc = V at *
                        cases hok : okGt la y with
                        | true =>
                          have HG2 := Lib.hid (hG.out.step hjg (by rw [HLA.out, HY.out]; exact hok))
                          have HS2 := Lib.hid (show lastG v.gates (j + 1) = y.shuts.2 by rw [HLS.out, HY.out])
                          clear hok
                          go_wp2
                          go_roundw
                          case rel =>
                            first
                            | exact ⟨j + 1, hltj, by rw [HS2.out], by go_num, HG2, rx3, rs3, hV, hEV⟩
                            | ((repeat apply Exists.intro); exact ⟨⟨j + 1, hltj, by rw [HS2.out], by go_num, HG2, rx3, rs3, hV, hEV⟩, rfl⟩)
                          case measure => simp [intOf]; omega
                        | false =>
                          have hx3 : false = x := by rw [← hx4.out, all_no hkg (by rw [HV.out, okLg_parts, gts_no hjg (by rw [HLA.out, HY.out]; exact hok)]; simp)]
                          subst hx3
                          clear hok hx4
                          go_wp2
                          go_returns
                          exact ⟨rfl, hV⟩
                    · obtain rfl : gl = j := by omega
                      have hok := Lib.hid (show okLg n1 v = true by rw [okLg_parts, HOK.out, hG.out.all (by rw [HGL.out]; exact Nat.le_refl _)]; rfl)
                      have HG2 := Lib.hid (hA.out.step hkg (by rw [HV.out]; exact hok.out))
                      clear hok hG
                      go_wp2
                      go_roundw
                      case rel =>
                        first
                        | exact ⟨k + 1, hlt, by go_num, HG2, hrs, hB1⟩
                        | ((repeat apply Exists.intro); exact ⟨⟨k + 1, hlt, by go_num, HG2, hrs, hB1⟩, rfl⟩)
                      case measure => simp [intOf]; omega
            · obtain rfl : n2 = k := by omega
              have hx3 : true = x := by rw [← hx4.out, hA.out.all (by rw [← HN2.out]; exact Nat.le_refl _)]
              subst hx3
              clear hx4 hA
              go_wp2
              go_returns
              exact ⟨rfl, hB0⟩
    · have h24' : (24 : Int) < (n2 : Int) := by omega
      have hx3 : false = x := by rw [← hx]; simp [h24]
      subst hx3
      clear hn1 hn2 h h12 HX HN1 HN2 HL hx
      go_enter Try.func83, Try.ntmps83
      go_wp2_with fail
      refine (within_x _ _ _ true H.out _).mono ?_
      rintro e W1 ⟨rfl, hB⟩
      have hW1 : Below w.heap.size w W1 := Below.trans (by go_grown) (hB.mono (by simp; try omega))
      have zW1 := hW1.size
      obtain ⟨rsW1, csW1, gsW1, zsW1⟩ := keep_row hB (g := w.heap.size) (by repeat (first | with_reducible assumption | with_reducible apply row_here0 | with_reducible apply row_here1 | with_reducible apply row_here2 | with_reducible apply row_here3 | with_reducible apply rowSkip))
      clear hB
      go_wp2
      go_returns
      exact ⟨rfl, hW1⟩
end Go.Proofs.Ytkodjegpdkfjkaa
