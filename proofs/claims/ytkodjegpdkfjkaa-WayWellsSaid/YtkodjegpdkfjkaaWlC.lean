/- Contracts of package way's check of a whole land. -/
import Derived.Test.YtkodjegpdkfjkaaWlB
set_option linter.unusedVariables false
set_option linter.unusedSimpArgs false
namespace Go.Proofs.Ytkodjegpdkfjkaa
open Go.RowKit
open Go.Proofs

theorem gates_in {C : Nat} {W W' : World} {ga : Option Addr} {gs : List Gt} (h : gs = [] ∨ ∃ g off, ga = some ⟨g, off, none⟩ ∧ (∀ k (h : k < gs.length), GateAt W g (off + k * 4) gs[k]) ∧ g < C) (hB : Below C W W') (hC : C ≤ W.heap.size) : GatesIn W' ga gs := by
  rcases h with h | ⟨g, off, e, h1, h2⟩
  · exact .inl h
  · exact .inr ⟨g, off, e, fun k hk => (h1 k hk).below hB _ _ _ h2, Nat.lt_of_lt_of_le h2 (Nat.le_trans hC hB.size)⟩
theorem LandIn.at_ {w W : World} {a1 a2 : Option Addr} {ws : List Wl} {ls : List Lg} (h : LandIn w.heap.size w a1 a2 ws ls) (hB : Below w.heap.size w W) : LandIn W.heap.size W a1 a2 ws ls := by
  have h2 := h.below hB (Nat.le_refl _)
  refine ⟨h2.wells, ?_, fun a e h0 => Nat.lt_of_lt_of_le (h.lt1 a e h0) hB.size, fun a e h0 => Nat.lt_of_lt_of_le (h.lt2 a e h0) hB.size⟩
  rcases h2.legs with e | ⟨g, off, e, h3, h4⟩
  · exact .inl e
  · refine .inr ⟨g, off, e, fun k hk => ?_, h4⟩
    obtain ⟨c0, c1, c2, c3, ga, gcap, c4, h5⟩ := h3 k hk
    refine ⟨c0, c1, c2, c3, ga, gcap, c4, ?_⟩
    rcases h5 with h5 | ⟨g', o', e', h6, h7⟩
    · exact .inl h5
    · exact .inr ⟨g', o', e', h6, Nat.lt_of_lt_of_le h7 hB.size⟩
theorem okLand_parts (ws : List Wl) (ls : List Lg) : okLand ws ls = (okN ws.length 1 12 && (decide (ls.length ≤ 24) && (ws.all okWl && ls.all (okLg ws.length)))) := by simp [okLand, Bool.and_assoc]

set_option maxRecDepth 100000 in
set_option maxHeartbeats 8000000 in
theorem validLand_x (a1 a2 : Option Addr) (cap1 cap2 n1 n2 : Nat) (ws : List Wl) (ls : List Lg) (x : Bool) (w : World) (hn1 : n1 = ws.length) (hn2 : n2 = ls.length) (h : LandIn w.heap.size w a1 a2 ws ls) (hx : okLand ws ls = x) :
    Calls Try.prog 77 #[.agg #[.slice a1 n1 cap1, .slice a2 n2 cap2]] w fun e w' => e = .returned (.bool x) ∧ Below w.heap.size w w' := by
  have HN1 := Lib.hid hn1
  have HN2 := Lib.hid hn2
  have HL := Lib.hid h
  rw [okLand_parts, ← hn1, ← hn2] at hx
  have HX := Lib.hid hx
  cases h12 : okN (n1 : Int) 1 12 with
  | false =>
    rw [h12] at hx
    simp only [Bool.false_and] at hx
    subst hx
    have H := Lib.hid h12
    clear hn1 hn2 h h12 HX HN1 HN2 HL
    go_enter Try.func77, Try.ntmps77
    go_wp2_with fail
    refine (inRange_x _ _ _ false H.out _).mono ?_
    rintro e W1 ⟨rfl, hB⟩
    have hW1 : Below w.heap.size w W1 := Below.trans (by go_grown) (hB.mono (by simp; try omega))
    have zW1 := hW1.size
    obtain ⟨rsW1, csW1, gsW1, zsW1⟩ := keep_row hB (g := w.heap.size) (by repeat (first | with_reducible assumption | with_reducible apply row_here0 | with_reducible apply row_here1 | with_reducible apply row_here2 | with_reducible apply row_here3 | with_reducible apply rowSkip))
    clear hB
    go_wp2
    go_returns
    exact ⟨rfl, hW1⟩
  | true =>
    rw [h12] at hx
    simp only [Bool.true_and] at hx
    have H := Lib.hid h12
    have hb12 := h12
    simp only [okN, Bool.and_eq_true, decide_eq_true_eq] at hb12
    obtain ⟨b1, b2⟩ := hb12
    by_cases h24 : n2 ≤ 24
    · have hx2 := Lib.hid (show (ws.all okWl && ls.all (okLg n1)) = x by rw [← hx]; simp [h24])
      have h24' : (n2 : Int) ≤ 24 := by omega
      clear hn1 hn2 h h12 hx HX
      go_enter Try.func77, Try.ntmps77
      go_wp2_with fail
      refine (inRange_x _ _ _ true H.out _).mono ?_
      rintro e W1 ⟨rfl, hB⟩
      have hW1 : Below w.heap.size w W1 := Below.trans (by go_grown) (hB.mono (by simp; try omega))
      have zW1 := hW1.size
      obtain ⟨rsW1, csW1, gsW1, zsW1⟩ := keep_row hB (g := w.heap.size) (by repeat (first | with_reducible assumption | with_reducible apply row_here0 | with_reducible apply row_here1 | with_reducible apply row_here2 | with_reducible apply row_here3 | with_reducible apply rowSkip))
      clear hB
      go_wp2_with fail
      go_loopw [21] (fun i wr => ∃ k : Nat, k ≤ n1 ∧ i = .int .i64 (k : Int) ∧ Hid (AllTo okWl ws k) ∧ Hid (rowOf wr w.heap.size = some #[.slice a1 n1 cap1, .slice a2 n2 cap2]) ∧ Below w.heap.size w wr) (fun i _ => n1 - (intOf i).toNat)
      case atStart => exact ⟨0, Nat.zero_le _, rfl, AllTo.zero _ _, rsW1, hW1⟩
      case round =>
        clear rsW1 csW1 gsW1 zsW1 hW1 zW1
        obtain ⟨k, hk, rfl, hA, hr, hB0⟩ := hrel
        have hz := hB0.size
        by_cases hlt : k < n1
        · have hkg : k < ws.length := by have := HN1.out; omega
          obtain ⟨g, off, rfl, hg, hgb⟩ := HL.out.wells.get hkg
          obtain ⟨c0, c1, c2, c3, c4, c5, c6, c7, c8⟩ := hg.below hB0 _ _ _ hgb
          obtain ⟨v, hv⟩ : ∃ v, ws[k] = v := ⟨_, rfl⟩
          rw [hv] at c0 c1 c2 c3 c4 c5 c6 c7 c8
          have HV := Lib.hid hv
          have hlt' : (k : Int) < (n1 : Int) := by omega
          obtain ⟨rs, cs, gs, zs⟩ := row_facts hr.out
          clear hg hv hr
          cases hok : okWl v with
          | true =>
            have HK := Lib.hid hok
            clear hok
            go_wp2_with fail
            refine (validWell_x v true HK.out _).mono ?_
            rintro e W ⟨rfl, hB⟩
            have rs2 := (keep_row hB (g := w.heap.size) (by repeat (first | with_reducible assumption | with_reducible apply row_here0 | with_reducible apply row_here1 | with_reducible apply row_here2 | with_reducible apply row_here3 | with_reducible apply rowSkip))).1
            have hw : Below w.heap.size w W := hB0.trans (Below.trans (by go_grown) (hB.mono (by simp; try omega)))
            clear hB c0 c1 c2 c3 c4 c5 c6 c7 c8 rs cs gs zs
            have HA2 := Lib.hid (hA.out.step hkg (by rw [HV.out]; exact HK.out))
            go_wp2
            exact ⟨⟨k + 1, hlt, by go_num, HA2, rs2, hw⟩, by simp [intOf]; omega⟩
          | false =>
            have HK := Lib.hid hok
            clear hok
            go_wp2_with fail
            refine (validWell_x v false HK.out _).mono ?_
            rintro e W ⟨rfl, hB⟩
            have rs2 := (keep_row hB (g := w.heap.size) (by repeat (first | with_reducible assumption | with_reducible apply row_here0 | with_reducible apply row_here1 | with_reducible apply row_here2 | with_reducible apply row_here3 | with_reducible apply rowSkip))).1
            have hw : Below w.heap.size w W := hB0.trans (Below.trans (by go_grown) (hB.mono (by simp; try omega)))
            clear hB c0 c1 c2 c3 c4 c5 c6 c7 c8 rs cs gs zs
            have hx3 : false = x := by rw [← hx2.out, all_no hkg (by rw [HV.out]; exact HK.out)]; rfl
            subst hx3
            clear hx2
            go_wp2
            go_returns
            exact ⟨rfl, hw⟩
        · obtain rfl : n1 = k := by omega
          have hx4 := Lib.hid (show ls.all (okLg n1) = x by rw [← hx2.out, hA.out.all (by rw [← HN1.out]; exact Nat.le_refl _)]; rfl)
          obtain ⟨rs, cs, gs, zs⟩ := row_facts hr.out
          clear hx2 hA
          go_wp2_with fail
          clear rs cs gs zs
          go_loopw [32] (fun i wr => ∃ k : Nat, k ≤ n2 ∧ i = .int .i64 (k : Int) ∧ Hid (AllTo (okLg n1) ls k) ∧ Hid (rowOf wr w.heap.size = some #[.slice a1 n1 cap1, .slice a2 n2 cap2]) ∧ Below w.heap.size w wr) (fun i _ => n2 - (intOf i).toNat)
          case atStart => exact ⟨0, Nat.zero_le _, rfl, AllTo.zero _ _, hr, hB0⟩
          case round =>
            clear hr hB0 hz
            obtain ⟨k, hk, rfl, hA, hr, hB0⟩ := hrel
            have hz := hB0.size
            by_cases hlt : k < n2
            · have hkg : k < ls.length := by have := HN2.out; omega
              obtain ⟨g, off, rfl, hg, hgb⟩ := HL.out.legs.get hkg
              obtain ⟨c0, c1, c2, c3, ga, gcap, c4, hgt⟩ := hg.below hB0 (Nat.le_refl _) _ _ _ hgb
              obtain ⟨v, hv⟩ : ∃ v, ls[k] = v := ⟨_, rfl⟩
              rw [hv] at c0 c1 c2 c3 c4 hgt
              have HV := Lib.hid hv
              have hlt' : (k : Int) < (n2 : Int) := by omega
              obtain ⟨rs, cs, gs, zs⟩ := row_facts hr.out
              obtain ⟨gl, hgl⟩ : ∃ y, v.gates.length = y := ⟨_, rfl⟩
              have HGL := Lib.hid hgl
              have HGT := Lib.hid (fun W' (hB : Below w.heap.size wr W') => gates_in hgt hB hz)
              clear hg hv hr hgt hgl
              go_upto_region 12 with fail
              have rx0 : rowOf (wr.alloc (.cells #[.int .i64 v.src, .int .i64 v.dst, .int .i64 v.long.1, .int .i64 v.long.2, .slice ga v.gates.length gcap] 45)) wr.heap.size = some #[.int .i64 v.src, .int .i64 v.dst, .int .i64 v.long.1, .int .i64 v.long.2, .slice ga v.gates.length gcap] := row_here0 _ _ _
              have rs0 : rowOf (wr.alloc (.cells #[.int .i64 v.src, .int .i64 v.dst, .int .i64 v.long.1, .int .i64 v.long.2, .slice ga v.gates.length gcap] 45)) w.heap.size = some #[.slice a1 n1 cap1, .slice (some ⟨g, off, none⟩) n2 cap2] := rowSkip rs
              have hX0 : Below w.heap.size wr (wr.alloc (.cells #[.int .i64 v.src, .int .i64 v.dst, .int .i64 v.long.1, .int .i64 v.long.2, .slice ga v.gates.length gcap] 45)) := Below.mono (ext_alloc _ _) hz
              have hX := hB0.trans hX0
              clear c0 c1 c2 c3 c4 rs cs gs zs
              generalize wr.heap.size = gx at *
              generalize (wr.alloc (.cells #[.int .i64 v.src, .int .i64 v.dst, .int .i64 v.long.1, .int .i64 v.long.2, .slice ga v.gates.length gcap] 45)) = X at *
              obtain ⟨_, cx, fx, zx⟩ := row_facts rx0
              obtain ⟨_, cs, fs, zs⟩ := row_facts rs0
              go_cut [54] (fun c wx => c = .bool (!okLg n1 v) ∧ Ext X wx)
              case first =>
                have hw : Ext X X := Below.refl _ _
                go_wp2_with (first | (go_at_call 66; refine (isWell_x _ _ _ _ _ rfl (by omega) _).mono ?_; rintro e W ⟨rfl, hB⟩; obtain ⟨r1, c1, -, s1⟩ := keep_row hB (g := gx) (by repeat (first | with_reducible assumption | with_reducible apply row_here0 | with_reducible apply row_here1 | with_reducible apply row_here2 | with_reducible apply row_here3 | with_reducible apply rowSkip)); obtain ⟨r2, c2, -, s2⟩ := keep_row hB (g := w.heap.size) (by repeat (first | with_reducible assumption | with_reducible apply row_here0 | with_reducible apply row_here1 | with_reducible apply row_here2 | with_reducible apply row_here3 | with_reducible apply rowSkip)); have hw : Ext X W := Below.trans hw (Below.mono hB (Below.size hw)); clear hB) | (go_at_call 102; refine (validLeg_any v ga gcap _ (HGT.out _ (hX0.trans (Below.mono hw (by have := hX0.size; omega))))).mono ?_; rintro e W ⟨rfl, hB⟩; obtain ⟨r1, c1, -, s1⟩ := keep_row hB (g := gx) (by repeat (first | with_reducible assumption | with_reducible apply row_here0 | with_reducible apply row_here1 | with_reducible apply row_here2 | with_reducible apply row_here3 | with_reducible apply rowSkip)); obtain ⟨r2, c2, -, s2⟩ := keep_row hB (g := w.heap.size) (by repeat (first | with_reducible assumption | with_reducible apply row_here0 | with_reducible apply row_here1 | with_reducible apply row_here2 | with_reducible apply row_here3 | with_reducible apply rowSkip)); have hw : Ext X W := Below.trans hw (Below.mono hB (Below.size hw)); clear hB))
                all_goals go_meet
                all_goals refine ⟨congrArg Value.bool ?_, hw⟩
                all_goals try simp only [Bool.not_eq_true', Bool.not_eq_false', Bool.not_eq_true] at *
                all_goals simp [okLg, *]
              case rest =>
                obtain ⟨rfl, hE⟩ := hcut
                have hZ := hX.trans (Below.mono hE hX.size)
                have rs1 := Lib.hid (keep_row hE rs0).1
                clear hE hX hX0 rx0 rs0 cx fx zx cs fs zs HGT
                generalize wc = Z at *
                cases hok : okLg n1 v with
                | true =>
                  have HG2 := Lib.hid (hA.out.step hkg (by rw [HV.out]; exact hok))
                  clear hok
                  go_wp2
                  go_roundw
                  case rel =>
                    first
                    | exact ⟨k + 1, hlt, by go_num, HG2, rs1, hZ⟩
                    | ((repeat apply Exists.intro); exact ⟨⟨k + 1, hlt, by go_num, HG2, rs1, hZ⟩, rfl⟩)
                  case measure => simp [intOf]; omega
                | false =>
                  have hx3 : false = x := by rw [← hx4.out, all_no hkg (by rw [HV.out]; exact hok)]
                  subst hx3
                  clear hok hx4
                  go_wp2
                  go_returns
                  exact ⟨rfl, hZ⟩
            · obtain rfl : n2 = k := by omega
              have hx3 : true = x := by rw [← hx4.out, hA.out.all (by rw [← HN2.out]; exact Nat.le_refl _)]
              subst hx3
              clear hx4 hA
              go_wp2
              go_returns
              exact ⟨rfl, hB0⟩
    · have h24' : (24 : Int) < (n2 : Int) := by omega
      have hx3 : false = x := by rw [← hx]; simp [h24]
      subst hx3
      clear hn1 hn2 h h12 HX HN1 HN2 HL hx
      go_enter Try.func77, Try.ntmps77
      go_wp2_with fail
      refine (inRange_x _ _ _ true H.out _).mono ?_
      rintro e W1 ⟨rfl, hB⟩
      have hW1 : Below w.heap.size w W1 := Below.trans (by go_grown) (hB.mono (by simp; try omega))
      have zW1 := hW1.size
      obtain ⟨rsW1, csW1, gsW1, zsW1⟩ := keep_row hB (g := w.heap.size) (by repeat (first | with_reducible assumption | with_reducible apply row_here0 | with_reducible apply row_here1 | with_reducible apply row_here2 | with_reducible apply row_here3 | with_reducible apply rowSkip))
      clear hB
      go_wp2
      go_returns
      exact ⟨rfl, hW1⟩
theorem Check_x (a1 a2 : Option Addr) (cap1 cap2 n1 n2 : Nat) (ws : List Wl) (ls : List Lg) (x : Bool) (w : World) (hn1 : n1 = ws.length) (hn2 : n2 = ls.length) (h : LandIn w.heap.size w a1 a2 ws ls) (hx : okLand ws ls = x) :
    Calls Try.prog 28 #[.agg #[.slice a1 n1 cap1, .slice a2 n2 cap2]] w fun e w' => e = .returned (.int .i64 (if x = true then 0 else 30)) ∧ Below w.heap.size w w' := by
  have HN1 := Lib.hid hn1
  have HN2 := Lib.hid hn2
  have HX := Lib.hid hx
  have HL := Lib.hid h
  clear hn1 hn2 hx h
  cases x
  all_goals
    simp only [Bool.false_eq_true, if_false, if_true]
    go_enter Try.func28, Try.ntmps28
    go_wp2_with fail
    refine (validLand_x a1 a2 cap1 cap2 n1 n2 ws ls _ _ HN1.out HN2.out (HL.out.at_ (by go_grown)) HX.out).mono ?_
    rintro e W ⟨rfl, hB⟩
    have hw : Below w.heap.size w W := Below.trans (by go_grown) (hB.mono (by simp; try omega))
    clear hB
    go_wp2
    go_returns
    exact ⟨rfl, hw⟩
end Go.Proofs.Ytkodjegpdkfjkaa
