/- Contract: how much water a well has. -/
import Derived.Test.YtkodjegpdkfjkaaWtI
import Derived.Test.YtkodjegpdkfjkaaDraws
set_option linter.unusedVariables false
set_option linter.unusedSimpArgs false
namespace Go.Proofs.Ytkodjegpdkfjkaa
open Go.RowKit
open Go.Proofs
attribute [local go_sem ↓] run_min2 run_max2


set_option maxRecDepth 100000 in
set_option maxHeartbeats 16000000 in
theorem Water_x (a1 a2 a : Option Addr) (cap1 cap2 cap n1 n2 n : Nat) (ws : List Wl) (ls : List Lg) (ds : List Dr) (well day : Int) (R : (Int × Int) × Int × Int) (w : World) (hn1 : n1 = ws.length) (hn2 : n2 = ls.length) (hn : n = ds.length) (h : LandIn w.heap.size w a1 a2 ws ls) (hd : DrawsIn w a ds) (hR : watR ws ls well day ds = R) :
    Calls Try.prog 27 #[.agg #[.slice a1 n1 cap1, .slice a2 n2 cap2], .int .i64 well, .slice a n cap, .int .i64 day] w fun e w' => e = .returned (.tuple #[.agg #[.int .i64 R.1.1, .int .i64 R.1.2], .int .i64 R.2.1, .int .i64 R.2.2]) ∧ Below w.heap.size w w' := by
  have HN1 := Lib.hid hn1
  have HN2 := Lib.hid hn2
  have HN := Lib.hid hn
  have HL := Lib.hid h
  have HD := Lib.hid hd
  have HR := Lib.hid hR
  clear hn1 hn2 hn h hd hR
  cases hok : okLand ws ls with
  | false =>
    have hR := HR.out
    rw [chkW_bad hok] at hR
    subst hR
    clear HR
    have HK := Lib.hid hok
    clear hok
    go_enter Try.func27, Try.ntmps27
    go_wp2_with fail
    refine (Check_v a1 a2 cap1 cap2 n1 n2 ws ls false 30 _ HN1.out HN2.out (HL.out.at_ (by go_grown)) HK.out rfl).mono ?_
    rintro e W1 ⟨rfl, hB⟩
    have hW1 : Below w.heap.size w W1 := Below.trans (by go_grown) (hB.mono (by simp; try omega))
    have zW1 := hW1.size
    obtain ⟨rrW1, crW1, grW1, zrW1⟩ := keep_row hB (g := w.heap.size + 1) (by repeat (first | with_reducible assumption | with_reducible apply row_here0 | with_reducible apply row_here1 | with_reducible apply row_here2 | with_reducible apply row_here3 | with_reducible apply rowSkip))
    clear hB
    go_wp2
    exact bodyPost_ret (results24_3 Try.results27 rfl (stored_two rrW1 _ _).row rfl (v := .int .i64 0) rfl (v' := .int .i64 30) rfl) rfl ⟨rfl, hW1.trans ((stored_two rrW1 _ _).below _ (by omega))⟩
  | true =>
    have hnn := okLand_n hok
    rw [← HN1.out] at hnn
    obtain ⟨hnn1, hnn2⟩ := hnn
    have HK := Lib.hid hok
    clear hok
    obtain ⟨b1, hb1⟩ : ∃ b, okN well 0 ((n1 : Int) - 1) = b := ⟨_, rfl⟩
    obtain ⟨b2, hb2⟩ : ∃ b, okN day 0 100000 = b := ⟨_, rfl⟩
    obtain ⟨b4, hb4⟩ : ∃ b, okDrs (n1 : Int) ds = b := ⟨_, rfl⟩
    have H1 := Lib.hid hb1
    have H2 := Lib.hid hb2
    have H4 := Lib.hid hb4
    clear hb1 hb2 hb4
    cases b1 with
    | false =>
      have hR := HR.out
      rw [chkW_arg HK.out (by rw [← HN1.out, H1.out]; rfl)] at hR
      subst hR
      clear HR
      go_enter Try.func27, Try.ntmps27
      go_wp2_with fail
      refine (Check_v a1 a2 cap1 cap2 n1 n2 ws ls true 0 _ HN1.out HN2.out (HL.out.at_ (by go_grown)) HK.out rfl).mono ?_
      rintro e W1 ⟨rfl, hB⟩
      have hW1 : Below w.heap.size w W1 := Below.trans (by go_grown) (hB.mono (by simp; try omega))
      have zW1 := hW1.size
      obtain ⟨rsW1, csW1, gsW1, zsW1⟩ := keep_row hB (g := w.heap.size) (by repeat (first | with_reducible assumption | with_reducible apply row_here0 | with_reducible apply row_here1 | with_reducible apply row_here2 | with_reducible apply row_here3 | with_reducible apply rowSkip))
      obtain ⟨rrW1, crW1, grW1, zrW1⟩ := keep_row hB (g := w.heap.size + 1) (by repeat (first | with_reducible assumption | with_reducible apply row_here0 | with_reducible apply row_here1 | with_reducible apply row_here2 | with_reducible apply row_here3 | with_reducible apply rowSkip))
      clear hB
      have hw := hW1
      clear hW1
      go_wp2_with (first | (go_at_call 66; refine (isWell_x _ _ _ _ _ H1.out (by omega) _).mono ?_; rintro e W ⟨rfl, hB⟩; obtain ⟨r1, c1, g1, s1⟩ := keep_row hB (g := w.heap.size) (by repeat (first | with_reducible assumption | with_reducible apply row_here0 | with_reducible apply row_here1 | with_reducible apply row_here2 | with_reducible apply row_here3 | with_reducible apply rowSkip)); obtain ⟨r2, c2, g2, s2⟩ := keep_row hB (g := w.heap.size + 1) (by repeat (first | with_reducible assumption | with_reducible apply row_here0 | with_reducible apply row_here1 | with_reducible apply row_here2 | with_reducible apply row_here3 | with_reducible apply rowSkip)); have hw : Below w.heap.size w W := Below.trans hw (Below.mono hB (Below.size hw)); clear hB) | (go_at_call 62; refine (validDay_x _ _ H2.out _).mono ?_; rintro e W ⟨rfl, hB⟩; obtain ⟨r1, c1, g1, s1⟩ := keep_row hB (g := w.heap.size) (by repeat (first | with_reducible assumption | with_reducible apply row_here0 | with_reducible apply row_here1 | with_reducible apply row_here2 | with_reducible apply row_here3 | with_reducible apply rowSkip)); obtain ⟨r2, c2, g2, s2⟩ := keep_row hB (g := w.heap.size + 1) (by repeat (first | with_reducible assumption | with_reducible apply row_here0 | with_reducible apply row_here1 | with_reducible apply row_here2 | with_reducible apply row_here3 | with_reducible apply rowSkip)); have hw : Below w.heap.size w W := Below.trans hw (Below.mono hB (Below.size hw)); clear hB) | (go_at_call 75; refine (validDraws_x a a1 cap cap1 n n1 ds _ _ HN.out (HD.out.at_ hw) H4.out (by omega) (by omega)).mono ?_; rintro e W ⟨rfl, hB⟩; obtain ⟨r1, c1, g1, s1⟩ := keep_row hB (g := w.heap.size) (by repeat (first | with_reducible assumption | with_reducible apply row_here0 | with_reducible apply row_here1 | with_reducible apply row_here2 | with_reducible apply row_here3 | with_reducible apply rowSkip)); obtain ⟨r2, c2, g2, s2⟩ := keep_row hB (g := w.heap.size + 1) (by repeat (first | with_reducible assumption | with_reducible apply row_here0 | with_reducible apply row_here1 | with_reducible apply row_here2 | with_reducible apply row_here3 | with_reducible apply rowSkip)); have hw : Below w.heap.size w W := Below.trans hw (Below.mono hB (Below.size hw)); clear hB))
      exact bodyPost_ret (results24_3 Try.results27 rfl (stored_two r2 _ _).row rfl (v := .int .i64 0) rfl (v' := .int .i64 2) rfl) rfl ⟨rfl, hw.trans ((stored_two r2 _ _).below _ (by omega))⟩
    | true =>
      cases b2 with
      | false =>
        have hR := HR.out
        rw [chkW_arg HK.out (by rw [← HN1.out, H1.out, H2.out]; rfl)] at hR
        subst hR
        clear HR
        go_enter Try.func27, Try.ntmps27
        go_wp2_with fail
        refine (Check_v a1 a2 cap1 cap2 n1 n2 ws ls true 0 _ HN1.out HN2.out (HL.out.at_ (by go_grown)) HK.out rfl).mono ?_
        rintro e W1 ⟨rfl, hB⟩
        have hW1 : Below w.heap.size w W1 := Below.trans (by go_grown) (hB.mono (by simp; try omega))
        have zW1 := hW1.size
        obtain ⟨rsW1, csW1, gsW1, zsW1⟩ := keep_row hB (g := w.heap.size) (by repeat (first | with_reducible assumption | with_reducible apply row_here0 | with_reducible apply row_here1 | with_reducible apply row_here2 | with_reducible apply row_here3 | with_reducible apply rowSkip))
        obtain ⟨rrW1, crW1, grW1, zrW1⟩ := keep_row hB (g := w.heap.size + 1) (by repeat (first | with_reducible assumption | with_reducible apply row_here0 | with_reducible apply row_here1 | with_reducible apply row_here2 | with_reducible apply row_here3 | with_reducible apply rowSkip))
        clear hB
        have hw := hW1
        clear hW1
        go_wp2_with (first | (go_at_call 66; refine (isWell_x _ _ _ _ _ H1.out (by omega) _).mono ?_; rintro e W ⟨rfl, hB⟩; obtain ⟨r1, c1, g1, s1⟩ := keep_row hB (g := w.heap.size) (by repeat (first | with_reducible assumption | with_reducible apply row_here0 | with_reducible apply row_here1 | with_reducible apply row_here2 | with_reducible apply row_here3 | with_reducible apply rowSkip)); obtain ⟨r2, c2, g2, s2⟩ := keep_row hB (g := w.heap.size + 1) (by repeat (first | with_reducible assumption | with_reducible apply row_here0 | with_reducible apply row_here1 | with_reducible apply row_here2 | with_reducible apply row_here3 | with_reducible apply rowSkip)); have hw : Below w.heap.size w W := Below.trans hw (Below.mono hB (Below.size hw)); clear hB) | (go_at_call 62; refine (validDay_x _ _ H2.out _).mono ?_; rintro e W ⟨rfl, hB⟩; obtain ⟨r1, c1, g1, s1⟩ := keep_row hB (g := w.heap.size) (by repeat (first | with_reducible assumption | with_reducible apply row_here0 | with_reducible apply row_here1 | with_reducible apply row_here2 | with_reducible apply row_here3 | with_reducible apply rowSkip)); obtain ⟨r2, c2, g2, s2⟩ := keep_row hB (g := w.heap.size + 1) (by repeat (first | with_reducible assumption | with_reducible apply row_here0 | with_reducible apply row_here1 | with_reducible apply row_here2 | with_reducible apply row_here3 | with_reducible apply rowSkip)); have hw : Below w.heap.size w W := Below.trans hw (Below.mono hB (Below.size hw)); clear hB) | (go_at_call 75; refine (validDraws_x a a1 cap cap1 n n1 ds _ _ HN.out (HD.out.at_ hw) H4.out (by omega) (by omega)).mono ?_; rintro e W ⟨rfl, hB⟩; obtain ⟨r1, c1, g1, s1⟩ := keep_row hB (g := w.heap.size) (by repeat (first | with_reducible assumption | with_reducible apply row_here0 | with_reducible apply row_here1 | with_reducible apply row_here2 | with_reducible apply row_here3 | with_reducible apply rowSkip)); obtain ⟨r2, c2, g2, s2⟩ := keep_row hB (g := w.heap.size + 1) (by repeat (first | with_reducible assumption | with_reducible apply row_here0 | with_reducible apply row_here1 | with_reducible apply row_here2 | with_reducible apply row_here3 | with_reducible apply rowSkip)); have hw : Below w.heap.size w W := Below.trans hw (Below.mono hB (Below.size hw)); clear hB))
        exact bodyPost_ret (results24_3 Try.results27 rfl (stored_two r2 _ _).row rfl (v := .int .i64 0) rfl (v' := .int .i64 2) rfl) rfl ⟨rfl, hw.trans ((stored_two r2 _ _).below _ (by omega))⟩
      | true =>
        by_cases h200 : n ≤ 200
        · skip
          have h200i : ¬ ((200 : Int) < (n : Int)) := by omega
          cases b4 with
          | false =>
            have hR := HR.out
            rw [chkW_draw HK.out (by rw [← HN1.out, H1.out]) H2.out (by rw [← HN.out]; exact h200) (by rw [← HN1.out, H4.out])] at hR
            subst hR
            clear HR
            go_enter Try.func27, Try.ntmps27
            go_wp2_with fail
            refine (Check_v a1 a2 cap1 cap2 n1 n2 ws ls true 0 _ HN1.out HN2.out (HL.out.at_ (by go_grown)) HK.out rfl).mono ?_
            rintro e W1 ⟨rfl, hB⟩
            have hW1 : Below w.heap.size w W1 := Below.trans (by go_grown) (hB.mono (by simp; try omega))
            have zW1 := hW1.size
            obtain ⟨rsW1, csW1, gsW1, zsW1⟩ := keep_row hB (g := w.heap.size) (by repeat (first | with_reducible assumption | with_reducible apply row_here0 | with_reducible apply row_here1 | with_reducible apply row_here2 | with_reducible apply row_here3 | with_reducible apply rowSkip))
            obtain ⟨rrW1, crW1, grW1, zrW1⟩ := keep_row hB (g := w.heap.size + 1) (by repeat (first | with_reducible assumption | with_reducible apply row_here0 | with_reducible apply row_here1 | with_reducible apply row_here2 | with_reducible apply row_here3 | with_reducible apply rowSkip))
            clear hB
            have hw := hW1
            clear hW1
            go_wp2_with (first | (go_at_call 66; refine (isWell_x _ _ _ _ _ H1.out (by omega) _).mono ?_; rintro e W ⟨rfl, hB⟩; obtain ⟨r1, c1, g1, s1⟩ := keep_row hB (g := w.heap.size) (by repeat (first | with_reducible assumption | with_reducible apply row_here0 | with_reducible apply row_here1 | with_reducible apply row_here2 | with_reducible apply row_here3 | with_reducible apply rowSkip)); obtain ⟨r2, c2, g2, s2⟩ := keep_row hB (g := w.heap.size + 1) (by repeat (first | with_reducible assumption | with_reducible apply row_here0 | with_reducible apply row_here1 | with_reducible apply row_here2 | with_reducible apply row_here3 | with_reducible apply rowSkip)); have hw : Below w.heap.size w W := Below.trans hw (Below.mono hB (Below.size hw)); clear hB) | (go_at_call 62; refine (validDay_x _ _ H2.out _).mono ?_; rintro e W ⟨rfl, hB⟩; obtain ⟨r1, c1, g1, s1⟩ := keep_row hB (g := w.heap.size) (by repeat (first | with_reducible assumption | with_reducible apply row_here0 | with_reducible apply row_here1 | with_reducible apply row_here2 | with_reducible apply row_here3 | with_reducible apply rowSkip)); obtain ⟨r2, c2, g2, s2⟩ := keep_row hB (g := w.heap.size + 1) (by repeat (first | with_reducible assumption | with_reducible apply row_here0 | with_reducible apply row_here1 | with_reducible apply row_here2 | with_reducible apply row_here3 | with_reducible apply rowSkip)); have hw : Below w.heap.size w W := Below.trans hw (Below.mono hB (Below.size hw)); clear hB) | (go_at_call 75; refine (validDraws_x a a1 cap cap1 n n1 ds _ _ HN.out (HD.out.at_ hw) H4.out (by omega) (by omega)).mono ?_; rintro e W ⟨rfl, hB⟩; obtain ⟨r1, c1, g1, s1⟩ := keep_row hB (g := w.heap.size) (by repeat (first | with_reducible assumption | with_reducible apply row_here0 | with_reducible apply row_here1 | with_reducible apply row_here2 | with_reducible apply row_here3 | with_reducible apply rowSkip)); obtain ⟨r2, c2, g2, s2⟩ := keep_row hB (g := w.heap.size + 1) (by repeat (first | with_reducible assumption | with_reducible apply row_here0 | with_reducible apply row_here1 | with_reducible apply row_here2 | with_reducible apply row_here3 | with_reducible apply rowSkip)); have hw : Below w.heap.size w W := Below.trans hw (Below.mono hB (Below.size hw)); clear hB))
            exact bodyPost_ret (results24_3 Try.results27 rfl (stored_two r2 _ _).row rfl (v := .int .i64 0) rfl (v' := .int .i64 32) rfl) rfl ⟨rfl, hw.trans ((stored_two r2 _ _).below _ (by omega))⟩
          | true =>
            have hb1' := H1.out; have hb2' := H2.out
            simp only [okN, Bool.and_eq_true, decide_eq_true_eq] at hb1' hb2'
            obtain ⟨p1, p2⟩ := hb1'; obtain ⟨p3, p4⟩ := hb2'
            obtain ⟨p, rfl⟩ : ∃ p : Nat, well = p := ⟨well.toNat, by omega⟩
            have hpn : p < ws.length := by have := HN1.out; omega
            have hpi : (p : Int) < (n1 : Int) := by omega
            obtain ⟨g, off, v, rfl, hwl, hg, hv, hbd⟩ := HL.out.well HK.out hpn
            have HI0 := Lib.hid (WatI.zero (well := (p : Int)) (ds := ds) hbd p3)
            have hR := HR.out
            rw [chkW_ok HK.out (by rw [← HN1.out, H1.out]) H2.out (by rw [← HN.out]; exact h200) (by rw [← HN1.out, H4.out]) hv] at hR
            rw [hR] at HI0
            have HW := Lib.hid hwl
            have HBD := Lib.hid hbd
            clear hR HR hwl hbd hv hpn
            go_enter Try.func27, Try.ntmps27
            go_wp2_with fail
            refine (Check_v (some ⟨g, off, none⟩) a2 cap1 cap2 n1 n2 ws ls true 0 _ HN1.out HN2.out (HL.out.at_ (by go_grown)) HK.out rfl).mono ?_
            rintro e W1 ⟨rfl, hB⟩
            have hW1 : Below w.heap.size w W1 := Below.trans (by go_grown) (hB.mono (by simp; try omega))
            have zW1 := hW1.size
            obtain ⟨rsW1, csW1, gsW1, zsW1⟩ := keep_row hB (g := w.heap.size) (by repeat (first | with_reducible assumption | with_reducible apply row_here0 | with_reducible apply row_here1 | with_reducible apply row_here2 | with_reducible apply row_here3 | with_reducible apply rowSkip))
            obtain ⟨rrW1, crW1, grW1, zrW1⟩ := keep_row hB (g := w.heap.size + 1) (by repeat (first | with_reducible assumption | with_reducible apply row_here0 | with_reducible apply row_here1 | with_reducible apply row_here2 | with_reducible apply row_here3 | with_reducible apply rowSkip))
            clear hB
            have hw := hW1
            clear hW1
            go_upto_region 10 with (first | (go_at_call 66; refine (isWell_x _ _ _ _ _ H1.out (by omega) _).mono ?_; rintro e W ⟨rfl, hB⟩; obtain ⟨r1, c1, g1, s1⟩ := keep_row hB (g := w.heap.size) (by repeat (first | with_reducible assumption | with_reducible apply row_here0 | with_reducible apply row_here1 | with_reducible apply row_here2 | with_reducible apply row_here3 | with_reducible apply rowSkip)); obtain ⟨r2, c2, g2, s2⟩ := keep_row hB (g := w.heap.size + 1) (by repeat (first | with_reducible assumption | with_reducible apply row_here0 | with_reducible apply row_here1 | with_reducible apply row_here2 | with_reducible apply row_here3 | with_reducible apply rowSkip)); have hw : Below w.heap.size w W := Below.trans hw (Below.mono hB (Below.size hw)); clear hB) | (go_at_call 62; refine (validDay_x _ _ H2.out _).mono ?_; rintro e W ⟨rfl, hB⟩; obtain ⟨r1, c1, g1, s1⟩ := keep_row hB (g := w.heap.size) (by repeat (first | with_reducible assumption | with_reducible apply row_here0 | with_reducible apply row_here1 | with_reducible apply row_here2 | with_reducible apply row_here3 | with_reducible apply rowSkip)); obtain ⟨r2, c2, g2, s2⟩ := keep_row hB (g := w.heap.size + 1) (by repeat (first | with_reducible assumption | with_reducible apply row_here0 | with_reducible apply row_here1 | with_reducible apply row_here2 | with_reducible apply row_here3 | with_reducible apply rowSkip)); have hw : Below w.heap.size w W := Below.trans hw (Below.mono hB (Below.size hw)); clear hB) | (go_at_call 75; refine (validDraws_x a (some ⟨g, off, none⟩) cap cap1 n n1 ds _ _ HN.out (HD.out.at_ hw) H4.out (by omega) (by omega)).mono ?_; rintro e W ⟨rfl, hB⟩; obtain ⟨r1, c1, g1, s1⟩ := keep_row hB (g := w.heap.size) (by repeat (first | with_reducible assumption | with_reducible apply row_here0 | with_reducible apply row_here1 | with_reducible apply row_here2 | with_reducible apply row_here3 | with_reducible apply rowSkip)); obtain ⟨r2, c2, g2, s2⟩ := keep_row hB (g := w.heap.size + 1) (by repeat (first | with_reducible assumption | with_reducible apply row_here0 | with_reducible apply row_here1 | with_reducible apply row_here2 | with_reducible apply row_here3 | with_reducible apply rowSkip)); have hw : Below w.heap.size w W := Below.trans hw (Below.mono hB (Below.size hw)); clear hB))
            obtain ⟨c0, c1', c2', c3, c4, c5, c6, c7, c8⟩ := HW.out.below hw _ _ _ hg
            clear HK H1 H2 HL
            go_wp2_with fail
            have hzw := hw.size
            go_loopw [13, 50] (fun gt i wr => ∃ (k : Nat) (has : Int × Int) (got : Int), k ≤ n ∧ gt = .int .i64 got ∧ i = .int .i64 (k : Int) ∧ Hid (WatI v (p : Int) day ds R k has got) ∧ Hid (rowOf wr W.heap.size = some #[.int .i64 v.x, .int .i64 v.y, .int .i64 v.depth, .int .i64 v.yield.1, .int .i64 v.yield.2, .int .i64 v.room, .int .i64 has.1, .int .i64 has.2, .int .i64 v.owner]) ∧ Hid (rowOf wr (w.heap.size + 1) = some #[.int .i64 0, .int .i64 0]) ∧ Below w.heap.size w wr) (fun _ i _ => n - (intOf i).toNat)
            case atStart => exact ⟨0, v.has, 0, Nat.zero_le _, rfl, rfl, HI0.out, row_here0 _ _ _, rowSkip r2, by go_grown⟩
            case round =>
              clear HI0 c0 c1' c2' c3 c4 c5 c6 c7 c8 HW r1 c1 g1 s1 r2 c2 g2
              generalize W.heap.size = gW at *
              obtain ⟨k, has, got, hk, rfl, rfl, HI, HRW, HRR, hB0⟩ := hrel
              have hz := hB0.size
              by_cases hlt : k < n
              · skip
                have hkg : k < ds.length := by have := HN.out; omega
                obtain ⟨g', off', rfl, hg', hgb'⟩ := HD.out.get hkg
                obtain ⟨c0, c1, c2⟩ := hg'.below hB0 _ _ _ hgb'
                have hlt' : (k : Int) < (n : Int) := by omega
                rw [← getD_get hkg] at c0 c1 c2
                obtain ⟨y, hy⟩ : ∃ y, ds.getD k dr0 = y := ⟨_, rfl⟩
                rw [hy] at c0 c1 c2
                have hdd := okDr_day (okDrs_all H4.out hkg)
                rw [hy] at hdd
                obtain ⟨d1, d2, d3, d4⟩ := hdd
                have HY := Lib.hid hy
                have HKG := Lib.hid hkg
                have HD1 := Lib.hid d1
                have hi1 := HI.out.has1; have hi2 := HI.out.has2; have hi3 := HI.out.has3; have hi4 := HI.out.got1; have hi5 := HI.out.got2; have hi6 := HI.out.got3
                have hroom := HBD.out.room.2
                have dd0 : 0 ≤ y.day + 1 - got := by omega
                have dd1 : y.day + 1 - got ≤ 200000 := by omega
                clear hg' hy hkg d1 hi6
                go_upto_region 15 with fail
                have rx0 : rowOf (wr.alloc (.cells #[.int .i64 y.well, .int .i64 y.day, .int .i64 y.water] 54)) wr.heap.size = some #[.int .i64 y.well, .int .i64 y.day, .int .i64 y.water] := row_here0 _ _ _
                have rw0 : rowOf (wr.alloc (.cells #[.int .i64 y.well, .int .i64 y.day, .int .i64 y.water] 54)) gW = some _ := rowSkip HRW.out
                have rr0 : rowOf (wr.alloc (.cells #[.int .i64 y.well, .int .i64 y.day, .int .i64 y.water] 54)) (w.heap.size + 1) = some _ := rowSkip HRR.out
                have hX := hB0.trans (Below.mono (ext_alloc wr (.cells #[.int .i64 y.well, .int .i64 y.day, .int .i64 y.water] 54)) hz)
                have hgx : gW < wr.heap.size := (row_facts HRW.out).2.2.2
                clear c0 c1 c2 hB0 HRW HRR
                generalize wr.heap.size = gx at *
                generalize (wr.alloc (.cells #[.int .i64 y.well, .int .i64 y.day, .int .i64 y.water] 54)) = X at *
                obtain ⟨_, cx, fx, zx⟩ := row_facts rx0
                obtain ⟨_, cw, fw, zw⟩ := row_facts rw0
                obtain ⟨_, cr, fr, zr⟩ := row_facts rr0
                cases hs : skipD (p : Int) day y with
                | true =>
                  have hI2 := Lib.hid (HI.out.skip HKG.out HY.out HD1.out hs)
                  simp only [skipD, Bool.or_eq_true, decide_eq_true_eq] at hs
                  by_cases hq : y.well = (p : Int)
                  · have hq2 : day ≤ y.day := hs.resolve_left (fun e => e hq)
                    clear hs
                    go_wp2
                    go_roundw
                    case rel => exact ⟨k + 1, has, got, hlt, rfl, by go_num, hI2, rw0, rr0, hX⟩
                    case measure => simp [intOf]; omega
                  · clear hs
                    go_wp2
                    go_roundw
                    case rel => exact ⟨k + 1, has, got, hlt, rfl, by go_num, hI2, rw0, rr0, hX⟩
                    case measure => simp [intOf]; omega
                | false =>
                  have HS := Lib.hid hs
                  have hs2 := hs
                  simp only [skipD, Bool.or_eq_false_iff, decide_eq_false_iff_not] at hs2
                  obtain ⟨q1, q2⟩ := hs2
                  have q1' : y.well = (p : Int) := by omega
                  clear q1 hs
                  obtain ⟨f, hf⟩ : ∃ f, fillS v has (y.day + 1 - got) = f := ⟨_, rfl⟩
                  have HF := Lib.hid hf
                  obtain ⟨f1, f2, f3⟩ := HI.out.fill HBD.out dd0 dd1 hf
                  clear hf
                  go_wp2_with fail
                  refine (filled_x { v with has := has } (y.day + 1 - got) f _ HF.out (HBD.out.with HI.out) dd0 dd1).mono ?_
                  rintro e W2 ⟨rfl, hB⟩
                  obtain ⟨rx2, cx2, fx2, zx2⟩ := keep_row hB rx0
                  obtain ⟨rw2, cw2, fw2, zw2⟩ := keep_row hB rw0
                  obtain ⟨rr2, cr2, fr2, zr2⟩ := keep_row hB rr0
                  have hw2 : Below w.heap.size w W2 := hX.trans (Below.mono hB hX.size)
                  clear hB hX rx0 cx fx zx rw0 cw fw zw rr0 cr fr zr
                  have hz2 := hw2.size
                  go_upto_region 17 with fail
                  have hS := stored67 rw2 (.int .i64 f.1) (.int .i64 f.2)
                  have rw3 : rowOf ((W2.setCell ⟨gW, 6, none⟩ (.int .i64 f.1)).setCell ⟨gW, 7, none⟩ (.int .i64 f.2)) gW = some #[.int .i64 v.x, .int .i64 v.y, .int .i64 v.depth, .int .i64 v.yield.1, .int .i64 v.yield.2, .int .i64 v.room, .int .i64 f.1, .int .i64 f.2, .int .i64 v.owner] := hS.row
                  have rx3 := hS.keeps (by omega) rx2
                  have rr3 := hS.keeps (by omega) rr2
                  have hw3 := hw2.trans (hS.below w.heap.size (by omega))
                  clear hS hw2 hz2 rw2 cw2 fw2 zw2 rx2 cx2 fx2 zx2 rr2 cr2 fr2 zr2
                  generalize ((W2.setCell ⟨gW, 6, none⟩ (.int .i64 f.1)).setCell ⟨gW, 7, none⟩ (.int .i64 f.2)) = W3 at *
                  obtain ⟨_, cw3, fw3, zw3⟩ := row_facts rw3
                  obtain ⟨_, cx3, fx3, zx3⟩ := row_facts rx3
                  obtain ⟨_, cr3, fr3, zr3⟩ := row_facts rr3
                  have hz3 := hw3.size
                  by_cases hdry : f.2 < y.water
                  · have hR := HI.out.dry HKG.out HY.out HS.out HF.out hdry
                    subst hR
                    clear HI HF HS
                    go_wp2
                    exact bodyPost_ret (results24_3 Try.results27 rfl (stored_two rr3 _ _).row rfl (v := .int .i64 (k : Int)) rfl (v' := .int .i64 33) rfl) rfl ⟨rfl, hw3.trans ((stored_two rr3 _ _).below _ (by omega))⟩
                  · have hI2 := Lib.hid (HI.out.draw HBD.out HKG.out HY.out HD1.out d2 d3 HS.out HF.out hdry)
                    clear HI HF HS
                    go_wp2
                    go_roundw
                    case rel => exact ⟨k + 1, (mx 0 (f.1 - y.water), f.2 - y.water), y.day + 1, hlt, rfl, by go_num, hI2, (stored67 rw3 _ _).row, (stored67 rw3 _ _).keeps (by omega) rr3, hw3.trans ((stored67 rw3 _ _).below _ (by omega))⟩
                    case measure => simp [intOf]; omega
              · obtain rfl : n = k := by omega
                have hR := HI.out.fin (by rw [← HN.out]; exact Nat.le_refl _)
                have hi1 := HI.out.has1; have hi2 := HI.out.has2; have hi3 := HI.out.has3; have hi4 := HI.out.got1; have hi5 := HI.out.got2
                have hroom := HBD.out.room.2
                obtain ⟨f, hf⟩ : ∃ f, fillS v has (day - got) = f := ⟨_, rfl⟩
                rw [hf] at hR
                have HF := Lib.hid hf
                clear hf
                obtain ⟨rw0, cw, fw, zw⟩ := row_facts HRW.out
                obtain ⟨rr0, cr, fr, zr⟩ := row_facts HRR.out
                go_wp2_with fail
                refine (filled_x { v with has := has } (day - got) f _ HF.out (HBD.out.with HI.out) (by omega) (by omega)).mono ?_
                rintro e W2 ⟨rfl, hB⟩
                obtain ⟨rr2, cr2, fr2, zr2⟩ := keep_row hB rr0
                have hw2 : Below w.heap.size w W2 := hB0.trans (Below.mono hB hz)
                subst hR
                clear hB HI HF
                go_wp2
                exact bodyPost_ret (results24_3 Try.results27 rfl (stored_two rr2 _ _).row rfl (v := .int .i64 0) rfl (v' := .int .i64 0) rfl) rfl ⟨rfl, hw2.trans ((stored_two rr2 _ _).below _ (by omega))⟩
        · have h200i : (200 : Int) < (n : Int) := by omega
          have hR := HR.out
          rw [chkW_many HK.out (by rw [← HN1.out, H1.out]) H2.out (by rw [← HN.out]; exact h200)] at hR
          subst hR
          clear HR
          go_enter Try.func27, Try.ntmps27
          go_wp2_with fail
          refine (Check_v a1 a2 cap1 cap2 n1 n2 ws ls true 0 _ HN1.out HN2.out (HL.out.at_ (by go_grown)) HK.out rfl).mono ?_
          rintro e W1 ⟨rfl, hB⟩
          have hW1 : Below w.heap.size w W1 := Below.trans (by go_grown) (hB.mono (by simp; try omega))
          have zW1 := hW1.size
          obtain ⟨rsW1, csW1, gsW1, zsW1⟩ := keep_row hB (g := w.heap.size) (by repeat (first | with_reducible assumption | with_reducible apply row_here0 | with_reducible apply row_here1 | with_reducible apply row_here2 | with_reducible apply row_here3 | with_reducible apply rowSkip))
          obtain ⟨rrW1, crW1, grW1, zrW1⟩ := keep_row hB (g := w.heap.size + 1) (by repeat (first | with_reducible assumption | with_reducible apply row_here0 | with_reducible apply row_here1 | with_reducible apply row_here2 | with_reducible apply row_here3 | with_reducible apply rowSkip))
          clear hB
          have hw := hW1
          clear hW1
          go_wp2_with (first | (go_at_call 66; refine (isWell_x _ _ _ _ _ H1.out (by omega) _).mono ?_; rintro e W ⟨rfl, hB⟩; obtain ⟨r1, c1, g1, s1⟩ := keep_row hB (g := w.heap.size) (by repeat (first | with_reducible assumption | with_reducible apply row_here0 | with_reducible apply row_here1 | with_reducible apply row_here2 | with_reducible apply row_here3 | with_reducible apply rowSkip)); obtain ⟨r2, c2, g2, s2⟩ := keep_row hB (g := w.heap.size + 1) (by repeat (first | with_reducible assumption | with_reducible apply row_here0 | with_reducible apply row_here1 | with_reducible apply row_here2 | with_reducible apply row_here3 | with_reducible apply rowSkip)); have hw : Below w.heap.size w W := Below.trans hw (Below.mono hB (Below.size hw)); clear hB) | (go_at_call 62; refine (validDay_x _ _ H2.out _).mono ?_; rintro e W ⟨rfl, hB⟩; obtain ⟨r1, c1, g1, s1⟩ := keep_row hB (g := w.heap.size) (by repeat (first | with_reducible assumption | with_reducible apply row_here0 | with_reducible apply row_here1 | with_reducible apply row_here2 | with_reducible apply row_here3 | with_reducible apply rowSkip)); obtain ⟨r2, c2, g2, s2⟩ := keep_row hB (g := w.heap.size + 1) (by repeat (first | with_reducible assumption | with_reducible apply row_here0 | with_reducible apply row_here1 | with_reducible apply row_here2 | with_reducible apply row_here3 | with_reducible apply rowSkip)); have hw : Below w.heap.size w W := Below.trans hw (Below.mono hB (Below.size hw)); clear hB) | (go_at_call 75; refine (validDraws_x a a1 cap cap1 n n1 ds _ _ HN.out (HD.out.at_ hw) H4.out (by omega) (by omega)).mono ?_; rintro e W ⟨rfl, hB⟩; obtain ⟨r1, c1, g1, s1⟩ := keep_row hB (g := w.heap.size) (by repeat (first | with_reducible assumption | with_reducible apply row_here0 | with_reducible apply row_here1 | with_reducible apply row_here2 | with_reducible apply row_here3 | with_reducible apply rowSkip)); obtain ⟨r2, c2, g2, s2⟩ := keep_row hB (g := w.heap.size + 1) (by repeat (first | with_reducible assumption | with_reducible apply row_here0 | with_reducible apply row_here1 | with_reducible apply row_here2 | with_reducible apply row_here3 | with_reducible apply rowSkip)); have hw : Below w.heap.size w W := Below.trans hw (Below.mono hB (Below.size hw)); clear hB))
          exact bodyPost_ret (results24_3 Try.results27 rfl (stored_two r2 _ _).row rfl (v := .int .i64 0) rfl (v' := .int .i64 4) rfl) rfl ⟨rfl, hw.trans ((stored_two r2 _ _).below _ (by omega))⟩
end Go.Proofs.Ytkodjegpdkfjkaa
