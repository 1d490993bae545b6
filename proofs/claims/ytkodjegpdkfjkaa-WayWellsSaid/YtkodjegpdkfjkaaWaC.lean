/- Contracts: hours of work, both ways; whether a land is great. -/
import Derived.Test.YtkodjegpdkfjkaaWlR
import Derived.Test.YtkodjegpdkfjkaaWtS
import Derived.Deep.RegionWith
set_option linter.unusedVariables false
set_option linter.unusedSimpArgs false
namespace Go.Proofs.Ytkodjegpdkfjkaa
open Go.RowKit
open Go.Proofs

theorem Check_v (a1 a2 : Option Addr) (cap1 cap2 n1 n2 : Nat) (ws : List Wl) (ls : List Lg) (x : Bool) (v : Int) (w : World) (hn1 : n1 = ws.length) (hn2 : n2 = ls.length) (h : LandIn w.heap.size w a1 a2 ws ls) (hx : okLand ws ls = x) (hv : (if x = true then 0 else 30) = v) :
    Calls Try.prog 28 #[.agg #[.slice a1 n1 cap1, .slice a2 n2 cap2]] w fun e w' => e = .returned (.int .i64 v) ∧ Below w.heap.size w w' := by
  subst hv
  exact Check_x a1 a2 cap1 cap2 n1 n2 ws ls x w hn1 hn2 h hx
theorem LandIn.well {C : Nat} {W : World} {a1 a2 : Option Addr} {ws : List Wl} {ls : List Lg} (h : LandIn C W a1 a2 ws ls) (hok : okLand ws ls = true) {p : Nat} (hp : p < ws.length) : ∃ g off v, a1 = some ⟨g, off, none⟩ ∧ WellAt W g (off + p * 9) v ∧ g < C ∧ ws.getD p wl0 = v ∧ BdW v := by
  obtain ⟨g, off, e, h1, -⟩ := h.wells.get hp
  refine ⟨g, off, ws[p], e, h1, ?_, by simp [hp], ?_⟩
  · have h0 : ws ≠ [] := by rintro rfl; simp at hp
    exact h.lt1 _ e h0
  · have hall : ws.all okWl = true := by
      simp only [okLand, Bool.and_eq_true] at hok
      exact hok.1.2
    rw [List.all_eq_true] at hall
    exact okWl_bd (hall _ (List.getElem_mem hp))
theorem okLand_n {ws : List Wl} {ls : List Lg} (h : okLand ws ls = true) : 1 ≤ ws.length ∧ ws.length ≤ 12 := by
  simp only [okLand, okN, Bool.and_eq_true, decide_eq_true_eq] at h
  omega
theorem chkH_bad {ws : List Wl} {ls : List Lg} {a b c : Int} (h : okLand ws ls = false) : chkH ws ls a b c = 30 ∧ hrs ws ls a b c = 0 := by
  have e : chkH ws ls a b c = 30 := by simp [chkH, h]
  exact ⟨e, by simp [hrs, e]⟩
theorem chkH_arg {ws : List Wl} {ls : List Lg} {a b c : Int} (h : okLand ws ls = true) (h2 : (okN a 0 (ws.length - 1) && (okN b 0 1000000000 && okN c 1 100)) = false) : chkH ws ls a b c = 2 ∧ hrs ws ls a b c = 0 := by
  have e : chkH ws ls a b c = 2 := by
    rw [chkH, if_pos h, if_neg]
    rintro ⟨h3, h4, h5⟩
    simp [h3, h4, h5] at h2
  exact ⟨e, by simp [hrs, e]⟩
theorem chkH_ok {ws : List Wl} {ls : List Lg} {b c : Int} {p : Nat} (h : okLand ws ls = true) (h2 : okN p 0 (ws.length - 1) = true) (h3 : okN b 0 1000000000 = true) (h4 : okN c 1 100 = true) : chkH ws ls p b c = 0 ∧ hrs ws ls p b c = (b * (ws.getD p wl0).depth + 1000000 * c - 1) / (1000000 * c) := by
  have e : chkH ws ls p b c = 0 := by rw [chkH, if_pos h, if_pos ⟨h2, h3, h4⟩]
  exact ⟨e, by simp [hrs, e]⟩

set_option maxRecDepth 100000 in
set_option maxHeartbeats 8000000 in
theorem Work_x (a1 a2 : Option Addr) (cap1 cap2 n1 n2 : Nat) (ws : List Wl) (ls : List Lg) (well water teams q c : Int) (w : World) (hn1 : n1 = ws.length) (hn2 : n2 = ls.length) (h : LandIn w.heap.size w a1 a2 ws ls) (hc : chkH ws ls well water teams = c) (hq : hrs ws ls well water teams = q) :
    Calls Try.prog 22 #[.agg #[.slice a1 n1 cap1, .slice a2 n2 cap2], .int .i64 well, .int .i64 water, .int .i64 teams] w fun e w' => e = .returned (.tuple #[.int .i64 q, .int .i64 c]) ∧ Below w.heap.size w w' := by
  have HN1 := Lib.hid hn1
  have HN2 := Lib.hid hn2
  have HL := Lib.hid h
  cases hok : okLand ws ls with
  | false =>
    obtain ⟨e1, e2⟩ := chkH_bad (a := well) (b := water) (c := teams) hok
    rw [e1] at hc; rw [e2] at hq; subst hc hq
    have HK := Lib.hid hok
    clear hok h hn1 hn2 e1 e2
    go_enter Try.func22, Try.ntmps22
    go_wp2_with fail
    refine (Check_v a1 a2 cap1 cap2 n1 n2 ws ls false 30 _ HN1.out HN2.out (HL.out.at_ (by go_grown)) HK.out rfl).mono ?_
    rintro e W1 ⟨rfl, hB⟩
    have hW1 : Below w.heap.size w W1 := Below.trans (by go_grown) (hB.mono (by simp; try omega))
    have zW1 := hW1.size
    clear hB
    go_wp2
    go_returns
    exact ⟨rfl, hW1⟩
  | true =>
    have hnn := okLand_n hok
    rw [← hn1] at hnn
    obtain ⟨hnn1, hnn2⟩ := hnn
    have HK := Lib.hid hok
    obtain ⟨b1, hb1⟩ : ∃ b, okN well 0 ((n1 : Int) - 1) = b := ⟨_, rfl⟩
    obtain ⟨b2, hb2⟩ : ∃ b, okN water 0 1000000000 = b := ⟨_, rfl⟩
    obtain ⟨b3, hb3⟩ : ∃ b, okN teams 1 100 = b := ⟨_, rfl⟩
    have H1 := Lib.hid hb1
    have H2 := Lib.hid hb2
    have H3 := Lib.hid hb3
    cases b1 with
    | false =>
      obtain ⟨e1, e2⟩ := chkH_arg (a := well) (b := water) (c := teams) hok (by rw [← HN1.out, H1.out]; rfl)
      rw [e1] at hc; rw [e2] at hq; subst hc hq
      clear e1 e2
      have HN3 := hnn2
      clear hok h hn1 hn2 hb1 hb2 hb3
      go_enter Try.func22, Try.ntmps22
      go_wp2_with fail
      refine (Check_v a1 a2 cap1 cap2 n1 n2 ws ls true 0 _ HN1.out HN2.out (HL.out.at_ (by go_grown)) HK.out rfl).mono ?_
      rintro e W1 ⟨rfl, hB⟩
      have hW1 : Below w.heap.size w W1 := Below.trans (by go_grown) (hB.mono (by simp; try omega))
      have zW1 := hW1.size
      obtain ⟨rsW1, csW1, gsW1, zsW1⟩ := keep_row hB (g := w.heap.size) (by repeat (first | with_reducible assumption | with_reducible apply row_here0 | with_reducible apply row_here1 | with_reducible apply row_here2 | with_reducible apply row_here3 | with_reducible apply rowSkip))
      clear hB
      have hw := hW1
      clear hW1
      go_wp2_with (first | (go_at_call 66; refine (isWell_x _ _ _ _ _ H1.out (by omega) _).mono ?_; rintro e W ⟨rfl, hB⟩; obtain ⟨r1, c1, g1, s1⟩ := keep_row hB (g := w.heap.size) (by repeat (first | with_reducible assumption | with_reducible apply row_here0 | with_reducible apply row_here1 | with_reducible apply row_here2 | with_reducible apply row_here3 | with_reducible apply rowSkip)); have hw : Below w.heap.size w W := Below.trans hw (Below.mono hB (Below.size hw)); clear hB) | (go_at_call_of 68 water; refine (inRange_x _ _ _ _ H2.out _).mono ?_; rintro e W ⟨rfl, hB⟩; obtain ⟨r1, c1, g1, s1⟩ := keep_row hB (g := w.heap.size) (by repeat (first | with_reducible assumption | with_reducible apply row_here0 | with_reducible apply row_here1 | with_reducible apply row_here2 | with_reducible apply row_here3 | with_reducible apply rowSkip)); have hw : Below w.heap.size w W := Below.trans hw (Below.mono hB (Below.size hw)); clear hB) | (go_at_call_of 68 teams; refine (inRange_x _ _ _ _ H3.out _).mono ?_; rintro e W ⟨rfl, hB⟩; obtain ⟨r1, c1, g1, s1⟩ := keep_row hB (g := w.heap.size) (by repeat (first | with_reducible assumption | with_reducible apply row_here0 | with_reducible apply row_here1 | with_reducible apply row_here2 | with_reducible apply row_here3 | with_reducible apply rowSkip)); have hw : Below w.heap.size w W := Below.trans hw (Below.mono hB (Below.size hw)); clear hB))
      go_returns
      exact ⟨rfl, hw⟩
    | true =>
      cases b2 with
      | false =>
        obtain ⟨e1, e2⟩ := chkH_arg (a := well) (b := water) (c := teams) hok (by rw [← HN1.out, H1.out, H2.out]; rfl)
        rw [e1] at hc; rw [e2] at hq; subst hc hq
        clear e1 e2
        have HN3 := hnn2
        clear hok h hn1 hn2 hb1 hb2 hb3
        go_enter Try.func22, Try.ntmps22
        go_wp2_with fail
        refine (Check_v a1 a2 cap1 cap2 n1 n2 ws ls true 0 _ HN1.out HN2.out (HL.out.at_ (by go_grown)) HK.out rfl).mono ?_
        rintro e W1 ⟨rfl, hB⟩
        have hW1 : Below w.heap.size w W1 := Below.trans (by go_grown) (hB.mono (by simp; try omega))
        have zW1 := hW1.size
        obtain ⟨rsW1, csW1, gsW1, zsW1⟩ := keep_row hB (g := w.heap.size) (by repeat (first | with_reducible assumption | with_reducible apply row_here0 | with_reducible apply row_here1 | with_reducible apply row_here2 | with_reducible apply row_here3 | with_reducible apply rowSkip))
        clear hB
        have hw := hW1
        clear hW1
        go_wp2_with (first | (go_at_call 66; refine (isWell_x _ _ _ _ _ H1.out (by omega) _).mono ?_; rintro e W ⟨rfl, hB⟩; obtain ⟨r1, c1, g1, s1⟩ := keep_row hB (g := w.heap.size) (by repeat (first | with_reducible assumption | with_reducible apply row_here0 | with_reducible apply row_here1 | with_reducible apply row_here2 | with_reducible apply row_here3 | with_reducible apply rowSkip)); have hw : Below w.heap.size w W := Below.trans hw (Below.mono hB (Below.size hw)); clear hB) | (go_at_call_of 68 water; refine (inRange_x _ _ _ _ H2.out _).mono ?_; rintro e W ⟨rfl, hB⟩; obtain ⟨r1, c1, g1, s1⟩ := keep_row hB (g := w.heap.size) (by repeat (first | with_reducible assumption | with_reducible apply row_here0 | with_reducible apply row_here1 | with_reducible apply row_here2 | with_reducible apply row_here3 | with_reducible apply rowSkip)); have hw : Below w.heap.size w W := Below.trans hw (Below.mono hB (Below.size hw)); clear hB) | (go_at_call_of 68 teams; refine (inRange_x _ _ _ _ H3.out _).mono ?_; rintro e W ⟨rfl, hB⟩; obtain ⟨r1, c1, g1, s1⟩ := keep_row hB (g := w.heap.size) (by repeat (first | with_reducible assumption | with_reducible apply row_here0 | with_reducible apply row_here1 | with_reducible apply row_here2 | with_reducible apply row_here3 | with_reducible apply rowSkip)); have hw : Below w.heap.size w W := Below.trans hw (Below.mono hB (Below.size hw)); clear hB))
        go_returns
        exact ⟨rfl, hw⟩
      | true =>
        cases b3 with
        | false =>
          obtain ⟨e1, e2⟩ := chkH_arg (a := well) (b := water) (c := teams) hok (by rw [← HN1.out, H1.out, H2.out, H3.out]; rfl)
          rw [e1] at hc; rw [e2] at hq; subst hc hq
          clear e1 e2
          have HN3 := hnn2
          clear hok h hn1 hn2 hb1 hb2 hb3
          go_enter Try.func22, Try.ntmps22
          go_wp2_with fail
          refine (Check_v a1 a2 cap1 cap2 n1 n2 ws ls true 0 _ HN1.out HN2.out (HL.out.at_ (by go_grown)) HK.out rfl).mono ?_
          rintro e W1 ⟨rfl, hB⟩
          have hW1 : Below w.heap.size w W1 := Below.trans (by go_grown) (hB.mono (by simp; try omega))
          have zW1 := hW1.size
          obtain ⟨rsW1, csW1, gsW1, zsW1⟩ := keep_row hB (g := w.heap.size) (by repeat (first | with_reducible assumption | with_reducible apply row_here0 | with_reducible apply row_here1 | with_reducible apply row_here2 | with_reducible apply row_here3 | with_reducible apply rowSkip))
          clear hB
          have hw := hW1
          clear hW1
          go_wp2_with (first | (go_at_call 66; refine (isWell_x _ _ _ _ _ H1.out (by omega) _).mono ?_; rintro e W ⟨rfl, hB⟩; obtain ⟨r1, c1, g1, s1⟩ := keep_row hB (g := w.heap.size) (by repeat (first | with_reducible assumption | with_reducible apply row_here0 | with_reducible apply row_here1 | with_reducible apply row_here2 | with_reducible apply row_here3 | with_reducible apply rowSkip)); have hw : Below w.heap.size w W := Below.trans hw (Below.mono hB (Below.size hw)); clear hB) | (go_at_call_of 68 water; refine (inRange_x _ _ _ _ H2.out _).mono ?_; rintro e W ⟨rfl, hB⟩; obtain ⟨r1, c1, g1, s1⟩ := keep_row hB (g := w.heap.size) (by repeat (first | with_reducible assumption | with_reducible apply row_here0 | with_reducible apply row_here1 | with_reducible apply row_here2 | with_reducible apply row_here3 | with_reducible apply rowSkip)); have hw : Below w.heap.size w W := Below.trans hw (Below.mono hB (Below.size hw)); clear hB) | (go_at_call_of 68 teams; refine (inRange_x _ _ _ _ H3.out _).mono ?_; rintro e W ⟨rfl, hB⟩; obtain ⟨r1, c1, g1, s1⟩ := keep_row hB (g := w.heap.size) (by repeat (first | with_reducible assumption | with_reducible apply row_here0 | with_reducible apply row_here1 | with_reducible apply row_here2 | with_reducible apply row_here3 | with_reducible apply rowSkip)); have hw : Below w.heap.size w W := Below.trans hw (Below.mono hB (Below.size hw)); clear hB))
          go_returns
          exact ⟨rfl, hw⟩
        | true =>
          have hb1' := hb1; have hb2' := hb2; have hb3' := hb3
          simp only [okN, Bool.and_eq_true, decide_eq_true_eq] at hb1' hb2' hb3'
          obtain ⟨p1, p2⟩ := hb1'; obtain ⟨p3, p4⟩ := hb2'; obtain ⟨p5, p6⟩ := hb3'
          obtain ⟨p, rfl⟩ : ∃ p : Nat, well = p := ⟨well.toNat, by omega⟩
          have hpn : p < ws.length := by omega
          have hpi : (p : Int) < (n1 : Int) := by omega
          obtain ⟨g, off, v, rfl, hwl, hg, hv, hbd⟩ := HL.out.well hok hpn
          obtain ⟨e1, e2⟩ := chkH_ok (p := p) hok (hn1 ▸ hb1) hb2 hb3
          rw [hv] at e2
          rw [e1] at hc; rw [e2] at hq; subst hc
          have HW := Lib.hid hwl
          obtain ⟨d1, d2⟩ := hbd.depth
          have m0 : 0 ≤ water * v.depth := Int.mul_nonneg p3 d1
          have m1 : water * v.depth ≤ 1000000000 * 200 := Int.mul_le_mul p4 d2 d1 (by omega)
          have HQ := Lib.hid hq
          have hqb : 0 ≤ q ∧ q ≤ 1000000000000 := by rw [← hq]; exact ⟨Int.ediv_nonneg (by omega) (by omega), Int.le_trans (Int.ediv_le_self _ (by omega)) (by omega)⟩
          have HT := Lib.hid (show Int.tdiv (water * v.depth + 1000000 * teams - 1) (1000000 * teams) = q by rw [Int.tdiv_eq_ediv_of_nonneg (by omega), hq])
          clear e1 e2 hq hwl hv hbd
          have HN3 := hnn2
          clear hok h hn1 hn2 hb1 hb2 hb3
          go_enter Try.func22, Try.ntmps22
          go_wp2_with fail
          refine (Check_v (some ⟨g, off, none⟩) a2 cap1 cap2 n1 n2 ws ls true 0 _ HN1.out HN2.out (HL.out.at_ (by go_grown)) HK.out rfl).mono ?_
          rintro e W1 ⟨rfl, hB⟩
          have hW1 : Below w.heap.size w W1 := Below.trans (by go_grown) (hB.mono (by simp; try omega))
          have zW1 := hW1.size
          obtain ⟨rsW1, csW1, gsW1, zsW1⟩ := keep_row hB (g := w.heap.size) (by repeat (first | with_reducible assumption | with_reducible apply row_here0 | with_reducible apply row_here1 | with_reducible apply row_here2 | with_reducible apply row_here3 | with_reducible apply rowSkip))
          clear hB
          have hw := hW1
          clear hW1
          go_upto_region 6 with (first | (go_at_call 66; refine (isWell_x _ _ _ _ _ H1.out (by omega) _).mono ?_; rintro e W ⟨rfl, hB⟩; obtain ⟨r1, c1, g1, s1⟩ := keep_row hB (g := w.heap.size) (by repeat (first | with_reducible assumption | with_reducible apply row_here0 | with_reducible apply row_here1 | with_reducible apply row_here2 | with_reducible apply row_here3 | with_reducible apply rowSkip)); have hw : Below w.heap.size w W := Below.trans hw (Below.mono hB (Below.size hw)); clear hB) | (go_at_call_of 68 water; refine (inRange_x _ _ _ _ H2.out _).mono ?_; rintro e W ⟨rfl, hB⟩; obtain ⟨r1, c1, g1, s1⟩ := keep_row hB (g := w.heap.size) (by repeat (first | with_reducible assumption | with_reducible apply row_here0 | with_reducible apply row_here1 | with_reducible apply row_here2 | with_reducible apply row_here3 | with_reducible apply rowSkip)); have hw : Below w.heap.size w W := Below.trans hw (Below.mono hB (Below.size hw)); clear hB) | (go_at_call_of 68 teams; refine (inRange_x _ _ _ _ H3.out _).mono ?_; rintro e W ⟨rfl, hB⟩; obtain ⟨r1, c1, g1, s1⟩ := keep_row hB (g := w.heap.size) (by repeat (first | with_reducible assumption | with_reducible apply row_here0 | with_reducible apply row_here1 | with_reducible apply row_here2 | with_reducible apply row_here3 | with_reducible apply rowSkip)); have hw : Below w.heap.size w W := Below.trans hw (Below.mono hB (Below.size hw)); clear hB))
          obtain ⟨-, -, cd, -, -, -, -, -, -⟩ := HW.out.below hw _ _ _ hg
          go_wp2_with fail
          refine (divided_x (water * v.depth) (1000000 * teams) q HQ.out m0 (by omega) (by omega) (by omega) _).mono ?_
          rintro e W2 ⟨rfl, hB⟩
          have hw2 : Below w.heap.size w W2 := Below.trans hw (Below.mono hB (Below.size hw))
          clear hB
          go_wp2
          go_returns
          exact ⟨rfl, hw2⟩
set_option maxRecDepth 100000 in
set_option maxHeartbeats 8000000 in
theorem rWork_x (a1 a2 : Option Addr) (cap1 cap2 n1 n2 : Nat) (ws : List Wl) (ls : List Lg) (well water teams q c : Int) (w : World) (hn1 : n1 = ws.length) (hn2 : n2 = ls.length) (h : LandIn w.heap.size w a1 a2 ws ls) (hc : chkH ws ls well water teams = c) (hq : hrs ws ls well water teams = q) :
    Calls Try.prog 44 #[.agg #[.slice a1 n1 cap1, .slice a2 n2 cap2], .int .i64 well, .int .i64 water, .int .i64 teams] w fun e w' => e = .returned (.tuple #[.int .i64 q, .int .i64 c]) ∧ Below w.heap.size w w' := by
  have HN1 := Lib.hid hn1
  have HN2 := Lib.hid hn2
  have HL := Lib.hid h
  cases hok : okLand ws ls with
  | false =>
    obtain ⟨e1, e2⟩ := chkH_bad (a := well) (b := water) (c := teams) hok
    rw [e1] at hc; rw [e2] at hq; subst hc hq
    have HK := Lib.hid hok
    clear hok h hn1 hn2 e1 e2
    go_enter Try.func44, Try.ntmps44
    go_wp2_with fail
    refine (rLand_x a1 a2 cap1 cap2 n1 n2 ws ls false _ HN1.out HN2.out (HL.out.at_ (by go_grown)) HK.out).mono ?_
    rintro e W1 ⟨rfl, hB⟩
    have hW1 : Below w.heap.size w W1 := Below.trans (by go_grown) (hB.mono (by simp; try omega))
    have zW1 := hW1.size
    clear hB
    go_wp2
    go_returns
    exact ⟨rfl, hW1⟩
  | true =>
    have hnn := okLand_n hok
    rw [← hn1] at hnn
    obtain ⟨hnn1, hnn2⟩ := hnn
    have HK := Lib.hid hok
    obtain ⟨b1, hb1⟩ : ∃ b, okN well 0 ((n1 : Int) - 1) = b := ⟨_, rfl⟩
    obtain ⟨b2, hb2⟩ : ∃ b, okN water 0 1000000000 = b := ⟨_, rfl⟩
    obtain ⟨b3, hb3⟩ : ∃ b, okN teams 1 100 = b := ⟨_, rfl⟩
    have H1 := Lib.hid hb1
    have H2 := Lib.hid hb2
    have H3 := Lib.hid hb3
    cases b1 with
    | false =>
      obtain ⟨e1, e2⟩ := chkH_arg (a := well) (b := water) (c := teams) hok (by rw [← HN1.out, H1.out]; rfl)
      rw [e1] at hc; rw [e2] at hq; subst hc hq
      clear e1 e2
      have HN3 := hnn2
      clear hok h hn1 hn2 hb1 hb2 hb3
      go_enter Try.func44, Try.ntmps44
      go_wp2_with fail
      refine (rLand_x a1 a2 cap1 cap2 n1 n2 ws ls true _ HN1.out HN2.out (HL.out.at_ (by go_grown)) HK.out).mono ?_
      rintro e W1 ⟨rfl, hB⟩
      have hW1 : Below w.heap.size w W1 := Below.trans (by go_grown) (hB.mono (by simp; try omega))
      have zW1 := hW1.size
      obtain ⟨rsW1, csW1, gsW1, zsW1⟩ := keep_row hB (g := w.heap.size) (by repeat (first | with_reducible assumption | with_reducible apply row_here0 | with_reducible apply row_here1 | with_reducible apply row_here2 | with_reducible apply row_here3 | with_reducible apply rowSkip))
      clear hB
      have hw := hW1
      clear hW1
      go_wp2_with (first | (go_at_call_of 79 well; refine (within_x _ _ _ _ H1.out _).mono ?_; rintro e W ⟨rfl, hB⟩; obtain ⟨r1, c1, g1, s1⟩ := keep_row hB (g := w.heap.size) (by repeat (first | with_reducible assumption | with_reducible apply row_here0 | with_reducible apply row_here1 | with_reducible apply row_here2 | with_reducible apply row_here3 | with_reducible apply rowSkip)); have hw : Below w.heap.size w W := Below.trans hw (Below.mono hB (Below.size hw)); clear hB) | (go_at_call_of 79 water; refine (within_x _ _ _ _ H2.out _).mono ?_; rintro e W ⟨rfl, hB⟩; obtain ⟨r1, c1, g1, s1⟩ := keep_row hB (g := w.heap.size) (by repeat (first | with_reducible assumption | with_reducible apply row_here0 | with_reducible apply row_here1 | with_reducible apply row_here2 | with_reducible apply row_here3 | with_reducible apply rowSkip)); have hw : Below w.heap.size w W := Below.trans hw (Below.mono hB (Below.size hw)); clear hB) | (go_at_call_of 79 teams; refine (within_x _ _ _ _ H3.out _).mono ?_; rintro e W ⟨rfl, hB⟩; obtain ⟨r1, c1, g1, s1⟩ := keep_row hB (g := w.heap.size) (by repeat (first | with_reducible assumption | with_reducible apply row_here0 | with_reducible apply row_here1 | with_reducible apply row_here2 | with_reducible apply row_here3 | with_reducible apply rowSkip)); have hw : Below w.heap.size w W := Below.trans hw (Below.mono hB (Below.size hw)); clear hB))
      go_returns
      exact ⟨rfl, hw⟩
    | true =>
      cases b2 with
      | false =>
        obtain ⟨e1, e2⟩ := chkH_arg (a := well) (b := water) (c := teams) hok (by rw [← HN1.out, H1.out, H2.out]; rfl)
        rw [e1] at hc; rw [e2] at hq; subst hc hq
        clear e1 e2
        have HN3 := hnn2
        clear hok h hn1 hn2 hb1 hb2 hb3
        go_enter Try.func44, Try.ntmps44
        go_wp2_with fail
        refine (rLand_x a1 a2 cap1 cap2 n1 n2 ws ls true _ HN1.out HN2.out (HL.out.at_ (by go_grown)) HK.out).mono ?_
        rintro e W1 ⟨rfl, hB⟩
        have hW1 : Below w.heap.size w W1 := Below.trans (by go_grown) (hB.mono (by simp; try omega))
        have zW1 := hW1.size
        obtain ⟨rsW1, csW1, gsW1, zsW1⟩ := keep_row hB (g := w.heap.size) (by repeat (first | with_reducible assumption | with_reducible apply row_here0 | with_reducible apply row_here1 | with_reducible apply row_here2 | with_reducible apply row_here3 | with_reducible apply rowSkip))
        clear hB
        have hw := hW1
        clear hW1
        go_wp2_with (first | (go_at_call_of 79 well; refine (within_x _ _ _ _ H1.out _).mono ?_; rintro e W ⟨rfl, hB⟩; obtain ⟨r1, c1, g1, s1⟩ := keep_row hB (g := w.heap.size) (by repeat (first | with_reducible assumption | with_reducible apply row_here0 | with_reducible apply row_here1 | with_reducible apply row_here2 | with_reducible apply row_here3 | with_reducible apply rowSkip)); have hw : Below w.heap.size w W := Below.trans hw (Below.mono hB (Below.size hw)); clear hB) | (go_at_call_of 79 water; refine (within_x _ _ _ _ H2.out _).mono ?_; rintro e W ⟨rfl, hB⟩; obtain ⟨r1, c1, g1, s1⟩ := keep_row hB (g := w.heap.size) (by repeat (first | with_reducible assumption | with_reducible apply row_here0 | with_reducible apply row_here1 | with_reducible apply row_here2 | with_reducible apply row_here3 | with_reducible apply rowSkip)); have hw : Below w.heap.size w W := Below.trans hw (Below.mono hB (Below.size hw)); clear hB) | (go_at_call_of 79 teams; refine (within_x _ _ _ _ H3.out _).mono ?_; rintro e W ⟨rfl, hB⟩; obtain ⟨r1, c1, g1, s1⟩ := keep_row hB (g := w.heap.size) (by repeat (first | with_reducible assumption | with_reducible apply row_here0 | with_reducible apply row_here1 | with_reducible apply row_here2 | with_reducible apply row_here3 | with_reducible apply rowSkip)); have hw : Below w.heap.size w W := Below.trans hw (Below.mono hB (Below.size hw)); clear hB))
        go_returns
        exact ⟨rfl, hw⟩
      | true =>
        cases b3 with
        | false =>
          obtain ⟨e1, e2⟩ := chkH_arg (a := well) (b := water) (c := teams) hok (by rw [← HN1.out, H1.out, H2.out, H3.out]; rfl)
          rw [e1] at hc; rw [e2] at hq; subst hc hq
          clear e1 e2
          have HN3 := hnn2
          clear hok h hn1 hn2 hb1 hb2 hb3
          go_enter Try.func44, Try.ntmps44
          go_wp2_with fail
          refine (rLand_x a1 a2 cap1 cap2 n1 n2 ws ls true _ HN1.out HN2.out (HL.out.at_ (by go_grown)) HK.out).mono ?_
          rintro e W1 ⟨rfl, hB⟩
          have hW1 : Below w.heap.size w W1 := Below.trans (by go_grown) (hB.mono (by simp; try omega))
          have zW1 := hW1.size
          obtain ⟨rsW1, csW1, gsW1, zsW1⟩ := keep_row hB (g := w.heap.size) (by repeat (first | with_reducible assumption | with_reducible apply row_here0 | with_reducible apply row_here1 | with_reducible apply row_here2 | with_reducible apply row_here3 | with_reducible apply rowSkip))
          clear hB
          have hw := hW1
          clear hW1
          go_wp2_with (first | (go_at_call_of 79 well; refine (within_x _ _ _ _ H1.out _).mono ?_; rintro e W ⟨rfl, hB⟩; obtain ⟨r1, c1, g1, s1⟩ := keep_row hB (g := w.heap.size) (by repeat (first | with_reducible assumption | with_reducible apply row_here0 | with_reducible apply row_here1 | with_reducible apply row_here2 | with_reducible apply row_here3 | with_reducible apply rowSkip)); have hw : Below w.heap.size w W := Below.trans hw (Below.mono hB (Below.size hw)); clear hB) | (go_at_call_of 79 water; refine (within_x _ _ _ _ H2.out _).mono ?_; rintro e W ⟨rfl, hB⟩; obtain ⟨r1, c1, g1, s1⟩ := keep_row hB (g := w.heap.size) (by repeat (first | with_reducible assumption | with_reducible apply row_here0 | with_reducible apply row_here1 | with_reducible apply row_here2 | with_reducible apply row_here3 | with_reducible apply rowSkip)); have hw : Below w.heap.size w W := Below.trans hw (Below.mono hB (Below.size hw)); clear hB) | (go_at_call_of 79 teams; refine (within_x _ _ _ _ H3.out _).mono ?_; rintro e W ⟨rfl, hB⟩; obtain ⟨r1, c1, g1, s1⟩ := keep_row hB (g := w.heap.size) (by repeat (first | with_reducible assumption | with_reducible apply row_here0 | with_reducible apply row_here1 | with_reducible apply row_here2 | with_reducible apply row_here3 | with_reducible apply rowSkip)); have hw : Below w.heap.size w W := Below.trans hw (Below.mono hB (Below.size hw)); clear hB))
          go_returns
          exact ⟨rfl, hw⟩
        | true =>
          have hb1' := hb1; have hb2' := hb2; have hb3' := hb3
          simp only [okN, Bool.and_eq_true, decide_eq_true_eq] at hb1' hb2' hb3'
          obtain ⟨p1, p2⟩ := hb1'; obtain ⟨p3, p4⟩ := hb2'; obtain ⟨p5, p6⟩ := hb3'
          obtain ⟨p, rfl⟩ : ∃ p : Nat, well = p := ⟨well.toNat, by omega⟩
          have hpn : p < ws.length := by omega
          have hpi : (p : Int) < (n1 : Int) := by omega
          obtain ⟨g, off, v, rfl, hwl, hg, hv, hbd⟩ := HL.out.well hok hpn
          obtain ⟨e1, e2⟩ := chkH_ok (p := p) hok (hn1 ▸ hb1) hb2 hb3
          rw [hv] at e2
          rw [e1] at hc; rw [e2] at hq; subst hc
          have HW := Lib.hid hwl
          obtain ⟨d1, d2⟩ := hbd.depth
          have m0 : 0 ≤ water * v.depth := Int.mul_nonneg p3 d1
          have m1 : water * v.depth ≤ 1000000000 * 200 := Int.mul_le_mul p4 d2 d1 (by omega)
          have HQ := Lib.hid hq
          have hqb : 0 ≤ q ∧ q ≤ 1000000000000 := by rw [← hq]; exact ⟨Int.ediv_nonneg (by omega) (by omega), Int.le_trans (Int.ediv_le_self _ (by omega)) (by omega)⟩
          have HT := Lib.hid (show Int.tdiv (water * v.depth + 1000000 * teams - 1) (1000000 * teams) = q by rw [Int.tdiv_eq_ediv_of_nonneg (by omega), hq])
          clear e1 e2 hq hwl hv hbd
          have HN3 := hnn2
          clear hok h hn1 hn2 hb1 hb2 hb3
          go_enter Try.func44, Try.ntmps44
          go_wp2_with fail
          refine (rLand_x (some ⟨g, off, none⟩) a2 cap1 cap2 n1 n2 ws ls true _ HN1.out HN2.out (HL.out.at_ (by go_grown)) HK.out).mono ?_
          rintro e W1 ⟨rfl, hB⟩
          have hW1 : Below w.heap.size w W1 := Below.trans (by go_grown) (hB.mono (by simp; try omega))
          have zW1 := hW1.size
          obtain ⟨rsW1, csW1, gsW1, zsW1⟩ := keep_row hB (g := w.heap.size) (by repeat (first | with_reducible assumption | with_reducible apply row_here0 | with_reducible apply row_here1 | with_reducible apply row_here2 | with_reducible apply row_here3 | with_reducible apply rowSkip))
          clear hB
          have hw := hW1
          clear hW1
          go_upto_region 5 with (first | (go_at_call_of 79 well; refine (within_x _ _ _ _ H1.out _).mono ?_; rintro e W ⟨rfl, hB⟩; obtain ⟨r1, c1, g1, s1⟩ := keep_row hB (g := w.heap.size) (by repeat (first | with_reducible assumption | with_reducible apply row_here0 | with_reducible apply row_here1 | with_reducible apply row_here2 | with_reducible apply row_here3 | with_reducible apply rowSkip)); have hw : Below w.heap.size w W := Below.trans hw (Below.mono hB (Below.size hw)); clear hB) | (go_at_call_of 79 water; refine (within_x _ _ _ _ H2.out _).mono ?_; rintro e W ⟨rfl, hB⟩; obtain ⟨r1, c1, g1, s1⟩ := keep_row hB (g := w.heap.size) (by repeat (first | with_reducible assumption | with_reducible apply row_here0 | with_reducible apply row_here1 | with_reducible apply row_here2 | with_reducible apply row_here3 | with_reducible apply rowSkip)); have hw : Below w.heap.size w W := Below.trans hw (Below.mono hB (Below.size hw)); clear hB) | (go_at_call_of 79 teams; refine (within_x _ _ _ _ H3.out _).mono ?_; rintro e W ⟨rfl, hB⟩; obtain ⟨r1, c1, g1, s1⟩ := keep_row hB (g := w.heap.size) (by repeat (first | with_reducible assumption | with_reducible apply row_here0 | with_reducible apply row_here1 | with_reducible apply row_here2 | with_reducible apply row_here3 | with_reducible apply rowSkip)); have hw : Below w.heap.size w W := Below.trans hw (Below.mono hB (Below.size hw)); clear hB))
          obtain ⟨-, -, cd, -, -, -, -, -, -⟩ := HW.out.below hw _ _ _ hg
          have hne : 1000000 * teams ≠ 0 := by omega
          have hne1 : 1000000 * teams ≠ -1 := by omega
          have ht := HT.out
          go_wp2
          go_returns
          exact ⟨rfl, hw⟩
end Go.Proofs.Ytkodjegpdkfjkaa
