/- Contract of the reference's Meets. -/
import Derived.Test.YtafdcbdbllpcnaaLate2
import Derived.Test.YtafdcbdbllpcnaaRefA
namespace Go.Proofs.Ytafdcbdbllpcnaa
open Go.RowKit
open Go.Proofs

theorem spanned1_any (hi : Int) (s : Int × Int) (x : Bool) (hx : (inB 1 s.2 s.1 && decide (s.2 ≤ hi)) = x) (w : World) :
    Calls Try.prog 81 #[.agg #[.int .i64 s.1, .int .i64 s.2], .int .i64 1, .int .i64 hi] w fun e w' => e = .returned (.bool x) ∧ Below w.heap.size w w' := by
  have HX := Lib.hid hx
  clear hx
  go_enter Try.func81, Try.ntmps81
  go_wp2_with (go_at_call 82; refine (rwithin_any _ _ _ _).mono ?_; rintro e w' ⟨rfl, rfl⟩)
  all_goals go_returns
  · rename_i h
    exact ⟨ret_bool (by rw [← HX.out, h]; simp), by go_grown⟩
  · rename_i h
    exact ⟨ret_bool (by rw [← HX.out]; simp only [Bool.not_eq_true] at h; rw [h]; simp), by go_grown⟩

set_option maxRecDepth 100000 in
set_option maxHeartbeats 4000000 in
theorem rMeets_lists (n day : Int) (wt : Int × Int) (fa : Option Addr) (fcap nf : Nat) (first : List Int) (ma : Option Addr) (mcap nm : Nat) (ms : List Mt) (x : Int) (w : World) (hnf : nf = first.length) (hnm : nm = ms.length) (hf : IntsIn w fa fcap first) (hm : MeetsIn w ma mcap ms)
    (ha : okA n wt day = true) (h1 : nf ≤ 30) (h2 : nm ≤ 200) (hx : chkG n first ms wt day = x) :
    Calls Try.prog 54 #[.int .i64 n, .slice fa nf fcap, .slice ma nm mcap, .agg #[.int .i64 wt.1, .int .i64 wt.2], .int .i64 day] w fun e w' => e = .returned (.int .i64 x) ∧ Below w.heap.size w w' := by
  have HF := Lib.hid hf
  have HM := Lib.hid hm
  have HNF := Lib.hid hnf
  have HNM := Lib.hid hnm
  have hx' : (if first.all (inR n) = true then (if ms.all (okX n) = true then (0 : Int) else 14) else 14) = x := by rw [← hx]; unfold chkG; rw [if_pos ha, if_pos (show first.length ≤ 30 ∧ ms.length ≤ 200 from ⟨by omega, by omega⟩)]
  have HX := Lib.hid hx'
  simp only [okA, okSpan, Bool.and_eq_true, decide_eq_true_eq] at ha
  obtain ⟨⟨⟨⟨⟨a1, a2⟩, a3⟩, ⟨-, a4⟩, a4'⟩, a5⟩, a6⟩ := ha
  have b1 : inB 1 30 n = true := by simp [inB, a1, a2]
  have b2 : inB 0 100000 day = true := by simp [inB, a5, a6]
  have H4 := Lib.hid (show (inB 1 wt.2 wt.1 && decide (wt.2 ≤ 60)) = true by simp [inB, a3, a4, a4'])
  have h1' : (nf : Int) ≤ 30 := by omega
  have h2' : (nm : Int) ≤ 200 := by omega
  clear hf hm hnf hnm hx hx' a4 a4' a3 a5 a6
  go_enter Try.func54, Try.ntmps54
  go_wp2_with (first | (go_at_call 82; refine (rwithin_any _ _ _ _).mono ?_; rintro e w' ⟨rfl, rfl⟩) | fail)
  refine (spanned1_any 60 wt true H4.out _).mono ?_
  rintro e W1 ⟨rfl, hB⟩
  have hW1 : Below w.heap.size w W1 := Below.trans (by go_grown) (hB.mono (by simp))
  clear hB
  go_wp2_with (first | (go_at_call 82; refine (rwithin_any _ _ _ _).mono ?_; rintro e w' ⟨rfl, rfl⟩) | fail)
  go_loopw [11] (fun i wr => ∃ k : Nat, k ≤ nf ∧ i = .int .i64 (k : Int) ∧ Hid ((first.take k).all (inR n) = true) ∧ Below w.heap.size w wr) (fun i _ => nf - (intOf i).toNat)
  case atStart => exact ⟨0, Nat.zero_le _, rfl, by simp [Hid], hW1⟩
  case round =>
    obtain ⟨k, hk, rfl, hall, hB0⟩ := hrel
    by_cases hlt : k < nf
    · have hkf : k < first.length := by have := HNF.out; omega
      obtain ⟨g, off, rfl, c0, hg⟩ := (HF.out.below hB0 (Nat.le_refl _)).get hkf
      generalize hv : first.getD k 0 = v at c0
      have HV := Lib.hid hv
      have hlt' : (k : Int) < (nf : Int) := by omega
      clear hv
      cases hin : inB 0 (n - 1) v with
      | true =>
        go_wp2_with (first | (go_at_call 82; refine (rwithin_any _ _ _ _).mono ?_; rintro e w' ⟨rfl, rfl⟩) | fail)
        simp only [inB, Bool.and_eq_true, decide_eq_true_eq] at hin
        exact ⟨⟨k + 1, hlt, by go_num, allI_step hkf hall.out 0 (by rw [HV.out]; simp [inR]; omega), hB0⟩, by simp [intOf]; omega⟩
      | false =>
        go_wp2_with (first | (go_at_call 82; refine (rwithin_any _ _ _ _).mono ?_; rintro e w' ⟨rfl, rfl⟩) | fail)
        have hno := allI_no hkf 0 (p := inR n) (by rw [HV.out, ← Bool.not_eq_true]; rw [← Bool.not_eq_true] at hin; simp only [inB, inR, Bool.and_eq_true, decide_eq_true_eq] at hin ⊢; omega)
        have hx2 := HX.out.symm.trans (if_neg hno)
        go_returns
        exact ⟨ret_int hx2.symm, hB0⟩
    · obtain rfl : k = nf := by omega
      have hall1 : first.all (inR n) = true := by have := hall.out; rwa [HNF.out, List.take_length] at this
      have HX2 := Lib.hid (HX.out.symm.trans (if_pos hall1))
      clear hall hall1 HX
      go_wp2
      go_loopw [12] (fun i wr => ∃ j : Nat, j ≤ nm ∧ i = .int .i64 (j : Int) ∧ Hid ((ms.take j).all (okX n) = true) ∧ Below w.heap.size w wr) (fun i _ => nm - (intOf i).toNat)
      case atStart => exact ⟨0, Nat.zero_le _, rfl, by simp [Hid], hB0⟩
      case round =>
        obtain ⟨j, hj, rfl, hall, hB2⟩ := hrel
        by_cases hlt2 : j < nm
        · have hkm : j < ms.length := by have := HNM.out; omega
          obtain ⟨g, off, rfl, ⟨c0, c1, c2, c3⟩, hg⟩ := (HM.out.below hB2 (Nat.le_refl _)).get hkm
          generalize hv : mtS ms j = v at c0 c1 c2 c3
          have HV := Lib.hid hv
          have hlt' : (j : Int) < (nm : Int) := by omega
          have hg2 := hB2.size
          have HNO := Lib.hid (fun (h : okX n v = false) => HX2.out.trans (if_neg (allI_no hkm mt0 (p := okX n) (by show okX n (mtS ms j) = false; rw [HV.out]; exact h))))
          have HOK := Lib.hid (show okX n v = (inB 0 (n - 1) v.a && (inB 0 (n - 1) v.b && (!(v.a == v.b) && inB 0 100000 v.day))) by
            rw [Bool.eq_iff_iff]
            simp only [okX, inR, inB, Bool.and_eq_true, decide_eq_true_eq, Bool.not_eq_true', beq_eq_false_iff_ne]
            omega)
          clear hv
          cases e1 : inB 0 (n - 1) v.a with
          | false =>
            have hx3 := Lib.hid (HNO.out (by rw [HOK.out, e1]; rfl))
            go_wp2_with (first | (go_at_call 82; refine (rwithin_any _ _ _ _).mono ?_; rintro e w' ⟨rfl, rfl⟩) | fail)
            go_returns
            exact ⟨ret_int hx3.out.symm, hB2.alloc hg2 _⟩
          | true =>
            cases e2 : inB 0 (n - 1) v.b with
            | false =>
              have hx3 := Lib.hid (HNO.out (by rw [HOK.out, e1, e2]; rfl))
              go_wp2_with (first | (go_at_call 82; refine (rwithin_any _ _ _ _).mono ?_; rintro e w' ⟨rfl, rfl⟩) | fail)
              go_returns
              exact ⟨ret_int hx3.out.symm, hB2.alloc hg2 _⟩
            | true =>
              cases e3 : v.a == v.b with
              | true =>
                have hx3 := Lib.hid (HNO.out (by rw [HOK.out, e1, e2, e3]; rfl))
                go_wp2_with (first | (go_at_call 82; refine (rwithin_any _ _ _ _).mono ?_; rintro e w' ⟨rfl, rfl⟩) | fail)
                go_returns
                exact ⟨ret_int hx3.out.symm, hB2.alloc hg2 _⟩
              | false =>
                cases e4 : inB 0 100000 v.day with
                | false =>
                  have hx3 := Lib.hid (HNO.out (by rw [HOK.out, e1, e2, e3, e4]; rfl))
                  go_wp2_with (first | (go_at_call 82; refine (rwithin_any _ _ _ _).mono ?_; rintro e w' ⟨rfl, rfl⟩) | fail)
                  go_returns
                  exact ⟨ret_int hx3.out.symm, hB2.alloc hg2 _⟩
                | true =>
                  have hyes := Lib.hid (show okX n v = true by rw [HOK.out, e1, e2, e3, e4]; rfl)
                  go_wp2_with (first | (go_at_call 82; refine (rwithin_any _ _ _ _).mono ?_; rintro e w' ⟨rfl, rfl⟩) | fail)
                  exact ⟨⟨j + 1, hlt2, by go_num, allI_step hkm hall.out mt0 (by show okX n (mtS ms j) = true; rw [HV.out]; exact hyes.out), hB2.alloc hg2 _⟩, by simp [intOf]; omega⟩
        · obtain rfl : j = nm := by omega
          have hall1 : ms.all (okX n) = true := by have := hall.out; rwa [HNM.out, List.take_length] at this
          have HX3 := Lib.hid (HX2.out.trans (if_pos hall1))
          clear hall hall1 HX2
          go_wp2
          go_returns
          exact ⟨ret_int HX3.out.symm, hB2⟩
end Go.Proofs.Ytafdcbdbllpcnaa
