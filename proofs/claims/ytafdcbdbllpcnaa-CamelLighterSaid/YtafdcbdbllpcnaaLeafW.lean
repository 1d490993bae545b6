/- Contract of package camel's checkMange. -/
import Derived.Test.YtafdcbdbllpcnaaRefA
import Derived.Test.YtafdcbdbllpcnaaLeafH
set_option linter.unusedVariables false
set_option linter.unusedSimpArgs false
namespace Go.Proofs.Ytafdcbdbllpcnaa
open Go.RowKit
open Go.Proofs

set_option maxRecDepth 100000 in
set_option maxHeartbeats 4000000 in
/-- The two lists, behind the first two questions. -/
theorem checkMange_lists (n day : Int) (wt : Int × Int) (fa : Option Addr) (fcap nf : Nat) (first : List Int) (ma : Option Addr) (mcap nm : Nat) (ms : List Mt) (x : Int) (w : World) (hnf : nf = first.length) (hnm : nm = ms.length) (hf : IntsIn w fa fcap first) (hm : MeetsIn w ma mcap ms)
    (ha : okA n wt day = true) (h1 : nf ≤ 30) (h2 : nm ≤ 200) (hx : chkG n first ms wt day = x) :
    Calls Try.prog 55 #[.int .i64 n, .slice fa nf fcap, .slice ma nm mcap, .agg #[.int .i64 wt.1, .int .i64 wt.2], .int .i64 day] w fun e w' => e = .returned (.int .i64 x) ∧ Below w.heap.size w w' := by
  have HF := Lib.hid hf
  have HM := Lib.hid hm
  have HNF := Lib.hid hnf
  have HNM := Lib.hid hnm
  have hx' : (if first.all (inR n) = true then (if ms.all (okX n) = true then (0 : Int) else 14) else 14) = x := by rw [← hx]; unfold chkG; rw [if_pos ha, if_pos (show first.length ≤ 30 ∧ ms.length ≤ 200 from ⟨by omega, by omega⟩)]
  have HX := Lib.hid hx'
  simp only [okA, Bool.and_eq_true, decide_eq_true_eq] at ha
  obtain ⟨⟨⟨⟨⟨a1, a2⟩, a3⟩, a4⟩, a5⟩, a6⟩ := ha
  have H4 := Lib.hid a4
  have h1' : (nf : Int) ≤ 30 := by omega
  have h2' : (nm : Int) ≤ 200 := by omega
  clear hf hm hnf hnm hx hx' a4
  go_enter Try.func55, Try.ntmps55
  go_wp2_with fail
  refine (within1x 60 wt true H4.out _ _ _ (by repeat (first | with_reducible assumption | with_reducible apply row_here0 | with_reducible apply row_here1 | with_reducible apply row_here2 | with_reducible apply row_here3 | with_reducible apply rowSkip)) (by simp)).mono ?_
  rintro e W1 ⟨rfl, hB⟩
  have hW1 : Below w.heap.size w W1 := Below.trans (by go_grown) (hB.mono (by simp; omega))
  clear hB
  go_wp2
  go_loopw [50] (fun i wr => ∃ k : Nat, k ≤ nf ∧ i = .int .i64 (k : Int) ∧ Hid ((first.take k).all (inR n) = true) ∧ Below w.heap.size w wr) (fun i _ => nf - (intOf i).toNat)
  case atStart => exact ⟨0, Nat.zero_le _, rfl, by simp [Hid], hW1⟩
  case round =>
    obtain ⟨k, hk, rfl, hall, hB0⟩ := hrel
    by_cases hlt : k < nf
    · have hkf : k < first.length := by have := HNF.out; omega
      obtain ⟨g, off, rfl, c0, hg⟩ := (HF.out.below hB0 (Nat.le_refl _)).get hkf
      generalize hv : first.getD k 0 = v at c0
      have HV := Lib.hid hv
      have hlt' : (k : Int) < (nf : Int) := by omega
      clear hv
      by_cases hin : 0 ≤ v ∧ v < n
      · obtain ⟨i1, i2⟩ := hin
        go_wp2
        case roundEnd => exact ⟨⟨k + 1, hlt, by go_num, allI_step hkf hall.out 0 (by rw [HV.out]; simp [inR, i1, i2]), hB0⟩, by simp [intOf]; omega⟩
      · have hno := allI_no hkf 0 (p := inR n) (by rw [HV.out]; simp [inR]; omega)
        have HX2 := Lib.hid (HX.out.symm.trans (if_neg hno))
        have hno' : ¬ (0 ≤ v ∧ v < n) := hin
        clear hin hno
        go_wp2
        all_goals first
          | (go_returns; exact ⟨ret_int HX2.out.symm, hB0⟩)
          | (exfalso; omega)
    · obtain rfl : k = nf := by omega
      have hall1 : first.all (inR n) = true := by have := hall.out; rwa [HNF.out, List.take_length] at this
      have HX2 := Lib.hid (HX.out.symm.trans (if_pos hall1))
      clear hall hall1 HX
      go_wp2
      go_loopw [64] (fun i wr => ∃ j : Nat, j ≤ nm ∧ i = .int .i64 (j : Int) ∧ Hid ((ms.take j).all (okX n) = true) ∧ Below w.heap.size w wr) (fun i _ => nm - (intOf i).toNat)
      case atStart => exact ⟨0, Nat.zero_le _, rfl, by simp [Hid], hB0⟩
      case round =>
        obtain ⟨j, hj, rfl, hall, hB2⟩ := hrel
        by_cases hlt2 : j < nm
        · have hkm : j < ms.length := by have := HNM.out; omega
          obtain ⟨g, off, rfl, ⟨c0, c1, c2, c3⟩, hg⟩ := (HM.out.below hB2 (Nat.le_refl _)).get hkm
          generalize hv : mtS ms j = v at c0 c1 c2 c3
          have HV := Lib.hid hv
          have hlt' : (j : Int) < (nm : Int) := by omega
          have hg2 := hB2.size
          clear hv
          by_cases hin : okMt n v
          · have HIN := Lib.hid hin
            obtain ⟨i1, i2, i3, i4, i5, i6, i7⟩ := hin
            have i5' : (v.a == v.b) = false := by simpa using i5
            go_wp2
            case roundEnd => exact ⟨⟨j + 1, hlt2, by go_num, allI_step hkm hall.out mt0 (by show okX n (mtS ms j) = true; rw [HV.out]; exact okX_iff.2 HIN.out), hB2.alloc hg2 _⟩, by simp [intOf]; omega⟩
          · have hno := allI_no hkm mt0 (p := okX n) (by show okX n (mtS ms j) = false; rw [HV.out, ← Bool.not_eq_true, okX_iff]; exact hin)
            have HX3 := Lib.hid (HX2.out.trans (if_neg hno))
            have HIN := Lib.hid hin
            clear hin hno
            go_wp2
            all_goals first
              | (go_returns; exact ⟨ret_int HX3.out.symm, hB2.alloc hg2 _⟩)
              | (exfalso; exact HIN.out ⟨by omega, by omega, by omega, by omega, by assumption, by omega, by omega⟩)
        · obtain rfl : j = nm := by omega
          have hall1 : ms.all (okX n) = true := by have := hall.out; rwa [HNM.out, List.take_length] at this
          have HX3 := Lib.hid (HX2.out.trans (if_pos hall1))
          clear hall hall1 HX2
          go_wp2
          go_returns
          exact ⟨ret_int HX3.out.symm, hB2⟩

set_option maxHeartbeats 4000000 in
/-- The first question says no. -/
theorem checkMange_arg (n day : Int) (wt : Int × Int) (sf sm : Value) (w : World) (ha : okA n wt day = false) :
    Calls Try.prog 55 #[.int .i64 n, sf, sm, .agg #[.int .i64 wt.1, .int .i64 wt.2], .int .i64 day] w fun e w' => e = .returned (.int .i64 2) ∧ Below w.heap.size w w' := by
  cases h4 : okSpan 60 wt with
  | false =>
    have H4 := Lib.hid h4
    clear ha h4
    by_cases a1 : 1 ≤ n ∧ n ≤ 30 ∧ 1 ≤ wt.1
    · obtain ⟨a1, a2, a3⟩ := a1
      go_enter Try.func55, Try.ntmps55
      go_wp2_with fail
      refine (within1x 60 wt false H4.out _ _ _ (by repeat (first | with_reducible assumption | with_reducible apply row_here0 | with_reducible apply row_here1 | with_reducible apply row_here2 | with_reducible apply row_here3 | with_reducible apply rowSkip)) (by simp)).mono ?_
      rintro e W1 ⟨rfl, hB⟩
      have hW1 : Below w.heap.size w W1 := Below.trans (by go_grown) (hB.mono (by simp; omega))
      clear hB
      go_wp2
      go_returns
      exact ⟨rfl, hW1⟩
    · go_enter Try.func55, Try.ntmps55
      go_wp2_with (first | (refine (within1x 60 wt false H4.out _ _ _ (by repeat (first | with_reducible assumption | with_reducible apply row_here0 | with_reducible apply row_here1 | with_reducible apply row_here2 | with_reducible apply row_here3 | with_reducible apply rowSkip)) (by simp)).mono ?_; rintro e W1 ⟨rfl, hB⟩; exfalso; omega) | fail)
      all_goals first
        | (go_returns; exact ⟨rfl, by go_grown⟩)
        | (exfalso; omega)
  | true =>
    have H4 := Lib.hid h4
    have hno : ¬ (1 ≤ n ∧ n ≤ 30 ∧ 1 ≤ wt.1 ∧ 0 ≤ day ∧ day ≤ 100000) := by
      rintro ⟨b1, b2, b3, b5, b6⟩
      simp [okA, b1, b2, b3, b5, b6, h4] at ha
    clear ha h4
    by_cases a1 : 1 ≤ n ∧ n ≤ 30 ∧ 1 ≤ wt.1
    · obtain ⟨a1, a2, a3⟩ := a1
      have hno' : ¬ (0 ≤ day ∧ day ≤ 100000) := fun h => hno ⟨a1, a2, a3, h.1, h.2⟩
      clear hno
      go_enter Try.func55, Try.ntmps55
      go_wp2_with fail
      refine (within1x 60 wt true H4.out _ _ _ (by repeat (first | with_reducible assumption | with_reducible apply row_here0 | with_reducible apply row_here1 | with_reducible apply row_here2 | with_reducible apply row_here3 | with_reducible apply rowSkip)) (by simp)).mono ?_
      rintro e W1 ⟨rfl, hB⟩
      have hW1 : Below w.heap.size w W1 := Below.trans (by go_grown) (hB.mono (by simp; omega))
      clear hB
      by_cases h5 : 0 ≤ day
      · have h6 : 100000 < day := by omega
        go_wp2
        go_returns
        exact ⟨rfl, hW1⟩
      · have h6 : day < 0 := by omega
        go_wp2
        go_returns
        exact ⟨rfl, hW1⟩
    · clear hno
      go_enter Try.func55, Try.ntmps55
      go_wp2_with (first | (refine (within1x 60 wt true H4.out _ _ _ (by repeat (first | with_reducible assumption | with_reducible apply row_here0 | with_reducible apply row_here1 | with_reducible apply row_here2 | with_reducible apply row_here3 | with_reducible apply rowSkip)) (by simp)).mono ?_; rintro e W1 ⟨rfl, hB⟩; exfalso; omega) | fail)
      all_goals first
        | (go_returns; exact ⟨rfl, by go_grown⟩)
        | (exfalso; omega)
end Go.Proofs.Ytafdcbdbllpcnaa
/- Contract of package camel's checkMange, whole. -/
namespace Go.Proofs.Ytafdcbdbllpcnaa
open Go.RowKit
open Go.Proofs

set_option maxHeartbeats 4000000 in
theorem checkMange_many (n day : Int) (wt : Int × Int) (fa : Option Addr) (fcap nf : Nat) (ma : Option Addr) (mcap nm : Nat) (w : World) (ha : okA n wt day = true) (hl : ¬ (nf ≤ 30 ∧ nm ≤ 200)) :
    Calls Try.prog 55 #[.int .i64 n, .slice fa nf fcap, .slice ma nm mcap, .agg #[.int .i64 wt.1, .int .i64 wt.2], .int .i64 day] w fun e w' => e = .returned (.int .i64 4) ∧ Below w.heap.size w w' := by
  simp only [okA, Bool.and_eq_true, decide_eq_true_eq] at ha
  obtain ⟨⟨⟨⟨⟨a1, a2⟩, a3⟩, a4⟩, a5⟩, a6⟩ := ha
  have H4 := Lib.hid a4
  clear a4
  by_cases h1 : nf ≤ 30
  · have h2 : (200 : Int) < (nm : Int) := by omega
    have h1' : (nf : Int) ≤ 30 := by omega
    clear hl
    go_enter Try.func55, Try.ntmps55
    go_wp2_with fail
    refine (within1x 60 wt true H4.out _ _ _ (by repeat (first | with_reducible assumption | with_reducible apply row_here0 | with_reducible apply row_here1 | with_reducible apply row_here2 | with_reducible apply row_here3 | with_reducible apply rowSkip)) (by simp)).mono ?_
    rintro e W1 ⟨rfl, hB⟩
    have hW1 : Below w.heap.size w W1 := Below.trans (by go_grown) (hB.mono (by simp; omega))
    clear hB
    go_wp2
    go_returns
    exact ⟨rfl, hW1⟩
  · have h2 : (30 : Int) < (nf : Int) := by omega
    clear hl h1
    go_enter Try.func55, Try.ntmps55
    go_wp2_with fail
    refine (within1x 60 wt true H4.out _ _ _ (by repeat (first | with_reducible assumption | with_reducible apply row_here0 | with_reducible apply row_here1 | with_reducible apply row_here2 | with_reducible apply row_here3 | with_reducible apply rowSkip)) (by simp)).mono ?_
    rintro e W1 ⟨rfl, hB⟩
    have hW1 : Below w.heap.size w W1 := Below.trans (by go_grown) (hB.mono (by simp; omega))
    clear hB
    go_wp2
    go_returns
    exact ⟨rfl, hW1⟩
theorem checkMange_any (n day : Int) (wt : Int × Int) (fa : Option Addr) (fcap nf : Nat) (first : List Int) (ma : Option Addr) (mcap nm : Nat) (ms : List Mt) (x : Int) (w : World) (hnf : nf = first.length) (hnm : nm = ms.length) (hf : IntsIn w fa fcap first) (hm : MeetsIn w ma mcap ms) (hx : chkG n first ms wt day = x) :
    Calls Try.prog 55 #[.int .i64 n, .slice fa nf fcap, .slice ma nm mcap, .agg #[.int .i64 wt.1, .int .i64 wt.2], .int .i64 day] w fun e w' => e = .returned (.int .i64 x) ∧ Below w.heap.size w w' := by
  cases ha : okA n wt day with
  | false =>
    have : x = 2 := by rw [← hx]; simp [chkG, ha]
    subst this
    exact checkMange_arg n day wt _ _ w ha
  | true =>
    by_cases hl : nf ≤ 30 ∧ nm ≤ 200
    · exact checkMange_lists n day wt fa fcap nf first ma mcap nm ms x w hnf hnm hf hm ha hl.1 hl.2 hx
    · have : x = 4 := by
        rw [← hx]
        unfold chkG
        rw [if_pos ha, if_neg (show ¬ (first.length ≤ 30 ∧ ms.length ≤ 200) by omega)]
      subst this
      exact checkMange_many n day wt fa fcap nf ma mcap nm w ha hl
end Go.Proofs.Ytafdcbdbllpcnaa
