/- Contracts: the reference on draws; hours of work, both ways. -/
import Derived.Test.YtkodjegpdkfjkaaWaA
import Derived.BigRegion
import Derived.Deep.QuietTactic
import Derived.BigQuiet
import Derived.Deep.RegionWith
set_option linter.unusedVariables false
set_option linter.unusedSimpArgs false
namespace Go.Proofs.Ytkodjegpdkfjkaa
open Go.RowKit
open Go.Proofs

theorem within_s (n lo hi : Int) (x : Bool) (hx : okN n lo hi = x) (w : World) :
    Calls Try.prog 79 #[.int .i64 n, .int .i64 lo, .int .i64 hi] w fun e w' => e = .returned (.bool x) ∧ w' = w := by
  subst hx
  go_enter Try.func79, Try.ntmps79
  go_wp2
  all_goals go_returns
  all_goals exact ⟨ret_bool (by simp [okN, *]; try omega), rfl⟩
theorem lastD_nonneg {n : Int} {ds : List Dr} : ∀ {k : Nat}, DrsTo n ds k → 0 ≤ lastD ds k
  | 0, _ => Int.le_refl _
  | k + 1, h => by
    have h1 := h k (by omega)
    have h2 := lastD_nonneg (k := k) (fun j hj => h j (by omega))
    simp only [okDr, okN, Bool.and_eq_true, decide_eq_true_eq] at h1
    rw [lastD_succ]
    omega
theorem okDr_ref {n la : Int} {y : Dr} (h : 0 ≤ la) : okDr n la y = (okN y.well 0 (n - 1) && (okN y.day 0 100000 && (okN y.water 0 1000000000 && decide (¬ y.day < la)))) := by
  simp only [okDr, okN]
  cases h1 : okN y.well 0 (n - 1) <;> simp only [okN] at h1 <;> rw [h1] <;> simp
  by_cases h2 : la ≤ y.day
  · have : (0 : Int) ≤ y.day := by omega
    simp [h2, this, Bool.and_assoc, Bool.and_comm]
  · simp [h2]

set_option maxRecDepth 100000 in
set_option maxHeartbeats 16000000 in
theorem rDraws_x (a a1 a2 : Option Addr) (cap cap1 cap2 n n1 n2 : Nat) (ds : List Dr) (x : Bool) (w : World) (hn : n = ds.length) (h : DrawsIn w a ds) (hx : okDrs n1 ds = x) (hnw : n1 ≤ 12) (h200 : n ≤ 200) :
    Calls Try.prog 57 #[.agg #[.slice a1 n1 cap1, .slice a2 n2 cap2], .slice a n cap] w fun e w' => e = .returned (.bool x) ∧ Below w.heap.size w w' := by
  have HN := Lib.hid hn
  have HD := Lib.hid h
  have HX := Lib.hid hx
  have h200' : (n : Int) ≤ 200 := by omega
  clear hn h hx
  go_enter Try.func57, Try.ntmps57
  go_wp2_with fail
  go_loopw [5] (fun i wr => ∃ k : Nat, k ≤ n ∧ i = .int .i64 (k : Int) ∧ Hid (DrsTo n1 ds k) ∧ Hid (rowOf wr w.heap.size = some #[.slice a1 n1 cap1, .slice a2 n2 cap2]) ∧ Below w.heap.size w wr) (fun i _ => n - (intOf i).toNat)
  case atStart => exact ⟨0, Nat.zero_le _, rfl, DrsTo.zero _ _, row_here0 _ _ _, by go_grown⟩
  case round =>
    obtain ⟨k, hk, rfl, hA, hr, hB0⟩ := hrel
    have hz := hB0.size
    obtain ⟨rs, cs, gs, zs⟩ := row_facts hr.out
    by_cases hlt : k < n
    · have hkg : k < ds.length := by have := HN.out; omega
      obtain ⟨g, off, rfl, hg, hgb⟩ := HD.out.get hkg
      have hprev := fun (r : Nat) (hr : r < ds.length) => (HD.out.get hr)
      obtain ⟨c0, c1, c2⟩ := hg.below hB0 _ _ _ hgb
      have hlt' : (k : Int) < (n : Int) := by omega
      rw [← getD_get hkg] at c0 c1 c2
      obtain ⟨y, hy⟩ : ∃ y, ds.getD k dr0 = y := ⟨_, rfl⟩
      obtain ⟨la, hla⟩ : ∃ y, lastD ds k = y := ⟨_, rfl⟩
      rw [hy] at c0 c1 c2
      have hla0 : 0 ≤ la := hla ▸ lastD_nonneg hA.out
      have HRF := Lib.hid (okDr_ref (n := (n1 : Int)) (y := y) hla0)
      have HY := Lib.hid hy
      have HLA := Lib.hid hla
      have HPV := Lib.hid (fun (r : Nat) (hr1 : k = r + 1) (W : World) (hB : Below w.heap.size w W) => (show W.cell? ⟨g, off + r * 3 + 1, none⟩ = some (.int .i64 la) by
        obtain ⟨g', off', e, h1, h2⟩ := HD.out.get (k := r) (by omega)
        cases e
        have h3 := (DrawAt.below hB _ _ _ h2 h1).2.1
        have e2 : la = (ds[r]'(by omega)).day := by rw [← hla, show lastD ds k = lastD ds (r + 1) by rw [hr1], lastD_succ, getD_get (by omega)]
        rw [h3, e2]))
      clear hg hy hla hprev hr
      go_upto_region 5 with fail
      have rx0 : rowOf (wr.alloc (.cells #[.int .i64 y.well, .int .i64 y.day, .int .i64 y.water] 54)) wr.heap.size = some #[.int .i64 y.well, .int .i64 y.day, .int .i64 y.water] := row_here0 _ _ _
      have rs0 : rowOf (wr.alloc (.cells #[.int .i64 y.well, .int .i64 y.day, .int .i64 y.water] 54)) w.heap.size = some #[.slice a1 n1 cap1, .slice a2 n2 cap2] := rowSkip rs
      have hX := hB0.trans (Below.mono (ext_alloc wr (.cells #[.int .i64 y.well, .int .i64 y.day, .int .i64 y.water] 54)) hz)
      clear c0 c1 c2 hB0 hz rs cs gs zs
      generalize wr.heap.size = gx at *
      generalize (wr.alloc (.cells #[.int .i64 y.well, .int .i64 y.day, .int .i64 y.water] 54)) = X at *
      obtain ⟨_, cx, fx, zx⟩ := row_facts rx0
      obtain ⟨_, cs, fs, zs⟩ := row_facts rs0
      obtain ⟨okd, hokd⟩ : ∃ b, okDr n1 la y = b := ⟨_, rfl⟩
      have HOD := Lib.hid hokd
      clear hokd
      go_cut [51] (fun c wx => c = .bool (!okd) ∧ Ext X wx)
      case first =>
        obtain ⟨b1, hb1⟩ : ∃ b, okN y.well 0 ((n1 : Int) - 1) = b := ⟨_, rfl⟩
        obtain ⟨b2, hb2⟩ : ∃ b, okN y.day 0 100000 = b := ⟨_, rfl⟩
        obtain ⟨b3, hb3⟩ : ∃ b, okN y.water 0 1000000000 = b := ⟨_, rfl⟩
        have H1 := Lib.hid hb1
        have H2 := Lib.hid hb2
        have H3 := Lib.hid hb3
        clear hb1 hb2 hb3
        cases b1 with
        | false =>
          go_quiet (first | (go_at_call_of 79 (Dr.well y); exact Calls.quiet_of_same (within_s _ _ _ _ H1.out _)) | (go_at_call_of 79 (Dr.day y); exact Calls.quiet_of_same (within_s _ _ _ _ H2.out _)) | (go_at_call_of 79 (Dr.water y); exact Calls.quiet_of_same (within_s _ _ _ _ H3.out _)))
          go_wp2_with fail
          go_meet
          exact ⟨congrArg Value.bool (by rw [← HOD.out, HRF.out, H1.out]; rfl), below_drewN (Below.refl _ _) _⟩
        | true =>
          cases b2 with
          | false =>
            go_quiet (first | (go_at_call_of 79 (Dr.well y); exact Calls.quiet_of_same (within_s _ _ _ _ H1.out _)) | (go_at_call_of 79 (Dr.day y); exact Calls.quiet_of_same (within_s _ _ _ _ H2.out _)) | (go_at_call_of 79 (Dr.water y); exact Calls.quiet_of_same (within_s _ _ _ _ H3.out _)))
            go_wp2_with fail
            go_meet
            exact ⟨congrArg Value.bool (by rw [← HOD.out, HRF.out, H1.out, H2.out]; rfl), below_drewN (Below.refl _ _) _⟩
          | true =>
            cases b3 with
            | false =>
              go_quiet (first | (go_at_call_of 79 (Dr.well y); exact Calls.quiet_of_same (within_s _ _ _ _ H1.out _)) | (go_at_call_of 79 (Dr.day y); exact Calls.quiet_of_same (within_s _ _ _ _ H2.out _)) | (go_at_call_of 79 (Dr.water y); exact Calls.quiet_of_same (within_s _ _ _ _ H3.out _)))
              go_wp2_with fail
              go_meet
              exact ⟨congrArg Value.bool (by rw [← HOD.out, HRF.out, H1.out, H2.out, H3.out]; rfl), below_drewN (Below.refl _ _) _⟩
            | true =>
              match k with
              | 0 =>
                have e0 : la = 0 := by rw [← HLA.out]; rfl
                have hy0 : ¬ y.day < la := by have h := H2.out; simp only [okN, Bool.and_eq_true, decide_eq_true_eq] at h; omega
                go_quiet (first | (go_at_call_of 79 (Dr.well y); exact Calls.quiet_of_same (within_s _ _ _ _ H1.out _)) | (go_at_call_of 79 (Dr.day y); exact Calls.quiet_of_same (within_s _ _ _ _ H2.out _)) | (go_at_call_of 79 (Dr.water y); exact Calls.quiet_of_same (within_s _ _ _ _ H3.out _)))
                go_wp2_with fail
                go_meet
                exact ⟨congrArg Value.bool (by rw [← HOD.out, HRF.out, H1.out, H2.out, H3.out, decide_eq_true hy0]; rfl), below_drewN (Below.refl _ _) _⟩
              | r + 1 =>
                have hp := HPV.out r rfl X hX
                have hsub : ((r + 1 : Nat) : Int) - 1 = (r : Int) := by omega
                have hsub2 : (r : Int) + 1 - 1 = (r : Int) := by omega
                have hpos : 0 < ((r + 1 : Nat) : Int) := by omega
                have hrn : r < n := by omega
                have hrn2 : (r : Int) < (n : Int) := by omega
                by_cases hd : y.day < la
                · skip
                  go_quiet (first | (go_at_call_of 79 (Dr.well y); exact Calls.quiet_of_same (within_s _ _ _ _ H1.out _)) | (go_at_call_of 79 (Dr.day y); exact Calls.quiet_of_same (within_s _ _ _ _ H2.out _)) | (go_at_call_of 79 (Dr.water y); exact Calls.quiet_of_same (within_s _ _ _ _ H3.out _)))
                  go_wp2_with fail
                  go_meet
                  exact ⟨congrArg Value.bool (by rw [← HOD.out, HRF.out, H1.out, H2.out, H3.out, decide_eq_false (by omega)]; rfl), below_drewN (Below.refl _ _) _⟩
                · skip
                  go_quiet (first | (go_at_call_of 79 (Dr.well y); exact Calls.quiet_of_same (within_s _ _ _ _ H1.out _)) | (go_at_call_of 79 (Dr.day y); exact Calls.quiet_of_same (within_s _ _ _ _ H2.out _)) | (go_at_call_of 79 (Dr.water y); exact Calls.quiet_of_same (within_s _ _ _ _ H3.out _)))
                  go_wp2_with fail
                  go_meet
                  exact ⟨congrArg Value.bool (by rw [← HOD.out, HRF.out, H1.out, H2.out, H3.out, decide_eq_true hd]; rfl), below_drewN (Below.refl _ _) _⟩
      case rest =>
        obtain ⟨rfl, hE⟩ := hcut
        have hZ := hX.trans (Below.mono hE hX.size)
        have rs1 := Lib.hid (keep_row hE rs0).1
        clear hE hX rx0 rs0 cx fx zx cs fs zs
        generalize wc = Z at *
        have hokd := HOD.out
        clear HOD
        cases okd with
        | true =>
          have HG2 := Lib.hid (hA.out.step (by rw [HLA.out, HY.out]; exact hokd))
          clear hokd HRF
          go_wp2
          go_roundw
          case rel =>
            first
            | exact ⟨k + 1, hlt, by go_num, HG2, rs1, hZ⟩
            | ((repeat apply Exists.intro); exact ⟨⟨k + 1, hlt, by go_num, HG2, rs1, hZ⟩, rfl⟩)
          case measure => simp [intOf]; omega
        | false =>
          have hx3 : false = x := by rw [← HX.out, okDrs_no hkg (by rw [HLA.out, HY.out]; exact hokd)]
          subst hx3
          clear hokd HX HRF
          go_wp2
          go_returns
          exact ⟨rfl, hZ⟩
    · obtain rfl : n = k := by omega
      have hx3 : true = x := by rw [← HX.out, hA.out.all (by rw [← HN.out]; exact Nat.le_refl _)]
      subst hx3
      clear HX hA
      go_wp2
      go_returns
      exact ⟨rfl, hB0⟩
end Go.Proofs.Ytkodjegpdkfjkaa
