/- Contract of the reference's Meets. -/
import Derived.Test.YtafdcbdbllpcnaaRefA
import Derived.Test.YtafdcbdbllpcnaaRefS
import Derived.Test.YtafdcbdbllpcnaaDraws3
set_option linter.unusedVariables false
set_option linter.unusedSimpArgs false
namespace Go.Proofs.Ytafdcbdbllpcnaa
open Go.RowKit
open Go.Proofs

theorem spanned1_any (hi : Int) (s : Int × Int) (x : Bool) (hx : (inB 1 s.2 s.1 && decide (s.2 ≤ hi)) = x) (w : World) :
    Calls Try.prog 81 #[.agg #[.int .i64 s.1, .int .i64 s.2], .int .i64 1, .int .i64 hi] w fun e w' => e = .returned (.bool x) ∧ Below w.heap.size w w' := by
  have HX := Lib.hid hx
  clear hx
  go_enter Try.func81, Try.ntmps81
  go_wp2_with (go_at_call 82; refine (rwithin_any _ _ _ _).mono ?_; rintro e w' ⟨rfl, rfl⟩)
  all_goals go_returns
  · rename_i h
    exact ⟨ret_bool (by rw [← HX.out, h]; simp), by go_grown⟩
  · rename_i h
    exact ⟨ret_bool (by rw [← HX.out]; simp only [Bool.not_eq_true] at h; rw [h]; simp), by go_grown⟩

set_option maxRecDepth 100000 in
set_option maxHeartbeats 4000000 in
theorem rMeets_lists (n day : Int) (wt : Int × Int) (fa : Option Addr) (fcap nf : Nat) (first : List Int) (ma : Option Addr) (mcap nm : Nat) (ms : List Mt) (x : Int) (w : World) (hnf : nf = first.length) (hnm : nm = ms.length) (hf : IntsIn w fa fcap first) (hm : MeetsIn w ma mcap ms)
    (ha : okA n wt day = true) (h1 : nf ≤ 30) (h2 : nm ≤ 200) (hx : chkG n first ms wt day = x) :
    Calls Try.prog 54 #[.int .i64 n, .slice fa nf fcap, .slice ma nm mcap, .agg #[.int .i64 wt.1, .int .i64 wt.2], .int .i64 day] w fun e w' => e = .returned (.int .i64 x) ∧ Below w.heap.size w w' := by
  have HF := Lib.hid hf
  have HM := Lib.hid hm
  have HNF := Lib.hid hnf
  have HNM := Lib.hid hnm
  have hx' : (if first.all (inR n) = true then (if ms.all (okX n) = true then (0 : Int) else 14) else 14) = x := by rw [← hx]; unfold chkG; rw [if_pos ha, if_pos (show first.length ≤ 30 ∧ ms.length ≤ 200 from ⟨by omega, by omega⟩)]
  have HX := Lib.hid hx'
  simp only [okA, okSpan, Bool.and_eq_true, decide_eq_true_eq] at ha
  obtain ⟨⟨⟨⟨⟨a1, a2⟩, a3⟩, ⟨-, a4⟩, a4'⟩, a5⟩, a6⟩ := ha
  have b1 : inB 1 30 n = true := by simp [inB, a1, a2]
  have b2 : inB 0 100000 day = true := by simp [inB, a5, a6]
  have H4 := Lib.hid (show (inB 1 wt.2 wt.1 && decide (wt.2 ≤ 60)) = true by simp [inB, a3, a4, a4'])
  have h1' : (nf : Int) ≤ 30 := by omega
  have h2' : (nm : Int) ≤ 200 := by omega
  clear hf hm hnf hnm hx hx' a4 a4' a3 a5 a6
  go_enter Try.func54, Try.ntmps54
  go_wp2_with (first | (go_at_call 82; refine (rwithin_any _ _ _ _).mono ?_; rintro e w' ⟨rfl, rfl⟩) | fail)
  refine (spanned1_any 60 wt true H4.out _).mono ?_
  rintro e W1 ⟨rfl, hB⟩
  have hW1 : Below w.heap.size w W1 := Below.trans (by go_grown) (hB.mono (by simp))
  clear hB
  go_wp2_with (first | (go_at_call 82; refine (rwithin_any _ _ _ _).mono ?_; rintro e w' ⟨rfl, rfl⟩) | fail)
  go_loopw [11] (fun i wr => ∃ k : Nat, k ≤ nf ∧ i = .int .i64 (k : Int) ∧ Hid ((first.take k).all (inR n) = true) ∧ Below w.heap.size w wr) (fun i _ => nf - (intOf i).toNat)
  case atStart => exact ⟨0, Nat.zero_le _, rfl, by simp [Hid], hW1⟩
  case round =>
    obtain ⟨k, hk, rfl, hall, hB0⟩ := hrel
    by_cases hlt : k < nf
    · have hkf : k < first.length := by have := HNF.out; omega
      obtain ⟨g, off, rfl, c0, hg⟩ := (HF.out.below hB0 (Nat.le_refl _)).get hkf
      generalize hv : first.getD k 0 = v at c0
      have HV := Lib.hid hv
      have hlt' : (k : Int) < (nf : Int) := by omega
      clear hv
      cases hin : inB 0 (n - 1) v with
      | true =>
        go_wp2_with (first | (go_at_call 82; refine (rwithin_any _ _ _ _).mono ?_; rintro e w' ⟨rfl, rfl⟩) | fail)
        simp only [inB, Bool.and_eq_true, decide_eq_true_eq] at hin
        exact ⟨⟨k + 1, hlt, by go_num, allI_step hkf hall.out 0 (by rw [HV.out]; simp [inR]; omega), hB0⟩, by simp [intOf]; omega⟩
      | false =>
        go_wp2_with (first | (go_at_call 82; refine (rwithin_any _ _ _ _).mono ?_; rintro e w' ⟨rfl, rfl⟩) | fail)
        have hno := allI_no hkf 0 (p := inR n) (by rw [HV.out, ← Bool.not_eq_true]; rw [← Bool.not_eq_true] at hin; simp only [inB, inR, Bool.and_eq_true, decide_eq_true_eq] at hin ⊢; omega)
        have hx2 := HX.out.symm.trans (if_neg hno)
        go_returns
        exact ⟨ret_int hx2.symm, hB0⟩
    · obtain rfl : k = nf := by omega
      have hall1 : first.all (inR n) = true := by have := hall.out; rwa [HNF.out, List.take_length] at this
      have HX2 := Lib.hid (HX.out.symm.trans (if_pos hall1))
      clear hall hall1 HX
      go_wp2
      go_loopw [12] (fun i wr => ∃ j : Nat, j ≤ nm ∧ i = .int .i64 (j : Int) ∧ Hid ((ms.take j).all (okX n) = true) ∧ Below w.heap.size w wr) (fun i _ => nm - (intOf i).toNat)
      case atStart => exact ⟨0, Nat.zero_le _, rfl, by simp [Hid], hB0⟩
      case round =>
        obtain ⟨j, hj, rfl, hall, hB2⟩ := hrel
        by_cases hlt2 : j < nm
        · have hkm : j < ms.length := by have := HNM.out; omega
          obtain ⟨g, off, rfl, ⟨c0, c1, c2, c3⟩, hg⟩ := (HM.out.below hB2 (Nat.le_refl _)).get hkm
          generalize hv : mtS ms j = v at c0 c1 c2 c3
          have HV := Lib.hid hv
          have hlt' : (j : Int) < (nm : Int) := by omega
          have hg2 := hB2.size
          have HNO := Lib.hid (fun (h : okX n v = false) => HX2.out.trans (if_neg (allI_no hkm mt0 (p := okX n) (by show okX n (mtS ms j) = false; rw [HV.out]; exact h))))
          have HOK := Lib.hid (show okX n v = (inB 0 (n - 1) v.a && (inB 0 (n - 1) v.b && (!(v.a == v.b) && inB 0 100000 v.day))) by
            rw [Bool.eq_iff_iff]
            simp only [okX, inR, inB, Bool.and_eq_true, decide_eq_true_eq, Bool.not_eq_true', beq_eq_false_iff_ne]
            omega)
          clear hv
          cases e1 : inB 0 (n - 1) v.a with
          | false =>
            have hx3 := Lib.hid (HNO.out (by rw [HOK.out, e1]; rfl))
            go_wp2_with (first | (go_at_call 82; refine (rwithin_any _ _ _ _).mono ?_; rintro e w' ⟨rfl, rfl⟩) | fail)
            go_returns
            exact ⟨ret_int hx3.out.symm, hB2.alloc hg2 _⟩
          | true =>
            cases e2 : inB 0 (n - 1) v.b with
            | false =>
              have hx3 := Lib.hid (HNO.out (by rw [HOK.out, e1, e2]; rfl))
              go_wp2_with (first | (go_at_call 82; refine (rwithin_any _ _ _ _).mono ?_; rintro e w' ⟨rfl, rfl⟩) | fail)
              go_returns
              exact ⟨ret_int hx3.out.symm, hB2.alloc hg2 _⟩
            | true =>
              cases e3 : v.a == v.b with
              | true =>
                have hx3 := Lib.hid (HNO.out (by rw [HOK.out, e1, e2, e3]; rfl))
                go_wp2_with (first | (go_at_call 82; refine (rwithin_any _ _ _ _).mono ?_; rintro e w' ⟨rfl, rfl⟩) | fail)
                go_returns
                exact ⟨ret_int hx3.out.symm, hB2.alloc hg2 _⟩
              | false =>
                cases e4 : inB 0 100000 v.day with
                | false =>
                  have hx3 := Lib.hid (HNO.out (by rw [HOK.out, e1, e2, e3, e4]; rfl))
                  go_wp2_with (first | (go_at_call 82; refine (rwithin_any _ _ _ _).mono ?_; rintro e w' ⟨rfl, rfl⟩) | fail)
                  go_returns
                  exact ⟨ret_int hx3.out.symm, hB2.alloc hg2 _⟩
                | true =>
                  have hyes := Lib.hid (show okX n v = true by rw [HOK.out, e1, e2, e3, e4]; rfl)
                  go_wp2_with (first | (go_at_call 82; refine (rwithin_any _ _ _ _).mono ?_; rintro e w' ⟨rfl, rfl⟩) | fail)
                  exact ⟨⟨j + 1, hlt2, by go_num, allI_step hkm hall.out mt0 (by show okX n (mtS ms j) = true; rw [HV.out]; exact hyes.out), hB2.alloc hg2 _⟩, by simp [intOf]; omega⟩
        · obtain rfl : j = nm := by omega
          have hall1 : ms.all (okX n) = true := by have := hall.out; rwa [HNM.out, List.take_length] at this
          have HX3 := Lib.hid (HX2.out.trans (if_pos hall1))
          clear hall hall1 HX2
          go_wp2
          go_returns
          exact ⟨ret_int HX3.out.symm, hB2⟩
end Go.Proofs.Ytafdcbdbllpcnaa
/- Contract of the reference's Mange. -/
namespace Go.Proofs.Ytafdcbdbllpcnaa
open Go.RowKit
open Go.Proofs

theorem told_by {first : List Int} {ms : List Mt} {cl : Bool} {wv n d : Int} {xs : List Int} (h : Told first ms cl wv n xs) (hf : ∀ i ∈ first, 0 ≤ i ∧ i < n) (ho : ∀ x ∈ ms, okMt n x) (hw : 1 ≤ wv) (hd : d ≤ 100000) {i : Int} (hi : 0 ≤ i ∧ i < n) : fI xs i ≤ d ↔ SkBy first (EofC ms cl) wv d i :=
  reckoned h.fine.snd h.base h.reck hf (fun x hx => ho x hx.1) (fun x hx => .inl hx.1) hw (by omega) hi
theorem eofc_false (ms : List Mt) : EofC ms false = fun x => x ∈ ms := by funext x; simp [EofC]
theorem eofc_true (ms : List Mt) : EofC ms true = fun x => x ∈ ms ∧ x.close = true := by funext x; simp [EofC]
theorem told_known {first : List Int} {ms : List Mt} {wt : Int × Int} {n d : Int} {xs ys : List Int} (h1 : Told first ms false wt.1 n xs) (h2 : Told first ms true wt.2 n ys) (hf : ∀ i ∈ first, 0 ≤ i ∧ i < n) (ho : ∀ x ∈ ms, okMt n x) (hw : 1 ≤ wt.1) (hw2 : wt.1 ≤ wt.2) (hd : d ≤ 100000) {i : Int} (hi : 0 ≤ i ∧ i < n) :
    Knw first ms wt d i (if d < fI xs i then 0 else if fI ys i ≤ d then 2 else 1) := by
  have e1 := told_by h1 hf ho hw hd hi
  have e2 := told_by h2 hf ho (by omega) hd hi
  rw [eofc_false] at e1
  rw [eofc_true] at e2
  have h := Knw.told (w := wt) hw2 e1 e2
  by_cases hh : fI ys i ≤ d
  · have hs := SkBy.early (F := fun x => x ∈ ms ∧ x.close = true) (E := fun x => x ∈ ms) (fun _ hx => hx.1) hw2 (e2.1 hh)
    have hl := e1.2 hs
    rw [if_neg (by omega), if_pos hh]
    rwa [if_pos hh] at h
  · rw [if_neg hh] at h
    by_cases hl : fI xs i ≤ d
    · rw [if_neg (by omega), if_neg hh]
      rwa [if_pos hl] at h
    · rw [if_pos (by omega)]
      rwa [if_neg hl] at h

/-- A told list behind a call. -/
def TK (B : Nat) (first : List Int) (ms : List Mt) (cl : Bool) (wv : Int) (nn : Nat) (v : Value) (W : World) : Prop := ∃ g cap xs, v = .slice (some ⟨g, 0, none⟩) nn cap ∧ B ≤ g ∧ OutAt W g xs ∧ xs.length = nn ∧ Told first ms cl wv (nn : Int) xs
theorem tkR {B : Nat} {first : List Int} {ms : List Mt} {cl : Bool} {wv : Int} {nn : Nat} {v : Value} {W : World} (h : ∃ Wj, Ext Wj W ∧ TK B first ms cl wv nn v Wj) : TK B first ms cl wv nn v W := by
  obtain ⟨Wj, e, g, cap, xs, h1, h2, h3, h4, h5⟩ := h
  exact ⟨g, cap, xs, h1, h2, h3.keep e h3.lt, h4, h5⟩

theorem rMeets_x (n day : Int) (wt : Int × Int) (fa : Option Addr) (fcap nf : Nat) (first : List Int) (ma : Option Addr) (mcap nm : Nat) (ms : List Mt) (w : World) (hnf : nf = first.length) (hnm : nm = ms.length) (hf : IntsIn w fa fcap first) (hm : MeetsIn w ma mcap ms) (hx : chkG n first ms wt day = 0) :
    Calls Try.prog 54 #[.int .i64 n, .slice fa nf fcap, .slice ma nm mcap, .agg #[.int .i64 wt.1, .int .i64 wt.2], .int .i64 day] w fun e w' => e = .returned (.int .i64 0) ∧ Below w.heap.size w w' := by
  have h := chkG_fine hx
  have ha : okA n wt day = true := by
    cases h : okA n wt day with
    | true => rfl
    | false => simp [chkG, h] at hx
  exact rMeets_lists n day wt fa fcap nf first ma mcap nm ms 0 w hnf hnm hf hm ha (by omega) (by omega) hx
theorem one_news {W : World} {v : Value} {e : TypeId} : ∀ j u, ([v] : List Value)[j]? = some u → (W.alloc (.cells #[v] e)).cell? ((⟨W.heap.size, 0, none⟩ : Addr).add j) = some u := by
  intro j u hj
  match j with
  | 0 =>
    simp at hj
    subst hj
    rw [add_none]
    exact (cell_of_rowOf (row_here0 _ _ _)).1 0
  | j + 1 => simp at hj
theorem info5z : (Try.prog.info? 5).map (fun i => (i.zero, i.size, i.bytes)) = some (some (.int .u8 0), 1, 1) := by kernel_rfl

set_option maxRecDepth 100000 in
set_option maxHeartbeats 8000000 in
theorem rMange_ok (nn : Nat) (day : Int) (wt : Int × Int) (fa : Option Addr) (fcap nf : Nat) (first : List Int) (ma : Option Addr) (mcap nm : Nat) (ms : List Mt) (w : World) (hnf : nf = first.length) (hnm : nm = ms.length) (hf : IntsIn w fa fcap first) (hm : MeetsIn w ma mcap ms) (hx : chkG (nn : Int) first ms wt day = 0) :
    Calls Try.prog 42 #[.int .i64 (nn : Int), .slice fa nf fcap, .slice ma nm mcap, .agg #[.int .i64 wt.1, .int .i64 wt.2], .int .i64 day] w fun e w' => (∃ v, e = .returned (.tuple #[v, .int .i64 0]) ∧ ∃ vs : List Int, vs.length = nn ∧ w'.ownsRow w.heap.size 5 1 v nn (vs.map (.int .u8 ·)) ∧ ∀ i, i < nn → Knw first ms wt day (i : Int) (vs.getD i 0)) ∧ Below w.heap.size w w' := by
  have hfine := chkG_fine hx
  obtain ⟨⟨n1, n2⟩, ⟨w1, w2, w3⟩, ⟨d1, d2⟩, ⟨l1, l2⟩, hF1, hM1⟩ := hfine
  have HF := Lib.hid hf
  have HM := Lib.hid hm
  have HNF := Lib.hid hnf
  have HNM := Lib.hid hnm
  have HX := Lib.hid hx
  have HFI := Lib.hid hF1
  have HMS := Lib.hid hM1
  have hn1 : 1 ≤ nn := by omega
  have hn2 : nn ≤ 30 := by omega
  have hf2 : nf ≤ 30 := by omega
  have hm2 : nm ≤ 200 := by omega
  obtain ⟨i0, hi0, hz0, hz1, hz2⟩ := info_parts info5z
  clear hf hm hnf hnm hx hF1 hM1 l1 l2
  go_enter Try.func42, Try.ntmps42
  go_wp2_with fail
  refine (rMeets_x (nn : Int) day wt fa fcap nf first ma mcap nm ms _ HNF.out HNM.out (HF.out.below (B := w.heap.size) (by go_grown) (Nat.le_refl _)) (HM.out.below (B := w.heap.size) (by go_grown) (Nat.le_refl _)) HX.out).mono ?_
  rintro e W1 ⟨rfl, hB⟩
  have hW1 : Below w.heap.size w W1 := Below.trans (by go_grown) (hB.mono (by simp; try omega))
  have zW1 := hW1.size
  obtain ⟨raW1, caW1, gaW1, zaW1⟩ := keep_row hB (g := w.heap.size) (by repeat (first | with_reducible assumption | with_reducible apply row_here0 | with_reducible apply row_here1 | with_reducible apply row_here2 | with_reducible apply row_here3 | with_reducible apply rowSkip))
  clear hB
  go_wp2_with fail
  refine wp_drawz (by kernel_rfl) Ext (fun _ => 0) Ext.refl (fun _ _ _ => Ext.trans) [some 27, some 28, some 29, some 30, some 31, some 32, some 33, some 34, some 35, some 36, some 37, some 38, some 13, some 14] (by kernel_rfl) (by kernel_rfl) (fun ix v W => match ix with
    | 0 => v = .int .i64 (nn : Int)
    | 1 => v = .slice fa nf fcap
    | 2 => v = .slice ma nm mcap
    | 3 => v = .pointer (some ⟨w.heap.size, 0, none⟩)
    | 4 => v = .int .i64 wt.1
    | 5 => (TK w.heap.size first ms false wt.1 nn) v W
    | 6 => v = .int .i64 (nn : Int)
    | 7 => v = .slice fa nf fcap
    | 8 => v = .slice ma nm mcap
    | 9 => v = .pointer (some ⟨w.heap.size, 1, none⟩)
    | 10 => v = .int .i64 wt.2
    | 11 => (TK w.heap.size first ms true wt.2 nn) v W
    | 12 => (TK w.heap.size first ms false wt.1 nn) v W
    | 13 => (TK w.heap.size first ms true wt.2 nn) v W
    | _ => True) ⟨⟨?_, ?_⟩, ⟨?_, ?_⟩, ⟨?_, ?_⟩, ⟨?_, ?_⟩, ⟨?_, ?_⟩, ⟨?_, ?_⟩, ⟨?_, ?_⟩, ⟨?_, ?_⟩, ⟨?_, ?_⟩, ⟨?_, ?_⟩, ⟨?_, ?_⟩, ⟨?_, ?_⟩, ⟨?_, ?_⟩, ⟨?_, ?_⟩, ?_⟩
  · intro g h; cases h
  · intro b' W hE hb hdep K hK
    have e0 : b'.tmps[0]?.getD undef = .int .i64 (nn : Int) := hb 0 (by decide)
    clear hdep hb
    go_wp2
    exact hK _ _ (Ext.refl _) rfl
  · intro g h; cases h
  · intro b' W hE hb hdep K hK
    have e1 : b'.tmps[1]?.getD undef = .slice fa nf fcap := hb 1 (by decide)
    clear hdep hb
    go_wp2
    exact hK _ _ (Ext.refl _) rfl
  · intro g h; cases h
  · intro b' W hE hb hdep K hK
    have e2 : b'.tmps[2]?.getD undef = .slice ma nm mcap := hb 2 (by decide)
    clear hdep hb
    go_wp2
    exact hK _ _ (Ext.refl _) rfl
  · intro g h; cases h
  · intro b' W hE hb hdep K hK
    have e8 : b'.tmps[8]?.getD undef = .pointer (some ⟨w.heap.size, 0, none⟩) := hb 8 (by decide)
    clear hdep hb
    go_wp2
    exact hK _ _ (Ext.refl _) rfl
  · intro g h; cases h
  · intro b' W hE hb hdep K hK
    have e30 : b'.tmps[30]?.getD undef = .pointer (some ⟨w.heap.size, 0, none⟩) := pureR (hdep 3 (some 30) (by kernel_rfl) rfl)
    clear hdep hb
    obtain ⟨_, _, -, _⟩ := keep_row hE ((raW1 : rowOf _ _ = _))
    go_wp2
    exact hK _ _ (Ext.refl _) rfl
  · intro g h; cases h
  · intro b' W hE hb hdep K hK
    have e27 : b'.tmps[27]?.getD undef = .int .i64 (nn : Int) := pureR (hdep 0 (some 27) (by kernel_rfl) rfl)
    have e28 : b'.tmps[28]?.getD undef = .slice fa nf fcap := pureR (hdep 1 (some 28) (by kernel_rfl) rfl)
    have e29 : b'.tmps[29]?.getD undef = .slice ma nm mcap := pureR (hdep 2 (some 29) (by kernel_rfl) rfl)
    have e31 : b'.tmps[31]?.getD undef = .int .i64 wt.1 := pureR (hdep 4 (some 31) (by kernel_rfl) rfl)
    clear hdep hb
    go_wp2_with fail
    refine (sick_any nn wt.1 false fa fcap nf first ma mcap nm ms _ HNF.out HNM.out (HF.out.below (hE.below hW1.drew zW1) (Nat.le_refl _)) (HM.out.below (hE.below hW1.drew zW1) (Nat.le_refl _)) hn1 hn2 (by omega) (by omega) hf2 hm2 HFI.out HMS.out).mono ?_
    rintro e W' ⟨⟨g, cap, xs, rfl, h1, h2, h3, h4⟩, hB⟩
    exact hK _ _ hB ⟨g, cap, xs, rfl, by have := hE.size; simp at this; omega, h2, h3, h4⟩
  · intro g h; cases h
  · intro b' W hE hb hdep K hK
    have e0 : b'.tmps[0]?.getD undef = .int .i64 (nn : Int) := hb 0 (by decide)
    clear hdep hb
    go_wp2
    exact hK _ _ (Ext.refl _) rfl
  · intro g h; cases h
  · intro b' W hE hb hdep K hK
    have e1 : b'.tmps[1]?.getD undef = .slice fa nf fcap := hb 1 (by decide)
    clear hdep hb
    go_wp2
    exact hK _ _ (Ext.refl _) rfl
  · intro g h; cases h
  · intro b' W hE hb hdep K hK
    have e2 : b'.tmps[2]?.getD undef = .slice ma nm mcap := hb 2 (by decide)
    clear hdep hb
    go_wp2
    exact hK _ _ (Ext.refl _) rfl
  · intro g h; cases h
  · intro b' W hE hb hdep K hK
    have e8 : b'.tmps[8]?.getD undef = .pointer (some ⟨w.heap.size, 0, none⟩) := hb 8 (by decide)
    clear hdep hb
    go_wp2
    exact hK _ _ (Ext.refl _) rfl
  · intro g h; cases h
  · intro b' W hE hb hdep K hK
    have e36 : b'.tmps[36]?.getD undef = .pointer (some ⟨w.heap.size, 1, none⟩) := pureR (hdep 9 (some 36) (by kernel_rfl) rfl)
    clear hdep hb
    obtain ⟨_, _, -, _⟩ := keep_row hE ((raW1 : rowOf _ _ = _))
    go_wp2
    exact hK _ _ (Ext.refl _) rfl
  · intro g h; cases h
  · intro b' W hE hb hdep K hK
    have e33 : b'.tmps[33]?.getD undef = .int .i64 (nn : Int) := pureR (hdep 6 (some 33) (by kernel_rfl) rfl)
    have e34 : b'.tmps[34]?.getD undef = .slice fa nf fcap := pureR (hdep 7 (some 34) (by kernel_rfl) rfl)
    have e35 : b'.tmps[35]?.getD undef = .slice ma nm mcap := pureR (hdep 8 (some 35) (by kernel_rfl) rfl)
    have e37 : b'.tmps[37]?.getD undef = .int .i64 wt.2 := pureR (hdep 10 (some 37) (by kernel_rfl) rfl)
    clear hdep hb
    go_wp2_with fail
    refine (sick_any nn wt.2 true fa fcap nf first ma mcap nm ms _ HNF.out HNM.out (HF.out.below (hE.below hW1.drew zW1) (Nat.le_refl _)) (HM.out.below (hE.below hW1.drew zW1) (Nat.le_refl _)) hn1 hn2 (by omega) (by omega) hf2 hm2 HFI.out HMS.out).mono ?_
    rintro e W' ⟨⟨g, cap, xs, rfl, h1, h2, h3, h4⟩, hB⟩
    exact hK _ _ hB ⟨g, cap, xs, rfl, by have := hE.size; simp at this; omega, h2, h3, h4⟩
  · intro g h; cases h
  · intro b' W hE hb hdep K hK
    have t32 : (TK w.heap.size first ms false wt.1 nn) (b'.tmps[32]?.getD undef) W := tkR (hdep 5 (some 32) (by kernel_rfl) rfl)
    clear hdep hb
    go_wp2
    exact hK _ _ (Ext.refl _) t32
  · intro g h; cases h
  · intro b' W hE hb hdep K hK
    have t38 : (TK w.heap.size first ms true wt.2 nn) (b'.tmps[38]?.getD undef) W := tkR (hdep 11 (some 38) (by kernel_rfl) rfl)
    clear hdep hb
    go_wp2
    exact hK _ _ (Ext.refl _) t38
  intro f W hE hR
  have e27 : f 27 = .int .i64 (nn : Int) := pureR (hR 0 (some 27) rfl)
  have e28 : f 28 = .slice fa nf fcap := pureR (hR 1 (some 28) rfl)
  have e29 : f 29 = .slice ma nm mcap := pureR (hR 2 (some 29) rfl)
  have e30 : f 30 = .pointer (some ⟨w.heap.size, 0, none⟩) := pureR (hR 3 (some 30) rfl)
  have e31 : f 31 = .int .i64 wt.1 := pureR (hR 4 (some 31) rfl)
  have t32 : (TK w.heap.size first ms false wt.1 nn) (f 32) W := tkR (hR 5 (some 32) rfl)
  have e33 : f 33 = .int .i64 (nn : Int) := pureR (hR 6 (some 33) rfl)
  have e34 : f 34 = .slice fa nf fcap := pureR (hR 7 (some 34) rfl)
  have e35 : f 35 = .slice ma nm mcap := pureR (hR 8 (some 35) rfl)
  have e36 : f 36 = .pointer (some ⟨w.heap.size, 1, none⟩) := pureR (hR 9 (some 36) rfl)
  have e37 : f 37 = .int .i64 wt.2 := pureR (hR 10 (some 37) rfl)
  have t38 : (TK w.heap.size first ms true wt.2 nn) (f 38) W := tkR (hR 11 (some 38) rfl)
  have t13 : (TK w.heap.size first ms false wt.1 nn) (f 13) W := tkR (hR 12 (some 13) rfl)
  have t14 : (TK w.heap.size first ms true wt.2 nn) (f 14) W := tkR (hR 13 (some 14) rfl)
  clear hR
  obtain ⟨g3, cp3, xs3, e32, -⟩ := t32
  obtain ⟨g4, cp4, xs4, e38, -⟩ := t38
  obtain ⟨g1, cp1, xs, e13, hg1, hO1, hl1, hT1⟩ := t13
  obtain ⟨g2, cp2, ys, e14, hg2, hO2, hl2, hT2⟩ := t14
  simp only [List.filterMap_cons, List.filterMap_nil, id, puts, Act.put, List.setIfInBounds_toArray, List.set_cons_succ, List.set_cons_zero, e27, e28, e29, e30, e31, e32, e33, e34, e35, e36, e37, e38, e13, e14]
  have hWW : Below w.heap.size w W := hE.below hW1.drew zW1
  have HK := Lib.hid (fun (i : Nat) (hi : i < nn) => told_known hT1 hT2 HFI.out HMS.out w1 w2 d2 (i := (i : Int)) ⟨by omega, by omega⟩)
  have hO1' := Lib.hid hO1
  have hO2' := Lib.hid hO2
  clear hE hT1 hT2 hO1 hO2 raW1 caW1 gaW1 e32 e38 e13 e14 w1 w2 w3 d1 d2
  go_wp2
  go_loopw [15, 16] (fun v i wr => ∃ (k : Nat) (vs : List Int), k ≤ nn ∧ i = .int .i64 (k : Int) ∧ Hid (vs.length = k) ∧ Hid (∀ j, j < k → Knw first ms wt day (j : Int) (vs.getD j 0)) ∧ Hid (wr.ownsRow W.heap.size 5 1 v k (vs.map (.int .u8 ·))) ∧ Hid (Ext W wr)) (fun _ i _ => nn - (intOf i).toNat)
  case atStart => exact ⟨0, [], Nat.zero_le _, rfl, rfl, fun j hj => by omega, World.ownsRow_nil _ _ _ _, Ext.refl _⟩
  case round =>
    obtain ⟨k, vs, hk, rfl, hvl, hkn, hown, hE⟩ := hrel
    by_cases hlt : k < nn
    · have hlt' : (k : Int) < (nn : Int) := by omega
      have hKk := HK.out k hlt
      rw [fI_nat, fI_nat] at hKk
      obtain ⟨da, fa', za⟩ := (hO1'.out.keep hE.out hO1'.out.lt).get (k := k) (by omega)
      obtain ⟨db, fb', zb⟩ := (hO2'.out.keep hE.out hO2'.out.lt).get (k := k) (by omega)
      obtain ⟨lo, hlo⟩ : ∃ y, xs.getD k 0 = y := ⟨_, rfl⟩
      obtain ⟨hi, hhi⟩ : ∃ y, ys.getD k 0 = y := ⟨_, rfl⟩
      rw [hlo, hhi] at hKk
      rw [hlo] at da
      rw [hhi] at db
      have HKK := Lib.hid hKk
      have hEs := hE.out.size
      clear hlo hhi hKk
      by_cases h1 : day < lo
      · by_cases h2 : hi ≤ day
        · have hv := Lib.hid (show Knw first ms wt day (k : Int) 0 by have h := HKK.out; rw [if_pos h1] at h; exact h)
          clear HKK
          go_wp2_with (first
            | (at_builtin; refine wpList_append_own _ rfl _ _ 23 rfl W.heap.size 5 i0 (.int .u8 0) 1 1 Try.underlying23 hi0 hz0 hz1 hz2 rfl (by decide) _ _ _ rfl (hown.out.alloc _) ⟨wr.heap.size, 0, none⟩ 1 1 [.int .u8 0] rfl rfl one_news (by simp [Value.oneCell']) (by unfold maxLen; omega) (by omega) (by simp; omega) ?_)
            | fail)
          intro v' w1 hown' hgrow hnil'
          have hE1 : Ext W w1 := (Below.alloc hE.out hEs _).grown hgrow (by simp; omega) (fun i e => (hown.out.lt i e).1)
          have HO1 := Lib.hid hown'
          clear hown' hgrow hnil' hown
          go_wp2
          refine ⟨⟨k + 1, vs ++ [(0 : Int)], hlt, by go_num, by show _ = _; rw [List.length_append, hvl.out]; rfl, ?_, ?_, hE1⟩, by simp [intOf]; omega⟩
          · intro j hj
            rcases Nat.lt_or_ge j k with h | h
            · have hjl : j < vs.length := by rw [hvl.out]; exact h
              rw [show (vs ++ [(0 : Int)]).getD j 0 = vs.getD j 0 by simp [List.getD, List.getElem?_append_left hjl]]
              exact hkn.out j h
            · obtain rfl : j = k := by omega
              rw [show (vs ++ [(0 : Int)]).getD j 0 = (0 : Int) by simp [List.getD, hvl.out]]
              exact hv.out
          · show World.ownsRow _ _ _ _ _ _ _
            rw [List.map_append]
            exact HO1.out
        · have hv := Lib.hid (show Knw first ms wt day (k : Int) 0 by have h := HKK.out; rw [if_pos h1] at h; exact h)
          clear HKK
          go_wp2_with (first
            | (at_builtin; refine wpList_append_own _ rfl _ _ 23 rfl W.heap.size 5 i0 (.int .u8 0) 1 1 Try.underlying23 hi0 hz0 hz1 hz2 rfl (by decide) _ _ _ rfl (hown.out.alloc _) ⟨wr.heap.size, 0, none⟩ 1 1 [.int .u8 0] rfl rfl one_news (by simp [Value.oneCell']) (by unfold maxLen; omega) (by omega) (by simp; omega) ?_)
            | fail)
          intro v' w1 hown' hgrow hnil'
          have hE1 : Ext W w1 := (Below.alloc hE.out hEs _).grown hgrow (by simp; omega) (fun i e => (hown.out.lt i e).1)
          have HO1 := Lib.hid hown'
          clear hown' hgrow hnil' hown
          go_wp2
          refine ⟨⟨k + 1, vs ++ [(0 : Int)], hlt, by go_num, by show _ = _; rw [List.length_append, hvl.out]; rfl, ?_, ?_, hE1⟩, by simp [intOf]; omega⟩
          · intro j hj
            rcases Nat.lt_or_ge j k with h | h
            · have hjl : j < vs.length := by rw [hvl.out]; exact h
              rw [show (vs ++ [(0 : Int)]).getD j 0 = vs.getD j 0 by simp [List.getD, List.getElem?_append_left hjl]]
              exact hkn.out j h
            · obtain rfl : j = k := by omega
              rw [show (vs ++ [(0 : Int)]).getD j 0 = (0 : Int) by simp [List.getD, hvl.out]]
              exact hv.out
          · show World.ownsRow _ _ _ _ _ _ _
            rw [List.map_append]
            exact HO1.out
      · by_cases h2 : hi ≤ day
        · have hv := Lib.hid (show Knw first ms wt day (k : Int) 2 by have h := HKK.out; rw [if_neg h1, if_pos h2] at h; exact h)
          clear HKK
          go_wp2_with (first
            | (at_builtin; refine wpList_append_own _ rfl _ _ 23 rfl W.heap.size 5 i0 (.int .u8 0) 1 1 Try.underlying23 hi0 hz0 hz1 hz2 rfl (by decide) _ _ _ rfl (hown.out.alloc _) ⟨wr.heap.size, 0, none⟩ 1 1 [.int .u8 2] rfl rfl one_news (by simp [Value.oneCell']) (by unfold maxLen; omega) (by omega) (by simp; omega) ?_)
            | fail)
          intro v' w1 hown' hgrow hnil'
          have hE1 : Ext W w1 := (Below.alloc hE.out hEs _).grown hgrow (by simp; omega) (fun i e => (hown.out.lt i e).1)
          have HO1 := Lib.hid hown'
          clear hown' hgrow hnil' hown
          go_wp2
          refine ⟨⟨k + 1, vs ++ [(2 : Int)], hlt, by go_num, by show _ = _; rw [List.length_append, hvl.out]; rfl, ?_, ?_, hE1⟩, by simp [intOf]; omega⟩
          · intro j hj
            rcases Nat.lt_or_ge j k with h | h
            · have hjl : j < vs.length := by rw [hvl.out]; exact h
              rw [show (vs ++ [(2 : Int)]).getD j 0 = vs.getD j 0 by simp [List.getD, List.getElem?_append_left hjl]]
              exact hkn.out j h
            · obtain rfl : j = k := by omega
              rw [show (vs ++ [(2 : Int)]).getD j 0 = (2 : Int) by simp [List.getD, hvl.out]]
              exact hv.out
          · show World.ownsRow _ _ _ _ _ _ _
            rw [List.map_append]
            exact HO1.out
        · have hv := Lib.hid (show Knw first ms wt day (k : Int) 1 by have h := HKK.out; rw [if_neg h1, if_neg h2] at h; exact h)
          clear HKK
          go_wp2_with (first
            | (at_builtin; refine wpList_append_own _ rfl _ _ 23 rfl W.heap.size 5 i0 (.int .u8 0) 1 1 Try.underlying23 hi0 hz0 hz1 hz2 rfl (by decide) _ _ _ rfl (hown.out.alloc _) ⟨wr.heap.size, 0, none⟩ 1 1 [.int .u8 1] rfl rfl one_news (by simp [Value.oneCell']) (by unfold maxLen; omega) (by omega) (by simp; omega) ?_)
            | fail)
          intro v' w1 hown' hgrow hnil'
          have hE1 : Ext W w1 := (Below.alloc hE.out hEs _).grown hgrow (by simp; omega) (fun i e => (hown.out.lt i e).1)
          have HO1 := Lib.hid hown'
          clear hown' hgrow hnil' hown
          go_wp2
          refine ⟨⟨k + 1, vs ++ [(1 : Int)], hlt, by go_num, by show _ = _; rw [List.length_append, hvl.out]; rfl, ?_, ?_, hE1⟩, by simp [intOf]; omega⟩
          · intro j hj
            rcases Nat.lt_or_ge j k with h | h
            · have hjl : j < vs.length := by rw [hvl.out]; exact h
              rw [show (vs ++ [(1 : Int)]).getD j 0 = vs.getD j 0 by simp [List.getD, List.getElem?_append_left hjl]]
              exact hkn.out j h
            · obtain rfl : j = k := by omega
              rw [show (vs ++ [(1 : Int)]).getD j 0 = (1 : Int) by simp [List.getD, hvl.out]]
              exact hv.out
          · show World.ownsRow _ _ _ _ _ _ _
            rw [List.map_append]
            exact HO1.out
    · obtain rfl : k = nn := by omega
      go_wp2
      go_returns
      exact ⟨⟨_, rfl, vs, hvl.out, owns_mono hown.out hWW.size, hkn.out⟩, hWW.trans (Below.mono hE.out hWW.size)⟩
end Go.Proofs.Ytafdcbdbllpcnaa
/- The reference's Meets and Mange where an error is returned. -/
namespace Go.Proofs.Ytafdcbdbllpcnaa
open Go.RowKit
open Go.Proofs

theorem okA_parts (n : Int) (wt : Int × Int) (day : Int) : okA n wt day = (inB 1 30 n && ((inB 1 wt.2 wt.1 && decide (wt.2 ≤ 60)) && inB 0 100000 day)) := by
  rw [Bool.eq_iff_iff]
  simp only [okA, okSpan, inB, Bool.and_eq_true, decide_eq_true_eq]
  omega

set_option maxHeartbeats 4000000 in
theorem rMeets_arg (n day : Int) (wt : Int × Int) (sf sm : Value) (w : World) (ha : okA n wt day = false) :
    Calls Try.prog 54 #[.int .i64 n, sf, sm, .agg #[.int .i64 wt.1, .int .i64 wt.2], .int .i64 day] w fun e w' => e = .returned (.int .i64 2) ∧ Below w.heap.size w w' := by
  rw [okA_parts] at ha
  cases b1 : inB 1 30 n with
  | false =>
    clear ha
    go_enter Try.func54, Try.ntmps54
    go_wp2_with (first | (go_at_call 82; refine (rwithin_any _ _ _ _).mono ?_; rintro e w' ⟨rfl, rfl⟩) | fail)
    go_returns
    exact ⟨rfl, by go_grown⟩
  | true =>
    cases b2 : (inB 1 wt.2 wt.1 && decide (wt.2 ≤ 60)) with
    | false =>
      have B2 := Lib.hid b2
      clear ha b2
      go_enter Try.func54, Try.ntmps54
      go_wp2_with (first | (go_at_call 82; refine (rwithin_any _ _ _ _).mono ?_; rintro e w' ⟨rfl, rfl⟩) | fail)
      refine (spanned1_any 60 wt false B2.out _).mono ?_
      rintro e W1 ⟨rfl, hB⟩
      have hW1 : Below w.heap.size w W1 := Below.trans (by go_grown) (hB.mono (by simp))
      clear hB
      go_wp2_with (first | (go_at_call 82; refine (rwithin_any _ _ _ _).mono ?_; rintro e w' ⟨rfl, rfl⟩) | fail)
      go_returns
      exact ⟨rfl, hW1⟩
    | true =>
      have b3 : inB 0 100000 day = false := by rw [b1, b2] at ha; simpa using ha
      have B2 := Lib.hid b2
      clear ha b2
      go_enter Try.func54, Try.ntmps54
      go_wp2_with (first | (go_at_call 82; refine (rwithin_any _ _ _ _).mono ?_; rintro e w' ⟨rfl, rfl⟩) | fail)
      refine (spanned1_any 60 wt true B2.out _).mono ?_
      rintro e W1 ⟨rfl, hB⟩
      have hW1 : Below w.heap.size w W1 := Below.trans (by go_grown) (hB.mono (by simp))
      clear hB
      go_wp2_with (first | (go_at_call 82; refine (rwithin_any _ _ _ _).mono ?_; rintro e w' ⟨rfl, rfl⟩) | fail)
      go_returns
      exact ⟨rfl, hW1⟩

set_option maxHeartbeats 4000000 in
theorem rMeets_many (n day : Int) (wt : Int × Int) (fa : Option Addr) (fcap nf : Nat) (ma : Option Addr) (mcap nm : Nat) (w : World) (ha : okA n wt day = true) (hl : ¬ (nf ≤ 30 ∧ nm ≤ 200)) :
    Calls Try.prog 54 #[.int .i64 n, .slice fa nf fcap, .slice ma nm mcap, .agg #[.int .i64 wt.1, .int .i64 wt.2], .int .i64 day] w fun e w' => e = .returned (.int .i64 4) ∧ Below w.heap.size w w' := by
  rw [okA_parts] at ha
  simp only [Bool.and_eq_true] at ha
  obtain ⟨b1, b2, b3⟩ := ha
  have B2 := Lib.hid (show (inB 1 wt.2 wt.1 && decide (wt.2 ≤ 60)) = true by rw [Bool.and_eq_true]; exact b2)
  clear b2
  by_cases h1 : nf ≤ 30
  · have h2 : (200 : Int) < (nm : Int) := by omega
    have h1' : (nf : Int) ≤ 30 := by omega
    clear hl
    go_enter Try.func54, Try.ntmps54
    go_wp2_with (first | (go_at_call 82; refine (rwithin_any _ _ _ _).mono ?_; rintro e w' ⟨rfl, rfl⟩) | fail)
    refine (spanned1_any 60 wt true B2.out _).mono ?_
    rintro e W1 ⟨rfl, hB⟩
    have hW1 : Below w.heap.size w W1 := Below.trans (by go_grown) (hB.mono (by simp))
    clear hB
    go_wp2_with (first | (go_at_call 82; refine (rwithin_any _ _ _ _).mono ?_; rintro e w' ⟨rfl, rfl⟩) | fail)
    go_returns
    exact ⟨rfl, hW1⟩
  · have h2 : (30 : Int) < (nf : Int) := by omega
    clear hl h1
    go_enter Try.func54, Try.ntmps54
    go_wp2_with (first | (go_at_call 82; refine (rwithin_any _ _ _ _).mono ?_; rintro e w' ⟨rfl, rfl⟩) | fail)
    refine (spanned1_any 60 wt true B2.out _).mono ?_
    rintro e W1 ⟨rfl, hB⟩
    have hW1 : Below w.heap.size w W1 := Below.trans (by go_grown) (hB.mono (by simp))
    clear hB
    go_wp2_with (first | (go_at_call 82; refine (rwithin_any _ _ _ _).mono ?_; rintro e w' ⟨rfl, rfl⟩) | fail)
    go_returns
    exact ⟨rfl, hW1⟩

theorem rMeets_any (n day : Int) (wt : Int × Int) (fa : Option Addr) (fcap nf : Nat) (first : List Int) (ma : Option Addr) (mcap nm : Nat) (ms : List Mt) (x : Int) (w : World) (hnf : nf = first.length) (hnm : nm = ms.length) (hf : IntsIn w fa fcap first) (hm : MeetsIn w ma mcap ms) (hx : chkG n first ms wt day = x) :
    Calls Try.prog 54 #[.int .i64 n, .slice fa nf fcap, .slice ma nm mcap, .agg #[.int .i64 wt.1, .int .i64 wt.2], .int .i64 day] w fun e w' => e = .returned (.int .i64 x) ∧ Below w.heap.size w w' := by
  cases ha : okA n wt day with
  | false =>
    have : x = 2 := by rw [← hx]; simp [chkG, ha]
    subst this
    exact rMeets_arg n day wt _ _ w ha
  | true =>
    by_cases hl : nf ≤ 30 ∧ nm ≤ 200
    · exact rMeets_lists n day wt fa fcap nf first ma mcap nm ms x w hnf hnm hf hm ha hl.1 hl.2 hx
    · have : x = 4 := by
        rw [← hx]
        unfold chkG
        rw [if_pos ha, if_neg (show ¬ (first.length ≤ 30 ∧ ms.length ≤ 200) by omega)]
      subst this
      exact rMeets_many n day wt fa fcap nf ma mcap nm w ha hl

theorem rMange_bad (n : Int) (day : Int) (wt : Int × Int) (fa : Option Addr) (fcap nf : Nat) (first : List Int) (ma : Option Addr) (mcap nm : Nat) (ms : List Mt) (x : Int) (w : World) (hnf : nf = first.length) (hnm : nm = ms.length) (hf : IntsIn w fa fcap first) (hm : MeetsIn w ma mcap ms) (hx : chkG n first ms wt day = x) (h0 : x ≠ 0) :
    Calls Try.prog 42 #[.int .i64 n, .slice fa nf fcap, .slice ma nm mcap, .agg #[.int .i64 wt.1, .int .i64 wt.2], .int .i64 day] w fun e w' => e = .returned (.tuple #[.slice none 0 0, .int .i64 x]) ∧ Below w.heap.size w w' := by
  have HF := Lib.hid hf
  have HM := Lib.hid hm
  have HNF := Lib.hid hnf
  have HNM := Lib.hid hnm
  have HX := Lib.hid hx
  have hne : (x == 0) = false := by simpa using h0
  clear hf hm hnf hnm hx
  go_enter Try.func42, Try.ntmps42
  go_wp2_with fail
  refine (rMeets_any n day wt fa fcap nf first ma mcap nm ms x _ HNF.out HNM.out (HF.out.below (B := w.heap.size) (by go_grown) (Nat.le_refl _)) (HM.out.below (B := w.heap.size) (by go_grown) (Nat.le_refl _)) HX.out).mono ?_
  rintro e W1 ⟨rfl, hB⟩
  have hW1 : Below w.heap.size w W1 := Below.trans (by go_grown) (hB.mono (by simp; try omega))
  have zW1 := hW1.size
  clear hB
  go_wp2
  go_returns
  exact ⟨rfl, hW1⟩
end Go.Proofs.Ytafdcbdbllpcnaa
