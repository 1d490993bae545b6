/- The reference's Meets and Mange where an error is returned. -/
import Derived.Test.YtafdcbdbllpcnaaRefT
import Derived.Test.YtafdcbdbllpcnaaOpenT
namespace Go.Proofs.Ytafdcbdbllpcnaa
open Go.RowKit
open Go.Proofs

theorem okA_parts (n : Int) (wt : Int × Int) (day : Int) : okA n wt day = (inB 1 30 n && ((inB 1 wt.2 wt.1 && decide (wt.2 ≤ 60)) && inB 0 100000 day)) := by
  rw [Bool.eq_iff_iff]
  simp only [okA, okSpan, inB, Bool.and_eq_true, decide_eq_true_eq]
  omega

set_option maxHeartbeats 4000000 in
theorem rMeets_arg (n day : Int) (wt : Int × Int) (sf sm : Value) (w : World) (ha : okA n wt day = false) :
    Calls Try.prog 54 #[.int .i64 n, sf, sm, .agg #[.int .i64 wt.1, .int .i64 wt.2], .int .i64 day] w fun e w' => e = .returned (.int .i64 2) ∧ Below w.heap.size w w' := by
  rw [okA_parts] at ha
  cases b1 : inB 1 30 n with
  | false =>
    clear ha
    go_enter Try.func54, Try.ntmps54
    go_wp2_with (first | (go_at_call 82; refine (rwithin_any _ _ _ _).mono ?_; rintro e w' ⟨rfl, rfl⟩) | fail)
    go_returns
    exact ⟨rfl, by go_grown⟩
  | true =>
    cases b2 : (inB 1 wt.2 wt.1 && decide (wt.2 ≤ 60)) with
    | false =>
      have B2 := Lib.hid b2
      clear ha b2
      go_enter Try.func54, Try.ntmps54
      go_wp2_with (first | (go_at_call 82; refine (rwithin_any _ _ _ _).mono ?_; rintro e w' ⟨rfl, rfl⟩) | fail)
      refine (spanned1_any 60 wt false B2.out _).mono ?_
      rintro e W1 ⟨rfl, hB⟩
      have hW1 : Below w.heap.size w W1 := Below.trans (by go_grown) (hB.mono (by simp))
      clear hB
      go_wp2_with (first | (go_at_call 82; refine (rwithin_any _ _ _ _).mono ?_; rintro e w' ⟨rfl, rfl⟩) | fail)
      go_returns
      exact ⟨rfl, hW1⟩
    | true =>
      have b3 : inB 0 100000 day = false := by rw [b1, b2] at ha; simpa using ha
      have B2 := Lib.hid b2
      clear ha b2
      go_enter Try.func54, Try.ntmps54
      go_wp2_with (first | (go_at_call 82; refine (rwithin_any _ _ _ _).mono ?_; rintro e w' ⟨rfl, rfl⟩) | fail)
      refine (spanned1_any 60 wt true B2.out _).mono ?_
      rintro e W1 ⟨rfl, hB⟩
      have hW1 : Below w.heap.size w W1 := Below.trans (by go_grown) (hB.mono (by simp))
      clear hB
      go_wp2_with (first | (go_at_call 82; refine (rwithin_any _ _ _ _).mono ?_; rintro e w' ⟨rfl, rfl⟩) | fail)
      go_returns
      exact ⟨rfl, hW1⟩

set_option maxHeartbeats 4000000 in
theorem rMeets_many (n day : Int) (wt : Int × Int) (fa : Option Addr) (fcap nf : Nat) (ma : Option Addr) (mcap nm : Nat) (w : World) (ha : okA n wt day = true) (hl : ¬ (nf ≤ 30 ∧ nm ≤ 200)) :
    Calls Try.prog 54 #[.int .i64 n, .slice fa nf fcap, .slice ma nm mcap, .agg #[.int .i64 wt.1, .int .i64 wt.2], .int .i64 day] w fun e w' => e = .returned (.int .i64 4) ∧ Below w.heap.size w w' := by
  rw [okA_parts] at ha
  simp only [Bool.and_eq_true] at ha
  obtain ⟨b1, b2, b3⟩ := ha
  have B2 := Lib.hid (show (inB 1 wt.2 wt.1 && decide (wt.2 ≤ 60)) = true by rw [Bool.and_eq_true]; exact b2)
  clear b2
  by_cases h1 : nf ≤ 30
  · have h2 : (200 : Int) < (nm : Int) := by omega
    have h1' : (nf : Int) ≤ 30 := by omega
    clear hl
    go_enter Try.func54, Try.ntmps54
    go_wp2_with (first | (go_at_call 82; refine (rwithin_any _ _ _ _).mono ?_; rintro e w' ⟨rfl, rfl⟩) | fail)
    refine (spanned1_any 60 wt true B2.out _).mono ?_
    rintro e W1 ⟨rfl, hB⟩
    have hW1 : Below w.heap.size w W1 := Below.trans (by go_grown) (hB.mono (by simp))
    clear hB
    go_wp2_with (first | (go_at_call 82; refine (rwithin_any _ _ _ _).mono ?_; rintro e w' ⟨rfl, rfl⟩) | fail)
    go_returns
    exact ⟨rfl, hW1⟩
  · have h2 : (30 : Int) < (nf : Int) := by omega
    clear hl h1
    go_enter Try.func54, Try.ntmps54
    go_wp2_with (first | (go_at_call 82; refine (rwithin_any _ _ _ _).mono ?_; rintro e w' ⟨rfl, rfl⟩) | fail)
    refine (spanned1_any 60 wt true B2.out _).mono ?_
    rintro e W1 ⟨rfl, hB⟩
    have hW1 : Below w.heap.size w W1 := Below.trans (by go_grown) (hB.mono (by simp))
    clear hB
    go_wp2_with (first | (go_at_call 82; refine (rwithin_any _ _ _ _).mono ?_; rintro e w' ⟨rfl, rfl⟩) | fail)
    go_returns
    exact ⟨rfl, hW1⟩

theorem rMeets_any (n day : Int) (wt : Int × Int) (fa : Option Addr) (fcap nf : Nat) (first : List Int) (ma : Option Addr) (mcap nm : Nat) (ms : List Mt) (x : Int) (w : World) (hnf : nf = first.length) (hnm : nm = ms.length) (hf : IntsIn w fa fcap first) (hm : MeetsIn w ma mcap ms) (hx : chkG n first ms wt day = x) :
    Calls Try.prog 54 #[.int .i64 n, .slice fa nf fcap, .slice ma nm mcap, .agg #[.int .i64 wt.1, .int .i64 wt.2], .int .i64 day] w fun e w' => e = .returned (.int .i64 x) ∧ Below w.heap.size w w' := by
  cases ha : okA n wt day with
  | false =>
    have : x = 2 := by rw [← hx]; simp [chkG, ha]
    subst this
    exact rMeets_arg n day wt _ _ w ha
  | true =>
    by_cases hl : nf ≤ 30 ∧ nm ≤ 200
    · exact rMeets_lists n day wt fa fcap nf first ma mcap nm ms x w hnf hnm hf hm ha hl.1 hl.2 hx
    · have : x = 4 := by
        rw [← hx]
        unfold chkG
        rw [if_pos ha, if_neg (show ¬ (first.length ≤ 30 ∧ ms.length ≤ 200) by omega)]
      subst this
      exact rMeets_many n day wt fa fcap nf ma mcap nm w ha hl

theorem rMange_bad (n : Int) (day : Int) (wt : Int × Int) (fa : Option Addr) (fcap nf : Nat) (first : List Int) (ma : Option Addr) (mcap nm : Nat) (ms : List Mt) (x : Int) (w : World) (hnf : nf = first.length) (hnm : nm = ms.length) (hf : IntsIn w fa fcap first) (hm : MeetsIn w ma mcap ms) (hx : chkG n first ms wt day = x) (h0 : x ≠ 0) :
    Calls Try.prog 42 #[.int .i64 n, .slice fa nf fcap, .slice ma nm mcap, .agg #[.int .i64 wt.1, .int .i64 wt.2], .int .i64 day] w fun e w' => e = .returned (.tuple #[.slice none 0 0, .int .i64 x]) ∧ Below w.heap.size w w' := by
  have HF := Lib.hid hf
  have HM := Lib.hid hm
  have HNF := Lib.hid hnf
  have HNM := Lib.hid hnm
  have HX := Lib.hid hx
  have hne : (x == 0) = false := by simpa using h0
  clear hf hm hnf hnm hx
  go_enter Try.func42, Try.ntmps42
  go_wp2_with fail
  refine (rMeets_any n day wt fa fcap nf first ma mcap nm ms x _ HNF.out HNM.out (HF.out.below (B := w.heap.size) (by go_grown) (Nat.le_refl _)) (HM.out.below (B := w.heap.size) (by go_grown) (Nat.le_refl _)) HX.out).mono ?_
  rintro e W1 ⟨rfl, hB⟩
  have hW1 : Below w.heap.size w W1 := Below.trans (by go_grown) (hB.mono (by simp; try omega))
  have zW1 := hW1.size
  clear hB
  go_wp2
  go_returns
  exact ⟨rfl, hW1⟩
end Go.Proofs.Ytafdcbdbllpcnaa
/- The walk of the outright property of each end of what is open. -/
namespace Go.Proofs.Ytafdcbdbllpcnaa
open Go.RowKit
open Go.Proofs

attribute [local go_sem ↓] exec31s
attribute [local go_sem] store31 rowOf_alloc rowOf_drew setRow_alloc one_int one_bool
attribute [local irreducible] wpQuiet

theorem setB {w : World} {g : Nat} {x : Mt} (h : rowOf w g = some #[.int .i64 x.a, .int .i64 x.b, .int .i64 x.day, .bool x.close]) : rowOf (w.setCell ⟨g, 3, none⟩ (.bool true)) g = some #[.int .i64 (cl1 x).a, .int .i64 (cl1 x).b, .int .i64 (cl1 x).day, .bool (cl1 x).close] := rowOf_setCell_o h _

set_option maxRecDepth 100000 in
set_option maxHeartbeats 8000000 in
theorem camelOpen_walk (halive : ∀ W, Calls Try.prog 14 #[] W fun e w' => e = .returned (.bool true) ∧ Below W.heap.size W w') (hmange : MangeC) (n day : Int) (wt : Int × Int) (fa : Option Addr) (fcap nf : Nat) (first : List Int) (ma : Option Addr) (mcap nm : Nat) (ms : List Mt) (w : World) (hnf : nf = first.length) (hnm : nm = ms.length) (hf : IntsIn w fa fcap first) (hm : MeetsIn w ma mcap ms) :
    Calls Try.prog 13 #[.int .i64 n, .slice fa nf fcap, .slice ma nm mcap, .agg #[.int .i64 wt.1, .int .i64 wt.2], .int .i64 day] w fun e w' => e = .returned (.bool true) ∧ Below w.heap.size w w' := by
  have HAL := Lib.hid halive
  have HMG := Lib.hid hmange
  have HNF := Lib.hid hnf
  have HNM := Lib.hid hnm
  have HF := Lib.hid hf
  have HM := Lib.hid hm
  obtain ⟨x, hx⟩ : ∃ x, chkG n first ms wt day = x := ⟨_, rfl⟩
  have HX := Lib.hid hx
  by_cases h0 : x = 0
  · subst h0
    obtain ⟨⟨hn1, hn2⟩, ⟨hw1, hw2, hw3⟩, ⟨hd1, hd2⟩, ⟨hf2, hm2⟩, -, -⟩ := chkG_fine hx
    obtain ⟨nn, rfl⟩ : ∃ p : Nat, n = p := ⟨n.toNat, by omega⟩
    have hm250 : (nm : Int) ≤ 250 := by omega
    have hnn : (nn : Int) ≤ 30 := hn2
    obtain ⟨j0, hj0, hy0, hy1, hy2⟩ := info_parts info79y
    have HI := Lib.hid hj0
    have HI0 := Lib.hid hy0
    have HI1 := Lib.hid hy1
    have HI2 := Lib.hid hy2
    clear halive hmange hnf hnm hf hm hx hj0 hy0 hy1 hy2
    go_enter Try.func13, Try.ntmps13
    go_wp2_with fail
    refine (HAL.out _).mono ?_
    rintro e W1 ⟨rfl, hB⟩
    have hW1 : Below w.heap.size w W1 := Below.trans (by go_grown) (hB.mono (by simp; try omega))
    have zW1 := hW1.size
    obtain ⟨rsW1, csW1, gsW1, zsW1⟩ := keep_row hB (g := w.heap.size) (by repeat (first | with_reducible assumption | with_reducible apply row_here0 | with_reducible apply row_here1 | with_reducible apply row_here2 | with_reducible apply row_here3 | with_reducible apply rowSkip))
    clear hB
    go_wp2_with fail
    refine (rMeets_any nn day wt fa fcap nf first ma mcap nm ms 0 _ HNF.out HNM.out (HF.out.below hW1 (Nat.le_refl _)) (HM.out.below hW1 (Nat.le_refl _)) HX.out).mono ?_
    rintro e W2 ⟨rfl, hB⟩
    have hW2 : Below w.heap.size w W2 := hW1.trans (Below.trans (by have := hW1.size; go_grown) (hB.mono (by have := hW1.size; simp; try omega)))
    have zW2 := hW2.size
    obtain ⟨rsW2, csW2, gsW2, zsW2⟩ := keep_row hB (g := w.heap.size) (by repeat (first | with_reducible assumption | with_reducible apply row_here0 | with_reducible apply row_here1 | with_reducible apply row_here2 | with_reducible apply row_here3 | with_reducible apply rowSkip))
    clear hB
    clear hW1 zW1 rsW1 csW1 gsW1 zsW1
    have lmW2 := Lib.hid (HM.out.below hW2 (Nat.le_refl _))
    obtain ⟨B, hBB⟩ : ∃ B, W2.heap.size = B := ⟨_, rfl⟩
    have hsB : w.heap.size < B := hBB ▸ zsW2
    go_wp2_with fail
    go_loopw [12, 13, 36] (fun va vf i wr => ∃ k : Nat, k ≤ nm ∧ i = .int .i64 (k : Int) ∧ Hid (Two B (allK ms k) (fewK ms k) va vf wr) ∧ Hid (rowOf wr w.heap.size = some #[.int .i64 wt.1, .int .i64 wt.2]) ∧ Below w.heap.size w wr ∧ B ≤ wr.heap.size) (fun _ _ i _ => nm - (intOf i).toNat)
    case atStart => exact ⟨0, Nat.zero_le _, rfl, ⟨World.ownsRow_nil _ _ _ _, World.ownsRow_nil _ _ _ _, fun i hi => by simp [Value.ownBlock] at hi⟩, rsW2, hW2, Nat.le_of_eq hBB.symm⟩
    case round =>
      clear lmW2 rsW2 csW2 gsW2 zsW2 hW2 zW2 hBB
      obtain ⟨k, hk, rfl, hT, hrs, hwr, hBz⟩ := hrel
      have zwr := hwr.size
      by_cases hlt : k < nm
      · have hlm : k < ms.length := by have := HNM.out; omega
        obtain ⟨g, off, rfl, m1, l1⟩ := (HM.out.below hwr (Nat.le_refl _)).get hlm
        have HLM := Lib.hid hlm
        obtain ⟨md, hmd⟩ : ∃ y, mtS ms k = y := ⟨_, rfl⟩
        rw [hmd] at m1
        obtain ⟨c0, c1, c2, c3⟩ := m1
        have HMD := Lib.hid hmd
        clear hmd hlm l1
        have hlt' : (k : Int) < (nm : Int) := by omega
        obtain ⟨ya, yb, yd, yc⟩ := md
        simp only at c0 c1 c2 c3
        have hkk : (allK ms k).length = k := allK_len (by have := HNM.out; omega)
        have hkf : (fewK ms k).length ≤ k := fewK_len
        have hk200 : k < 200 := by have := HNM.out; omega
        cases yc with
        | false =>
          have hT2 := (hT.out.alloc (.cells #[.int .i64 ya, .int .i64 yb, .int .i64 yd, .bool true] 79)).alloc (.cells #[.int .i64 ya, .int .i64 yb, .int .i64 yd, .bool true] 79)
          have hlt2 : ∀ i, u12.ownBlock = some i → i < wr.heap.size ∧ B ≤ i := fun i hi => ⟨(hT.out.all.lt i hi).2, (hT.out.all.lt i hi).1⟩
          have HT2 := Lib.hid hT2
          have HL2 := Lib.hid hlt2
          clear hT2 hlt2 hT
          go_wp2_with (first | (at_builtin; refine wpList_append_sep _ rfl _ _ 28 rfl B 79 j0 (.agg #[.int .i64 0, .int .i64 0, .int .i64 0, .bool false]) 4 32 Try.underlying28 HI.out HI0.out HI1.out HI2.out rfl (by decide) _ _ _ rfl HT2.out.all ⟨wr.heap.size + 1, 0, none⟩ 1 1 (mtCells ⟨ya, yb, yd, true⟩) rfl rfl (mt_at (by repeat (first | with_reducible assumption | with_reducible apply row_here0 | with_reducible apply row_here1 | with_reducible apply row_here2 | with_reducible apply row_here3 | with_reducible apply rowSkip))) (mt_one1 _) (by unfold maxLen; omega) (by omega) (by simp; omega) ?_) | fail)
          intro v' W3 ho3 hg3 hs3
          have hT3 : Two B (allK ms (k + 1)) (fewK ms (k + 1)) v' u13 W3 := by
            have e1 := allK_succ HLM.out
            have e2 := fewK_no HLM.out (by rw [HMD.out])
            rw [HMD.out] at e1
            rw [e1, e2]
            exact HT2.out.put_all (by rw [hkk]; exact ho3) hg3 (fun i hi => by simpa using hs3 i hi)
          have hs4 := row_grownO (rowSkip (o := (.cells #[.int .i64 ya, .int .i64 yb, .int .i64 yd, .bool true] 79)) (rowSkip (o := (.cells #[.int .i64 ya, .int .i64 yb, .int .i64 yd, .bool true] 79)) hrs.out)) hg3 (fun i e => by have := (HL2.out i e).2; omega)
          have hw4 : Below w.heap.size w W3 := ((hwr.alloc zwr _).alloc (by simp; omega) _).grown hg3 (by simp; omega) (fun i e => by have := (HL2.out i e).2; omega)
          have hz4 : B ≤ W3.heap.size := by have := hg3.size; simp at this; omega
          have HT3 := Lib.hid hT3
          have HS4 := Lib.hid hs4
          clear ho3 hg3 hs3 hT3 hs4 HT2 HL2
          go_wp2
          exact ⟨⟨k + 1, hlt, by go_num, HT3, HS4, hw4, hz4⟩, by simp [intOf]; omega⟩
        | true =>
          have hT2 := (hT.out.alloc (.cells #[.int .i64 ya, .int .i64 yb, .int .i64 yd, .bool true] 79)).alloc (.cells #[.int .i64 ya, .int .i64 yb, .int .i64 yd, .bool true] 79)
          have hlt2 : ∀ i, u12.ownBlock = some i → i < wr.heap.size ∧ B ≤ i := fun i hi => ⟨(hT.out.all.lt i hi).2, (hT.out.all.lt i hi).1⟩
          have hlf2 : ∀ i, u13.ownBlock = some i → i < wr.heap.size ∧ B ≤ i := fun i hi => ⟨(hT.out.few.lt i hi).2, (hT.out.few.lt i hi).1⟩
          have HT2 := Lib.hid hT2
          have HL2 := Lib.hid hlt2
          have HF2 := Lib.hid hlf2
          clear hT2 hlt2 hlf2 hT
          go_wp2_with (first | (at_builtin; refine wpList_append_sep _ rfl _ _ 28 rfl B 79 j0 (.agg #[.int .i64 0, .int .i64 0, .int .i64 0, .bool false]) 4 32 Try.underlying28 HI.out HI0.out HI1.out HI2.out rfl (by decide) _ _ _ rfl HT2.out.few ⟨wr.heap.size + 1, 0, none⟩ 1 1 (mtCells ⟨ya, yb, yd, true⟩) rfl rfl (mt_at (by repeat (first | with_reducible assumption | with_reducible apply row_here0 | with_reducible apply row_here1 | with_reducible apply row_here2 | with_reducible apply row_here3 | with_reducible apply rowSkip))) (mt_one1 _) (by unfold maxLen; omega) (by omega) (by simp; omega) ?_) | fail)
          intro v' W3 ho3 hg3 hs3
          have hT3 : Two B (allK ms k) (fewK ms (k + 1)) u12 v' W3 := by
            have e2 := fewK_yes HLM.out (by rw [HMD.out])
            rw [HMD.out] at e2
            rw [e2]
            exact HT2.out.put_few ho3 hg3 (fun i hi => by simpa using hs3 i hi)
          have hs4 := row_grownO (rowSkip (o := (.cells #[.int .i64 ya, .int .i64 yb, .int .i64 yd, .bool true] 79)) (rowSkip (o := (.cells #[.int .i64 ya, .int .i64 yb, .int .i64 yd, .bool true] 79)) hrs.out)) hg3 (fun i e => by have := (HF2.out i e).2; omega)
          have rn3 := row_grownO (rowSkip (o := (.cells #[.int .i64 ya, .int .i64 yb, .int .i64 yd, .bool true] 79)) (row_here0 wr _ _ : rowOf (wr.alloc (.cells #[.int .i64 ya, .int .i64 yb, .int .i64 yd, .bool true] 79)) wr.heap.size = some #[.int .i64 ya, .int .i64 yb, .int .i64 yd, .bool true])) hg3 (fun i e => by have := (HF2.out i e).1; omega)
          have hw4 : Below w.heap.size w W3 := ((hwr.alloc zwr _).alloc (by simp; omega) _).grown hg3 (by simp; omega) (fun i e => by have := (HF2.out i e).2; omega)
          have hz4 : wr.heap.size + 1 + 1 ≤ W3.heap.size := by have := hg3.size; simpa using this
          have hnv : ∀ i, v'.ownBlock = some i → i ≠ wr.heap.size := fun i hi e => by
            rcases hs3 i hi with h | h
            · have := (HF2.out i h).1; omega
            · have h2 : wr.heap.size + 1 + 1 ≤ i := by simpa using h
              omega
          have HT3 := Lib.hid hT3
          have HS4 := Lib.hid hs4
          have HNV := Lib.hid hnv
          have hak : ∀ i, u12.ownBlock = some i → i ≠ wr.heap.size := fun i hi e => by have := (HL2.out i hi).1; omega
          have hab : ∀ i, u12.ownBlock = some i → B ≤ i := fun i hi => (HL2.out i hi).2
          have HAK := Lib.hid hak
          have HAB := Lib.hid hab
          have HSB := Lib.hid (show w.heap.size < wr.heap.size by omega)
          obtain ⟨_, cn, fn, zn⟩ := row_facts rn3
          clear ho3 hg3 hs3 hT3 hs4 HT2 HL2 HF2 hnv hak hab c0 c1 c2 c3
          have hG := grown_setCell W3 ⟨wr.heap.size, 3, none⟩ (.bool true)
          have hT5 := (HT3.out.grow hG (fun i hi e => HAK.out i hi (by simpa using e.symm)) (fun i hi e => HNV.out i hi (by simpa using e.symm))).alloc (.cells #[.int .i64 ya, .int .i64 yb, .int .i64 yd, .bool true] 79)
          have hs5 := row_grown HS4.out hG (show w.heap.size ≠ wr.heap.size by have := HSB.out; omega)
          have hw5 := below_grown hw4 hG hw4.size (show w.heap.size ≤ wr.heap.size by have := HSB.out; omega)
          have HT5 := Lib.hid hT5
          have HS5 := Lib.hid hs5
          have e5 : (W3.setCell ⟨wr.heap.size, 3, none⟩ (.bool true)).heap.size = W3.heap.size := by simp [World.setCell]
          have hr5 := row_here0 (W3.setCell ⟨wr.heap.size, 3, none⟩ (.bool true)) #[.int .i64 ya, .int .i64 yb, .int .i64 yd, .bool true] 79
          rw [e5] at hr5
          have HR5 := Lib.hid hr5
          have HE5 := Lib.hid e5
          clear hT5 hs5 hG HT3 HS4 HNV HAK hr5 e5
          go_wp2_with (first | (at_builtin; refine wpList_append_sep _ rfl _ _ 28 rfl B 79 j0 (.agg #[.int .i64 0, .int .i64 0, .int .i64 0, .bool false]) 4 32 Try.underlying28 HI.out HI0.out HI1.out HI2.out rfl (by decide) _ _ _ rfl HT5.out.all ⟨W3.heap.size, 0, none⟩ 1 1 (mtCells ⟨ya, yb, yd, true⟩) rfl rfl (mt_at HR5.out) (mt_one1 _) (by unfold maxLen; omega) (by omega) (by simp; have := HE5.out; omega) ?_) | fail)
          intro v2 W6 ho6 hg6 hs6
          have hT6 : Two B (allK ms (k + 1)) (fewK ms (k + 1)) v2 v' W6 := by
            have e1 := allK_succ HLM.out
            rw [HMD.out] at e1
            rw [e1]
            exact HT5.out.put_all (by rw [hkk]; exact ho6) hg6 (fun i hi => by simpa [HE5.out] using hs6 i hi)
          have hs7 := row_grownO (rowSkip HS5.out) hg6 (fun i e => by have := HAB.out i e; omega)
          have hw7 := (hw5.alloc (by have := HE5.out; omega) (.cells #[.int .i64 ya, .int .i64 yb, .int .i64 yd, .bool true] 79)).grown hg6 (by have := HE5.out; simp; omega) (fun i e => by have := HAB.out i e; omega)
          have hz7 : B ≤ W6.heap.size := by have h1 := hg6.size; have := HE5.out; simp at h1; omega
          have HT6 := Lib.hid hT6
          have HS7 := Lib.hid hs7
          clear ho6 hg6 hs6 hT6 hs7 HT5 HS5 HR5 HE5 hw5
          go_wp2
          exact ⟨⟨k + 1, hlt, by go_num, HT6, HS7, hw7, hz7⟩, by simp [intOf]; omega⟩
      · obtain rfl : k = nm := by omega
        have hTa := hT.out.all
        have hTf := hT.out.few
        rw [show allK ms k = ms.map cl1 by rw [HNM.out]; exact allK_end ms] at hTa
        rw [show fewK ms k = ms.filter (·.close) by rw [HNM.out]; exact fewK_end ms] at hTf
        obtain ⟨la, hla⟩ : ∃ y, (ms.map cl1).length = y := ⟨_, rfl⟩
        obtain ⟨lf, hlf⟩ : ∃ y, (ms.filter (·.close)).length = y := ⟨_, rfl⟩
        rw [hla] at hTa
        rw [hlf] at hTf
        obtain ⟨a1, cap1, rfl, hMa⟩ := own_meets hla.symm hTa
        obtain ⟨a2, cap2, rfl, hMf⟩ := own_meets hlf.symm hTf
        have q1wr := Lib.hid hMa
        have q2wr := Lib.hid hMf
        have HLA := Lib.hid hla.symm
        have HLF := Lib.hid hlf.symm
        have la250 : la ≤ 250 := by rw [← hla, List.length_map]; have := HNM.out; omega
        have lf250 : lf ≤ 250 := by have h1 := List.length_filter_le (·.close) ms; rw [hlf] at h1; have := HNM.out; omega
        have kk250 : k ≤ 250 := by omega
        have rswr := hrs.out
        obtain ⟨_, cswr, gswr, zswr⟩ := row_facts hrs.out
        have LMwr := Lib.hid (HM.out.below hwr (Nat.le_refl _))
        have LFwr := Lib.hid (HF.out.below hwr (Nat.le_refl _))
        have HXA := Lib.hid (chkG_all HX.out)
        have HXF := Lib.hid (chkG_few HX.out)
        clear hT hTa hTf hMa hMf hla hlf hrs HM HF hBz hsB hlt
        go_wp2_with fail
        refine (HMG.out nn day wt fa fcap nf first ma mcap k ms _ HNF.out HNM.out LFwr.out LMwr.out HX.out kk250).mono ?_
        rintro e W3 ⟨⟨g1, v1, rfl, hg, hl1, ho, hk⟩, hB⟩
        have xW3 : Ext wr W3 := Below.trans (by go_grown) (hB.mono (by simp; try omega))
        have q1W3 := Lib.hid (q1wr.out.ext xW3)
        have q2W3 := Lib.hid (q2wr.out.ext xW3)
        have LMW3 := Lib.hid (LMwr.out.ext xW3)
        have LFW3 := Lib.hid (LFwr.out.ext xW3)
        have hW3 : Below w.heap.size w W3 := hwr.trans (Below.trans (by have := hwr.size; go_grown) (hB.mono (by have := hwr.size; simp; try omega)))
        have zW3 := hW3.size
        obtain ⟨rsW3, csW3, gsW3, zsW3⟩ := keep_row hB (g := w.heap.size) (by repeat (first | with_reducible assumption | with_reducible apply row_here0 | with_reducible apply row_here1 | with_reducible apply row_here2 | with_reducible apply row_here3 | with_reducible apply rowSkip))
        clear hB
        clear hwr zwr rswr cswr gswr zswr xW3 q1wr q2wr LMwr LFwr
        have o1W3 := Lib.hid ho
        have K1 := Lib.hid hk
        clear ho hk hg
        go_wp2_with fail
        refine (span_any wt.1 wt.1 _).mono ?_
        rintro e W4 ⟨rfl, hB⟩
        have xW4 : Ext W3 W4 := Below.trans (by go_grown) (hB.mono (by simp; try omega))
        have q1W4 := Lib.hid (q1W3.out.ext xW4)
        have q2W4 := Lib.hid (q2W3.out.ext xW4)
        have LMW4 := Lib.hid (LMW3.out.ext xW4)
        have LFW4 := Lib.hid (LFW3.out.ext xW4)
        have o1W4 := Lib.hid (o1W3.out.ext xW4)
        have hW4 : Below w.heap.size w W4 := hW3.trans (Below.trans (by have := hW3.size; go_grown) (hB.mono (by have := hW3.size; simp; try omega)))
        have zW4 := hW4.size
        obtain ⟨rsW4, csW4, gsW4, zsW4⟩ := keep_row hB (g := w.heap.size) (by repeat (first | with_reducible assumption | with_reducible apply row_here0 | with_reducible apply row_here1 | with_reducible apply row_here2 | with_reducible apply row_here3 | with_reducible apply rowSkip))
        clear hB
        clear hW3 zW3 rsW3 csW3 gsW3 zsW3 xW4 q1W3 q2W3 LMW3 LFW3 o1W3
        go_wp2_with fail
        refine (HMG.out nn day (wt.1, wt.1) fa fcap nf first a1 cap1 la (ms.map cl1) _ HNF.out HLA.out LFW4.out q1W4.out HXA.out la250).mono ?_
        rintro e W5 ⟨⟨g2, v2, rfl, hg, hl2, ho, hk⟩, hB⟩
        have xW5 : Ext W4 W5 := Below.trans (by go_grown) (hB.mono (by simp; try omega))
        have q1W5 := Lib.hid (q1W4.out.ext xW5)
        have q2W5 := Lib.hid (q2W4.out.ext xW5)
        have LMW5 := Lib.hid (LMW4.out.ext xW5)
        have LFW5 := Lib.hid (LFW4.out.ext xW5)
        have o1W5 := Lib.hid (o1W4.out.ext xW5)
        have hW5 : Below w.heap.size w W5 := hW4.trans (Below.trans (by have := hW4.size; go_grown) (hB.mono (by have := hW4.size; simp; try omega)))
        have zW5 := hW5.size
        obtain ⟨rsW5, csW5, gsW5, zsW5⟩ := keep_row hB (g := w.heap.size) (by repeat (first | with_reducible assumption | with_reducible apply row_here0 | with_reducible apply row_here1 | with_reducible apply row_here2 | with_reducible apply row_here3 | with_reducible apply rowSkip))
        clear hB
        clear hW4 zW4 rsW4 csW4 gsW4 zsW4 xW5 q1W4 q2W4 LMW4 LFW4 o1W4
        have o2W5 := Lib.hid ho
        have K2 := Lib.hid hk
        clear ho hk hg
        go_wp2_with fail
        refine (span_any wt.2 wt.2 _).mono ?_
        rintro e W6 ⟨rfl, hB⟩
        have xW6 : Ext W5 W6 := Below.trans (by go_grown) (hB.mono (by simp; try omega))
        have q1W6 := Lib.hid (q1W5.out.ext xW6)
        have q2W6 := Lib.hid (q2W5.out.ext xW6)
        have LMW6 := Lib.hid (LMW5.out.ext xW6)
        have LFW6 := Lib.hid (LFW5.out.ext xW6)
        have o1W6 := Lib.hid (o1W5.out.ext xW6)
        have o2W6 := Lib.hid (o2W5.out.ext xW6)
        have hW6 : Below w.heap.size w W6 := hW5.trans (Below.trans (by have := hW5.size; go_grown) (hB.mono (by have := hW5.size; simp; try omega)))
        have zW6 := hW6.size
        obtain ⟨rsW6, csW6, gsW6, zsW6⟩ := keep_row hB (g := w.heap.size) (by repeat (first | with_reducible assumption | with_reducible apply row_here0 | with_reducible apply row_here1 | with_reducible apply row_here2 | with_reducible apply row_here3 | with_reducible apply rowSkip))
        clear hB
        clear hW5 zW5 rsW5 csW5 gsW5 zsW5 xW6 q1W5 q2W5 LMW5 LFW5 o1W5 o2W5
        go_wp2_with fail
        refine (HMG.out nn day (wt.2, wt.2) fa fcap nf first a2 cap2 lf (ms.filter (·.close)) _ HNF.out HLF.out LFW6.out q2W6.out HXF.out lf250).mono ?_
        rintro e W7 ⟨⟨g3, v3, rfl, hg, hl3, ho, hk⟩, hB⟩
        have xW7 : Ext W6 W7 := Below.trans (by go_grown) (hB.mono (by simp; try omega))
        have q1W7 := Lib.hid (q1W6.out.ext xW7)
        have q2W7 := Lib.hid (q2W6.out.ext xW7)
        have LMW7 := Lib.hid (LMW6.out.ext xW7)
        have LFW7 := Lib.hid (LFW6.out.ext xW7)
        have o1W7 := Lib.hid (o1W6.out.ext xW7)
        have o2W7 := Lib.hid (o2W6.out.ext xW7)
        have hW7 : Below w.heap.size w W7 := hW6.trans (Below.trans (by have := hW6.size; go_grown) (hB.mono (by have := hW6.size; simp; try omega)))
        have zW7 := hW7.size
        obtain ⟨rsW7, csW7, gsW7, zsW7⟩ := keep_row hB (g := w.heap.size) (by repeat (first | with_reducible assumption | with_reducible apply row_here0 | with_reducible apply row_here1 | with_reducible apply row_here2 | with_reducible apply row_here3 | with_reducible apply rowSkip))
        clear hB
        clear hW6 zW6 rsW6 csW6 gsW6 zsW6 xW7 q1W6 q2W6 LMW6 LFW6 o1W6 o2W6
        have o3W7 := Lib.hid ho
        have K3 := Lib.hid hk
        clear ho hk hg
        clear q1W7 q2W7 LMW7 LFW7 rsW7 csW7 gsW7 zsW7 HXA HXF HLA HLF
        go_wp2_with fail
        go_loopw [117] (fun i wr => ∃ k : Nat, k ≤ nn ∧ i = .int .i64 (k : Int) ∧ Hid (Ext W7 wr)) (fun i _ => nn - (intOf i).toNat)
        case atStart => exact ⟨0, Nat.zero_le _, rfl, Ext.refl _⟩
        case round =>
          obtain ⟨i, hi, rfl, hE8⟩ := hrel
          by_cases hlt : i < nn
          · have hlt' : (i : Int) < (nn : Int) := by omega
            have d1 := by_cell (o1W7.out.ext hE8.out) (show i < v1.length by omega)
            have d2 := by_cell (o2W7.out.ext hE8.out) (show i < v2.length by omega)
            have d3 := by_cell (o3W7.out.ext hE8.out) (show i < v3.length by omega)
            have hop := open_three hw2 (K1.out i hlt) (K2.out i hlt) (K3.out i hlt)
            generalize v1.getD i 0 = u at d1 hop
            generalize v2.getD i 0 = v at d2 hop
            generalize v3.getD i 0 = z at d3 hop
            rcases hop with ⟨rfl, rfl, rfl⟩ | ⟨rfl, rfl, rfl⟩ | ⟨rfl, rfl, rfl⟩
            · go_wp2_with fail
              go_quiet (fail)
              go_wp2
              exact ⟨⟨i + 1, by omega, by go_num, below_drewN hE8.out _⟩, by simp [intOf]; omega⟩
            · go_wp2_with fail
              go_quiet (fail)
              go_wp2
              exact ⟨⟨i + 1, by omega, by go_num, below_drewN hE8.out _⟩, by simp [intOf]; omega⟩
            · go_wp2_with fail
              go_quiet (fail)
              go_wp2
              exact ⟨⟨i + 1, by omega, by go_num, below_drewN hE8.out _⟩, by simp [intOf]; omega⟩
          · obtain rfl : i = nn := by omega
            have hW8 := hW7.trans (Below.mono hE8.out zW7)
            clear K1 K2 K3 o1W7 o2W7 o3W7 hE8
            go_wp2
            go_returns
            exact ⟨rfl, hW8⟩
  · have HNE := Lib.hid h0
    clear halive hmange hnf hnm hf hm hx
    go_enter Try.func13, Try.ntmps13
    go_wp2_with fail
    refine (HAL.out _).mono ?_
    rintro e W1 ⟨rfl, hB⟩
    have hW1 : Below w.heap.size w W1 := Below.trans (by go_grown) (hB.mono (by simp; try omega))
    have zW1 := hW1.size
    obtain ⟨rsW1, csW1, gsW1, zsW1⟩ := keep_row hB (g := w.heap.size) (by repeat (first | with_reducible assumption | with_reducible apply row_here0 | with_reducible apply row_here1 | with_reducible apply row_here2 | with_reducible apply row_here3 | with_reducible apply rowSkip))
    clear hB
    go_wp2_with fail
    refine (rMeets_any n day wt fa fcap nf first ma mcap nm ms x _ HNF.out HNM.out (HF.out.below hW1 (Nat.le_refl _)) (HM.out.below hW1 (Nat.le_refl _)) HX.out).mono ?_
    rintro e W2 ⟨rfl, hB⟩
    have hW2 : Below w.heap.size w W2 := hW1.trans (Below.trans (by have := hW1.size; go_grown) (hB.mono (by have := hW1.size; simp; try omega)))
    have zW2 := hW2.size
    obtain ⟨rsW2, csW2, gsW2, zsW2⟩ := keep_row hB (g := w.heap.size) (by repeat (first | with_reducible assumption | with_reducible apply row_here0 | with_reducible apply row_here1 | with_reducible apply row_here2 | with_reducible apply row_here3 | with_reducible apply rowSkip))
    clear hB
    clear hW1 zW1 rsW1 csW1 gsW1 zsW1
    have hb : (x == 0) = false := by simpa using h0
    go_wp2
    go_returns
    exact ⟨rfl, hW2⟩
end Go.Proofs.Ytafdcbdbllpcnaa
