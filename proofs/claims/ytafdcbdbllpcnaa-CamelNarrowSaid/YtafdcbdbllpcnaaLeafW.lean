/- Contract of package camel's checkMange, whole. -/
import Derived.Test.YtafdcbdbllpcnaaLeafV
namespace Go.Proofs.Ytafdcbdbllpcnaa
open Go.RowKit
open Go.Proofs

set_option maxHeartbeats 4000000 in
theorem checkMange_many (n day : Int) (wt : Int × Int) (fa : Option Addr) (fcap nf : Nat) (ma : Option Addr) (mcap nm : Nat) (w : World) (ha : okA n wt day = true) (hl : ¬ (nf ≤ 30 ∧ nm ≤ 200)) :
    Calls Try.prog 55 #[.int .i64 n, .slice fa nf fcap, .slice ma nm mcap, .agg #[.int .i64 wt.1, .int .i64 wt.2], .int .i64 day] w fun e w' => e = .returned (.int .i64 4) ∧ Below w.heap.size w w' := by
  simp only [okA, Bool.and_eq_true, decide_eq_true_eq] at ha
  obtain ⟨⟨⟨⟨⟨a1, a2⟩, a3⟩, a4⟩, a5⟩, a6⟩ := ha
  have H4 := Lib.hid a4
  clear a4
  by_cases h1 : nf ≤ 30
  · have h2 : (200 : Int) < (nm : Int) := by omega
    have h1' : (nf : Int) ≤ 30 := by omega
    clear hl
    go_enter Try.func55, Try.ntmps55
    go_wp2_with fail
    refine (within1x 60 wt true H4.out _ _ _ (by repeat (first | with_reducible assumption | with_reducible apply row_here0 | with_reducible apply row_here1 | with_reducible apply row_here2 | with_reducible apply row_here3 | with_reducible apply rowSkip)) (by simp)).mono ?_
    rintro e W1 ⟨rfl, hB⟩
    have hW1 : Below w.heap.size w W1 := Below.trans (by go_grown) (hB.mono (by simp; omega))
    clear hB
    go_wp2
    go_returns
    exact ⟨rfl, hW1⟩
  · have h2 : (30 : Int) < (nf : Int) := by omega
    clear hl h1
    go_enter Try.func55, Try.ntmps55
    go_wp2_with fail
    refine (within1x 60 wt true H4.out _ _ _ (by repeat (first | with_reducible assumption | with_reducible apply row_here0 | with_reducible apply row_here1 | with_reducible apply row_here2 | with_reducible apply row_here3 | with_reducible apply rowSkip)) (by simp)).mono ?_
    rintro e W1 ⟨rfl, hB⟩
    have hW1 : Below w.heap.size w W1 := Below.trans (by go_grown) (hB.mono (by simp; omega))
    clear hB
    go_wp2
    go_returns
    exact ⟨rfl, hW1⟩
theorem checkMange_any (n day : Int) (wt : Int × Int) (fa : Option Addr) (fcap nf : Nat) (first : List Int) (ma : Option Addr) (mcap nm : Nat) (ms : List Mt) (x : Int) (w : World) (hnf : nf = first.length) (hnm : nm = ms.length) (hf : IntsIn w fa fcap first) (hm : MeetsIn w ma mcap ms) (hx : chkG n first ms wt day = x) :
    Calls Try.prog 55 #[.int .i64 n, .slice fa nf fcap, .slice ma nm mcap, .agg #[.int .i64 wt.1, .int .i64 wt.2], .int .i64 day] w fun e w' => e = .returned (.int .i64 x) ∧ Below w.heap.size w w' := by
  cases ha : okA n wt day with
  | false =>
    have : x = 2 := by rw [← hx]; simp [chkG, ha]
    subst this
    exact checkMange_arg n day wt _ _ w ha
  | true =>
    by_cases hl : nf ≤ 30 ∧ nm ≤ 200
    · exact checkMange_lists n day wt fa fcap nf first ma mcap nm ms x w hnf hnm hf hm ha hl.1 hl.2 hx
    · have : x = 4 := by
        rw [← hx]
        unfold chkG
        rw [if_pos ha, if_neg (show ¬ (first.length ≤ 30 ∧ ms.length ≤ 200) by omega)]
      subst this
      exact checkMange_many n day wt fa fcap nf ma mcap nm w ha hl
end Go.Proofs.Ytafdcbdbllpcnaa
