/- WayTrue: for every land, well, day, pace and way, and whatever is so, a caravan that goes the way arrives at each stop within the days that are told, and goes a way that is sure. No further conditions. -/
import Derived.Test.YtimbhebamjnfmaaTqW5
import Derived.Test.YtimbhebamjnfmaaMsh
import Derived.Test.YtimbhebamjnfmaaMqt
import Derived.Test.YtimbhebamjnfmaaProg
import Derived.Test.YtimbhebamjnfmaaRows
import Derived.WalkKit
import Derived.ProofKit
import Derived.OpenShut
import Derived.ShutString
import Derived.ChangeOld
import Derived.Below
namespace Go.Proofs.Ytimbhebamjnfmaa
open Go.ChangeShapes Go.WideShapes Go.ChangeAt Go.RowKit
open Go.ChangeMaps (open_string shut_string)
set_option linter.unusedVariables false

theorem own : ownKnob Try.prog.godebug = none := by kernel_rfl
theorem laidOut : laidOutB Try.prog = true := by kernel_rfl

set_option maxRecDepth 100000 in
theorem waytrueLifted (os : Os) (started : os.Started) (H : Type) (enc : TypeId × Value → H) :
    ReturnsInHanded {} Try.checked os 4 .any (Rows.wayTrueSpec.pre6 enc Try.prog Try.f4 Rows.wayTrueRow.domain false) (Rows.wayTrueSpec.post enc Try.prog Try.f4 false true false false) := by
  refine returnsInHanded_of_change (C := Try.checked) own started (by kernel_rfl) Try.func4
    (ChangeSpec.witness6 (enc := enc) (C := Try.checked) false ⟨#[], #[.agg #[.slice none 0 0, .slice none 0 0], .int .i64 0, .int .i64 0, .agg #[.int .i64 0, .int .i64 0], .slice none 0 0, .slice none 0 0], []⟩ 8 (by kernel_rfl) (by kernel_rfl) (by kernel_rfl) (by kernel_rfl)) ?_
  intro W base args ds gs before hval0 hW hcnd _
  have hval : ∀ (j : Nat) t v, Try.f4.params[j]? = some t → args[j]? = some v → Value.okWide Try.prog W .any base t v := hval0
  have hW' := hW
  obtain ⟨p, q, hA0, hV, rfl, hfz, hnd⟩ := hW
  have hA : DataW.TrodAll enc Try.prog W 0 (fun _ => true) true Try.f4.params.toList args.toList ds p := hA0
  rw [Try.params4] at hA hval
  obtain ⟨v0, vs0, d0, ds0, p0, q0, hargs, rfl, rfl, h0, r0⟩ := trodAll_cons hA
  obtain ⟨v1, vs1, d1, ds1, p1, q1, rfl, rfl, rfl, h1, r1⟩ := trodAll_cons r0
  obtain ⟨v2, vs2, d2, ds2, p2, q2, rfl, rfl, rfl, h2, r2⟩ := trodAll_cons r1
  obtain ⟨v3, vs3, d3, ds3, p3, q3, rfl, rfl, rfl, h3, r3⟩ := trodAll_cons r2
  obtain ⟨v4, vs4, d4, ds4, p4, q4, rfl, rfl, rfl, h4, r4⟩ := trodAll_cons r3
  obtain ⟨v5, vs5, d5, ds5, p5, q5, rfl, rfl, rfl, h5, r5⟩ := trodAll_cons r4
  obtain ⟨rfl, rfl, rfl⟩ := trodAll_nil r5
  obtain rfl : args = #[v0, v1, v2, v3, v4, v5] := by cases args; simp_all
  obtain ⟨rfl, rfl⟩ := trodVars_none hV
  have lt0 : ∀ x ∈ p0, x.block < W.heap.size := by obtain ⟨m, hm⟩ := h0; exact DataW.trod_lt m _ _ _ hm
  have lt1 : ∀ x ∈ p1, x.block < W.heap.size := by obtain ⟨m, hm⟩ := h1; exact DataW.trod_lt m _ _ _ hm
  have lt2 : ∀ x ∈ p2, x.block < W.heap.size := by obtain ⟨m, hm⟩ := h2; exact DataW.trod_lt m _ _ _ hm
  have lt3 : ∀ x ∈ p3, x.block < W.heap.size := by obtain ⟨m, hm⟩ := h3; exact DataW.trod_lt m _ _ _ hm
  have lt4 : ∀ x ∈ p4, x.block < W.heap.size := by obtain ⟨m, hm⟩ := h4; exact DataW.trod_lt m _ _ _ hm
  have lt5 : ∀ x ∈ p5, x.block < W.heap.size := by obtain ⟨m, hm⟩ := h5; exact DataW.trod_lt m _ _ _ hm
  obtain ⟨x0, a0', cf0, rd0, rp0⟩ := Go.Q.arg_agg (n := 8) (t := 39) (ks := [Go.Q.Kd.list [Go.Q.Kd.int .i64, Go.Q.Kd.int .i64, Go.Q.Kd.int .i64, Go.Q.Kd.int .i64, Go.Q.Kd.int .i64, Go.Q.Kd.int .i64, Go.Q.Kd.int .i64, Go.Q.Kd.int .i64, Go.Q.Kd.int .i64], Go.Q.Kd.list [Go.Q.Kd.int .i64, Go.Q.Kd.int .i64, Go.Q.Kd.int .i64, Go.Q.Kd.int .i64, Go.Q.Kd.list [Go.Q.Kd.int .i64, Go.Q.Kd.int .i64, Go.Q.Kd.int .i64, Go.Q.Kd.int .i64]]]) (by kernel_rfl) (by kernel_rfl) (hval 0 39 v0 rfl rfl) h0
  obtain ⟨ws0, ls0, rfl, hw0, hl0, hb0⟩ := Go.Q.conf_land cf0
  obtain ⟨x1, a1', cf1, rd1, rp1⟩ := Go.Q.arg_one (n := 8) (t := 3) (k := Go.Q.Kd.int .i64) (by kernel_rfl) (by kernel_rfl) (hval 1 3 v1 rfl rfl) h1
  obtain ⟨n1, rfl, hn1⟩ := Go.Q.conf_int cf1
  obtain ⟨x2, a2', cf2, rd2, rp2⟩ := Go.Q.arg_one (n := 8) (t := 3) (k := Go.Q.Kd.int .i64) (by kernel_rfl) (by kernel_rfl) (hval 2 3 v2 rfl rfl) h2
  obtain ⟨n2, rfl, hn2⟩ := Go.Q.conf_int cf2
  obtain ⟨x3, a3', cf3, rd3, rp3⟩ := Go.Q.arg_agg (n := 8) (t := 23) (ks := [Go.Q.Kd.int .i64, Go.Q.Kd.int .i64]) (by kernel_rfl) (by kernel_rfl) (hval 3 23 v3 rfl rfl) h3
  obtain ⟨a3, b3, rfl, ha3, hb3⟩ := Go.Q.conf_span cf3
  obtain ⟨x4, a4', cf4, rd4, rp4⟩ := Go.Q.arg_one (n := 8) (t := 40) (k := Go.Q.Kd.list [Go.Q.Kd.int .i64]) (by kernel_rfl) (by kernel_rfl) (hval 4 40 v4 rfl rfl) h4
  obtain ⟨ns4, rfl, hl4⟩ := Go.Q.conf_ints cf4
  obtain ⟨x5, a5', cf5, rd5, rp5⟩ := Go.Q.arg_one (n := 8) (t := 41) (k := Go.Q.Kd.list [Go.Q.Kd.int .u32]) (by kernel_rfl) (by kernel_rfl) (hval 5 41 v5 rfl rfl) h5
  obtain ⟨ws5, rfl, hl5⟩ := Go.Q.conf_words cf5
  clear hA0 hval0
  refine (Go.Q.law_ok Go.Q.tabs (f := 4) (F := Go.Q.F4) rfl rfl (Go.Q.e4 ws0 ls0 n1 n2 a3 b3 ns4 ws5 hl0) (.cons rd0 (.cons rd1 (.cons rd2 (.cons rd3 (.cons rd4 (.cons rd5 .nil)))))) (Go.Q.Reps.cons rp0 (Go.Q.Reps.cons rp1 (Go.Q.Reps.cons rp2 (Go.Q.Reps.cons rp3 (Go.Q.Reps.cons rp4 (Go.Q.Reps.cons rp5 Go.Q.Reps.nil))))))).mono fun e W' ⟨he, bel⟩ => ?_
  subst he
  exact ⟨_, rfl, _, _, _, [], _, [], hW', trodAll_mk1 (shut_bool Try.underlying4 _), (trodAll_cons_mk (Below.trod laidOut (by kernel_rfl) (of_decide_eq_true (by kernel_rfl)) h0 bel lt0) (trodAll_cons_mk (Below.trod laidOut (by kernel_rfl) (of_decide_eq_true (by kernel_rfl)) h1 bel lt1) (trodAll_cons_mk (Below.trod laidOut (by kernel_rfl) (of_decide_eq_true (by kernel_rfl)) h2 bel lt2) (trodAll_cons_mk (Below.trod laidOut (by kernel_rfl) (of_decide_eq_true (by kernel_rfl)) h3 bel lt3) (trodAll_cons_mk (Below.trod laidOut (by kernel_rfl) (of_decide_eq_true (by kernel_rfl)) h4 bel lt4) (trodAll_cons_mk (Below.trod laidOut (by kernel_rfl) (of_decide_eq_true (by kernel_rfl)) h5 bel lt5) trodAll_mk0)))))), rfl, bel.frame _, fun h => by cases h⟩

theorem wayTrue_holds : Rows.WayTrueSaid :=
  OpenClaim.holds_of_wide 4 Try.f4 rfl rfl rfl rfl rfl rfl rfl ⟨rfl, rfl, rfl, rfl, rfl⟩ rfl rfl rfl rfl rfl (by kernel_rfl) Try.func4 (by kernel_rfl)
    (of_decide_eq_true (by kernel_rfl)) (by unfold Func.isWrapper; first | (rw [if_pos (by decide +kernel)]; kernel_rfl) | (rw [if_neg (by decide +kernel)]; exact ⟨rfl, rfl⟩))
    (fun os started H enc _ => waytrueLifted os started H enc)

#print axioms wayTrue_holds
end Go.Proofs.Ytimbhebamjnfmaa
