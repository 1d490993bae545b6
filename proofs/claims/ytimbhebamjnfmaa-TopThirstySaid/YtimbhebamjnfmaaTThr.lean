/- TopThirsty: for every area, treks, well, breed, animal, day and lighter load, with a lighter load an animal lasts no fewer days, and what Finds tells is in order. No further conditions. -/
import Derived.Test.YtimbhebamjnfmaaTqT
import Derived.Test.YtimbhebamjnfmaaPsi
import Derived.Test.YtimbhebamjnfmaaPgh
import Derived.Test.YtimbhebamjnfmaaTqt
import Derived.Test.YtimbhebamjnfmaaProg
import Derived.Test.YtimbhebamjnfmaaRows
import Derived.WalkKit
import Derived.ProofKit
import Derived.OpenShut
import Derived.ShutString
import Derived.ChangeOld
import Derived.Below
namespace Go.Proofs.Ytimbhebamjnfmaa
open Go.ChangeShapes Go.WideShapes Go.ChangeAt Go.RowKit
open Go.ChangeMaps (open_string shut_string)
set_option linter.unusedVariables false

theorem own : ownKnob Try.prog.godebug = none := by kernel_rfl
theorem laidOut : laidOutB Try.prog = true := by kernel_rfl

set_option maxRecDepth 100000 in
theorem topthirstyLifted (os : Os) (started : os.Started) (H : Type) (enc : TypeId × Value → H) :
    ReturnsInHanded {} Try.checked os 8 .any (Rows.topThirstySpec.pre6 enc Try.prog Try.f8 Rows.topThirstyRow.domain false) (Rows.topThirstySpec.post enc Try.prog Try.f8 false true false false) := by
  refine returnsInHanded_of_change (C := Try.checked) own started (by kernel_rfl) Try.func8
    (ChangeSpec.witness6 (enc := enc) (C := Try.checked) false ⟨#[], #[.agg #[.slice none 0 0], .slice none 0 0, .int .i64 0, .int .i64 0, .int .i64 0, .agg #[.int .i64 0, .int .i64 0, .int .i64 0, .int .i64 0, .int .i64 0, .int .i64 0, .int .i64 0, .int .i64 0, .int .i64 0, .int .i64 0, .int .i64 0, .int .i64 0, .int .i64 0, .int .i64 0, .int .i64 0, .int .i64 0, .int .i64 0], .agg #[.int .i64 0, .int .i64 0, .int .i64 0, .int .i64 0, .int .i64 0, .int .i64 0, .bool false], .agg #[.int .i64 0, .int .i64 0, .int .i64 0, .int .i64 0, .int .i64 0, .int .i64 0, .int .i64 0, .int .i64 0], .int .u32 0], []⟩ 8 (by kernel_rfl) (by kernel_rfl) (by kernel_rfl) (by kernel_rfl)) ?_
  intro W base args ds gs before hval0 hW hcnd _
  have hval : ∀ (j : Nat) t v, Try.f8.params[j]? = some t → args[j]? = some v → Value.okWide Try.prog W .any base t v := hval0
  have hW' := hW
  obtain ⟨p, q, hA0, hV, rfl, hfz, hnd⟩ := hW
  have hA : DataW.TrodAll enc Try.prog W 0 (fun _ => true) true Try.f8.params.toList args.toList ds p := hA0
  rw [Try.params8] at hA hval
  obtain ⟨v0, vs0, d0, ds0, p0, q0, hargs, rfl, rfl, h0, r0⟩ := trodAll_cons hA
  obtain ⟨v1, vs1, d1, ds1, p1, q1, rfl, rfl, rfl, h1, r1⟩ := trodAll_cons r0
  obtain ⟨v2, vs2, d2, ds2, p2, q2, rfl, rfl, rfl, h2, r2⟩ := trodAll_cons r1
  obtain ⟨v3, vs3, d3, ds3, p3, q3, rfl, rfl, rfl, h3, r3⟩ := trodAll_cons r2
  obtain ⟨v4, vs4, d4, ds4, p4, q4, rfl, rfl, rfl, h4, r4⟩ := trodAll_cons r3
  obtain ⟨v5, vs5, d5, ds5, p5, q5, rfl, rfl, rfl, h5, r5⟩ := trodAll_cons r4
  obtain ⟨v6, vs6, d6, ds6, p6, q6, rfl, rfl, rfl, h6, r6⟩ := trodAll_cons r5
  obtain ⟨v7, vs7, d7, ds7, p7, q7, rfl, rfl, rfl, h7, r7⟩ := trodAll_cons r6
  obtain ⟨v8, vs8, d8, ds8, p8, q8, rfl, rfl, rfl, h8, r8⟩ := trodAll_cons r7
  obtain ⟨rfl, rfl, rfl⟩ := trodAll_nil r8
  obtain rfl : args = #[v0, v1, v2, v3, v4, v5, v6, v7, v8] := by cases args; simp_all
  obtain ⟨rfl, rfl⟩ := trodVars_none hV
  have lt0 : ∀ x ∈ p0, x.block < W.heap.size := by obtain ⟨m, hm⟩ := h0; exact DataW.trod_lt m _ _ _ hm
  have lt1 : ∀ x ∈ p1, x.block < W.heap.size := by obtain ⟨m, hm⟩ := h1; exact DataW.trod_lt m _ _ _ hm
  have lt2 : ∀ x ∈ p2, x.block < W.heap.size := by obtain ⟨m, hm⟩ := h2; exact DataW.trod_lt m _ _ _ hm
  have lt3 : ∀ x ∈ p3, x.block < W.heap.size := by obtain ⟨m, hm⟩ := h3; exact DataW.trod_lt m _ _ _ hm
  have lt4 : ∀ x ∈ p4, x.block < W.heap.size := by obtain ⟨m, hm⟩ := h4; exact DataW.trod_lt m _ _ _ hm
  have lt5 : ∀ x ∈ p5, x.block < W.heap.size := by obtain ⟨m, hm⟩ := h5; exact DataW.trod_lt m _ _ _ hm
  have lt6 : ∀ x ∈ p6, x.block < W.heap.size := by obtain ⟨m, hm⟩ := h6; exact DataW.trod_lt m _ _ _ hm
  have lt7 : ∀ x ∈ p7, x.block < W.heap.size := by obtain ⟨m, hm⟩ := h7; exact DataW.trod_lt m _ _ _ hm
  have lt8 : ∀ x ∈ p8, x.block < W.heap.size := by obtain ⟨m, hm⟩ := h8; exact DataW.trod_lt m _ _ _ hm
  obtain ⟨x0, a0', cf0, rd0, rp0⟩ := Go.Q.arg_agg (n := 8) (t := 68) (ks := [Go.Q.Kd.list [Go.Q.Kd.int .i64, Go.Q.Kd.int .i64, Go.Q.Kd.int .i64]]) (by kernel_rfl) (by kernel_rfl) (hval 0 68 v0 rfl rfl) h0
  obtain ⟨hs0, rfl, hl0⟩ := Go.Q.G.conf_area cf0
  obtain ⟨x1, a1', cf1, rd1, rp1⟩ := Go.Q.arg_one (n := 8) (t := 83) (k := Go.Q.Kd.list [Go.Q.Kd.int .i64, Go.Q.Kd.int .i64, Go.Q.Kd.int .i64, Go.Q.Kd.int .i64, Go.Q.Kd.int .i64, Go.Q.Kd.int .i64]) (by kernel_rfl) (by kernel_rfl) (hval 1 83 v1 rfl rfl) h1
  obtain ⟨ts1, rfl, hl1⟩ := Go.Q.G.conf_tks cf1
  obtain ⟨x2, a2', cf2, rd2, rp2⟩ := Go.Q.arg_one (n := 8) (t := 3) (k := Go.Q.Kd.int .i64) (by kernel_rfl) (by kernel_rfl) (hval 2 3 v2 rfl rfl) h2
  obtain ⟨n2, rfl, hn2⟩ := Go.Q.conf_int cf2
  obtain ⟨x3, a3', cf3, rd3, rp3⟩ := Go.Q.arg_one (n := 8) (t := 3) (k := Go.Q.Kd.int .i64) (by kernel_rfl) (by kernel_rfl) (hval 3 3 v3 rfl rfl) h3
  obtain ⟨n3, rfl, hn3⟩ := Go.Q.conf_int cf3
  obtain ⟨x4, a4', cf4, rd4, rp4⟩ := Go.Q.arg_one (n := 8) (t := 3) (k := Go.Q.Kd.int .i64) (by kernel_rfl) (by kernel_rfl) (hval 4 3 v4 rfl rfl) h4
  obtain ⟨n4, rfl, hn4⟩ := Go.Q.conf_int cf4
  obtain ⟨x5, a5', cf5, rd5, rp5⟩ := Go.Q.arg_agg (n := 8) (t := 85) (ks := [Go.Q.Kd.int .i64, Go.Q.Kd.int .i64, Go.Q.Kd.int .i64, Go.Q.Kd.int .i64, Go.Q.Kd.int .i64, Go.Q.Kd.int .i64, Go.Q.Kd.int .i64, Go.Q.Kd.int .i64, Go.Q.Kd.int .i64, Go.Q.Kd.int .i64, Go.Q.Kd.int .i64, Go.Q.Kd.int .i64, Go.Q.Kd.int .i64, Go.Q.Kd.int .i64, Go.Q.Kd.int .i64, Go.Q.Kd.int .i64, Go.Q.Kd.int .i64]) (by kernel_rfl) (by kernel_rfl) (hval 5 85 v5 rfl rfl) h5
  obtain ⟨br5, rfl⟩ := Go.Q.conf_br cf5
  obtain ⟨x6, a6', cf6, rd6, rp6⟩ := Go.Q.arg_agg (n := 8) (t := 87) (ks := [Go.Q.Kd.int .i64, Go.Q.Kd.int .i64, Go.Q.Kd.int .i64, Go.Q.Kd.int .i64, Go.Q.Kd.int .i64, Go.Q.Kd.int .i64, Go.Q.Kd.bool]) (by kernel_rfl) (by kernel_rfl) (hval 6 87 v6 rfl rfl) h6
  obtain ⟨cm6, rfl⟩ := Go.Q.conf_cm cf6
  obtain ⟨x7, a7', cf7, rd7, rp7⟩ := Go.Q.arg_agg (n := 8) (t := 89) (ks := [Go.Q.Kd.int .i64, Go.Q.Kd.int .i64, Go.Q.Kd.int .i64, Go.Q.Kd.int .i64, Go.Q.Kd.int .i64, Go.Q.Kd.int .i64, Go.Q.Kd.int .i64, Go.Q.Kd.int .i64]) (by kernel_rfl) (by kernel_rfl) (hval 7 89 v7 rfl rfl) h7
  obtain ⟨mr7, rfl⟩ := Go.Q.conf_mr cf7
  obtain ⟨x8, a8', cf8, rd8, rp8⟩ := Go.Q.arg_one (n := 8) (t := 53) (k := Go.Q.Kd.int .u32) (by kernel_rfl) (by kernel_rfl) (hval 8 53 v8 rfl rfl) h8
  obtain ⟨n8, rfl, hn8⟩ := Go.Q.conf_u32 cf8
  clear hA0 hval0
  refine (Go.Q.law_ok Go.Q.tabs (f := 8) (F := Go.Q.F8) rfl rfl (Go.Q.e8 hs0 ts1 n2 n3 n4 br5 cm6 mr7 n8 hn8) (.cons rd0 (.cons rd1 (.cons rd2 (.cons rd3 (.cons rd4 (.cons rd5 (.cons rd6 (.cons rd7 (.cons rd8 .nil))))))))) (Go.Q.Reps.cons rp0 (Go.Q.Reps.cons rp1 (Go.Q.Reps.cons rp2 (Go.Q.Reps.cons rp3 (Go.Q.Reps.cons rp4 (Go.Q.Reps.cons rp5 (Go.Q.Reps.cons rp6 (Go.Q.Reps.cons rp7 (Go.Q.Reps.cons rp8 Go.Q.Reps.nil)))))))))).mono fun e W' ⟨he, bel⟩ => ?_
  subst he
  exact ⟨_, rfl, _, _, _, [], _, [], hW', trodAll_mk1 (shut_bool Try.underlying4 _), (trodAll_cons_mk (Below.trod laidOut (by kernel_rfl) (of_decide_eq_true (by kernel_rfl)) h0 bel lt0) (trodAll_cons_mk (Below.trod laidOut (by kernel_rfl) (of_decide_eq_true (by kernel_rfl)) h1 bel lt1) (trodAll_cons_mk (Below.trod laidOut (by kernel_rfl) (of_decide_eq_true (by kernel_rfl)) h2 bel lt2) (trodAll_cons_mk (Below.trod laidOut (by kernel_rfl) (of_decide_eq_true (by kernel_rfl)) h3 bel lt3) (trodAll_cons_mk (Below.trod laidOut (by kernel_rfl) (of_decide_eq_true (by kernel_rfl)) h4 bel lt4) (trodAll_cons_mk (Below.trod laidOut (by kernel_rfl) (of_decide_eq_true (by kernel_rfl)) h5 bel lt5) (trodAll_cons_mk (Below.trod laidOut (by kernel_rfl) (of_decide_eq_true (by kernel_rfl)) h6 bel lt6) (trodAll_cons_mk (Below.trod laidOut (by kernel_rfl) (of_decide_eq_true (by kernel_rfl)) h7 bel lt7) (trodAll_cons_mk (Below.trod laidOut (by kernel_rfl) (of_decide_eq_true (by kernel_rfl)) h8 bel lt8) trodAll_mk0))))))))), rfl, bel.frame _, fun h => by cases h⟩

theorem topThirsty_holds : Rows.TopThirstySaid :=
  OpenClaim.holds_of_wide 8 Try.f8 rfl rfl rfl rfl rfl rfl rfl ⟨rfl, rfl, rfl, rfl, rfl⟩ rfl rfl rfl rfl rfl (by kernel_rfl) Try.func8 (by kernel_rfl)
    (of_decide_eq_true (by kernel_rfl)) (by unfold Func.isWrapper; first | (rw [if_pos (by decide +kernel)]; kernel_rfl) | (rw [if_neg (by decide +kernel)]; exact ⟨rfl, rfl⟩))
    (fun os started H enc _ => topthirstyLifted os started H enc)

#print axioms topThirsty_holds
end Go.Proofs.Ytimbhebamjnfmaa
