/- TopHome: for every area, place, treks, well, breed, animal and day, a well that is near for sure in time is come to alive, whatever is so. No further conditions. -/
import Derived.Test.YtimbhebamjnfmaaTqH2
import Derived.Test.YtimbhebamjnfmaaPsi
import Derived.Test.YtimbhebamjnfmaaPgh
import Derived.Test.YtimbhebamjnfmaaTqt
import Derived.Test.YtimbhebamjnfmaaProg
import Derived.Test.YtimbhebamjnfmaaRows
import Derived.WalkKit
import Derived.ProofKit
import Derived.OpenShut
import Derived.ShutString
import Derived.ChangeOld
import Derived.Below
namespace Go.Proofs.Ytimbhebamjnfmaa
open Go.ChangeShapes Go.WideShapes Go.ChangeAt Go.RowKit
open Go.ChangeMaps (open_string shut_string)
set_option linter.unusedVariables false

theorem own : ownKnob Try.prog.godebug = none := by kernel_rfl
theorem laidOut : laidOutB Try.prog = true := by kernel_rfl

set_option maxRecDepth 100000 in
theorem tophomeLifted (os : Os) (started : os.Started) (H : Type) (enc : TypeId × Value → H) :
    ReturnsInHanded {} Try.checked os 7 .any (Rows.topHomeSpec.pre6 enc Try.prog Try.f7 Rows.topHomeRow.domain false) (Rows.topHomeSpec.post enc Try.prog Try.f7 false true false false) := by
  refine returnsInHanded_of_change (C := Try.checked) own started (by kernel_rfl) Try.func7
    (ChangeSpec.witness6 (enc := enc) (C := Try.checked) false ⟨#[], #[.agg #[.slice none 0 0], .int .i64 0, .int .i64 0, .slice none 0 0, .int .i64 0, .int .i64 0, .int .i64 0, .agg #[.int .i64 0, .int .i64 0, .int .i64 0, .int .i64 0, .int .i64 0, .int .i64 0, .int .i64 0, .int .i64 0, .int .i64 0, .int .i64 0, .int .i64 0, .int .i64 0, .int .i64 0, .int .i64 0, .int .i64 0, .int .i64 0, .int .i64 0], .agg #[.int .i64 0, .int .i64 0, .int .i64 0, .int .i64 0, .int .i64 0, .int .i64 0, .bool false], .agg #[.int .i64 0, .int .i64 0, .int .i64 0, .int .i64 0, .int .i64 0, .int .i64 0, .int .i64 0, .int .i64 0], .slice none 0 0], []⟩ 8 (by kernel_rfl) (by kernel_rfl) (by kernel_rfl) (by kernel_rfl)) ?_
  intro W base args ds gs before hval0 hW hcnd _
  have hval : ∀ (j : Nat) t v, Try.f7.params[j]? = some t → args[j]? = some v → Value.okWide Try.prog W .any base t v := hval0
  have hW' := hW
  obtain ⟨p, q, hA0, hV, rfl, hfz, hnd⟩ := hW
  have hA : DataW.TrodAll enc Try.prog W 0 (fun _ => true) true Try.f7.params.toList args.toList ds p := hA0
  rw [Try.params7] at hA hval
  obtain ⟨v0, vs0, d0, ds0, p0, q0, hargs, rfl, rfl, h0, r0⟩ := trodAll_cons hA
  obtain ⟨v1, vs1, d1, ds1, p1, q1, rfl, rfl, rfl, h1, r1⟩ := trodAll_cons r0
  obtain ⟨v2, vs2, d2, ds2, p2, q2, rfl, rfl, rfl, h2, r2⟩ := trodAll_cons r1
  obtain ⟨v3, vs3, d3, ds3, p3, q3, rfl, rfl, rfl, h3, r3⟩ := trodAll_cons r2
  obtain ⟨v4, vs4, d4, ds4, p4, q4, rfl, rfl, rfl, h4, r4⟩ := trodAll_cons r3
  obtain ⟨v5, vs5, d5, ds5, p5, q5, rfl, rfl, rfl, h5, r5⟩ := trodAll_cons r4
  obtain ⟨v6, vs6, d6, ds6, p6, q6, rfl, rfl, rfl, h6, r6⟩ := trodAll_cons r5
  obtain ⟨v7, vs7, d7, ds7, p7, q7, rfl, rfl, rfl, h7, r7⟩ := trodAll_cons r6
  obtain ⟨v8, vs8, d8, ds8, p8, q8, rfl, rfl, rfl, h8, r8⟩ := trodAll_cons r7
  obtain ⟨v9, vs9, d9, ds9, p9, q9, rfl, rfl, rfl, h9, r9⟩ := trodAll_cons r8
  obtain ⟨v10, vs10, d10, ds10, p10, q10, rfl, rfl, rfl, h10, r10⟩ := trodAll_cons r9
  obtain ⟨rfl, rfl, rfl⟩ := trodAll_nil r10
  obtain rfl : args = #[v0, v1, v2, v3, v4, v5, v6, v7, v8, v9, v10] := by cases args; simp_all
  obtain ⟨rfl, rfl⟩ := trodVars_none hV
  have lt0 : ∀ x ∈ p0, x.block < W.heap.size := by obtain ⟨m, hm⟩ := h0; exact DataW.trod_lt m _ _ _ hm
  have lt1 : ∀ x ∈ p1, x.block < W.heap.size := by obtain ⟨m, hm⟩ := h1; exact DataW.trod_lt m _ _ _ hm
  have lt2 : ∀ x ∈ p2, x.block < W.heap.size := by obtain ⟨m, hm⟩ := h2; exact DataW.trod_lt m _ _ _ hm
  have lt3 : ∀ x ∈ p3, x.block < W.heap.size := by obtain ⟨m, hm⟩ := h3; exact DataW.trod_lt m _ _ _ hm
  have lt4 : ∀ x ∈ p4, x.block < W.heap.size := by obtain ⟨m, hm⟩ := h4; exact DataW.trod_lt m _ _ _ hm
  have lt5 : ∀ x ∈ p5, x.block < W.heap.size := by obtain ⟨m, hm⟩ := h5; exact DataW.trod_lt m _ _ _ hm
  have lt6 : ∀ x ∈ p6, x.block < W.heap.size := by obtain ⟨m, hm⟩ := h6; exact DataW.trod_lt m _ _ _ hm
  have lt7 : ∀ x ∈ p7, x.block < W.heap.size := by obtain ⟨m, hm⟩ := h7; exact DataW.trod_lt m _ _ _ hm
  have lt8 : ∀ x ∈ p8, x.block < W.heap.size := by obtain ⟨m, hm⟩ := h8; exact DataW.trod_lt m _ _ _ hm
  have lt9 : ∀ x ∈ p9, x.block < W.heap.size := by obtain ⟨m, hm⟩ := h9; exact DataW.trod_lt m _ _ _ hm
  have lt10 : ∀ x ∈ p10, x.block < W.heap.size := by obtain ⟨m, hm⟩ := h10; exact DataW.trod_lt m _ _ _ hm
  obtain ⟨x0, a0', cf0, rd0, rp0⟩ := Go.Q.arg_agg (n := 8) (t := 68) (ks := [Go.Q.Kd.list [Go.Q.Kd.int .i64, Go.Q.Kd.int .i64, Go.Q.Kd.int .i64]]) (by kernel_rfl) (by kernel_rfl) (hval 0 68 v0 rfl rfl) h0
  obtain ⟨hs0, rfl, hl0⟩ := Go.Q.G.conf_area cf0
  obtain ⟨x1, a1', cf1, rd1, rp1⟩ := Go.Q.arg_one (n := 8) (t := 3) (k := Go.Q.Kd.int .i64) (by kernel_rfl) (by kernel_rfl) (hval 1 3 v1 rfl rfl) h1
  obtain ⟨n1, rfl, hn1⟩ := Go.Q.conf_int cf1
  obtain ⟨x2, a2', cf2, rd2, rp2⟩ := Go.Q.arg_one (n := 8) (t := 3) (k := Go.Q.Kd.int .i64) (by kernel_rfl) (by kernel_rfl) (hval 2 3 v2 rfl rfl) h2
  obtain ⟨n2, rfl, hn2⟩ := Go.Q.conf_int cf2
  obtain ⟨x3, a3', cf3, rd3, rp3⟩ := Go.Q.arg_one (n := 8) (t := 83) (k := Go.Q.Kd.list [Go.Q.Kd.int .i64, Go.Q.Kd.int .i64, Go.Q.Kd.int .i64, Go.Q.Kd.int .i64, Go.Q.Kd.int .i64, Go.Q.Kd.int .i64]) (by kernel_rfl) (by kernel_rfl) (hval 3 83 v3 rfl rfl) h3
  obtain ⟨ts3, rfl, hl3⟩ := Go.Q.G.conf_tks cf3
  obtain ⟨x4, a4', cf4, rd4, rp4⟩ := Go.Q.arg_one (n := 8) (t := 3) (k := Go.Q.Kd.int .i64) (by kernel_rfl) (by kernel_rfl) (hval 4 3 v4 rfl rfl) h4
  obtain ⟨n4, rfl, hn4⟩ := Go.Q.conf_int cf4
  obtain ⟨x5, a5', cf5, rd5, rp5⟩ := Go.Q.arg_one (n := 8) (t := 3) (k := Go.Q.Kd.int .i64) (by kernel_rfl) (by kernel_rfl) (hval 5 3 v5 rfl rfl) h5
  obtain ⟨n5, rfl, hn5⟩ := Go.Q.conf_int cf5
  obtain ⟨x6, a6', cf6, rd6, rp6⟩ := Go.Q.arg_one (n := 8) (t := 3) (k := Go.Q.Kd.int .i64) (by kernel_rfl) (by kernel_rfl) (hval 6 3 v6 rfl rfl) h6
  obtain ⟨n6, rfl, hn6⟩ := Go.Q.conf_int cf6
  obtain ⟨x7, a7', cf7, rd7, rp7⟩ := Go.Q.arg_agg (n := 8) (t := 85) (ks := [Go.Q.Kd.int .i64, Go.Q.Kd.int .i64, Go.Q.Kd.int .i64, Go.Q.Kd.int .i64, Go.Q.Kd.int .i64, Go.Q.Kd.int .i64, Go.Q.Kd.int .i64, Go.Q.Kd.int .i64, Go.Q.Kd.int .i64, Go.Q.Kd.int .i64, Go.Q.Kd.int .i64, Go.Q.Kd.int .i64, Go.Q.Kd.int .i64, Go.Q.Kd.int .i64, Go.Q.Kd.int .i64, Go.Q.Kd.int .i64, Go.Q.Kd.int .i64]) (by kernel_rfl) (by kernel_rfl) (hval 7 85 v7 rfl rfl) h7
  obtain ⟨br7, rfl⟩ := Go.Q.conf_br cf7
  obtain ⟨x8, a8', cf8, rd8, rp8⟩ := Go.Q.arg_agg (n := 8) (t := 87) (ks := [Go.Q.Kd.int .i64, Go.Q.Kd.int .i64, Go.Q.Kd.int .i64, Go.Q.Kd.int .i64, Go.Q.Kd.int .i64, Go.Q.Kd.int .i64, Go.Q.Kd.bool]) (by kernel_rfl) (by kernel_rfl) (hval 8 87 v8 rfl rfl) h8
  obtain ⟨cm8, rfl⟩ := Go.Q.conf_cm cf8
  obtain ⟨x9, a9', cf9, rd9, rp9⟩ := Go.Q.arg_agg (n := 8) (t := 89) (ks := [Go.Q.Kd.int .i64, Go.Q.Kd.int .i64, Go.Q.Kd.int .i64, Go.Q.Kd.int .i64, Go.Q.Kd.int .i64, Go.Q.Kd.int .i64, Go.Q.Kd.int .i64, Go.Q.Kd.int .i64]) (by kernel_rfl) (by kernel_rfl) (hval 9 89 v9 rfl rfl) h9
  obtain ⟨mr9, rfl⟩ := Go.Q.conf_mr cf9
  obtain ⟨x10, a10', cf10, rd10, rp10⟩ := Go.Q.arg_one (n := 8) (t := 41) (k := Go.Q.Kd.list [Go.Q.Kd.int .u32]) (by kernel_rfl) (by kernel_rfl) (hval 10 41 v10 rfl rfl) h10
  obtain ⟨ws10, rfl, hl10⟩ := Go.Q.conf_words cf10
  clear hA0 hval0
  refine (Go.Q.law_ok Go.Q.tabs (f := 7) (F := Go.Q.F7) rfl rfl (Go.Q.e7 hs0 n1 n2 ts3 n4 n5 n6 br7 cm8 mr9 ws10 hn1 hn2) (.cons rd0 (.cons rd1 (.cons rd2 (.cons rd3 (.cons rd4 (.cons rd5 (.cons rd6 (.cons rd7 (.cons rd8 (.cons rd9 (.cons rd10 .nil))))))))))) (Go.Q.Reps.cons rp0 (Go.Q.Reps.cons rp1 (Go.Q.Reps.cons rp2 (Go.Q.Reps.cons rp3 (Go.Q.Reps.cons rp4 (Go.Q.Reps.cons rp5 (Go.Q.Reps.cons rp6 (Go.Q.Reps.cons rp7 (Go.Q.Reps.cons rp8 (Go.Q.Reps.cons rp9 (Go.Q.Reps.cons rp10 Go.Q.Reps.nil)))))))))))).mono fun e W' ⟨he, bel⟩ => ?_
  subst he
  exact ⟨_, rfl, _, _, _, [], _, [], hW', trodAll_mk1 (shut_bool Try.underlying4 _), (trodAll_cons_mk (Below.trod laidOut (by kernel_rfl) (of_decide_eq_true (by kernel_rfl)) h0 bel lt0) (trodAll_cons_mk (Below.trod laidOut (by kernel_rfl) (of_decide_eq_true (by kernel_rfl)) h1 bel lt1) (trodAll_cons_mk (Below.trod laidOut (by kernel_rfl) (of_decide_eq_true (by kernel_rfl)) h2 bel lt2) (trodAll_cons_mk (Below.trod laidOut (by kernel_rfl) (of_decide_eq_true (by kernel_rfl)) h3 bel lt3) (trodAll_cons_mk (Below.trod laidOut (by kernel_rfl) (of_decide_eq_true (by kernel_rfl)) h4 bel lt4) (trodAll_cons_mk (Below.trod laidOut (by kernel_rfl) (of_decide_eq_true (by kernel_rfl)) h5 bel lt5) (trodAll_cons_mk (Below.trod laidOut (by kernel_rfl) (of_decide_eq_true (by kernel_rfl)) h6 bel lt6) (trodAll_cons_mk (Below.trod laidOut (by kernel_rfl) (of_decide_eq_true (by kernel_rfl)) h7 bel lt7) (trodAll_cons_mk (Below.trod laidOut (by kernel_rfl) (of_decide_eq_true (by kernel_rfl)) h8 bel lt8) (trodAll_cons_mk (Below.trod laidOut (by kernel_rfl) (of_decide_eq_true (by kernel_rfl)) h9 bel lt9) (trodAll_cons_mk (Below.trod laidOut (by kernel_rfl) (of_decide_eq_true (by kernel_rfl)) h10 bel lt10) trodAll_mk0))))))))))), rfl, bel.frame _, fun h => by cases h⟩

theorem topHome_holds : Rows.TopHomeSaid :=
  OpenClaim.holds_of_wide 7 Try.f7 rfl rfl rfl rfl rfl rfl rfl ⟨rfl, rfl, rfl, rfl, rfl⟩ rfl rfl rfl rfl rfl (by kernel_rfl) Try.func7 (by kernel_rfl)
    (of_decide_eq_true (by kernel_rfl)) (by unfold Func.isWrapper; first | (rw [if_pos (by decide +kernel)]; kernel_rfl) | (rw [if_neg (by decide +kernel)]; exact ⟨rfl, rfl⟩))
    (fun os started H enc _ => tophomeLifted os started H enc)

#print axioms topHome_holds
end Go.Proofs.Ytimbhebamjnfmaa
