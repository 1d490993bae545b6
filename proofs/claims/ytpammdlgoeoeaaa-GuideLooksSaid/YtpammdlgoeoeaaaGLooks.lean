/- GuideLooks: for every area, look and looks, an area after a look, and the looks that contradict each other, are the reference's answers; the arguments stay, and no memory is shared. -/
import Derived.Test.YtpammdlgoeoeaaaGh4
import Derived.Test.YtpammdlgoeoeaaaGsi
import Derived.Test.YtpammdlgoeoeaaaGat
import Derived.Test.YtpammdlgoeoeaaaProg
import Derived.Test.YtpammdlgoeoeaaaRows
import Derived.WalkKit
import Derived.ProofKit
import Derived.OpenShut
import Derived.ShutString
import Derived.ChangeOld
import Derived.Below
namespace Go.Proofs.Ytpammdlgoeoeaaa
open Go.ChangeShapes Go.WideShapes Go.ChangeAt Go.RowKit
open Go.ChangeMaps (open_string shut_string)
set_option linter.unusedVariables false

theorem own : ownKnob Try.prog.godebug = none := by kernel_rfl
theorem laidOut : laidOutB Try.prog = true := by kernel_rfl

set_option maxRecDepth 100000 in
theorem guidelooksLifted (os : Os) (started : os.Started) (H : Type) (enc : TypeId × Value → H) :
    ReturnsInHanded {} Try.checked os 5 .any (Rows.guideLooksSpec.pre6 enc Try.prog Try.f5 Rows.guideLooksRow.domain false) (Rows.guideLooksSpec.post enc Try.prog Try.f5 false true false false) := by
  refine returnsInHanded_of_change (C := Try.checked) own started (by kernel_rfl) Try.func5
    (ChangeSpec.witness6 (enc := enc) (C := Try.checked) false ⟨#[], #[.agg #[.slice none 0 0], .agg #[.int .u8 0, .int .i64 0, .int .i64 0, .int .i64 0, .int .i64 0, .int .i64 0, .int .i64 0, .int .i64 0, .int .i64 0, .int .i64 0], .slice none 0 0], []⟩ 8 (by kernel_rfl) (by kernel_rfl) (by kernel_rfl) (by kernel_rfl)) ?_
  intro W base args ds gs before hval0 hW hcnd _
  have hval : ∀ (j : Nat) t v, Try.f5.params[j]? = some t → args[j]? = some v → Value.okWide Try.prog W .any base t v := hval0
  have hW' := hW
  obtain ⟨p, q, hA0, hV, rfl, hfz, hnd⟩ := hW
  have hA : DataW.TrodAll enc Try.prog W 0 (fun _ => true) true Try.f5.params.toList args.toList ds p := hA0
  rw [Try.params5] at hA hval
  obtain ⟨v0, vs0, d0, ds0, p0, q0, hargs, rfl, rfl, h0, r0⟩ := trodAll_cons hA
  obtain ⟨v1, vs1, d1, ds1, p1, q1, rfl, rfl, rfl, h1, r1⟩ := trodAll_cons r0
  obtain ⟨v2, vs2, d2, ds2, p2, q2, rfl, rfl, rfl, h2, r2⟩ := trodAll_cons r1
  obtain ⟨rfl, rfl, rfl⟩ := trodAll_nil r2
  obtain rfl : args = #[v0, v1, v2] := by cases args; simp_all
  obtain ⟨rfl, rfl⟩ := trodVars_none hV
  have lt0 : ∀ x ∈ p0, x.block < W.heap.size := by obtain ⟨m, hm⟩ := h0; exact DataW.trod_lt m _ _ _ hm
  have lt1 : ∀ x ∈ p1, x.block < W.heap.size := by obtain ⟨m, hm⟩ := h1; exact DataW.trod_lt m _ _ _ hm
  have lt2 : ∀ x ∈ p2, x.block < W.heap.size := by obtain ⟨m, hm⟩ := h2; exact DataW.trod_lt m _ _ _ hm
  obtain ⟨x0, a0', cf0, rd0, rp0⟩ := Go.Q.arg_agg (n := 8) (t := 25) (ks := [Go.Q.Kd.list [Go.Q.Kd.int .i64, Go.Q.Kd.int .i64, Go.Q.Kd.int .i64]]) (by kernel_rfl) (by kernel_rfl) (hval 0 25 v0 rfl rfl) h0
  obtain ⟨hs0, rfl, hl0⟩ := Go.Q.conf_area cf0
  obtain ⟨x1, a1', cf1, rd1, rp1⟩ := Go.Q.arg_agg (n := 8) (t := 35) (ks := [Go.Q.Kd.int .u8, Go.Q.Kd.int .i64, Go.Q.Kd.int .i64, Go.Q.Kd.int .i64, Go.Q.Kd.int .i64, Go.Q.Kd.int .i64, Go.Q.Kd.int .i64, Go.Q.Kd.int .i64, Go.Q.Kd.int .i64, Go.Q.Kd.int .i64]) (by kernel_rfl) (by kernel_rfl) (hval 1 35 v1 rfl rfl) h1
  obtain ⟨l1, rfl⟩ := Go.Q.conf_sight cf1
  obtain ⟨x2, a2', cf2, rd2, rp2⟩ := Go.Q.arg_one (n := 8) (t := 56) (k := Go.Q.Kd.list [Go.Q.Kd.int .u8, Go.Q.Kd.int .i64, Go.Q.Kd.int .i64, Go.Q.Kd.int .i64, Go.Q.Kd.int .i64, Go.Q.Kd.int .i64, Go.Q.Kd.int .i64, Go.Q.Kd.int .i64, Go.Q.Kd.int .i64, Go.Q.Kd.int .i64]) (by kernel_rfl) (by kernel_rfl) (hval 2 56 v2 rfl rfl) h2
  obtain ⟨ls2, rfl, hl2⟩ := Go.Q.conf_sights cf2
  clear hA0 hval0
  refine (Go.Q.law_ok Go.Q.tabs (f := 5) (F := Go.Q.F5) rfl rfl (Go.Q.e5 hs0 l1 ls2) (.cons rd0 (.cons rd1 (.cons rd2 .nil))) (Go.Q.Reps.cons rp0 (Go.Q.Reps.cons rp1 (Go.Q.Reps.cons rp2 Go.Q.Reps.nil)))).mono fun e W' ⟨he, bel⟩ => ?_
  subst he
  exact ⟨_, rfl, _, _, _, [], _, [], hW', trodAll_mk1 (shut_bool Try.underlying4 _), (trodAll_cons_mk (Below.trod laidOut (by kernel_rfl) (of_decide_eq_true (by kernel_rfl)) h0 bel lt0) (trodAll_cons_mk (Below.trod laidOut (by kernel_rfl) (of_decide_eq_true (by kernel_rfl)) h1 bel lt1) (trodAll_cons_mk (Below.trod laidOut (by kernel_rfl) (of_decide_eq_true (by kernel_rfl)) h2 bel lt2) trodAll_mk0))), rfl, bel.frame _, fun h => by cases h⟩

theorem guideLooks_holds : Rows.GuideLooksSaid :=
  OpenClaim.holds_of_wide 5 Try.f5 rfl rfl rfl rfl rfl rfl rfl ⟨rfl, rfl, rfl, rfl, rfl⟩ rfl rfl rfl rfl rfl (by kernel_rfl) Try.func5 (by kernel_rfl)
    (of_decide_eq_true (by kernel_rfl)) (by unfold Func.isWrapper; first | (rw [if_pos (by decide +kernel)]; kernel_rfl) | (rw [if_neg (by decide +kernel)]; exact ⟨rfl, rfl⟩))
    (fun os started H enc _ => guidelooksLifted os started H enc)

#print axioms guideLooks_holds
end Go.Proofs.Ytpammdlgoeoeaaa
