/- LoadTrue: for every pack and choices, what is told to be left and lost holds what is left and lost in truth, both within its mass, and a slab said to break did and one said not to did not. No further conditions. -/
import Derived.Test.YtiailejekbnkgaaGreatLz3
import Derived.Test.YtiailejekbnkgaaGreatLzs
import Derived.Test.YtiailejekbnkgaaGreatLzt
import Derived.Test.YtiailejekbnkgaaGreatProg
import Derived.Test.YtiailejekbnkgaaGreatRows
import Derived.WalkKit
import Derived.ProofKit
import Derived.OpenShut
import Derived.ShutString
import Derived.ChangeOld
import Derived.Below
namespace Go.Proofs.YtiailejekbnkgaaGreat
open Go.ChangeShapes Go.WideShapes Go.ChangeAt Go.RowKit
open Go.ChangeMaps (open_string shut_string)
set_option linter.unusedVariables false

theorem own : ownKnob Tryz.prog.godebug = none := by kernel_rfl
theorem laidOut : laidOutB Tryz.prog = true := by kernel_rfl

set_option maxRecDepth 100000 in
theorem loadtrueLifted (os : Os) (started : os.Started) (H : Type) (enc : TypeId × Value → H) :
    ReturnsInHanded {} Tryz.checked os 3 .any (Rows.loadTrueSpec.pre6 enc Tryz.prog Tryz.f3 Rows.loadTrueRow.domain false) (Rows.loadTrueSpec.post enc Tryz.prog Tryz.f3 false true false false) := by
  refine returnsInHanded_of_change (C := Tryz.checked) own started (by kernel_rfl) Tryz.func3
    (ChangeSpec.witness6 (enc := enc) (C := Tryz.checked) false ⟨#[], #[.agg #[.int .u8 0, .int .i64 0, .int .i64 0, .int .i64 0, .int .i64 0, .int .i64 0, .int .i64 0, .int .i64 0, .int .i64 0, .int .i64 0, .int .i64 0], .slice none 0 0], []⟩ 8 (by kernel_rfl) (by kernel_rfl) (by kernel_rfl) (by kernel_rfl)) ?_
  intro W base args ds gs before hval0 hW hcnd _
  have hval : ∀ (j : Nat) t v, Tryz.f3.params[j]? = some t → args[j]? = some v → Value.okWide Tryz.prog W .any base t v := hval0
  have hW' := hW
  obtain ⟨p, q, hA0, hV, rfl, hfz, hnd⟩ := hW
  have hA : DataW.TrodAll enc Tryz.prog W 0 (fun _ => true) true Tryz.f3.params.toList args.toList ds p := hA0
  rw [Tryz.params3] at hA hval
  obtain ⟨v0, vs0, d0, ds0, p0, q0, hargs, rfl, rfl, h0, r0⟩ := trodAll_cons hA
  obtain ⟨v1, vs1, d1, ds1, p1, q1, rfl, rfl, rfl, h1, r1⟩ := trodAll_cons r0
  obtain ⟨rfl, rfl, rfl⟩ := trodAll_nil r1
  obtain rfl : args = #[v0, v1] := by cases args; simp_all
  obtain ⟨rfl, rfl⟩ := trodVars_none hV
  have lt0 : ∀ x ∈ p0, x.block < W.heap.size := by obtain ⟨m, hm⟩ := h0; exact DataW.trod_lt m _ _ _ hm
  have lt1 : ∀ x ∈ p1, x.block < W.heap.size := by obtain ⟨m, hm⟩ := h1; exact DataW.trod_lt m _ _ _ hm
  obtain ⟨x0, a0', cf0, rd0, rp0⟩ := Go.Q.arg_agg (n := 8) (t := 25) (ks := [Go.Q.Kd.int .u8, Go.Q.Kd.int .i64, Go.Q.Kd.int .i64, Go.Q.Kd.int .i64, Go.Q.Kd.int .i64, Go.Q.Kd.int .i64, Go.Q.Kd.int .i64, Go.Q.Kd.int .i64, Go.Q.Kd.int .i64, Go.Q.Kd.int .i64, Go.Q.Kd.int .i64]) (by kernel_rfl) (by kernel_rfl) (hval 0 25 v0 rfl rfl) h0
  obtain ⟨p0', rfl⟩ := Go.Q.conf_pk cf0
  obtain ⟨x1, a1', cf1, rd1, rp1⟩ := Go.Q.arg_one (n := 8) (t := 26) (k := Go.Q.Kd.list [Go.Q.Kd.int .u32]) (by kernel_rfl) (by kernel_rfl) (hval 1 26 v1 rfl rfl) h1
  obtain ⟨ws1, rfl, hl1⟩ := Go.Q.conf_words cf1
  clear hA0 hval0
  refine (Go.Q.law_ok Go.Q.tabs (f := 3) (F := Go.Q.F3) rfl rfl (Go.Q.e3 p0' ws1) (.cons rd0 (.cons rd1 .nil)) (Go.Q.Reps.cons rp0 (Go.Q.Reps.cons rp1 Go.Q.Reps.nil))).mono fun e W' ⟨he, bel⟩ => ?_
  subst he
  exact ⟨_, rfl, _, _, _, [], _, [], hW', trodAll_mk1 (shut_bool Tryz.underlying4 _), (trodAll_cons_mk (Below.trod laidOut (by kernel_rfl) (of_decide_eq_true (by kernel_rfl)) h0 bel lt0) (trodAll_cons_mk (Below.trod laidOut (by kernel_rfl) (of_decide_eq_true (by kernel_rfl)) h1 bel lt1) trodAll_mk0)), rfl, bel.frame _, fun h => by cases h⟩

theorem loadTrue_holds : Rows.LoadTrueSaid :=
  OpenClaim.holds_of_wide 3 Tryz.f3 rfl rfl rfl rfl rfl rfl rfl ⟨rfl, rfl, rfl, rfl, rfl⟩ rfl rfl rfl rfl rfl (by kernel_rfl) Tryz.func3 (by kernel_rfl)
    (of_decide_eq_true (by kernel_rfl)) (by unfold Func.isWrapper; first | (rw [if_pos (by decide +kernel)]; kernel_rfl) | (rw [if_neg (by decide +kernel)]; exact ⟨rfl, rfl⟩))
    (fun os started H enc _ => loadtrueLifted os started H enc)

#print axioms loadTrue_holds
end Go.Proofs.YtiailejekbnkgaaGreat
