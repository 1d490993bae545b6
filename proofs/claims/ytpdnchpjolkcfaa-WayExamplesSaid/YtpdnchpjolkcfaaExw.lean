/- A law without arguments, by its call. -/
import Derived.Test.YtpdnchpjolkcfaaJG
import Derived.Below
set_option linter.unusedVariables false
namespace Go.V
open Go.RowKit
theorem detach_bool {H : Heap} {v : AV} {b : Bool} {ids : List Nat} (h : detach H v = some (.bool b, ids)) : v = .bool b := by
  have hC : ∀ {v : AV}, detachC H v = some (.bool b, ids) → v = .bool b := fun {v} h => by
    unfold detachC at h
    split at h
    · split at h
      · split at h
        · cases h
        · cases h
      · cases h
    · rename_i id i j sz len
      cases e0 : subOf H id i j sz len with
      | none => simp [e0] at h
      | some ys =>
        simp only [e0, Option.bind_some] at h
        split at h <;> cases h
    · split at h
      · cases h; rfl
      · cases h
  have h1 : ∀ {v : AV}, detach1 H v = some (.bool b, ids) → v = .bool b := fun {v} h => by
    unfold detach1 at h
    split at h
    · rename_i cs
      cases e : detachL H cs with
      | none => simp [e] at h
      | some p => simp [e] at h
    · exact hC h
  unfold detach at h
  split at h
  · rename_i cs
    cases e : detachM H cs with
    | none => simp [e] at h
    | some p => simp [e] at h
  · exact h1 h
/-- A law without arguments. -/
theorem law_of {P : Program} {f : FuncId} {b : Bool} (h : PuOK P f [] (.bool b)) (W : World) : Calls P f #[] W fun e w' => e = .returned (.bool b) ∧ Below W.heap.size W w' := by
  refine (h (fun _ => False) W #[] ⟨fun id b hb => by simp [hget, noH] at hb, fun id id' b b' l l' hb => by simp [hget, noH] at hb, fun b hb => hb.elim⟩ reps_nil).mono ?_
  rintro e w' ⟨vv, rfl, v, H', ids, S', φ', adv, sim, rep, e1, -⟩
  have := detach_bool e1
  subst this
  rw [rep.inv_bool]
  exact ⟨rfl, adv.below (by rintro b ⟨id, x, loc, q1, q2, q3⟩; cases q2)⟩

end Go.V
