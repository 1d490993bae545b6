/- The nearest well: the first entry of a map by its day, of several the least well, whatever the order in which the map is gone through. -/
import Derived.Test.YtimbhebamjnfmaaJH
import Derived.Test.YtimbhebamjnfmaaChecked
import Derived.WalkKit
import Derived.Maps.RangeWalk
import Derived.Maps.OwnOps
import Derived.Maps.Keyed
import Derived.Handy
set_option linter.unusedVariables false
set_option linter.unusedSimpArgs false
namespace Go.Proofs.Ytimbhebamjnfmaa
open Go.RowKit Go.Maps Go.V
theorem key3 : Keyed Try.prog 3 := int_keyed Try.underlying3
theorem zero3 (w : World) : (zeroValue 3).run Try.prog w = .ok (.int .i64 0) w := by kernel_rfl
/-- What is known of the best one so far. -/
def NearR {H : Type} (D : DataW H) (left : Lit → Bool) (b : Int) (f : Bool) : Prop :=
  (f = false ∧ b = 0 ∧ ∀ x c, (∀ zd, D.atKey (.int .i64 x) zd = .lit (.int .i64 c)) → left (.int .i64 x) = true) ∨
  (f = true ∧ ∃ cb, (∀ zd, D.atKey (.int .i64 b) zd = .lit (.int .i64 cb)) ∧ ∀ x c, left (.int .i64 x) = false → (∀ zd, D.atKey (.int .i64 x) zd = .lit (.int .i64 c)) → cb < c ∨ cb = c ∧ b ≤ x)
theorem same_int {x y : Int} (h : (Lit.int .i64 y).sameKey (.int .i64 x) = true) : y = x := by simpa [Lit.sameKey] using h
theorem near_take {H : Type} {D : DataW H} {left : Lit → Bool} {x c bb cb : Int} {ff : Bool} (hN : NearR D left bb ff) (hat : ∀ zd, D.atKey (.int .i64 x) zd = .lit (.int .i64 c)) (hcb : D.atKey (.int .i64 bb) (.lit (.int .i64 0)) = .lit (.int .i64 cb))
    (h : ff = true → c < cb ∨ c = cb ∧ x < bb) : NearR D (fun z => left z && !z.sameKey (.int .i64 x)) x true := by
  refine .inr ⟨rfl, c, hat, fun y d hl hy => ?_⟩
  simp only [Bool.and_eq_false_iff, Bool.not_eq_false'] at hl
  rcases hl with hl | hl
  · rcases hN with ⟨-, -, h1⟩ | ⟨h0, cb', h1, h2⟩
    · rw [h1 y d hy] at hl; cases hl
    · have e1 := h1 (.lit (.int .i64 0))
      rw [hcb] at e1
      simp at e1
      have := h2 y d hl hy
      have := h h0
      omega
  · have := same_int hl
    subst this
    have e1 := hat (.lit (.int .i64 0))
    rw [hy] at e1
    simp at e1
    omega
theorem near_keep {H : Type} {D : DataW H} {left : Lit → Bool} {x c bb cb : Int} {ff : Bool} (hN : NearR D left bb ff) (hff : ff = true) (hat : ∀ zd, D.atKey (.int .i64 x) zd = .lit (.int .i64 c)) (hcb : D.atKey (.int .i64 bb) (.lit (.int .i64 0)) = .lit (.int .i64 cb))
    (h : cb < c ∨ cb = c ∧ bb ≤ x) : NearR D (fun z => left z && !z.sameKey (.int .i64 x)) bb true := by
  rcases hN with ⟨h0, -, -⟩ | ⟨h0, cb', h1, h2⟩
  · rw [hff] at h0; cases h0
  · have e1 := h1 (.lit (.int .i64 0))
    rw [hcb] at e1
    simp at e1
    subst e1
    refine .inr ⟨rfl, cb, h1, fun y d hl hy => ?_⟩
    simp only [Bool.and_eq_false_iff, Bool.not_eq_false'] at hl
    rcases hl with hl | hl
    · exact h2 y d hl hy
    · have := same_int hl
      subst this
      have e1 := hat (.lit (.int .i64 0))
      rw [hy] at e1
      simp at e1
      omega
set_option maxRecDepth 100000 in
theorem near_any {H : Type} (b n : Nat) (D : DataW H) (w : World) (hown : w.ownsMap Try.prog 3 (plainElem Try.prog 3) b n D) :
    Calls Try.prog 178 #[.map (some b)] w fun e w' => ∃ r f left, e = .returned (.int .i64 r) ∧ NearR D left r f ∧ (∀ kl, left kl = false) ∧ w.grownBy w' none := by
  go_enter Try.func178, Try.ntmps178
  go_wp2_with (first
    | (at_range; refine wpList_range_own _ rfl _ 250 rfl 3 3 key3 Try.underlying250 _ b n _ rfl hown ?_; intro w0 hrg0 hg0 hs0)
    | go_in)
  go_frame
  go_loopw [3, 4] (fun vb vf wr => ∃ (bb : Int) (ff : Bool) (left : Lit → Bool) (cnt : Nat), vb = .int .i64 bb ∧ vf = .bool ff ∧ (Lit.int .i64 bb).wf = true ∧ wr.ranges Try.prog 3 (plainElem Try.prog 3) b w.heap.size n D left cnt ∧ NearR D left bb ff ∧ w.grownBy wr none)
    (fun _ _ wr => wr.rangeLeft b w.heap.size)
  case atStart => exact ⟨0, false, _, _, rfl, rfl, by decide, hrg0, .inl ⟨rfl, rfl, fun x c h => has_true_of_atKey h⟩, hg0⟩
  case round =>
    obtain ⟨bb, ff, left, cnt, rfl, rfl, hwb, hrg, hN, hgw⟩ := hrel
    go_wp2_with (first
      | (at_next; refine wpList_next_ranges_ii _ rfl _ rfl 3 3 .i64 .i64 key3 Try.underlying3 Try.underlying3 b w.heap.size n _ _ _ rfl hrg ?_ ?_)
      | go_in)
    · intro hc0 hl0
      go_wp2
      go_returns
      exact ⟨bb, ff, left, rfl, hN, hl0, hgw⟩
    · intro x c w1 cnt1 hwx hwc hlx hat hrg1 hlt hg1 hs1 hen
      have hgw1 := hgw.andThen hg1 (fun j hj => by cases hj; exact Or.inl (Nat.le_refl _))
      obtain ⟨cb, hlook, hcb, hwcb⟩ := hrg1.owns.lookup_int key3 Try.underlying250 Try.underlying3 (zero3 w1) (keyOf_int_mk Try.underlying3 hwb)
      go_wp2
      all_goals go_roundw
      case measure => rw [hrg1.left_eq, hrg.left_eq]; exact hlt
      case measure => rw [hrg1.left_eq, hrg.left_eq]; exact hlt
      case measure => rw [hrg1.left_eq, hrg.left_eq]; exact hlt
      case measure => rw [hrg1.left_eq, hrg.left_eq]; exact hlt
      case measure => rw [hrg1.left_eq, hrg.left_eq]; exact hlt
      · exact ⟨_, true, _, cnt1, rfl, rfl, hwx, hrg1, near_take hN hat hcb (fun _ => by omega), hgw1⟩
      · exact ⟨_, true, _, cnt1, rfl, rfl, hwb, hrg1, near_keep hN (by assumption) hat hcb (by omega), hgw1⟩
      · exact ⟨_, true, _, cnt1, rfl, rfl, hwb, hrg1, near_keep hN (by assumption) hat hcb (by omega), hgw1⟩
      · exact ⟨_, true, _, cnt1, rfl, rfl, hwx, hrg1, near_take hN hat hcb (fun _ => by omega), hgw1⟩
      · exact ⟨_, true, _, cnt1, rfl, rfl, hwx, hrg1, near_take hN hat hcb (fun h => absurd h (by assumption)), hgw1⟩
end Go.Proofs.Ytimbhebamjnfmaa
