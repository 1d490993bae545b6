/- Contract: whether a land is great. -/
import Derived.Test.YtkodjegpdkfjkaaWaC
set_option linter.unusedVariables false
set_option linter.unusedSimpArgs false
namespace Go.Proofs.Ytkodjegpdkfjkaa
open Go.RowKit
open Go.Proofs

def fewG (x : Lg) : Bool := decide (x.gates.length ≤ 20)
def greatL (n1 n2 : Nat) (ls : List Lg) : Bool := decide (20 < n1) || (decide (40 < n2) || !(ls.all fewG))
theorem great_no {n1 n2 : Nat} {ls : List Lg} (h : greatL n1 n2 ls = false) : n1 ≤ 20 ∧ n2 ≤ 40 ∧ ∀ x ∈ ls, x.gates.length ≤ 20 := by
  simp only [greatL, Bool.or_eq_false_iff, decide_eq_false_iff_not, Bool.not_eq_false', List.all_eq_true, fewG, decide_eq_true_eq] at h
  exact ⟨by omega, by omega, h.2.2⟩
set_option maxRecDepth 100000 in
set_option maxHeartbeats 8000000 in
theorem Great_x (a1 a2 : Option Addr) (cap1 cap2 n1 n2 : Nat) (ws : List Wl) (ls : List Lg) (x : Bool) (w : World) (hn2 : n2 = ls.length) (h : LandIn w.heap.size w a1 a2 ws ls) (hx : greatL n1 n2 ls = x) :
    Calls Try.prog 29 #[.agg #[.slice a1 n1 cap1, .slice a2 n2 cap2]] w fun e w' => e = .returned (.bool x) ∧ Below w.heap.size w w' := by
  have HN2 := Lib.hid hn2
  have HL := Lib.hid h
  by_cases h20 : 20 < n1
  · have hx' : true = x := by rw [← hx]; simp [greatL, h20]
    subst hx'
    have h20i : (20 : Int) < (n1 : Int) := by omega
    clear hx h hn2 h20
    go_enter Try.func29, Try.ntmps29
    go_wp2
    go_returns
    exact ⟨rfl, by go_grown⟩
  · by_cases h40 : 40 < n2
    · have hx' : true = x := by rw [← hx]; simp [greatL, h40]
      subst hx'
      have h20i : decide ((20 : Int) < (n1 : Int)) = false := decide_eq_false (by omega)
      have h40i : (40 : Int) < (n2 : Int) := by omega
      clear hx h hn2 h20 h40
      go_enter Try.func29, Try.ntmps29
      go_wp2
      go_returns
      exact ⟨rfl, by go_grown⟩
    · have hx4 := Lib.hid (show (!(ls.all fewG)) = x by rw [← hx]; simp [greatL, h20, h40])
      have h20i : ¬ ((20 : Int) < (n1 : Int)) := by omega
      have h40i : ¬ ((40 : Int) < (n2 : Int)) := by omega
      have hn40 : n2 ≤ 40 := by omega
      clear hx h hn2 h20 h40
      go_enter Try.func29, Try.ntmps29
      go_wp2_with fail
      go_loopw [3] (fun i wr => ∃ k : Nat, k ≤ n2 ∧ i = .int .i64 (k : Int) ∧ Hid (AllTo fewG ls k) ∧ Hid (rowOf wr w.heap.size = some #[.slice a1 n1 cap1, .slice a2 n2 cap2]) ∧ Below w.heap.size w wr) (fun i _ => n2 - (intOf i).toNat)
      case atStart => exact ⟨0, Nat.zero_le _, rfl, AllTo.zero _ _, row_here0 _ _ _, by go_grown⟩
      case round =>
        obtain ⟨k, hk, rfl, hA, hr, hB0⟩ := hrel
        have hz := hB0.size
        by_cases hlt : k < n2
        · have hkg : k < ls.length := by have := HN2.out; omega
          obtain ⟨g, off, rfl, hg, hgb⟩ := HL.out.legs.get hkg
          obtain ⟨-, -, -, -, ga, gcap, c4, -⟩ := hg.below hB0 (Nat.le_refl _) _ _ _ hgb
          obtain ⟨v, hv⟩ : ∃ v, ls[k] = v := ⟨_, rfl⟩
          rw [hv] at c4
          have HV := Lib.hid hv
          have hlt' : (k : Int) < (n2 : Int) := by omega
          obtain ⟨rs, cs, gs, zs⟩ := row_facts hr.out
          obtain ⟨gl, hgl⟩ : ∃ y, v.gates.length = y := ⟨_, rfl⟩
          rw [hgl] at c4
          clear hg hv
          by_cases h2 : 20 < gl
          · have hx3 : true = x := by rw [← hx4.out, all_no hkg (by rw [HV.out]; simp [fewG, hgl, h2])]; rfl
            subst hx3
            have h2i : (20 : Int) < (gl : Int) := by omega
            clear hx4 h2 hgl
            go_wp2
            go_returns
            exact ⟨rfl, hB0⟩
          · have HG2 := Lib.hid (hA.out.step hkg (by rw [HV.out]; simp only [fewG, hgl, decide_eq_true_eq]; omega))
            have h2i : ¬ ((20 : Int) < (gl : Int)) := by omega
            clear h2 hgl
            go_wp2
            go_roundw
            case rel =>
              first
              | exact ⟨k + 1, hlt, by go_num, HG2, hr, hB0⟩
              | ((repeat apply Exists.intro); exact ⟨⟨k + 1, hlt, by go_num, HG2, hr, hB0⟩, rfl⟩)
            case measure => simp [intOf]; omega
        · obtain rfl : n2 = k := by omega
          have hx3 : false = x := by rw [← hx4.out, hA.out.all (by rw [← HN2.out]; exact Nat.le_refl _)]; rfl
          subst hx3
          clear hx4 hA
          obtain ⟨rs, cs, gs, zs⟩ := row_facts hr.out
          go_wp2
          go_returns
          exact ⟨rfl, hB0⟩
end Go.Proofs.Ytkodjegpdkfjkaa
