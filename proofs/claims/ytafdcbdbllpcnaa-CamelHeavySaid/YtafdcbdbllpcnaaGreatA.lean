/- Contract of package camel's greatest at whole numbers, over a function that leaves what was there as it was. -/
import Derived.Test.YtafdcbdbllpcnaaHeavS
import Derived.Test.YtafdcbdbllpcnaaLeafB
namespace Go.Proofs.Ytafdcbdbllpcnaa
open Go.RowKit
open Go.Proofs

set_option maxHeartbeats 2000000 in
theorem greatest_any (p : Int → Bool) (g1 g2 : Nat) (w : World) (R : Int) (hR : binGo p 1000000 0 1000000 = R)
    (hf : ∀ (x : Int) (W : World), 0 ≤ x → x ≤ 1000000 → Below w.heap.size w W → Calls Try.prog 60 #[.int .i64 x, .pointer (some ⟨g1, 0, none⟩), .pointer (some ⟨g2, 0, none⟩)] W fun e W' => e = .returned (.bool (p x)) ∧ Below W.heap.size W W') :
    Calls Try.prog 59 #[.int .i64 0, .int .i64 1000000, .func (.func 60) #[] #[.pointer (some ⟨g1, 0, none⟩), .pointer (some ⟨g2, 0, none⟩)]] w fun e w' => e = .returned (.tuple #[.int .i64 (if p 0 = true then R else 0), .bool (p 0)]) ∧ Below w.heap.size w w' := by
  have HR := Lib.hid hR
  clear hR
  obtain ⟨q, hq⟩ : ∃ q, p 0 = q := ⟨_, rfl⟩
  rw [hq]
  go_enter Try.func59, Try.ntmps59
  go_wp2_with fail
  refine (hf 0 w (by omega) (by omega) (Below.refl _ _)).mono ?_
  rintro e W1 ⟨rfl, hW1⟩
  rw [hq]
  cases q with
  | false =>
    go_wp2
    go_returns
    exact ⟨rfl, hW1⟩
  | true =>
    go_wp2
    go_loopw [0, 1] (fun l h wr => ∃ (n : Nat) (lo hi : Int), l = .int .i64 lo ∧ h = .int .i64 hi ∧ 0 ≤ lo ∧ lo ≤ hi ∧ hi ≤ 1000000 ∧ hi - lo ≤ n ∧ Hid (binGo p n lo hi = R) ∧ Below w.heap.size w wr) (fun l h _ => (intOf h - intOf l).toNat)
    case atStart => exact ⟨1000000, 0, 1000000, rfl, rfl, by omega, by omega, by omega, by omega, HR, hW1⟩
    case round =>
      obtain ⟨n, lo, hi, rfl, rfl, h1, h2, h3, h4, hr, hB⟩ := hrel
      by_cases hlt : lo < hi
      · go_wp2_with fail
        obtain ⟨m, hm⟩ : ∃ m, hi - (hi - lo) / 2 = m := ⟨_, rfl⟩
        have hm' : m = (lo + hi + 1) / 2 := by omega
        rw [hm]
        have m1 : lo < m := by omega
        have m2 : m ≤ hi := by omega
        have HM := Lib.hid hm'
        clear hm hm'
        cases n with
        | zero => omega
        | succ n =>
          refine (hf m wr (by omega) (by omega) hB).mono ?_
          rintro e W2 ⟨rfl, hW2⟩
          have hB2 := hB.trans (hW2.mono hB.size)
          cases hpm : p m with
          | true =>
            have hr' := Lib.hid ((binGo_yes hlt HM.out hpm).symm.trans hr.out)
            go_wp2
            case roundEnd => exact ⟨⟨n, m, hi, rfl, rfl, by omega, by omega, by omega, by omega, hr', hB2⟩, by simp [intOf]; omega⟩
          | false =>
            have hr' := Lib.hid ((binGo_no hlt HM.out hpm).symm.trans hr.out)
            go_wp2
            case roundEnd => exact ⟨⟨n, lo, m - 1, rfl, rfl, by omega, by omega, by omega, by omega, hr', hB2⟩, by simp [intOf]; omega⟩
      · go_wp2
        go_returns
        have h := hr.out
        rw [binGo_end (by omega)] at h
        exact ⟨by rw [h]; rfl, hB⟩
end Go.Proofs.Ytafdcbdbllpcnaa
