/- Camel: Lasts. -/
import Derived.Test.YtecgohommehdpaaRb0
set_option linter.unusedVariables false
set_option linter.unusedSimpArgs false
set_option maxRecDepth 100000
namespace Go.Q
open Go.V
/-- How an animal is after so many days. -/
def cI (b : Br) (m : Mr) (c : Cm) : Nat → Cm
  | 0 => c
  | i + 1 => eve b m (cI b m c i)
theorem cI_ok {b : Br} {m : Mr} {c : Cm} (hb : brOK b = true) (hm : mrOK m = true) (hc : cmOK b c = true) : ∀ i, cmOK b (cI b m c i) = true
  | 0 => hc
  | i + 1 => eve_ok hb hm (cI_ok hb hm hc i)
/-- The first day on which it may die, of those before one. -/
def loS (b : Br) (m : Mr) (c : Cm) : Nat → Int
  | 0 => 60
  | i + 1 => if weak b m (cI b m c i) then min (loS b m c i) i else loS b m c i
def liv (b : Br) (m : Mr) (c : Cm) (i : Nat) : Bool := !dead b m (cI b m c i)
def lasL (b : Br) (m : Mr) (c : Cm) : Int := match firstN (liv b m c) 60 0 with
  | some j => min (loS b m c j) j
  | none => loS b m c 60
def lasH (b : Br) (m : Mr) (c : Cm) : Int := match firstN (liv b m c) 60 0 with
  | some j => j
  | none => 60
theorem lo_le {b : Br} {m : Mr} {c : Cm} : ∀ {n i : Nat}, i < n → weak b m (cI b m c i) = true → loS b m c n ≤ i
  | n + 1, i, h, hw => by
    unfold loS
    by_cases e : i = n
    · subst e; rw [if_pos hw]; omega
    · have := lo_le (b := b) (m := m) (c := c) (n := n) (i := i) (by omega) hw
      split <;> omega
theorem lo_60 {b : Br} {m : Mr} {c : Cm} : ∀ n, loS b m c n ≤ 60
  | 0 => by unfold loS; omega
  | n + 1 => by
    have := lo_60 (b := b) (m := m) (c := c) n
    unfold loS
    split <;> omega
/-- On the days before it lives for sure. -/
theorem las_live {b : Br} {m : Mr} {c : Cm} {i : Nat} (h : (i : Int) < lasL b m c) : i < 60 ∧ dead b m (cI b m c i) = false ∧ weak b m (cI b m c i) = false := by
  unfold lasL at h
  cases e : firstN (liv b m c) 60 0 with
  | none =>
    rw [e] at h
    simp only at h
    have h60 := lo_60 (b := b) (m := m) (c := c) 60
    have hi : i < 60 := by omega
    refine ⟨hi, ?_, ?_⟩
    · have := firstN_none.1 e i (by omega) (by omega)
      simpa [liv] using this
    · cases hw : weak b m (cI b m c i) with
      | false => rfl
      | true => have := lo_le (n := 60) hi hw; omega
  | some j =>
    rw [e] at h
    simp only at h
    obtain ⟨h1, h2, h3, h4⟩ := firstN_some e
    have hi : i < j := by omega
    refine ⟨by omega, ?_, ?_⟩
    · have := h4 i (by omega) hi
      simpa [liv] using this
    · cases hw : weak b m (cI b m c i) with
      | false => rfl
      | true => have := lo_le (n := j) hi hw; omega
end Go.Q
