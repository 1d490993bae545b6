/- TopStage: legs and days. -/
import Derived.Test.YtecgohommehdpaaRb4
set_option linter.unusedVariables false
set_option linter.unusedSimpArgs false
set_option maxRecDepth 100000
namespace Go.Q
open Go.V
/-- An animal that drank all it can. -/
def rst (b : Br) (c : Cm) : Cm := ⟨b.c0, b.c0, c.x2, c.x3, c.x4, c.x5, c.x6⟩
theorem rst_ok {b : Br} {c : Cm} (hb : brOK b = true) (hc : cmOK b c = true) : cmOK b (rst b c) = true := by
  have hB := br_ok hb
  have h0 := hB.f0
  have h : (inS b.c0 b.c0 0 b.c0 && (inS c.x2 c.x3 0 b.c1 && inS c.x4 c.x5 0 1000)) = true := by
    simp only [cmOK, Bool.and_eq_true] at hc ⊢
    exact ⟨by simp [inS]; omega, hc.2⟩
  exact h
def lenS (ls : List Lg) (pl : Int) (s : Sp) : Nat := (dvd' ((ls[s.leg.toNat]?).getD ⟨0, 0, 0, 0, []⟩).hi pl).toNat
def lenA (ls : List Lg) (pl : Int) (ss : List Sp) (i : Nat) : Nat := (ss[i]?).elim 0 (lenS ls pl)
/-- How it leaves the wells. -/
def csI (b : Br) (m : Mr) (c : Cm) (ls : List Lg) (pl : Int) (ss : List Sp) : Nat → Cm
  | 0 => c
  | i + 1 => rst b (cI b m (csI b m c ls pl ss i) (lenA ls pl ss i))
theorem csI_ok {b : Br} {m : Mr} {c : Cm} {ls : List Lg} {pl : Int} {ss : List Sp} (hb : brOK b = true) (hm : mrOK m = true) (hc : cmOK b c = true) : ∀ i, cmOK b (csI b m c ls pl ss i) = true
  | 0 => hc
  | i + 1 => rst_ok hb (cI_ok hb hm (csI_ok hb hm hc i) _)
def goS (b : Br) (m : Mr) (c : Cm) (ls : List Lg) (pl : Int) (ss : List Sp) (i : Nat) : Bool := decide ((lenA ls pl ss i : Int) ≤ lasL b m (csI b m c ls pl ss i))
theorem stop_len {ws : List Wl} {ls : List Lg} {pl ph : Int} {s : Sp} (hl : ls.length ≤ 9223372036854775807) (hL : landOK ws ls = true) (hp : inS pl ph 1 100000 = true) (h : stopOK ls pl ph s) :
    ∃ lo : Int, daysR ws ls s.leg pl ph = .node [.node [I lo, I (lenS ls pl s)], I 0] ∧ 1 ≤ lo ∧ lo ≤ lenS ls pl s ∧ s.al = s.ll + lo ∧ s.ah = s.lh + lenS ls pl s ∧ 0 ≤ s.ll ∧ s.ll ≤ 100001 ∧ 0 ≤ s.lh ∧ s.lh ≤ 100001 ∧ s.al ≤ 100000 ∧ s.ah ≤ 100000 := by
  obtain ⟨j, hj, e, h1, h2, h3, h4, h5, h6, h7, h8⟩ := h
  obtain ⟨p1, p2, p3⟩ := pace_pos hp
  obtain ⟨-, l2, l3, l4, -⟩ := lg_ok (land_leg hL hj)
  have d1 := dvd_bd (n := ls[j].lo) (k := ph) (by omega) (by omega)
  have d2 := dvd_bd (n := ls[j].hi) (k := pl) (by omega) (by omega)
  have d3 := dvd_le l2 l3 l4 p1 p2 p3
  have hlen : (lenS ls pl s : Int) = dvd' ls[j].hi pl := by
    simp only [lenS, e, Int.toNat_natCast, List.getElem?_eq_getElem hj, Option.getD_some]
    omega
  refine ⟨dvd' ls[j].lo ph, ?_, by omega⟩
  rw [hlen]
  unfold daysR
  rw [if_pos (askE_zero.2 ⟨hL, hp⟩), e, if_pos (inR_iff.2 ⟨by omega, by omega⟩), Int.toNat_natCast, List.getElem?_eq_getElem hj]
theorem cap65 {n : Nat} (h : n ≤ 1000) : (n + 1) * 65 ≤ 1099511627776 := Nat.le_trans (Nat.mul_le_mul_right 65 (show n + 1 ≤ 1001 by omega)) (by decide)
end Go.Q
