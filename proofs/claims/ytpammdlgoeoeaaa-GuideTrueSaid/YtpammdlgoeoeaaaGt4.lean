/- Guide: the statement that the caravan lies in the area. -/
import Derived.Test.YtpammdlgoeoeaaaGt3
set_option linter.unusedVariables false
set_option linter.unusedSimpArgs false
namespace Go.Q
open Go.V
theorem iter_upto {f : List D → Option (Option Nat × List D)} {P : Nat → List D → Prop} {n : Nat} {R : Nat × List D → Prop}
    (hstep : ∀ i ds, i < n → P i ds → (∃ t v, f ds = some (some t, v) ∧ R (t, v)) ∨ ∃ ds', f ds = some (none, ds') ∧ P (i + 1) ds')
    (hend : ∀ ds, P n ds → ∃ t v, f ds = some (some t, v) ∧ R (t, v)) : ∀ (k i : Nat) (ds : List D), i + k = n → P i ds → ∃ r, iterL f ds = some r ∧ R r
  | 0, i, ds, hk, hp => by
    obtain rfl : i = n := by omega
    obtain ⟨t, v, e, h⟩ := hend ds hp
    exact ⟨(t, v), by rw [iterL_eq, e], h⟩
  | k + 1, i, ds, hk, hp => by
    rcases hstep i ds (by omega) hp with ⟨t, v, e, h⟩ | ⟨ds', e, h⟩
    · exact ⟨(t, v), by rw [iterL_eq, e], h⟩
    · obtain ⟨r, hr, hR⟩ := iter_upto hstep hend k (i + 1) ds' (by omega) h
      exact ⟨r, by rw [iterL_eq, e]; exact hr, hR⟩
def P7 (ls : List Lk) (i : Nat) (ds : List D) : Prop := ∃ s : St7, Inv7 (min i ls.length) i s ∧ ds = [I s.x, I s.y, I i, hfs s.hs, lks s.tl]
def R7 (r : Nat × List D) : Prop := r = (0, [.bool true]) ∨ r = (1, [])
theorem loop7 {d1 d2 d8 d9 d10 d11 : D} {hs : List Hf} {x y : Int} {ls : List Lk} {ts : List Tk} {ws : List Wd} {far : Int} {n : Nat} (hn : ls.length ≤ 10) (hf : 0 ≤ far ∧ far ≤ 10000000) (ht : ts.length ≤ 60)
    (hm : n = max ls.length ts.length) (h : Inv7 0 0 ⟨x, y, hs, []⟩) (hx : d1 = I x) (hy : d2 = I y) :
    ∃ r, R7 r ∧ tLOOP.denV (evL FN) [.node [hfs hs], d1, d2, lks ls, tks ts, wds ws, I far, .bool true, d8, d9, d10, d11, I n] = denVK (evL FN) ([.node [hfs hs], d1, d2, lks ls, tks ts, wds ws, I far, .bool true, d8, d9, d10, d11, I n] ++ r.2) [.leaf 2, .leaf 3] r.1 := by
  have key := iter_upto (P := P7 ls) (n := n) (R := R7) (f := fun vals => outOf outsL (tBODY.denV (evL FN) ([.node [hfs hs], d1, d2, lks ls, tks ts, wds ws, I far, .bool true, d8, d9, d10, d11, I n] ++ vals))) ?_ ?_ n 0 [I x, I y, I 0, hfs hs, lks []] (by omega) ⟨_, h.weak (by omega) (by omega), rfl⟩
  · obtain ⟨r, hr, hR⟩ := key
    refine ⟨r, hR, ?_⟩
    unfold tLOOP
    rw [T.denV]
    have hi : denL [.node [hfs hs], d1, d2, lks ls, tks ts, wds ws, I far, .bool true, d8, d9, d10, d11, I n] [.v 1, .v 2, .c (.int .i64 (0)), .cell (.v 0) 0, .c (.list [])] = [I x, I y, I 0, hfs hs, lks []] := by
      rw [hx, hy]
      simp [denL, E.den, D.cells, lks]
    rw [hi, hr]
  · rintro i ds hi ⟨s, hs', rfl⟩
    have hi' : (i : Int) < n := by omega
    rcases round7 (d0 := .node [hfs hs]) (d1 := d1) (d2 := d2) (d8 := d8) (d9 := d9) (d10 := d10) (d11 := d11) (d12 := I n) (d18 := .bool true) (ls := ls) (ts := ts) (ws := ws) (far := far) (i := i) (s := s) (by omega) hs' hn hf ht with e | ⟨s', h', e⟩
    · left
      refine ⟨0, [.bool true], ?_, .inl rfl⟩
      unfold tBODY
      simp only [I] at e
      simp [T.denV, denVK, denL, E.den, D.cells, D.den1, binD, hi', e]
      simp [outsL, outOf, denL, E.den]
    · right
      refine ⟨_, ?_, s', h', rfl⟩
      unfold tBODY
      simp only [I] at e
      simp [T.denV, denVK, denL, E.den, D.cells, D.den1, binD, hi', e]
      simp [outsL, outOf, denL, E.den, wrapN (show i < 9223372036854775807 by omega)]
  · rintro ds ⟨s, hs', rfl⟩
    refine ⟨1, [], ?_, .inr rfl⟩
    unfold tBODY
    simp [T.denV, denVK, denL, E.den, D.cells, D.den1, binD, outsL, outOf]
set_option maxHeartbeats 3200000 in
theorem e7 (hs : List Hf) (x y : Int) (ls : List Lk) (ts : List Tk) (ws : List Wd) (far : Int) (hx : -9223372036854775808 ≤ x ∧ x ≤ 9223372036854775807) (hy : -9223372036854775808 ≤ y ∧ y ≤ 9223372036854775807) : evL FN 7 [.node [hfs hs], I x, I y, lks ls, tks ts, wds ws, I far] = some (.bool true) := by
  refine evL_of (F := F7) rfl ?_
  rw [F7_eq2]
  have h34 := e34u hs
  obtain ⟨b, h40, hb⟩ := e40 x y hx hy
  simp only [hfs, I] at h34 h40
  cases k1 : okA hs <;> rw [k1] at h34
  · simp [Fn.denV, fits, T.denV, denVK, denL, E.den, D.cells, hfs, lks, tks, wds, D.den1, binD, unD, outOf, e14, h34]
  cases b
  · simp [Fn.denV, fits, T.denV, denVK, denL, E.den, D.cells, hfs, lks, tks, wds, D.den1, binD, unD, outOf, e14, h34, h40]
  obtain ⟨bx, by'⟩ := hb rfl
  obtain ⟨hin, hlen⟩ := okA_in k1
  have h41 := e41 hs x y hin hlen (by omega) (by omega)
  cases k2 : inP hs x y <;> rw [k2] at h41
  · simp only [hfs, I] at h41
    simp [Fn.denV, fits, T.denV, denVK, denL, E.den, D.cells, hfs, lks, tks, wds, D.den1, binD, unD, outOf, e14, h34, h40, h41]
  by_cases k3 : (10 : Int) < ls.length
  · simp only [hfs, I] at h41
    simp [Fn.denV, fits, T.denV, denVK, denL, E.den, D.cells, hfs, lks, tks, wds, D.den1, binD, unD, outOf, e14, h34, h40, h41, k3]
  by_cases k4 : (60 : Int) < ts.length
  · simp only [hfs, I] at h41
    simp [Fn.denV, fits, T.denV, denVK, denL, E.den, D.cells, hfs, lks, tks, wds, D.den1, binD, unD, outOf, e14, h34, h40, h41, k3, k4]
  by_cases k5 : far < 0
  · simp only [hfs, I] at h41
    simp [Fn.denV, fits, T.denV, denVK, denL, E.den, D.cells, hfs, lks, tks, wds, D.den1, binD, unD, outOf, e14, h34, h40, h41, k3, k4, k5]
  by_cases k6 : 10000000 < far
  · simp only [hfs, I] at h41
    simp [Fn.denV, fits, T.denV, denVK, denL, E.den, D.cells, hfs, lks, tks, wds, D.den1, binD, unD, outOf, e14, h34, h40, h41, k3, k4, k5, k6]
  have hI : Inv7 0 0 ⟨x, y, hs, []⟩ := ⟨k1, inP_iff.1 k2, by simp only; omega, by simp only; omega, (fun l hl => by cases hl), by simp⟩
  obtain ⟨r, hR, hr⟩ := loop7 (d1 := I x) (d2 := I y) (d8 := .bool false) (d9 := .bool false) (d10 := I ls.length) (d11 := I ts.length) (ws := ws) (far := far) (n := max ls.length ts.length) (ls := ls) (ts := ts) (by omega) (by omega) (by omega) rfl hI rfl rfl
  have n2 : ∀ a b : Int, mxD true (.int .i64 a) (.int .i64 b) = some (.int .i64 (max a b)) := maxD
  have hmx : ((max ls.length ts.length : Nat) : Int) = max (ls.length : Int) ts.length := by omega
  rw [hmx] at hr
  simp only [hfs, I, lks, tks, wds, U32] at h41 hr
  rcases hR with rfl | rfl <;>
  · simp [denVK, T.denV] at hr
    simp [Fn.denV, fits, T.denV, denVK, denL, E.den, D.cells, hfs, lks, tks, wds, D.den1, binD, unD, mxLD, n2, outOf, e14, h34, h40, h41, k3, k4, k5, k6, hr]
end Go.Q
