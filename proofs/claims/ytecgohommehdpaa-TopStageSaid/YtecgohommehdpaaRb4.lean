/- Walk: how long one goes. -/
import Derived.Test.YtecgohommehdpaaRb3
set_option linter.unusedVariables false
set_option linter.unusedSimpArgs false
set_option maxRecDepth 100000
namespace Go.Q
open Go.V
/-- A stop is as far from where one left as its leg is long. -/
def stopOK (ls : List Lg) (pl ph : Int) (s : Sp) : Prop := ∃ (j : Nat) (hj : j < ls.length), s.leg = j ∧ 0 ≤ s.ll ∧ s.ll ≤ 100001 ∧ 0 ≤ s.lh ∧ s.lh ≤ 100001 ∧ s.al = s.ll + dvd' ls[j].lo ph ∧ s.ah = s.lh + dvd' ls[j].hi pl ∧ s.al ≤ 100000 ∧ s.ah ≤ 100000
structure WalkS (ws : List Wl) (ls : List Lg) (pl ph : Int) (n : Nat) (d : D) : Prop where
  is : ∃ (ss : List Sp) (at' e : Int), d = .node [sps ss, I at', I e] ∧ (e ≠ 0 → ss = []) ∧ (e = 0 → landOK ws ls = true ∧ inS pl ph 1 100000 = true ∧ ss.length = n ∧ ∀ s ∈ ss, stopOK ls pl ph s)
theorem stop_days {l : Lg} {n k w a b pl ph : Int} (hl : l.ok n = true) (hp : inS pl ph 1 100000 = true) (ha : 0 ≤ a ∧ a ≤ b) (hb : b ≤ 100001) (hah : (stop l k w a b pl ph).ah ≤ 100000) :
    0 ≤ (stop l k w a b pl ph).ll ∧ (stop l k w a b pl ph).ll ≤ 100001 ∧ 0 ≤ (stop l k w a b pl ph).lh ∧ (stop l k w a b pl ph).lh ≤ 100001 ∧ (stop l k w a b pl ph).al = (stop l k w a b pl ph).ll + dvd' l.lo ph ∧ (stop l k w a b pl ph).ah = (stop l k w a b pl ph).lh + dvd' l.hi pl ∧ (stop l k w a b pl ph).al ≤ 100000 := by
  have hle := stop_le (k := k) (w := w) hl hp ha.1 ha.2 hb
  obtain ⟨p1, p2, p3⟩ := pace_pos hp
  obtain ⟨l1, l2, l3, l4, -⟩ := lg_ok hl
  have d1 := dvd_bd (n := l.lo) (k := ph) (by omega) (by omega)
  have d2 := dvd_bd (n := l.hi) (k := pl) (by omega) (by omega)
  have v1 := firstG_bd (cond := condM a (dvd' l.lo ph)) (n := l.gs.length) (gs_val l1 (day := a) (by omega)).1
  have v2 := firstG_bd (cond := condC b (dvd' l.hi pl)) (n := l.gs.length) (gs_val l1 (day := b) (by omega)).2
  simp only [stop, arr] at hle hah ⊢
  generalize firstG (condM a (dvd' l.lo ph)) (valM a) l.gs l.gs.length = x at *
  generalize firstG (condC b (dvd' l.hi pl)) (valC b) l.gs l.gs.length = y at *
  rw [wI (x := x + dvd' l.lo ph) (by omega)] at hle ⊢
  rw [wI (x := y + dvd' l.hi pl) (by omega)] at hle hah ⊢
  omega
theorem wst_days {ws : List Wl} {ls : List Lg} {pl ph : Int} {ks : List Int} {w0 day : Int} (hL : landOK ws ls = true) (hp : inS pl ph 1 100000 = true) (hd : 0 ≤ day ∧ day ≤ 100000) (hw : 0 ≤ w0 ∧ w0 < ws.length) (hk : ∀ i, i < ks.length → okW ls w0 ks i = true) :
    ∀ n, n ≤ ks.length → (∀ i, i < n → wok ls pl ph ks w0 day i = true) → ∀ s ∈ (wst ls pl ph ks w0 day n).ss, stopOK ls pl ph s
  | 0, _, _, s, hs => by cases hs
  | n + 1, hn, h, s, hs => by
    simp only [wst, List.mem_append, List.mem_singleton] at hs
    rcases hs with hs | rfl
    · exact wst_days hL hp hd hw hk n (by omega) (fun i hi => h i (by omega)) s hs
    · obtain ⟨i1, i2, i3, i4, i5, i6⟩ := wst_ok hL hp hd hw hk n (by omega)
      obtain ⟨j, h1, h2, h3⟩ := okW_some (show n < ks.length by omega) (hk n (by omega))
      have hnx : nxt ls pl ph ks n (wst ls pl ph ks w0 day n) = stop ls[j] j (wst ls pl ph ks w0 day n).w (wst ls pl ph ks w0 day n).a (wst ls pl ph ks w0 day n).b pl ph := by
        simp [nxt, List.getD, List.getElem?_eq_getElem (show n < ks.length by omega), h1, List.getElem?_eq_getElem h2]
      have hok := h n (by omega)
      unfold wok at hok
      rw [hnx] at hok ⊢
      have hah : (stop ls[j] j (wst ls pl ph ks w0 day n).w (wst ls pl ph ks w0 day n).a (wst ls pl ph ks w0 day n).b pl ph).ah ≤ 100000 := by simpa [leB] using hok
      obtain ⟨b1, b2, b3, b4, b5, b6, b7⟩ := stop_days (land_leg hL h2) hp ⟨i3.1, i6⟩ i4.2 hah
      exact ⟨j, h2, rfl, b1, b2, b3, b4, b5, b6, b7, hah⟩
theorem e28s (ws : List Wl) (ls : List Lg) (w0 day pl ph : Int) (ks : List Int) (hw : ws.length ≤ 9223372036854775807) (hl : ls.length ≤ 9223372036854775807) (hb : big ls) (hkl : ks.length ≤ 24) :
    ∃ d, evL FN 28 [landD ws ls, I w0, I day, .node [I pl, I ph], ints ks] = some d ∧ WalkS ws ls pl ph ks.length d := by
  have h89 := e89 ws ls w0 day pl ph hw hl hb
  by_cases he : workE ws ls w0 day pl ph = 0
  rotate_left
  · rw [if_neg he] at h89
    refine ⟨_, evL_of (F := F28) rfl ?_, ⟨[], 0, workE ws ls w0 day pl ph, rfl, fun _ => rfl, fun h => absurd h he⟩⟩
    simp only [landD, wls, lgs, carD, I] at h89 ⊢
    simp [F28, Fn.denV, fits, T.denV, denL, E.den, D.cells, D.den1, binD, h89, he, sps, ints]
  rw [if_pos he, he] at h89
  have hkl' : ¬ (24 : Int) < ks.length := by omega
  have hA : askE ws ls pl ph = 0 := by unfold workE at he; split at he; · assumption
                                       · exact he
  obtain ⟨q1, q2⟩ := askE_zero.1 hA
  have hr : inR w0 0 (ws.length - 1) = true ∧ inR day 0 100000 = true := by
    unfold workE at he
    rw [if_pos hA] at he
    cases h1 : inR w0 0 (ws.length - 1) <;> cases h2 : inR day 0 100000 <;> rw [h1, h2] at he <;> simp at he
    exact ⟨rfl, rfl⟩
  obtain ⟨⟨w1, w2⟩, d1, d2⟩ := And.imp inR_iff.1 inR_iff.1 hr
  have h90 := e90 ws ls pl ph w0 day day ks hl hkl
  unfold brkD at h90
  cases hbk : firstN (okW ls w0 ks) ks.length 0 with
  | some i =>
    rw [hbk] at h90
    refine ⟨_, evL_of (F := F28) rfl ?_, ⟨[], i, 8, rfl, fun _ => rfl, fun h => by omega⟩⟩
    simp only [landD, wls, lgs, carD, ints, I] at h89 h90 ⊢
    simp [F28, Fn.denV, fits, T.denV, denL, E.den, D.cells, D.den1, binD, h89, h90, sps, hkl']
  | none =>
    rw [hbk] at h90
    have hk : ∀ i, i < ks.length → okW ls w0 ks i = true := fun i hi => firstN_none.1 hbk i (by omega) (by omega)
    have hst := wst_ok q1 q2 (ks := ks) ⟨d1, d2⟩ ⟨w1, by omega⟩ hk
    have hloop : ∃ d, Fn.denV (evL FN) F28 [landD ws ls, I w0, I day, .node [I pl, I ph], ints ks] = some d ∧ d = (match firstN (wok ls pl ph ks w0 day) ks.length 0 with
        | some i => .node [sps [], I i, I 34]
        | none => .node [sps (wst ls pl ph ks w0 day ks.length).ss, I 0, I 0]) := by
      refine ⟨_, ?_, rfl⟩
      have e1 : ∀ (d0 d1 d2 d3 d4 d5 : D) (l : List D), True := fun _ _ _ _ _ _ _ => trivial
      simp only [landD, wls, lgs, carD, ints, I] at h89 h90 ⊢
      simp [F28, Fn.denV, fits, T.denV, denL, E.den, D.cells, D.den1, binD, h89, h90, hkl']
      rw [iter_nat ks.length (wok ls pl ph ks w0 day) (fun i => [I i, sps (wst ls pl ph ks w0 day i).ss, wls ws, lgs ls, I pl, I ph, I (wst ls pl ph ks w0 day i).w, I (wst ls pl ph ks w0 day i).a, I (wst ls pl ph ks w0 day i).b]) 0 1 (fun i => [I i]) [sps (wst ls pl ph ks w0 day ks.length).ss] (by simp [wst, sps, wls, lgs])]
      · cases firstN (wok ls pl ph ks w0 day) ks.length 0 <;> simp [denVK, T.denV, E.den, denL, sps]
      · intro i hi _
        obtain ⟨i1, i2, i3, i4, i5, i6⟩ := hst i (by omega)
        obtain ⟨j, j1, j2, j3⟩ := okW_some hi (hk i hi)
        have hn : nxt ls pl ph ks i (wst ls pl ph ks w0 day i) = stop ls[j] j (wst ls pl ph ks w0 day i).w (wst ls pl ph ks w0 day i).a (wst ls pl ph ks w0 day i).b pl ph := by
          simp [nxt, List.getD, List.getElem?_eq_getElem hi, j1, List.getElem?_eq_getElem j2]
        have h91 := e91 ws ls pl ph (wst ls pl ph ks w0 day i).w (wst ls pl ph ks w0 day i).a (wst ls pl ph ks w0 day i).b j j2 _ (land_leg q1 j2) q2 i3 i4
        have hs : wst ls pl ph ks w0 day (i + 1) = ⟨(wst ls pl ph ks w0 day i).ss ++ [nxt ls pl ph ks i (wst ls pl ph ks w0 day i)], (nxt ls pl ph ks i (wst ls pl ph ks w0 day i)).well, (nxt ls pl ph ks i (wst ls pl ph ks w0 day i)).al, (nxt ls pl ph ks i (wst ls pl ph ks w0 day i)).ah⟩ := rfl
        have h92 := e92 (wst ls pl ph ks w0 day i).ss (nxt ls pl ph ks i (wst ls pl ph ks w0 day i)) (by omega)
        have h93 := e93 ws ls pl ph (wst ls pl ph ks w0 day i).w (wst ls pl ph ks w0 day i).a (wst ls pl ph ks w0 day i).b (nxt ls pl ph ks i (wst ls pl ph ks w0 day i))
        have hwok : wok ls pl ph ks w0 day i = leB (nxt ls pl ph ks i (wst ls pl ph ks w0 day i)).ah := rfl
        rw [hs, hwok]
        rw [← hn] at h91
        generalize nxt ls pl ph ks i (wst ls pl ph ks w0 day i) = s at *
        generalize wst ls pl ph ks w0 day i = t at *
        have hsh : (sps (t.ss ++ [s])).shal 1 = true := by
          simp [sps, D.shal, D.shal1, D.shal0, Sp.d, shal_int]
        simp only [carD, wls, lgs, Sp.d, I] at h91 h92 h93 hsh ⊢
        cases hlb : leB s.ah <;> rw [hlb] at h91
        · simp [hi, idx_nat hi, partD, j1, h91, unD, binD, D.den1, E.den, denL, T.denV, D.cells, outOf]
        · simp [hi, idx_nat hi, partD, j1, h91, h92, h93, unD, binD, D.den1, E.den, denL, T.denV, D.cells, outOf, hsh, wrapN (show i < 9223372036854775807 by omega)]
      · intro _
        simp [D.den1, binD, outOf, denL, E.den]
    obtain ⟨d, g1, g2⟩ := hloop
    refine ⟨d, evL_of (F := F28) rfl g1, ?_⟩
    rw [g2]
    obtain ⟨i1, i2, i3, i4, i5, i6⟩ := hst ks.length (Nat.le_refl _)
    cases hwk : firstN (wok ls pl ph ks w0 day) ks.length 0 with
    | some i => exact ⟨[], i, 34, rfl, fun _ => rfl, fun h => by omega⟩
    | none =>
      have hall : ∀ i, i < ks.length → wok ls pl ph ks w0 day i = true := fun i hi => firstN_none.1 hwk i (by omega) (by omega)
      exact ⟨_, 0, 0, rfl, fun h => absurd rfl h, fun _ => ⟨q1, q2, i2, wst_days q1 q2 ⟨d1, d2⟩ ⟨w1, by omega⟩ hk ks.length (Nat.le_refl _) hall⟩⟩
end Go.Q
