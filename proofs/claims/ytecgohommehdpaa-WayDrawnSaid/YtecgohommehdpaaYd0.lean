/- Way: water, with any draws. -/
import Derived.Test.YtecgohommehdpaaYb1
set_option linter.unusedVariables false
set_option linter.unusedSimpArgs false
set_option maxRecDepth 100000
namespace Go.Q
open Go.V
structure Dw where
  k : Int
  m : Int
  q : Int
def Dw.d (x : Dw) : List D := [I x.k, I x.m, I x.q]
def dws (xs : List Dw) : D := .list (xs.map Dw.d)
def dpv (xs : List Dw) (i : Nat) : Int := if i = 0 then 0 else ((xs[i - 1]?).map Dw.m).getD 0
def dstp (n p : Int) (x : Dw) : Bool := inR x.k 0 (n - 1) && inR x.m 0 100000 && inR x.q 0 1000000000 && decide (p ≤ x.m)
def dwat (n : Int) (xs : List Dw) (i : Nat) : Bool := (xs[i]?).all (dstp n (dpv xs i))
def drOK (n : Int) (xs : List Dw) : Bool := allN (dwat n xs) xs.length
theorem dpv_succ {xs : List Dw} {i : Nat} (h : i < xs.length) : dpv xs (i + 1) = xs[i].m := by simp [dpv, h]
theorem e34 (ws : List Wl) (ls : List Lg) (xs : List Dw) (hw : ws.length ≤ 9223372036854775807) (hl : xs.length ≤ 9223372036854775807) : evL FN 34 [landD ws ls, dws xs] = some (.bool (drOK ws.length xs)) := by
  refine evL_of (F := F34) rfl ?_
  have w1 : IntKind.i64.wrap ((ws.length : Int) - 1) = ws.length - 1 := wI (by omega)
  unfold landD dws drOK wls lgs
  simp [F34, Fn.denV, fits, T.denV, denL, E.den, D.den1, D.cells]
  rw [iter_allN xs.length (dwat ws.length xs) (fun i => [I i]) 0 1 [] [] (by simp)]
  · cases allN (dwat ws.length xs) xs.length <;> simp [denVK, T.denV, E.den]
  · intro i hi _
    have a1 := e70 xs[i].k 0 (ws.length - 1)
    have a2 := e70 xs[i].m 0 100000
    have a3 := e70 xs[i].q 0 1000000000
    simp only [I] at a1 a2 a3
    have hd : dwat ws.length xs i = dstp ws.length (dpv xs i) xs[i] := by simp [dwat, hi]
    rw [hd]
    unfold dstp
    simp [D.den1, binD, unD, hi, idx_nat hi, Dw.d, partD, D.cells, w1, a1]
    generalize inR xs[i].k 0 (ws.length - 1) = s1 at *
    generalize hs2 : inR xs[i].m 0 100000 = s2 at *
    generalize inR xs[i].q 0 1000000000 = s3 at *
    cases s1
    · simp [outOf, denL, E.den, denVK, T.denV]
    simp [outOf, denL, E.den, denVK, T.denV, D.den1, unD, D.cells, a2]
    cases s2
    · simp [outOf, denL, E.den, denVK, T.denV]
    simp [outOf, denL, E.den, denVK, T.denV, D.den1, unD, D.cells, a3]
    cases s3
    · simp [outOf, denL, E.den, denVK, T.denV]
    simp [outOf, denL, E.den, denVK, T.denV, D.den1, unD, binD, D.cells]
    cases i with
    | zero =>
      have h4 := inR_iff.1 hs2
      have w0 : IntKind.i64.wrap 1 = 1 := by decide
      simp [dpv, h4.1, w0, outOf, denL, E.den, denVK, T.denV, D.den1, binD, wrapN (show 0 < 9223372036854775807 by omega)]
    | succ i =>
      have h5 : IntKind.i64.wrap (i : Int) = i := wI (by omega)
      have h9 : IntKind.i64.wrap ((i : Int) + 1 + 1) = i + 1 + 1 := wI (by omega)
      have h6 : (0 : Int) < (i : Int) + 1 := by omega
      have h7 : i < xs.length := by omega
      rw [dpv_succ h7]
      simp [h5, h6, idx_nat h7, h7, D.den1, binD, Dw.d, partD, D.cells]
      by_cases h8 : xs[i].m ≤ xs[i + 1].m
      · have h8' : ¬ xs[i + 1].m < xs[i].m := by omega
        simp [h8, h8', h9, outOf, denL, E.den, denVK, T.denV, D.den1, binD]
      · have h8' : xs[i + 1].m < xs[i].m := by omega
        simp [h8, h8', outOf, denL, E.den, denVK, T.denV, D.den1, binD]
  · intro _
    simp [outOf, denL, E.den, D.den1, binD]
theorem e95 (ws : List Wl) (xs : List Dw) (hw : ws.length ≤ 9223372036854775807) (hl : xs.length ≤ 9223372036854775807) (h : drOK ws.length xs = true) : evL FN 95 [dws xs, wls ws] = some (.bool true) := by
  refine evL_of (F := F95) rfl ?_
  unfold dws
  have hA := allN_iff.1 h
  simp [F95, Fn.denV, fits, T.denV, denL, E.den, D.den1, D.cells, wls]
  rw [iter_allN xs.length (fun _ => true) (fun i => [I (dpv xs i), I i]) 0 1 [] [] (by simp [dpv])]
  · rw [if_pos (allN_iff.2 fun _ _ => rfl)]; simp [denVK, T.denV, E.den]
  · intro i hi _
    have hd := hA i hi
    simp only [dwat, List.getElem?_eq_getElem hi, Option.all_some, dstp, Bool.and_eq_true, decide_eq_true_eq] at hd
    obtain ⟨⟨⟨d1, d2⟩, d3⟩, d4⟩ := hd
    have a1 := e94 xs[i].k ws hw
    have a2 := e97 xs[i].m (dpv xs i) 100000
    have a3 := e97 xs[i].q 0 1000000000
    rw [d1] at a1; rw [d3] at a3
    rw [show inR xs[i].m (dpv xs i) 100000 = true from inR_iff.2 ⟨d4, (inR_iff.1 d2).2⟩] at a2
    simp only [I, wls] at a1 a2 a3
    simp [D.den1, binD, unD, hi, idx_nat hi, Dw.d, partD, D.cells, a1, a2, a3, outOf, denL, E.den, denVK, T.denV, dpv_succ hi, wrapN (show i < 9223372036854775807 by omega)]
  · intro _
    simp [outOf, denL, E.den, D.den1, binD]
structure WS where
  t : Int
  lo : Int
  hi : Int
def dskip (k day : Int) (x : Dw) : Bool := decide (x.k ≠ k) || decide (day ≤ x.m)
def dstep (w : Wl) (s : WS) (x : Dw) : WS := ⟨x.m + 1, max 0 (wlo w s.lo (x.m + 1 - s.t) - x.q), whi w s.hi (x.m + 1 - s.t) - x.q⟩
def ddry (w : Wl) (s : WS) (x : Dw) : Bool := decide (whi w s.hi (x.m + 1 - s.t) < x.q)
def wst (w : Wl) (k day : Int) (xs : List Dw) : Nat → WS
  | 0 => ⟨0, w.hl, w.hh⟩
  | n + 1 => match xs[n]? with
    | some x => if dskip k day x then wst w k day xs n else dstep w (wst w k day xs n) x
    | none => wst w k day xs n
def wgo (w : Wl) (k day : Int) (xs : List Dw) (i : Nat) : Bool := (xs[i]?).all fun x => dskip k day x || !ddry w (wst w k day xs i) x
structure WInv (w : Wl) (day : Int) (xs : List Dw) (i : Nat) (s : WS) : Prop where
  t0 : 0 ≤ s.t ∧ s.t ≤ 100001
  td : s.t ≤ day ∨ s.t = 0
  tx : ∀ j, i ≤ j → (h : j < xs.length) → s.t ≤ xs[j].m + 1
  lo : 0 ≤ s.lo ∧ s.lo ≤ s.hi
  hi : s.hi ≤ w.room
theorem dr_at {n : Int} {xs : List Dw} (h : drOK n xs = true) {i : Nat} (hi : i < xs.length) : (0 ≤ xs[i].k ∧ xs[i].k ≤ n - 1) ∧ (0 ≤ xs[i].m ∧ xs[i].m ≤ 100000) ∧ (0 ≤ xs[i].q ∧ xs[i].q ≤ 1000000000) ∧ dpv xs i ≤ xs[i].m := by
  have hd := allN_iff.1 h i hi
  simp only [dwat, List.getElem?_eq_getElem hi, Option.all_some, dstp, Bool.and_eq_true, decide_eq_true_eq] at hd
  obtain ⟨⟨⟨d1, d2⟩, d3⟩, d4⟩ := hd
  exact ⟨inR_iff.1 d1, inR_iff.1 d2, inR_iff.1 d3, d4⟩
theorem dr_le {n : Int} {xs : List Dw} (h : drOK n xs = true) {i : Nat} (hi : i < xs.length) : ∀ j, i ≤ j → (hj : j < xs.length) → xs[i].m ≤ xs[j].m
  | 0, h1, hj => by obtain rfl : i = 0 := by omega
                    exact Int.le_refl _
  | j + 1, h1, hj => by
    by_cases e : i = j + 1
    · subst e; exact Int.le_refl _
    · have h2 := dr_le h hi j (by omega) (by omega)
      have h3 := (dr_at h hj).2.2.2
      rw [dpv_succ (show j < xs.length by omega)] at h3
      omega
theorem mul_le1 {n y : Int} (hn : 0 ≤ n) (hy : 0 ≤ y) : 0 ≤ n * y := Int.mul_nonneg hn hy
theorem fill_bd {w : Wl} (hw : WlOK w) {a b n : Int} (ha : 0 ≤ a ∧ a ≤ b) (hb : b ≤ w.room) (hn : 0 ≤ n) : 0 ≤ wlo w a n ∧ wlo w a n ≤ whi w b n ∧ whi w b n ≤ w.room ∧ a ≤ wlo w a n ∧ b ≤ whi w b n := by
  have h1 : 0 ≤ n * w.yl := Int.mul_nonneg hn hw.y0
  have h2 : n * w.yl ≤ n * w.yh := Int.mul_le_mul_of_nonneg_left hw.y1 hn
  have := hw.r0
  unfold wlo whi
  omega
theorem w_inv {w : Wl} (hw : WlOK w) {n k day : Int} {xs : List Dw} (h : drOK n xs = true) (hday : 0 ≤ day ∧ day ≤ 100000) : ∀ i, i ≤ xs.length → (∀ j, j < i → wgo w k day xs j = true) → WInv w day xs i (wst w k day xs i)
  | 0, _, _ => by
    refine ⟨by simp [wst], by simp [wst], fun j h1 hj => ?_, ⟨hw.h0, hw.h1⟩, hw.h2⟩
    have := (dr_at h hj).2.1
    simp only [wst]; omega
  | i + 1, hi, hp => by
    have ih := w_inv hw h hday i (by omega) (fun j hj => hp j (by omega))
    have hx : i < xs.length := by omega
    have hg := hp i (by omega)
    simp only [wgo, List.getElem?_eq_getElem hx, Option.all_some] at hg
    simp only [wst, List.getElem?_eq_getElem hx]
    cases hs : dskip k day xs[i] with
    | true => simp only [if_true]; exact ⟨ih.t0, ih.td, fun j h1 hj => ih.tx j (by omega) hj, ih.lo, ih.hi⟩
    | false =>
      simp only [Bool.false_eq_true, if_false]
      simp only [hs, Bool.false_or, Bool.not_eq_true', ddry, decide_eq_false_iff_not] at hg
      simp only [dskip, Bool.or_eq_false_iff, decide_eq_false_iff_not] at hs
      have hm := (dr_at h hx).2.1
      have hq := (dr_at h hx).2.2.1
      have htx := ih.tx i (Nat.le_refl _) hx
      have hf := fill_bd hw ih.lo ih.hi (n := xs[i].m + 1 - (wst w k day xs i).t) (by omega)
      refine ⟨by simp only [dstep]; omega, by simp only [dstep]; omega, fun j h1 hj => ?_, ?_, ?_⟩
      · have := dr_le h hx j (by omega) hj
        simp only [dstep]; omega
      · simp only [dstep]; omega
      · simp only [dstep]; omega
def watD (w : Wl) (k day : Int) (xs : List Dw) : D := match firstN (wgo w k day xs) xs.length 0 with
  | some i => .node [.node [I 0, I 0], I i, I 33]
  | none => .node [.node [I (wlo w (wst w k day xs xs.length).lo (day - (wst w k day xs xs.length).t)), I (whi w (wst w k day xs xs.length).hi (day - (wst w k day xs xs.length).t))], I 0, I 0]
theorem e35 (ws : List Wl) (ls : List Lg) (k : Nat) (xs : List Dw) (day : Int) (hw : ws.length ≤ 9223372036854775807) (hl : ls.length ≤ 9223372036854775807) (hb : big ls) (hL : landOK ws ls = true) (hk : k < ws.length) (hd : 0 ≤ day ∧ day ≤ 100000)
    (hx : xs.length ≤ 200) (hD : drOK ws.length xs = true) :
    evL FN 35 [landD ws ls, I k, dws xs, I day] = some (watD ws[k] k day xs) := by
  refine evL_of (F := F35) rfl ?_
  have h65 := e21 ws ls hw hl hb
  rw [hL, if_pos rfl] at h65
  have h66 := e94 k ws hw
  rw [show inR k 0 (ws.length - 1) = true from inR_iff.2 (by omega)] at h66
  have h67 := e72 day
  rw [show inR day 0 100000 = true from inR_iff.2 hd] at h67
  have h68 := e95 ws xs hw (by omega) hD
  have hO := land_wl hL hk
  have o1 := hO.r0; have o2 := hO.r1
  have hx' : ¬ (200 : Int) < xs.length := by omega
  have h69 := fun a b n hn ha hb => e96 ws[k] hO a b n hn ha hb
  have hInv := fun i hi hp => w_inv (k := k) hO hD hd i hi hp
  simp only [landD, wls, lgs, dws, I] at h65 h66 h67 h68 h69 ⊢
  simp [F35, Fn.denV, fits, T.denV, denL, E.den, D.cells, D.den1, binD, unD, h65, h66, h67, h68, outOf, denVK, hk, idx_nat hk, partD, Wl.d, hx']
  rw [iter_nat xs.length (wgo ws[k] k day xs) (fun i => [I (wst ws[k] k day xs i).t, I i, I (wst ws[k] k day xs i).lo, I (wst ws[k] k day xs i).hi]) 0 1 (fun i => [I i]) [I (wst ws[k] k day xs xs.length).t, I (wst ws[k] k day xs xs.length).lo, I (wst ws[k] k day xs xs.length).hi] (by simp [wst])]
  · unfold watD
    cases hf : firstN (wgo ws[k] k day xs) xs.length 0 with
    | some i => simp [denVK, T.denV, E.den, denL]
    | none =>
      have hv := hInv xs.length (Nat.le_refl _) (fun j hj => firstN_none.1 hf j (by omega) (by omega))
      have v1 := hv.t0; have v2 := hv.td; have v3 := hv.lo; have v4 := hv.hi
      generalize wst ws[k] k day xs xs.length = s at *
      have w1 : IntKind.i64.wrap (day - s.t) = day - s.t := wI (by omega)
      have q := h69 s.lo s.hi (day - s.t) (by omega) (by omega) (by omega)
      simp [denVK, T.denV, E.den, denL, D.den1, binD, D.cells, w1, q]
  · intro i hi hp
    have hv := hInv i (by omega) hp
    have v1 := hv.t0; have v2 := hv.td; have v3 := hv.lo; have v4 := hv.hi
    have v5 := hv.tx i (Nat.le_refl _) hi
    have hm := (dr_at hD hi).2.1
    have hq := (dr_at hD hi).2.2.1
    simp only [wgo, wst, List.getElem?_eq_getElem hi, Option.all_some]
    generalize wst ws[k] k day xs i = s at *
    have wi := wrapN (show i < 9223372036854775807 by omega)
    simp [hi, D.den1, binD, idx_nat hi, Dw.d, partD, D.cells, outOf, denL, E.den, denVK, T.denV, dskip]
    by_cases h1 : xs[i].k = k
    rotate_left
    · simp [h1, outOf, denL, E.den, denVK, T.denV, D.den1, binD, wi]
    by_cases h2 : day ≤ xs[i].m
    · simp [h1, h2, outOf, denL, E.den, denVK, T.denV, D.den1, binD, wi]
    have w1 : IntKind.i64.wrap (xs[i].m + 1) = xs[i].m + 1 := wI (by omega)
    have w2 : IntKind.i64.wrap (xs[i].m + 1 - s.t) = xs[i].m + 1 - s.t := wI (by omega)
    have hf := fill_bd hO v3 v4 (n := xs[i].m + 1 - s.t) (by omega)
    have q := h69 s.lo s.hi (xs[i].m + 1 - s.t) (by omega) (by omega) (by omega)
    simp [h1, h2, outOf, denL, E.den, denVK, T.denV, D.den1, binD, D.cells, w1, w2, q, ddry, dstep]
    by_cases h3 : whi ws[k] s.hi (xs[i].m + 1 - s.t) < xs[i].q
    · have h3' : ¬ xs[i].q ≤ whi ws[k] s.hi (xs[i].m + 1 - s.t) := by omega
      simp [h3, h3', outOf, denL, E.den, denVK, T.denV, D.den1, binD]
    · have h3' : xs[i].q ≤ whi ws[k] s.hi (xs[i].m + 1 - s.t) := by omega
      have w3 : IntKind.i64.wrap (wlo ws[k] s.lo (xs[i].m + 1 - s.t) - xs[i].q) = wlo ws[k] s.lo (xs[i].m + 1 - s.t) - xs[i].q := wI (by omega)
      have w4 : IntKind.i64.wrap (whi ws[k] s.hi (xs[i].m + 1 - s.t) - xs[i].q) = whi ws[k] s.hi (xs[i].m + 1 - s.t) - xs[i].q := wI (by omega)
      have hmx : ∀ y : Int, (if 0 < y then y else 0) = max 0 y := fun y => by split <;> omega
      have hmx' : (if xs[i].q < wlo ws[k] s.lo (xs[i].m + 1 - s.t) then wlo ws[k] s.lo (xs[i].m + 1 - s.t) - xs[i].q else 0) = max 0 (wlo ws[k] s.lo (xs[i].m + 1 - s.t) - xs[i].q) := by split <;> omega
      simp [h3, h3', outOf, denL, E.den, denVK, T.denV, D.den1, binD, mxLD, mxD, w3, w4, wi, hmx, hmx']
  · intro _
    simp [D.den1, binD, outOf, denL, E.den]
end Go.Q
