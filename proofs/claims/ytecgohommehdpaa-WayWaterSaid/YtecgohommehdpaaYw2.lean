/- Water in truth lies in what is told. -/
import Derived.Test.YtecgohommehdpaaYw1
set_option linter.unusedVariables false
set_option linter.unusedSimpArgs false
set_option maxRecDepth 100000
namespace Go.Q
open Go.V
/-- In the morning of a day: so many draws are past. -/
structure WR (w : Wl) (k day : Int) (ds : List Dw) (d : Int) (p : Nat) (h : Int) : Prop where
  p0 : p ≤ ds.length
  lt : ∀ i, i < p → (hi : i < ds.length) → ds[i].m < d
  ge : ∀ i, p ≤ i → (hi : i < ds.length) → d ≤ ds[i].m
  go : ∀ i, i < p → wgo w k day ds i = true
  t : (wst w k day ds p).t ≤ d
  lo : wlo w (wst w k day ds p).lo (d - (wst w k day ds p).t) ≤ h
  hi : h ≤ whi w (wst w k day ds p).hi (d - (wst w k day ds p).t)
/-- In a day, while its draws are gone through. -/
structure WI (w : Wl) (k day : Int) (ds : List Dw) (d : Int) (j p : Nat) (h : Int) : Prop where
  p0 : p ≤ ds.length
  lt : ∀ i, i < p → (hi : i < ds.length) → ds[i].m < d ∨ ds[i].m = d ∧ i < j
  ge : ∀ i, p ≤ i → (hi : i < ds.length) → d ≤ ds[i].m ∧ (ds[i].m = d → j ≤ i)
  go : ∀ i, i < p → wgo w k day ds i = true
  t : (wst w k day ds p).t ≤ d + 1
  lo : wlo w (wst w k day ds p).lo (d + 1 - (wst w k day ds p).t) ≤ h
  hi : h ≤ whi w (wst w k day ds p).hi (d + 1 - (wst w k day ds p).t)
theorem fill_one {w : Wl} (hO : WlOK w) {a b m h n : Int} (hm : 0 ≤ m) (h1 : wlo w a m ≤ h) (h2 : h ≤ whi w b m) (hn : w.yl ≤ n ∧ n ≤ w.yh) : wlo w a (m + 1) ≤ min w.room (h + n) ∧ min w.room (h + n) ≤ whi w b (m + 1) := by
  have y0 := hO.y0
  unfold wlo at *
  unfold whi at *
  rw [Int.add_mul, Int.add_mul, Int.one_mul, Int.one_mul]
  generalize m * w.yl = x at *
  generalize m * w.yh = y at *
  omega
theorem wi_start {w : Wl} (hO : WlOK w) {k day d : Int} {ds : List Dw} {p : Nat} {h n : Int} (hR : WR w k day ds d p h) (hn : w.yl ≤ n ∧ n ≤ w.yh) : WI w k day ds d 0 p (min w.room (h + n)) := by
  have ht := hR.t
  have hf := fill_one hO (by omega) hR.lo hR.hi hn
  rw [show d - (wst w k day ds p).t + 1 = d + 1 - (wst w k day ds p).t from by omega] at hf
  exact ⟨hR.p0, fun i hi hi' => .inl (hR.lt i hi hi'), fun i hi hi' => ⟨hR.ge i hi hi', fun _ => by omega⟩, hR.go, by omega, hf.1, hf.2⟩
theorem wi_end {w : Wl} {k day d : Int} {ds : List Dw} {p : Nat} {h : Int} (hI : WI w k day ds d ds.length p h) : WR w k day ds (d + 1) p h := by
  refine ⟨hI.p0, fun i hi hi' => ?_, fun i hi hi' => ?_, hI.go, hI.t, hI.lo, hI.hi⟩
  · have := hI.lt i hi hi'; omega
  · have := hI.ge i hi hi'; omega
theorem wi_step {w : Wl} (hO : WlOK w) {n k day : Int} {d : Int} {ds : List Dw} (hD : drOK n ds = true) (hd : d < day) (hd0 : 0 ≤ d) (hday : day ≤ 100000) {h0 d0 : Int} {j p : Nat} (hj : j < ds.length) (hI : WI w k day ds d j p (iS k d ds h0 d0 j).h) (hw : (iS k d ds h0 d0 (j + 1)).wet = true) (h0' : 0 ≤ (iS k d ds h0 d0 j).h) :
    ∃ p', WI w k day ds d (j + 1) p' (iS k d ds h0 d0 (j + 1)).h := by
  simp only [iS, List.getElem?_eq_getElem hj] at hw ⊢
  by_cases hm : ds[j].m = d
  · -- the day's own
    have hpj : p = j := by
      rcases Nat.lt_trichotomy p j with h | h | h
      · have h1 := hI.ge p (Nat.le_refl _) (by omega)
        have h2 := dr_le hD (show p < ds.length by omega) j (by omega) hj
        omega
      · exact h
      · have h1 := hI.lt j h hj
        omega
    subst hpj
    have hinv := w_inv (k := k) hO hD (show 0 ≤ day ∧ day ≤ 100000 by omega) p (by omega) (fun i hi => hI.go i hi)
    have hlt : ∀ i, i < p + 1 → (hi : i < ds.length) → ds[i].m < d ∨ ds[i].m = d ∧ i < p + 1 := fun i hi hi' => by
      by_cases e : i = p
      · subst e; exact .inr ⟨hm, by omega⟩
      · have := hI.lt i (by omega) hi'; omega
    have hge : ∀ i, p + 1 ≤ i → (hi : i < ds.length) → d ≤ ds[i].m ∧ (ds[i].m = d → p + 1 ≤ i) := fun i hi hi' => by
      have h2 := dr_le hD hj i (by omega) hi'
      exact ⟨by omega, fun _ => hi⟩
    have hq := (dr_at hD hj).2.2.1
    by_cases hk : ds[p].k = k
    · have hsk : dskip k day ds[p] = false := by simp [dskip, hk, hm]; omega
      rw [if_pos ⟨hk, hm⟩] at hw ⊢
      simp only [Bool.and_eq_true, Bool.not_eq_true', decide_eq_false_iff_not] at hw
      have hlo := hI.lo; have hhi := hI.hi; have ht := hI.t
      have v3 := hinv.lo; have v4 := hinv.hi
      have hfb := fill_bd hO v3 v4 (n := d + 1 - (wst w k day ds p).t) (by omega)
      have hs : wst w k day ds (p + 1) = dstep w (wst w k day ds p) ds[p] := by simp [wst, hj, hsk]
      have hdd : ds[p].m + 1 = d + 1 := by omega
      refine ⟨p + 1, by omega, hlt, hge, fun i hi => ?_, ?_, ?_, ?_⟩
      · by_cases e : i = p
        · subst e
          simp only [wgo, List.getElem?_eq_getElem hj, Option.all_some, hsk, Bool.false_or, ddry, hdd, Bool.not_eq_true', decide_eq_false_iff_not]
          omega
        · exact hI.go i (by omega)
      · rw [hs]; simp only [dstep]; omega
      · rw [hs]; simp only [dstep, hdd, Int.sub_self]
        generalize wlo w (wst w k day ds p).lo (d + 1 - (wst w k day ds p).t) = x at *
        unfold wlo; simp only [Int.zero_mul, Int.add_zero]; omega
      · rw [hs]; simp only [dstep, hdd, Int.sub_self]
        generalize whi w (wst w k day ds p).hi (d + 1 - (wst w k day ds p).t) = x at *
        unfold whi; simp only [Int.zero_mul, Int.add_zero]; omega
    · have hsk : dskip k day ds[p] = true := by simp [dskip, hk]
      rw [if_neg (fun h => hk h.1)] at hw ⊢
      have hs : wst w k day ds (p + 1) = wst w k day ds p := by simp [wst, hj, hsk]
      refine ⟨p + 1, by omega, hlt, hge, fun i hi => ?_, by rw [hs]; exact hI.t, by rw [hs]; exact hI.lo, by rw [hs]; exact hI.hi⟩
      by_cases e : i = p
      · subst e
        simp only [wgo, List.getElem?_eq_getElem hj, Option.all_some, hsk, Bool.true_or]
      · exact hI.go i (by omega)
  · rw [if_neg (fun h => hm h.2)] at hw ⊢
    refine ⟨p, hI.p0, fun i hi hi' => ?_, fun i hi hi' => ?_, hI.go, hI.t, hI.lo, hI.hi⟩
    · have := hI.lt i hi hi'; omega
    · have := hI.ge i hi hi'
      refine ⟨this.1, fun e => ?_⟩
      have h1 := this.2 e
      by_cases e2 : i = j
      · subst e2; exact absurd e hm
      · omega
theorem iS_wet {k d : Int} {ds : List Dw} {h0 d0 : Int} : ∀ n j, j ≤ n → (iS k d ds h0 d0 n).wet = true → (iS k d ds h0 d0 j).wet = true
  | 0, j, hj, h => by obtain rfl : j = 0 := by omega
                      exact h
  | n + 1, j, hj, h => by
    by_cases e : j = n + 1
    · subst e; exact h
    · refine iS_wet n j (by omega) ?_
      simp only [iS] at h
      split at h
      · split at h
        · simp only [Bool.and_eq_true] at h; exact h.1
        · exact h
      · exact h
theorem wi_all {w : Wl} (hO : WlOK w) {n k day : Int} {d : Int} {ds : List Dw} (hD : drOK n ds = true) (hd : d < day) (hd0 : 0 ≤ d) (hday : day ≤ 100000) {h0 d0 : Int} {p : Nat} (hh : 0 ≤ h0 ∧ h0 ≤ 1000000000) (hI : WI w k day ds d 0 p h0) (hw : (iS k d ds h0 d0 ds.length).wet = true) :
    ∀ j, j ≤ ds.length → ∃ p', WI w k day ds d j p' (iS k d ds h0 d0 j).h
  | 0, _ => ⟨p, by simpa [iS] using hI⟩
  | j + 1, hj => by
    obtain ⟨p', h'⟩ := wi_all hO hD hd hd0 hday hh hI hw j (by omega)
    have hb := iS_bd (n := n) (k := k) (d := d) (d0 := d0) hD hh j (by omega)
    exact wi_step hO hD hd hd0 hday (by omega) h' (iS_wet ds.length (j + 1) hj hw) (hb.2.2.2.2.2 (iS_wet ds.length j (by omega) hw))
theorem wr_all {w : Wl} (hO : WlOK w) {n k : Int} {ds : List Dw} {us : List Wd} (hD : drOK n ds = true) (hl : ds.length ≤ 200) {day : Nat} (hday : day ≤ 255) : ∀ d, d ≤ day → (∀ j, j < d → (lawD w k ds us (j + 1)).wet = true) → ∃ p, WR w k day ds d p (lawD w k ds us d).has
  | 0, _, _ => by
    have hp := pick_in (lo := w.hl) (hi := w.hh) (atS us 0) hO.h1
    have h2 := hO.h2
    refine ⟨0, Nat.zero_le _, fun i hi => by omega, fun i _ hi' => by have := (dr_at hD hi').2.1; omega, fun i hi => by omega, by simp [wst], ?_, ?_⟩
    · simp only [wst, lawD]; unfold wlo; simp only [Int.natCast_zero, Int.sub_self, Int.zero_mul, Int.add_zero]; omega
    · simp only [wst, lawD]; unfold whi; simp only [Int.natCast_zero, Int.sub_self, Int.zero_mul, Int.add_zero]; omega
  | d + 1, hd, hp => by
    obtain ⟨p, hR⟩ := wr_all hO hD hl hday d (by omega) (fun j hj => hp j (by omega))
    obtain ⟨hB, -⟩ := lb_all (n := n) (us := us) hO hD hl d (fun j hj => hp j (by omega))
    have hpi := pick_in (lo := w.yl) (hi := w.yh) (atS us (d + 1)) hO.y1
    have hwet := hp d (by omega)
    have a := hB.has
    have r1 := hO.r1; have y0 := hO.y0
    have hI := wi_start hO hR hpi
    simp only [lawD, lday] at hwet ⊢
    obtain ⟨p', h'⟩ := wi_all hO hD (show (d : Int) < day by omega) (by omega) (by omega) (by omega) hI hwet ds.length (Nat.le_refl _)
    have := wi_end h'
    exact ⟨p', this⟩
theorem wst_skip {w : Wl} {k day : Int} {ds : List Dw} {p : Nat} (h : ∀ i, p ≤ i → (hi : i < ds.length) → day ≤ ds[i].m) : ∀ j, p ≤ j → j ≤ ds.length → wst w k day ds j = wst w k day ds p
  | 0, hj, _ => by obtain rfl : p = 0 := by omega
                   rfl
  | j + 1, hj, hl => by
    by_cases e : p = j + 1
    · subst e; rfl
    · have hx : j < ds.length := by omega
      have := h j (by omega) hx
      simp only [wst, List.getElem?_eq_getElem hx]
      rw [if_pos (by simp [dskip, this])]
      exact wst_skip h j (by omega) (by omega)
/-- If it never was short, what is told holds it. -/
theorem wet_told {w : Wl} (hO : WlOK w) {n k : Int} {ds : List Dw} {us : List Wd} (hD : drOK n ds = true) (hl : ds.length ≤ 200) {day : Nat} (hday : day ≤ 255) (hw : ∀ j, j < day → (lawD w k ds us (j + 1)).wet = true) :
    firstN (wgo w k day ds) ds.length 0 = none ∧ wlo w (wst w k day ds ds.length).lo (day - (wst w k day ds ds.length).t) ≤ (lawD w k ds us day).has ∧ (lawD w k ds us day).has ≤ whi w (wst w k day ds ds.length).hi (day - (wst w k day ds ds.length).t) := by
  obtain ⟨p, hR⟩ := wr_all (us := us) hO hD hl hday day (Nat.le_refl _) hw
  have hs := wst_skip (w := w) (k := k) hR.ge ds.length hR.p0 (Nat.le_refl _)
  refine ⟨firstN_none.2 fun j _ hj => ?_, by rw [hs]; exact hR.lo, by rw [hs]; exact hR.hi⟩
  by_cases e : j < p
  · exact hR.go j e
  · have hx : j < ds.length := by omega
    have := hR.ge j (by omega) hx
    simp [wgo, hx, dskip, this]
end Go.Q
