/- Water in truth: the days. -/
import Derived.Test.YtecgohommehdpaaYw0
set_option linter.unusedVariables false
set_option linter.unusedSimpArgs false
set_option maxRecDepth 100000
namespace Go.Q
open Go.V
structure LS where
  has : Int
  came : Int
  over : Int
  drawn : Int
  wet : Bool
def LS.enc (s : LS) : List D := [I s.has, I s.came, I s.over, I s.drawn, .bool s.wet]
def lday (w : Wl) (k : Int) (ds : List Dw) (us : List Wd) (s : LS) (d : Nat) : LS :=
  ⟨(iS k d ds (min w.room (s.has + pickS w.yl w.yh (atS us (d + 1)))) s.drawn ds.length).h, s.came + pickS w.yl w.yh (atS us (d + 1)), s.over + max 0 (s.has + pickS w.yl w.yh (atS us (d + 1)) - w.room),
    (iS k d ds (min w.room (s.has + pickS w.yl w.yh (atS us (d + 1)))) s.drawn ds.length).d, (iS k d ds (min w.room (s.has + pickS w.yl w.yh (atS us (d + 1)))) s.drawn ds.length).wet⟩
def lawD (w : Wl) (k : Int) (ds : List Dw) (us : List Wd) : Nat → LS
  | 0 => ⟨pickS w.hl w.hh (atS us 0), 0, 0, 0, true⟩
  | d + 1 => lday w k ds us (lawD w k ds us d) d
structure LB (w : Wl) (f : Int) (d : Nat) (s : LS) : Prop where
  has : 0 ≤ s.has ∧ s.has ≤ w.room
  came : 0 ≤ s.came ∧ s.came ≤ 10000000 * (d : Int)
  over : 0 ≤ s.over ∧ s.over ≤ 2000000000 * (d : Int)
  drawn : 0 ≤ s.drawn ∧ s.drawn ≤ 200000000000 * (d : Int)
  all : s.has + s.drawn + s.over = f + s.came
theorem iS_room {n k d : Int} {ds : List Dw} (hD : drOK n ds = true) {h0 d0 r : Int} (hh : h0 ≤ r) : ∀ j, j ≤ ds.length → (iS k d ds h0 d0 j).h ≤ r
  | 0, _ => by simpa [iS] using hh
  | j + 1, hj => by
    have ih := iS_room hD hh j (by omega) (k := k) (d := d) (d0 := d0)
    have hx : j < ds.length := by omega
    have hq := (dr_at hD hx).2.2.1
    simp only [iS, List.getElem?_eq_getElem hx]
    split
    · simp only; omega
    · exact ih
theorem lb_step {w : Wl} (hO : WlOK w) {n k : Int} {ds : List Dw} {us : List Wd} (hD : drOK n ds = true) (hl : ds.length ≤ 200) {f : Int} {d : Nat} {s : LS} (h : LB w f d s) (hw : (lday w k ds us s d).wet = true) : LB w f (d + 1) (lday w k ds us s d) := by
  have hp := pick_in (lo := w.yl) (hi := w.yh) (atS us (d + 1)) hO.y1
  have y0 := hO.y0; have y2 := hO.y2; have r0 := hO.r0; have r1 := hO.r1
  have a := h.has; have b := h.came; have c := h.over; have e := h.drawn; have g := h.all
  have hb := iS_bd (n := n) (k := k) (d := d) (d0 := s.drawn) hD (h0 := min w.room (s.has + pickS w.yl w.yh (atS us (d + 1)))) (by omega) ds.length (Nat.le_refl _)
  have hr := iS_room (n := n) (k := k) (d := d) (d0 := s.drawn) hD (h0 := min w.room (s.has + pickS w.yl w.yh (atS us (d + 1)))) (r := w.room) (by omega) ds.length (Nat.le_refl _)
  simp only [lday] at hw ⊢
  generalize pickS w.yl w.yh (atS us (d + 1)) = p at *
  generalize iS k d ds (min w.room (s.has + p)) s.drawn ds.length = i at *
  obtain ⟨b1, b2, b3, b4, b5, b6⟩ := hb
  have b6 := b6 hw
  refine ⟨?_, ?_, ?_, ?_, ?_⟩ <;> simp only <;> omega
theorem lb_all {w : Wl} (hO : WlOK w) {n k : Int} {ds : List Dw} {us : List Wd} (hD : drOK n ds = true) (hl : ds.length ≤ 200) : ∀ d, (∀ j, j < d → (lawD w k ds us (j + 1)).wet = true) → LB w (pickS w.hl w.hh (atS us 0)) d (lawD w k ds us d) ∧ (lawD w k ds us d).wet = true
  | 0, _ => by
    have hp := pick_in (lo := w.hl) (hi := w.hh) (atS us 0) hO.h1
    have h0 := hO.h0; have h2 := hO.h2
    refine ⟨⟨?_, ?_, ?_, ?_, ?_⟩, rfl⟩ <;> simp only [lawD] <;> omega
  | d + 1, h => by
    have ih := lb_all hO hD hl d (fun j hj => h j (by omega))
    have hw := h d (by omega)
    exact ⟨lb_step hO hD hl ih.1 hw, hw⟩
def outs7 : List (List E × Option Nat) := [([.v 31, .v 23, .v 27, .v 32, .v 33], some 0), ([.v 31, .v 23, .v 27, .v 32, .v 33, .v 35], none), ([.v 13, .v 14, .v 15, .v 16, .v 17], some 0)]
def fin7 (w : Wl) (k : Int) (ds : List Dw) (us : List Wd) (day : Nat) : LS := match firstN (fun d => (lawD w k ds us (d + 1)).wet) day 0 with
  | some d => lawD w k ds us (d + 1)
  | none => lawD w k ds us day
theorem o7_ok (ws : List Wl) (ls : List Lg) (k : Nat) (ds : List Dw) (us : List Wd) (day : Nat) {n : Int} (hD : drOK n ds = true) (hl : ds.length ≤ 200) (hk : k < ws.length) (hO : WlOK ws[k]) (hday : day ≤ 255) (x0 x3 x5 x6 x7 x8 x10 x11 : D) :
    iterL (fun vals => outOf outs7 (T.denV (evL FN) ([x0, I k, .list (ds.map Dw.d), x3, wds us, x5, x6, x7, x8, .node ws[k].d, x10, x11, I day] ++ vals) o7)) [I (pickS ws[k].hl ws[k].hh (atS us 0)), I 0, I 0, I 0, .bool true, I 0] =
      some (0, (fin7 ws[k] k ds us day).enc) := by
  have y0 := hO.y0; have y1 := hO.y1; have y2 := hO.y2; have r0 := hO.r0; have r1 := hO.r1
  rw [iter_nat day (fun d => (lawD ws[k] k ds us (d + 1)).wet) (fun d => [I (lawD ws[k] k ds us d).has, I (lawD ws[k] k ds us d).came, I (lawD ws[k] k ds us d).over, I (lawD ws[k] k ds us d).drawn, .bool true, I d]) 0 0 (fun d => (lawD ws[k] k ds us (d + 1)).enc) (lawD ws[k] k ds us day).enc (by simp [lawD])]
  · unfold fin7; cases firstN (fun d => (lawD ws[k] k ds us (d + 1)).wet) day 0 <;> rfl
  · intro d hd hp
    obtain ⟨hB, -⟩ := lb_all (n := n) hO hD hl d hp
    have a := hB.has; have b := hB.came; have c := hB.over; have e := hB.drawn
    have h32 := e32 us (d + 1)
    have h31 := e31 (lo := ws[k].yl) (hi := ws[k].yh) (atS us (d + 1)) y1 (by omega) (by omega)
    have hpi := pick_in (lo := ws[k].yl) (hi := ws[k].yh) (atS us (d + 1)) y1
    simp only [lawD, lday]
    obtain ⟨s, hs⟩ : ∃ s, s = lawD ws[k] k ds us d := ⟨_, rfl⟩
    simp only [← hs] at hB a b c e ⊢
    clear hs hp
    obtain ⟨p, hpe⟩ : ∃ p, p = pickS ws[k].yl ws[k].yh (atS us (d + 1)) := ⟨_, rfl⟩
    simp only [← hpe] at h31 hpi ⊢
    clear hpe
    have wd := wrapN (show d < 9223372036854775807 by omega)
    have w1 : IntKind.i64.wrap (s.came + p) = s.came + p := wI (by omega)
    have w2 : IntKind.i64.wrap (s.has + p) = s.has + p := wI (by omega)
    have w3 : IntKind.i64.wrap (s.has + p - ws[k].room) = s.has + p - ws[k].room := wI (by omega)
    have w4 : IntKind.i64.wrap (s.over + max 0 (s.has + p - ws[k].room)) = s.over + max 0 (s.has + p - ws[k].room) := wI (by omega)
    have m1 : (if ws[k].room < s.has + p then s.has + p - ws[k].room else 0) = max 0 (s.has + p - ws[k].room) := by split <;> omega
    have m1' : (if 0 < s.has + p - ws[k].room then s.has + p - ws[k].room else 0) = max 0 (s.has + p - ws[k].room) := by split <;> omega
    have m2 : (if s.has + p < ws[k].room then s.has + p else ws[k].room) = min ws[k].room (s.has + p) := by split <;> omega
    have hi7 := i7_ok k d ds (min ws[k].room (s.has + p)) s.drawn hD hl (by omega) (by omega) (by omega)
    have hdd : (d : Int) < day := by omega
    rw [show ((d + 1 : Nat) : Int) = (d : Int) + 1 from by omega] at h32
    simp only [I] at h32 h31
    simp [o7, outs7, hd, hdd, D.den1, binD, unD, denL, E.den, T.denV, D.cells, Wl.d, wd, h32, h31, w1, w2, w3, w4, m1, m1', m2, mxLD, mxD]
    simp only [List.cons_append, List.nil_append, I, wds] at hi7 ⊢
    rw [hi7]
    have w5 : IntKind.i64.wrap ((d : Int) + 1) = (d : Int) + 1 := wI (by omega)
    cases (iS k d ds (min ws[k].room (s.has + p)) s.drawn ds.length).wet <;> simp [LS.enc, outOf, denL, E.den, denVK, T.denV, D.den1, binD, unD, w5]
  · intro hp
    obtain ⟨hB, hw⟩ := lb_all (n := n) hO hD hl day hp
    simp [o7, outs7, D.den1, binD, outOf, denL, E.den, T.denV, LS.enc, hw]
end Go.Q
