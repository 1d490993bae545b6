/- Water, plain: what stays from draw to draw. -/
import Derived.Test.YtkodjegpdkfjkaaWaB
import Derived.Test.YtkodjegpdkfjkaaWaC
set_option linter.unusedVariables false
set_option linter.unusedSimpArgs false
namespace Go.Proofs.Ytkodjegpdkfjkaa
open Go.RowKit
open Go.Proofs

/-- Before the draw of place k: what is to come is what all of it comes to. -/
structure WatI (v : Wl) (well day : Int) (ds : List Dr) (R : (Int × Int) × Int × Int) (k : Nat) (has : Int × Int) (got : Int) : Prop where
  eq : watGo v well day (ds.drop k) k has got = R
  has1 : 0 ≤ has.1
  has2 : has.1 ≤ has.2
  has3 : has.2 ≤ v.room
  got1 : 0 ≤ got
  got2 : got ≤ day
  got3 : got ≤ lastD ds k + 1
theorem drop_dr {ds : List Dr} {k : Nat} (hk : k < ds.length) : ds.drop k = ds.getD k dr0 :: ds.drop (k + 1) := by
  rw [List.drop_eq_getElem_cons hk, getD_get hk]
theorem okDr_day {n la : Int} {y : Dr} (h : okDr n la y = true) : la ≤ y.day ∧ y.day ≤ 100000 ∧ 0 ≤ y.water ∧ y.water ≤ 1000000000 := by
  simp only [okDr, okN, Bool.and_eq_true, decide_eq_true_eq] at h
  omega
section
variable {v : Wl} {well day : Int} {ds : List Dr} {R : (Int × Int) × Int × Int} {k : Nat} {has : Int × Int} {got : Int} {y : Dr} {f : Int × Int}
theorem WatI.zero (hb : BdW v) (hd : 0 ≤ day) : WatI v well day ds (watGo v well day ds 0 v.has 0) 0 v.has 0 :=
  ⟨rfl, hb.has.1, hb.has.2.1, hb.has.2.2, Int.le_refl _, hd, by simp [lastD]⟩
theorem WatI.skip (h : WatI v well day ds R k has got) (hk : k < ds.length) (hy : ds.getD k dr0 = y) (hd : lastD ds k ≤ y.day) (hs : skipD well day y = true) : WatI v well day ds R (k + 1) has got := by
  refine ⟨?_, h.has1, h.has2, h.has3, h.got1, h.got2, ?_⟩
  · rw [← h.eq, drop_dr hk, hy]
    conv => rhs; unfold watGo
    rw [if_pos hs]
    rfl
  · have := h.got3
    rw [lastD_succ, hy]; omega
theorem WatI.fill (h : WatI v well day ds R k has got) (hb : BdW v) {d : Int} (d0 : 0 ≤ d) (d1 : d ≤ 200000) (hf : fillS v has d = f) : 0 ≤ f.1 ∧ f.1 ≤ f.2 ∧ f.2 ≤ v.room := by
  have hr := hb.room
  have h1 := h.has1; have h2 := h.has2; have h3 := h.has3
  have := fillS_bd (r := f) hb (has := has) (d := d) (by omega) h.has2 (by omega) d0 d1 hf
  exact ⟨this.2.2.2.2.1 h1, this.2.2.1, this.2.2.2.1⟩
theorem WatI.draw (h : WatI v well day ds R k has got) (hb : BdW v) (hk : k < ds.length) (hy : ds.getD k dr0 = y) (hd : lastD ds k ≤ y.day) (hd2 : y.day ≤ 100000) (hw : 0 ≤ y.water) (hs : skipD well day y = false) (hf : fillS v has (y.day + 1 - got) = f) (hn : ¬ f.2 < y.water) :
    WatI v well day ds R (k + 1) (mx 0 (f.1 - y.water), f.2 - y.water) (y.day + 1) := by
  have g3 := h.got3; have g1 := h.got1
  obtain ⟨f1, f2, f3⟩ := h.fill hb (by omega) (by omega) hf
  refine ⟨?_, ?_, ?_, ?_, ?_, ?_, ?_⟩
  · rw [← h.eq, drop_dr hk, hy]
    conv => rhs; unfold watGo
    rw [if_neg (by rw [hs]; decide), hf, if_neg hn]
    rfl
  · simp only [mx_max]; omega
  · simp only [mx_max]; omega
  · simp only; omega
  · have := h.got1; have := h.got3; omega
  · simp only [skipD, Bool.or_eq_false_iff, decide_eq_false_iff_not] at hs; omega
  · rw [lastD_succ, hy]; omega
theorem WatI.dry (h : WatI v well day ds R k has got) (hk : k < ds.length) (hy : ds.getD k dr0 = y) (hs : skipD well day y = false) (hf : fillS v has (y.day + 1 - got) = f) (hn : f.2 < y.water) : R = ((0, 0), (k : Int), 33) := by
  rw [← h.eq, drop_dr hk, hy]
  unfold watGo
  rw [if_neg (by rw [hs]; decide), hf, if_pos hn]
theorem WatI.fin (h : WatI v well day ds R k has got) (hk : ds.length ≤ k) : R = (fillS v has (day - got), 0, 0) := by
  rw [← h.eq, List.drop_of_length_le hk]
  rfl
theorem BdW.with (hb : BdW v) (h : WatI v well day ds R k has got) : BdW { v with has := has } := ⟨hb.depth, hb.yield, hb.room, ⟨h.has1, h.has2, h.has3⟩⟩
theorem BdW.with' (hb : BdW v) (h1 : 0 ≤ f.1) (h2 : f.1 ≤ f.2) (h3 : f.2 ≤ v.room) : BdW { v with has := f } := ⟨hb.depth, hb.yield, hb.room, ⟨h1, h2, h3⟩⟩
end

theorem setIf3 (a0 a1 a2 a3 a4 a5 a6 a7 a8 x y : Value) : ((#[a0, a1, a2, a3, a4, a5, a6, a7, a8] : Array Value).setIfInBounds 6 x).setIfInBounds 7 y = #[a0, a1, a2, a3, a4, a5, x, y, a8] := rfl
theorem stored67 {W : World} {h : Nat} {a0 a1 a2 a3 a4 a5 a6 a7 a8 : Value} (hr : rowOf W h = some #[a0, a1, a2, a3, a4, a5, a6, a7, a8]) (x y : Value) : Stored h #[a0, a1, a2, a3, a4, a5, x, y, a8] W ((W.setCell ⟨h, 6, none⟩ x).setCell ⟨h, 7, none⟩ y) := by
  obtain ⟨t, hg⟩ := rowOf_some hr
  rw [setCell_eq_setRow W h 6 _ t (0, 0) _ hg, setCell_eq_setRow _ h 7 _ t (0, 0) _ (setRow_heap W h _ _ t _ hg), setRow_setRow, setIf3]
  exact stored_setRow hr _
theorem results24_3 {fn : Func} {p q r : Tmp} (h : fn.results = #[.cell p 24, .tmp q, .tmp r]) {tmps : Array Value} {w : World} {g : Nat} (hp : tmps.getD p undef = .pointer (some ⟨g, 0, none⟩)) {cs : Array Value} (hg : rowOf w g = some cs) (hs : cs.size = 2) {v v' : Value} (hq : tmps.getD q undef = v) (hr : tmps.getD r undef = v') :
    (results fn tmps).run Try.prog w = .ok (.tuple #[.agg cs, v, v']) w := by
  obtain ⟨t', hg'⟩ := rowOf_some hg
  have hp' : tmps[p]?.getD undef = .pointer (some ⟨g, 0, none⟩) := by simpa using hp
  have hq' : tmps[q]?.getD undef = v := by simpa using hq
  have hr' : tmps[r]?.getD undef = v' := by simpa using hr
  have hl := run_loadVar_row (P := Try.prog) w g t' 24 cs (0, 0) _ hg' Try.underlying24 rfl (by rw [hs]; exact info24)
  simp [results, h, hp', hq', hr', asAddr, hl]

theorem chkW_bad {ws : List Wl} {ls : List Lg} {well day : Int} {ds : List Dr} (h : okLand ws ls = false) : watR ws ls well day ds = ((0, 0), 0, 30) := by
  have e : chkW ws ls well day ds = 30 := by simp [chkW, h]
  simp [watR, e]
theorem chkW_arg {ws : List Wl} {ls : List Lg} {well day : Int} {ds : List Dr} (h : okLand ws ls = true) (h2 : (okN well 0 (ws.length - 1) && okN day 0 100000) = false) : watR ws ls well day ds = ((0, 0), 0, 2) := by
  have e : chkW ws ls well day ds = 2 := by
    rw [chkW, if_pos h, if_neg]
    rintro ⟨h3, h4⟩
    simp [h3, h4] at h2
  simp [watR, e]
theorem chkW_many {ws : List Wl} {ls : List Lg} {well day : Int} {ds : List Dr} (h : okLand ws ls = true) (h2 : okN well 0 (ws.length - 1) = true) (h3 : okN day 0 100000 = true) (h4 : ¬ ds.length ≤ 200) : watR ws ls well day ds = ((0, 0), 0, 4) := by
  have e : chkW ws ls well day ds = 4 := by rw [chkW, if_pos h, if_pos ⟨h2, h3⟩, if_neg h4]
  simp [watR, e]
theorem chkW_draw {ws : List Wl} {ls : List Lg} {well day : Int} {ds : List Dr} (h : okLand ws ls = true) (h2 : okN well 0 (ws.length - 1) = true) (h3 : okN day 0 100000 = true) (h4 : ds.length ≤ 200) (h5 : okDrs ws.length ds = false) : watR ws ls well day ds = ((0, 0), 0, 32) := by
  have e : chkW ws ls well day ds = 32 := by rw [chkW, if_pos h, if_pos ⟨h2, h3⟩, if_pos h4, if_neg (by rw [h5]; decide)]
  simp [watR, e]
theorem chkW_ok {ws : List Wl} {ls : List Lg} {p : Nat} {day : Int} {ds : List Dr} (h : okLand ws ls = true) (h2 : okN p 0 (ws.length - 1) = true) (h3 : okN day 0 100000 = true) (h4 : ds.length ≤ 200) (h5 : okDrs ws.length ds = true) {v : Wl} (hv : ws.getD p wl0 = v) : watR ws ls p day ds = watGo v p day ds 0 v.has 0 := by
  have e : chkW ws ls p day ds = 0 := by rw [chkW, if_pos h, if_pos ⟨h2, h3⟩, if_pos h4, if_pos h5]
  simp only [watR, e, if_true, Int.toNat_natCast, hv]
theorem DrawsIn.at_ {w W : World} {a : Option Addr} {ds : List Dr} (h : DrawsIn w a ds) (hB : Below w.heap.size w W) : DrawsIn W a ds := ListIn.below (fun g o x hg hx => DrawAt.below hB g o x hg hx) h hB (Nat.le_refl _)
end Go.Proofs.Ytkodjegpdkfjkaa
