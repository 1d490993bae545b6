/- The shape of the arguments: a land and draws are lists of their numbers. -/
import Derived.Test.YtkodjegpdkfjkaaRows
import Derived.Test.YtkodjegpdkfjkaaCpy
import Derived.ProofKit
import Derived.OpenShut
import Derived.Deep.Slices
import Derived.ChangeArms
set_option linter.unusedVariables false
set_option linter.unusedSimpArgs false
namespace Go.Proofs.Ytkodjegpdkfjkaa
open Go.ChangeShapes Go.WideShapes Go.ChangeAt Go.RowKit
open Go.Proofs

theorem shapeI_cell {P : Program} {w : World} {r : Reach} {base : Nat} {t : TypeId} {k : IntKind} {v : Value} (ht : P.underlying t = some (.int k)) (h : Value.okWide P w r base t v) : ∃ n, v = .int k n := by
  simp only [Value.okWide, ht, Cell.okWide] at h
  cases v <;> simp_all [Cell.ok]
set_option maxRecDepth 100000 in
theorem shapeI {w : World} {r : Reach} {base : Nat} {v : Value} (h : Value.okWide Try.prog w r base 3 v) : ∃ n, v = .int .i64 n := shapeI_cell Try.underlying3 h

theorem choose_list {α : Type} (n : Nat) (p : Nat → α → Prop) (h : ∀ i, i < n → ∃ x, p i x) : ∃ l : List α, l.length = n ∧ ∀ i (hi : i < l.length), p i l[i] := by
  induction n with
  | zero => exact ⟨[], rfl, fun i hi => by simp at hi⟩
  | succ n ih =>
    obtain ⟨l, hl, hp⟩ := ih (fun i hi => h i (by omega))
    obtain ⟨x, hx⟩ := h n (by omega)
    refine ⟨l ++ [x], by simp [hl], fun i hi => ?_⟩
    by_cases hil : i < l.length
    · rw [List.getElem_append_left hil]; exact hp i hil
    · obtain rfl : i = l.length := by simp at hi; omega
      simp
      rw [hl]; exact hx
theorem cell_there {W : World} {a : Addr} {v : Value} (h : W.cell? a = some v) : a.spot = none ∧ a.block < W.heap.size := by
  unfold World.cell? at h
  split at h
  · rename_i c t s hc
    by_cases hs : a.spot.isSome
    · rw [if_pos hs] at h; cases h
    · refine ⟨by simpa using hs, ?_⟩
      rcases Nat.lt_or_ge a.block W.heap.size with h1 | h1
      · exact h1
      · rw [Array.getElem?_eq_none h1] at hc; cases hc
  · cases h

set_option maxRecDepth 100000
section
variable {H : Type} {enc : TypeId × Value → H} {W : World} {base : Nat} {held : Bool}

theorem list_of {α : Type} {T E : TypeId} {s : Nat} {at_ : World → Nat → Nat → α → Prop} (ht : Try.prog.underlying T = some (.slice E)) (hs : Try.prog.cellsOf E = s) (hpos : 0 < s)
    (hat : ∀ n cs x b o, DataW.trod enc Try.prog W base (fun _ => true) held n E cs = some x → (∀ j, j < s → W.cell? ⟨b, o + j, none⟩ = cs[j]?) → ∃ y : α, at_ W b o y) {fuel : Nat} {cs : List Value} {x : DataW H × List MemPlace} (h : DataW.trod enc Try.prog W base (fun _ => true) held fuel T cs = some x) :
    ∃ a len cap, ∃ xs : List α, cs = [.slice a len cap] ∧ len = xs.length ∧ ListIn s at_ W a xs ∧ (a = none → len = 0 ∧ cap = 0) ∧ ∀ ad, a = some ad → xs ≠ [] → ad.block < W.heap.size := by
  rcases Go.Deep.open_slice ht h with ⟨h, -⟩ | ⟨a, len, cap, m, n, D, Pl, he, -, hlc, -, hm, hx, hel⟩
  · exact ⟨none, 0, 0, [], h, rfl, .inl rfl, fun _ => ⟨rfl, rfl⟩, fun ad e => by cases e⟩
  · simp at hm
    subst hm
    rw [hs] at hel
    by_cases h0 : len = 0
    · subst h0
      exact ⟨some a, 0, m, [], he, rfl, .inl rfl, fun e => (by cases e), fun ad _ h => absurd rfl h⟩
    · have hsp : a.spot = none ∧ a.block < W.heap.size := by
        obtain ⟨cs', h1, h2⟩ := hel 0 (by omega)
        obtain ⟨-, hl, hc⟩ := World.cells?_some h1
        have h3 := hc 0 hpos
        rw [List.getElem?_eq_getElem (by omega)] at h3
        have h4 := cell_there h3
        obtain ⟨b, off, sp⟩ := a
        cases sp with
        | none => exact ⟨rfl, by simpa [add_none] using h4.2⟩
        | some q => exact absurd h4.1 (by unfold Addr.add; simp)
      obtain ⟨b, off, sp⟩ := a
      obtain ⟨hsp1, hsp2⟩ := hsp
      simp only at hsp1 hsp2
      subst hsp1
      obtain ⟨xs, hl, hxs⟩ := choose_list len (fun i (y : α) => at_ W b (off + i * s) y) (fun i hi => by
        obtain ⟨cs', h1, h2⟩ := hel i (by omega)
        obtain ⟨-, -, hc⟩ := World.cells?_some h1
        refine hat _ _ _ b (off + i * s) h2 fun j hj => ?_
        have := hc j hj
        rw [add_none, add_none] at this
        exact this)
      exact ⟨some ⟨b, off, none⟩, len, m, xs, he, hl.symm, .inr ⟨b, off, rfl, hxs, hsp2⟩, fun e => (by cases e), fun ad e _ => by cases e; exact hsp2⟩

theorem cells24 : Try.prog.cellsOf 24 = 2 := by kernel_rfl
theorem cells3 : Try.prog.cellsOf 3 = 1 := by kernel_rfl
theorem cells43 : Try.prog.cellsOf 43 = 1 := by kernel_rfl
theorem cells28 : Try.prog.cellsOf 28 = 1 := by kernel_rfl
theorem cells29 : Try.prog.cellsOf 29 = 1 := by kernel_rfl
theorem cells31 : Try.prog.cellsOf 31 = 2 := by kernel_rfl
theorem cells45 : Try.prog.cellsOf 45 = 5 := by kernel_rfl
theorem cells54 : Try.prog.cellsOf 54 = 3 := by kernel_rfl
theorem cells98 : Try.prog.cellsOf 98 = 4 := by kernel_rfl
theorem cells111 : Try.prog.cellsOf 111 = 9 := by kernel_rfl

theorem trod_span {n : Nat} {cs : List Value} {x : DataW H × List MemPlace} (h : DataW.trod enc Try.prog W base (fun _ => true) held n 24 cs = some x) : ∃ a b, cs = [.int .i64 a, .int .i64 b] := by
  obtain ⟨xs, k, -, -, hl, hxl, hf⟩ := DataW.trod_struct Try.underlying24 h
  rw [cells24] at hl
  match cs, hl with
  | [v0, v1], _ =>
    match xs, hxl with
    | [y0, y1], _ =>
      have g0 := hf 0 _ rfl
      have g1 := hf 1 _ rfl
      simp [cells3] at g0 g1
      obtain ⟨a, ha, -, -⟩ := DataW.trod_int Try.underlying3 g0
      obtain ⟨b, hb, -, -⟩ := DataW.trod_int Try.underlying3 g1
      simp at ha hb
      exact ⟨a, b, by rw [ha, hb]⟩
theorem at_draw (n : Nat) (cs : List Value) (x : DataW H × List MemPlace) (b o : Nat) (h : DataW.trod enc Try.prog W base (fun _ => true) held n 54 cs = some x) (hc : ∀ j, j < 3 → W.cell? ⟨b, o + j, none⟩ = cs[j]?) : ∃ y : Dr, DrawAt W b o y := by
  obtain ⟨xs, k, -, -, hl, hxl, hf⟩ := DataW.trod_struct Try.underlying54 h
  rw [cells54] at hl
  match cs, hl with
  | [v0, v1, v2], _ =>
    match xs, hxl with
    | [y0, y1, y2], _ =>
      have g0 := hf 0 _ rfl
      have g1 := hf 1 _ rfl
      have g2 := hf 2 _ rfl
      simp [cells3, cells24, cells43] at g0 g1 g2
      obtain ⟨a0, ha0, -, -⟩ := DataW.trod_int Try.underlying3 g0
      obtain ⟨a1, ha1, -, -⟩ := DataW.trod_int Try.underlying3 g1
      obtain ⟨a2, ha2, -, -⟩ := DataW.trod_int Try.underlying3 g2
      simp at ha0 ha1 ha2
      subst ha0
      subst ha1
      subst ha2
      exact ⟨⟨a0, a1, a2⟩, hc 0 (by omega), hc 1 (by omega), hc 2 (by omega)⟩
theorem at_gate (n : Nat) (cs : List Value) (x : DataW H × List MemPlace) (b o : Nat) (h : DataW.trod enc Try.prog W base (fun _ => true) held n 98 cs = some x) (hc : ∀ j, j < 4 → W.cell? ⟨b, o + j, none⟩ = cs[j]?) : ∃ y : Gt, GateAt W b o y := by
  obtain ⟨xs, k, -, -, hl, hxl, hf⟩ := DataW.trod_struct Try.underlying98 h
  rw [cells98] at hl
  match cs, hl with
  | [v0, v1, v2, v3], _ =>
    match xs, hxl with
    | [y0, y1], _ =>
      have g0 := hf 0 _ rfl
      have g1 := hf 1 _ rfl
      simp [cells3, cells24, cells43] at g0 g1
      obtain ⟨a0, b0, ha0⟩ := trod_span g0
      obtain ⟨a1, b1, ha1⟩ := trod_span g1
      simp at ha0 ha1
      obtain ⟨rfl, rfl⟩ := ha0
      obtain ⟨rfl, rfl⟩ := ha1
      exact ⟨⟨(a0, b0), (a1, b1)⟩, hc 0 (by omega), hc 1 (by omega), hc 2 (by omega), hc 3 (by omega)⟩
theorem at_well (n : Nat) (cs : List Value) (x : DataW H × List MemPlace) (b o : Nat) (h : DataW.trod enc Try.prog W base (fun _ => true) held n 111 cs = some x) (hc : ∀ j, j < 9 → W.cell? ⟨b, o + j, none⟩ = cs[j]?) : ∃ y : Wl, WellAt W b o y := by
  obtain ⟨xs, k, -, -, hl, hxl, hf⟩ := DataW.trod_struct Try.underlying111 h
  rw [cells111] at hl
  match cs, hl with
  | [v0, v1, v2, v3, v4, v5, v6, v7, v8], _ =>
    match xs, hxl with
    | [y0, y1, y2, y3, y4, y5, y6], _ =>
      have g0 := hf 0 _ rfl
      have g1 := hf 1 _ rfl
      have g2 := hf 2 _ rfl
      have g3 := hf 3 _ rfl
      have g4 := hf 4 _ rfl
      have g5 := hf 5 _ rfl
      have g6 := hf 6 _ rfl
      simp [cells3, cells24, cells43] at g0 g1 g2 g3 g4 g5 g6
      obtain ⟨a0, ha0, -, -⟩ := DataW.trod_int Try.underlying3 g0
      obtain ⟨a1, ha1, -, -⟩ := DataW.trod_int Try.underlying3 g1
      obtain ⟨a2, ha2, -, -⟩ := DataW.trod_int Try.underlying3 g2
      obtain ⟨a3, b3, ha3⟩ := trod_span g3
      obtain ⟨a4, ha4, -, -⟩ := DataW.trod_int Try.underlying3 g4
      obtain ⟨a5, b5, ha5⟩ := trod_span g5
      obtain ⟨a6, ha6, -, -⟩ := DataW.trod_int Try.underlying3 g6
      simp at ha0 ha1 ha2 ha3 ha4 ha5 ha6
      subst ha0
      subst ha1
      subst ha2
      obtain ⟨rfl, rfl⟩ := ha3
      subst ha4
      obtain ⟨rfl, rfl⟩ := ha5
      subst ha6
      exact ⟨⟨a0, a1, a2, (a3, b3), a4, (a5, b5), a6⟩, hc 0 (by omega), hc 1 (by omega), hc 2 (by omega), hc 3 (by omega), hc 4 (by omega), hc 5 (by omega), hc 6 (by omega), hc 7 (by omega), hc 8 (by omega)⟩
theorem at_leg (n : Nat) (cs : List Value) (x : DataW H × List MemPlace) (b o : Nat) (h : DataW.trod enc Try.prog W base (fun _ => true) held n 45 cs = some x) (hc : ∀ j, j < 5 → W.cell? ⟨b, o + j, none⟩ = cs[j]?) : ∃ y : Lg, LegAt W.heap.size W b o y := by
  obtain ⟨xs, k, -, -, hl, hxl, hf⟩ := DataW.trod_struct Try.underlying45 h
  rw [cells45] at hl
  match cs, hl with
  | [v0, v1, v2, v3, v4], _ =>
    match xs, hxl with
    | [y0, y1, y2, y3], _ =>
      have g0 := hf 0 _ rfl
      have g1 := hf 1 _ rfl
      have g2 := hf 2 _ rfl
      have g3 := hf 3 _ rfl
      simp [cells3, cells24, cells43] at g0 g1 g2 g3
      obtain ⟨a0, ha0, -, -⟩ := DataW.trod_int Try.underlying3 g0
      obtain ⟨a1, ha1, -, -⟩ := DataW.trod_int Try.underlying3 g1
      obtain ⟨a2, b2, ha2⟩ := trod_span g2
      simp at ha0 ha1 ha2
      subst ha0
      subst ha1
      obtain ⟨rfl, rfl⟩ := ha2
      obtain ⟨ga, gl, gcap, gs, hg1, hg2, hg3, -, -⟩ := list_of (at_ := GateAt) Try.underlying43 cells98 (by omega) at_gate g3
      simp at hg1
      subst hg1 hg2
      exact ⟨⟨a0, a1, (a2, b2), gs⟩, hc 0 (by omega), hc 1 (by omega), hc 2 (by omega), hc 3 (by omega), ga, gcap, hc 4 (by omega), hg3⟩

theorem shapeDraws {v : Value} {d : DataW H} {ps : List MemPlace} {b0 : Nat} (hv : Value.okWide Try.prog W .any b0 55 v) (h : DataW.Trod enc Try.prog W base (fun _ => true) held 55 v d ps) : ∃ a cap, ∃ ds : List Dr, v = .slice a ds.length cap ∧ DrawsIn W a ds ∧ (a = none → ds.length = 0 ∧ cap = 0) := by
  obtain ⟨fuel, h⟩ := h
  obtain ⟨a, len, cap, xs, h1, h2, h3, h4, -⟩ := list_of (at_ := DrawAt) Try.underlying55 cells54 (by omega) at_draw h
  subst h2
  refine ⟨a, cap, xs, ?_, h3, h4⟩
  simp only [Value.okWide, Try.underlying55] at hv
  cases v <;> simp_all [Value.cells, Cell.okWide, Cell.ok]
theorem shapeLand {v : Value} {d : DataW H} {ps : List MemPlace} {b0 : Nat} (hv : Value.okWide Try.prog W .any b0 31 v) (h : DataW.Trod enc Try.prog W base (fun _ => true) held 31 v d ps) :
    ∃ a1 a2 cap1 cap2, ∃ (ws : List Wl) (ls : List Lg), v = .agg #[.slice a1 ws.length cap1, .slice a2 ls.length cap2] ∧ LandIn W.heap.size W a1 a2 ws ls := by
  simp only [Value.okWide, Try.underlying31] at hv
  obtain ⟨cs, rfl, hsz, -⟩ := hv
  obtain ⟨fuel, h⟩ := h
  obtain ⟨xs, k, -, -, hl, hxl, hf⟩ := DataW.trod_struct Try.underlying31 h
  obtain ⟨cs⟩ := cs
  rw [cells31] at hsz
  match cs, hsz with
  | [v0, v1], _ =>
    match xs, hxl with
    | [y0, y1], _ =>
      have g0 := hf 0 _ rfl
      have g1 := hf 1 _ rfl
      simp [cells28, cells29, Value.cells] at g0 g1
      obtain ⟨a1, len1, cap1, ws, h1, h2, h3, -, h5⟩ := list_of (at_ := WellAt) Try.underlying28 cells111 (by omega) at_well g0
      obtain ⟨a2, len2, cap2, ls, k1, k2, k3, -, k5⟩ := list_of (at_ := LegAt W.heap.size) Try.underlying29 cells45 (by omega) at_leg g1
      simp at h1 k1
      subst h1 k1 h2 k2
      exact ⟨a1, a2, cap1, cap2, ws, ls, rfl, ⟨h3, k3, h5, k5⟩⟩
end
end Go.Proofs.Ytkodjegpdkfjkaa
