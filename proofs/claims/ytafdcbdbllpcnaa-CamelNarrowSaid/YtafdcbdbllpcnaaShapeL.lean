/- Contract of package camel's Thirst: how much water animals need, or the error, for every breed and list. -/
import Derived.Test.YtafdcbdbllpcnaaLeafN
import Derived.Test.YtafdcbdbllpcnaaBig
import Derived.Test.YtafdcbdbllpcnaaLate
import Derived.Deep.Slices
import Derived.ChangeArms
namespace Go.Proofs.Ytafdcbdbllpcnaa
open Go.RowKit
open Go.Proofs

attribute [local go_sem ↓] exec36l exec112l exec36s exec112s exec31s run_min2 run_max2
attribute [local go_sem] load36 load112 store36 store112 store31 build112 rowOf_alloc rowOf_drew setRow_alloc one_int one_bool run_min4

/-- A list of animals that was handed over: nil, or so many that lie one behind the other. -/
def HerdIn (w : World) (a : Option Addr) (cap : Nat) (cs : List Cm) : Prop :=
  (a = none ∧ cap = 0 ∧ cs = []) ∨ ∃ g off, a = some ⟨g, off, none⟩ ∧ CamelsAt w g off cs ∧ g < w.heap.size
def thR (b : Br) (cs : List Cm) : (Int × Int) × Int := if okB b = true then (if 30 < cs.length then ((0, 0), 4) else thGo b cs (0, 0)) else ((0, 0), 10)

set_option maxRecDepth 100000 in
set_option maxHeartbeats 1000000 in
theorem Thirst_any (b : Br) (a : Option Addr) (cap : Nat) (cs : List Cm) (w : World) (h : HerdIn w a cap cs) (hl : cs.length ≤ 100000) :
    Calls Try.prog 18 #[.agg #[.int .i64 b.full, .int .i64 b.fed, .int .i64 b.rest.1, .int .i64 b.rest.2, .int .i64 b.heat.1, .int .i64 b.heat.2, .int .i64 b.toil.1, .int .i64 b.toil.2, .int .i64 b.burn.1, .int .i64 b.burn.2, .int .i64 b.rub.1, .int .i64 b.rub.2, .int .i64 b.milk.1, .int .i64 b.milk.2, .int .i64 b.heal, .int .i64 b.strong.1, .int .i64 b.strong.2], .slice a cs.length cap] w fun e w' => e = .returned (.tuple #[.agg #[.int .i64 (thR b cs).1.1, .int .i64 (thR b cs).1.2], .int .i64 (thR b cs).2]) ∧ Below w.heap.size w w' := by
  cases hb : okB b with
  | false =>
    have hv : thR b cs = ((0, 0), 10) := by simp [thR, hb]
    rw [hv]
    have HB := Lib.hid hb
    clear hv hb h
    go_enter Try.func18, Try.ntmps18
    go_wp2_with fail
    refine (CheckBreed_x b _ HB.out _).mono ?_
    rintro e W1 ⟨rfl, hB⟩
    have hW1 : Below w.heap.size w W1 := Below.trans (by go_grown) (hB.mono (by simp; try omega))
    have zW1 := hW1.size
    obtain ⟨rdW1, cdW1, gdW1, zdW1⟩ := keep_row hB (g := w.heap.size + 1) (by repeat (first | with_reducible assumption | with_reducible apply row_here0 | with_reducible apply row_here1 | with_reducible apply row_here2 | with_reducible apply row_here3 | with_reducible apply rowSkip))
    clear hB
    go_wp2
    exact bodyPost_ret (results_row2 Try.results18 rfl (stored_setRow rdW1 _).row rfl (v := .int .i64 10) rfl) rfl ⟨rfl, Below_setRow hW1 (by omega) _⟩
  | true =>
    by_cases h6 : 30 < cs.length
    · have hv : thR b cs = ((0, 0), 4) := by simp [thR, hb, h6]
      rw [hv]
      have HB := Lib.hid hb
      clear hv hb h
      go_enter Try.func18, Try.ntmps18
      go_wp2_with fail
      refine (CheckBreed_x b _ HB.out _).mono ?_
      rintro e W1 ⟨rfl, hB⟩
      have hW1 : Below w.heap.size w W1 := Below.trans (by go_grown) (hB.mono (by simp; try omega))
      have zW1 := hW1.size
      obtain ⟨rdW1, cdW1, gdW1, zdW1⟩ := keep_row hB (g := w.heap.size + 1) (by repeat (first | with_reducible assumption | with_reducible apply row_here0 | with_reducible apply row_here1 | with_reducible apply row_here2 | with_reducible apply row_here3 | with_reducible apply rowSkip))
      clear hB
      go_wp2
      exact bodyPost_ret (results_row2 Try.results18 rfl (stored_setRow rdW1 _).row rfl (v := .int .i64 4) rfl) rfl ⟨rfl, Below_setRow hW1 (by omega) _⟩
    · have hv : thR b cs = thGo b cs (0, 0) := by rw [thR, if_pos hb, if_neg h6]
      rw [hv]
      rcases h with ⟨rfl, rfl, rfl⟩ | ⟨g, off, rfl, h3, h4⟩
      · have HB := Lib.hid hb
        clear hb hv
        go_enter Try.func18, Try.ntmps18
        go_wp2_with fail
        refine (CheckBreed_x b _ HB.out _).mono ?_
        rintro e W1 ⟨rfl, hB⟩
        have hW1 : Below w.heap.size w W1 := Below.trans (by go_grown) (hB.mono (by simp; try omega))
        have zW1 := hW1.size
        obtain ⟨rdW1, cdW1, gdW1, zdW1⟩ := keep_row hB (g := w.heap.size + 1) (by repeat (first | with_reducible assumption | with_reducible apply row_here0 | with_reducible apply row_here1 | with_reducible apply row_here2 | with_reducible apply row_here3 | with_reducible apply rowSkip))
        clear hB
        have hq := fun vs g => rowOf_setRow rdW1 vs g
        go_wp2_with fail
        go_rounds 1
        exact bodyPost_ret (results_row2 Try.results18 rfl (cs := #[.int .i64 0, .int .i64 0]) (stored_setRow (rowSkip rdW1) _).row rfl (v := .int .i64 0) rfl) rfl ⟨rfl, Below_setRow (Below.alloc hW1 zW1 _) (by omega) _⟩
      · exact Thirst_some b g off cap cs w h3 h4 hb (by omega)
end Go.Proofs.Ytafdcbdbllpcnaa
/- The shape of the arguments: lists of days and of animals are lists of their numbers. -/
namespace Go.Proofs.Ytafdcbdbllpcnaa
open Go.ChangeShapes Go.WideShapes Go.ChangeAt Go.RowKit
open Go.Proofs

set_option maxRecDepth 100000
section
variable {H : Type} {enc : TypeId × Value → H} {W : World} {base : Nat} {spare : Nat → Bool} {held : Bool}

theorem cells31 : Try.prog.cellsOf 31 = 2 := by kernel_rfl
theorem cells3 : Try.prog.cellsOf 3 = 1 := by kernel_rfl
theorem cells4 : Try.prog.cellsOf 4 = 1 := by kernel_rfl
theorem cells45 : Try.prog.cellsOf 45 = 8 := by kernel_rfl
theorem cells39 : Try.prog.cellsOf 39 = 7 := by kernel_rfl

theorem trod_span {n : Nat} {cs : List Value} {x : DataW H × List MemPlace} (h : DataW.trod enc Try.prog W base spare held n 31 cs = some x) : ∃ a b, cs = [.int .i64 a, .int .i64 b] := by
  obtain ⟨xs, k, -, -, hl, hxl, hf⟩ := DataW.trod_struct Try.underlying31 h
  rw [cells31] at hl
  match cs, hl with
  | [v0, v1], _ =>
    match xs, hxl with
    | [y0, y1], _ =>
      have g0 := hf 0 _ rfl
      have g1 := hf 1 _ rfl
      simp [cells3] at g0 g1
      obtain ⟨a, ha, -, -⟩ := DataW.trod_int Try.underlying3 g0
      obtain ⟨b, hb, -, -⟩ := DataW.trod_int Try.underlying3 g1
      simp at ha hb
      exact ⟨a, b, by rw [ha, hb]⟩
theorem trod_march {n : Nat} {cs : List Value} {x : DataW H × List MemPlace} (h : DataW.trod enc Try.prog W base spare held n 45 cs = some x) : ∃ m : Mr, cs = marCells m := by
  obtain ⟨xs, k, -, -, hl, hxl, hf⟩ := DataW.trod_struct Try.underlying45 h
  rw [cells45] at hl
  match cs, hl with
  | [v0, v1, v2, v3, v4, v5, v6, v7], _ =>
    match xs, hxl with
    | [y0, y1, y2, y3, y4], _ =>
      have g0 := hf 0 _ rfl
      have g1 := hf 1 _ rfl
      have g2 := hf 2 _ rfl
      have g3 := hf 3 _ rfl
      have g4 := hf 4 _ rfl
      simp [cells3, cells31] at g0 g1 g2 g3 g4
      obtain ⟨a, ha, -, -⟩ := DataW.trod_int Try.underlying3 g0
      obtain ⟨b, hb, -, -⟩ := DataW.trod_int Try.underlying3 g1
      obtain ⟨c0, c1, hc⟩ := trod_span g2
      obtain ⟨d0, d1, hd⟩ := trod_span g3
      obtain ⟨e0, e1, he⟩ := trod_span g4
      simp at ha hb hc hd he
      obtain ⟨rfl, rfl⟩ := hc
      obtain ⟨rfl, rfl⟩ := hd
      obtain ⟨rfl, rfl⟩ := he
      subst ha hb
      exact ⟨⟨a, b, (c0, c1), (d0, d1), (e0, e1)⟩, rfl⟩
theorem trod_camel {n : Nat} {cs : List Value} {x : DataW H × List MemPlace} (h : DataW.trod enc Try.prog W base spare held n 39 cs = some x) : ∃ c : Cm, cs = camCells c := by
  obtain ⟨xs, k, -, -, hl, hxl, hf⟩ := DataW.trod_struct Try.underlying39 h
  rw [cells39] at hl
  match cs, hl with
  | [v0, v1, v2, v3, v4, v5, v6], _ =>
    match xs, hxl with
    | [y0, y1, y2, y3], _ =>
      have g0 := hf 0 _ rfl
      have g1 := hf 1 _ rfl
      have g2 := hf 2 _ rfl
      have g3 := hf 3 _ rfl
      simp [cells4, cells31] at g0 g1 g2 g3
      obtain ⟨c0, c1, hc⟩ := trod_span g0
      obtain ⟨d0, d1, hd⟩ := trod_span g1
      obtain ⟨e0, e1, he⟩ := trod_span g2
      obtain ⟨a, ha, -⟩ := DataW.trod_bool Try.underlying4 g3
      simp at ha hc hd he
      obtain ⟨rfl, rfl⟩ := hc
      obtain ⟨rfl, rfl⟩ := hd
      obtain ⟨rfl, rfl⟩ := he
      subst ha
      exact ⟨⟨(c0, c1), (d0, d1), (e0, e1), a⟩, rfl⟩

/-- A slice that came in: nil, or so many elements behind an address. -/
theorem okWide_slice {t e : TypeId} {v : Value} {r : Reach} (ht : Try.prog.underlying t = some (.slice e)) (hv : Value.okWide Try.prog W r base t v) : v = .slice none 0 0 ∨ ∃ b off len cap, v = .slice (some ⟨b, off, none⟩) len cap ∧ len ≤ cap ∧ b < W.heap.size := by
  simp only [Value.okWide, ht, Cell.okWide, Cell.ok] at hv
  cases v with
  | slice a len cap =>
    cases a with
    | none =>
      cases len with
      | zero =>
        cases cap with
        | zero => exact .inl rfl
        | succ n => exact hv.elim
      | succ n => exact hv.elim
    | some a =>
      obtain ⟨h1, -, -, h2, row, cells, h3, -⟩ := hv
      obtain ⟨b, off, spot⟩ := a
      simp only at h2
      subst h2
      refine .inr ⟨b, off, len, cap, rfl, h1, ?_⟩
      rcases Nat.lt_or_ge b W.heap.size with h | h
      · exact h
      · have hn : W.heap[b]? = none := Array.getElem?_eq_none h
        simp [World.shape?, hn] at h3
  | _ => exact hv.elim

theorem choose_list {α : Type} (n : Nat) (p : Nat → α → Prop) (h : ∀ i, i < n → ∃ x, p i x) : ∃ l : List α, l.length = n ∧ ∀ i (hi : i < l.length), p i l[i] := by
  induction n with
  | zero => exact ⟨[], rfl, fun i hi => by simp at hi⟩
  | succ n ih =>
    obtain ⟨l, hl, hp⟩ := ih (fun i hi => h i (by omega))
    obtain ⟨x, hx⟩ := h n (by omega)
    refine ⟨l ++ [x], by simp [hl], fun i hi => ?_⟩
    by_cases hil : i < l.length
    · rw [List.getElem_append_left hil]; exact hp i hil
    · obtain rfl : i = l.length := by simp at hi; omega
      simp
      rw [hl]; exact hx

theorem shapeDays {v : Value} {d : DataW H} {ps : List MemPlace} {b0 : Nat} (hv : Value.okWide Try.prog W .any b0 47 v) (h : DataW.Trod enc Try.prog W base (fun _ => true) held 47 v d ps) : ∃ a cap ms, v = .slice a ms.length cap ∧ DaysIn W a cap ms := by
  rcases okWide_slice Try.underlying47 hv with rfl | ⟨b, off, len, cap, rfl, hlc, hb⟩
  · exact ⟨none, 0, [], rfl, .inl ⟨rfl, rfl, rfl⟩⟩
  · obtain ⟨fuel, h⟩ := h
    rcases Go.Deep.open_slice Try.underlying47 h with ⟨h, -⟩ | ⟨a, len', cap', m, n, D, Pl, he, -, -, -, hm, hx, hel⟩
    · simp [Value.cells] at h
    · simp [Value.cells] at he
      obtain ⟨rfl, rfl, rfl⟩ := he
      simp at hm
      subst hm
      obtain ⟨ms, hl, hms⟩ := choose_list len (fun i (m : Mr) => MarchAt W b (off + i * 8) m) (fun i hi => by
        obtain ⟨cs, h1, h2⟩ := hel i (by omega)
        obtain ⟨m, rfl⟩ := trod_march h2
        refine ⟨m, ?_⟩
        rw [cells45] at h1
        obtain ⟨-, -, hc⟩ := World.cells?_some h1
        have k : ∀ j, j < 8 → W.cell? ⟨b, off + i * 8 + j, none⟩ = (marCells m)[j]? := by
          intro j hj
          have := hc j hj
          rw [add_none, add_none] at this
          exact this
        exact ⟨k 0 (by omega), k 1 (by omega), k 2 (by omega), k 3 (by omega), k 4 (by omega), k 5 (by omega), k 6 (by omega), k 7 (by omega)⟩)
      exact ⟨some ⟨b, off, none⟩, _, ms, by rw [hl], .inr ⟨b, off, rfl, hms, hb⟩⟩
theorem shapeHerd {v : Value} {d : DataW H} {ps : List MemPlace} {b0 : Nat} (hv : Value.okWide Try.prog W .any b0 41 v) (h : DataW.Trod enc Try.prog W base (fun _ => true) held 41 v d ps) : ∃ a cap ms, v = .slice a ms.length cap ∧ HerdIn W a cap ms := by
  rcases okWide_slice Try.underlying41 hv with rfl | ⟨b, off, len, cap, rfl, hlc, hb⟩
  · exact ⟨none, 0, [], rfl, .inl ⟨rfl, rfl, rfl⟩⟩
  · obtain ⟨fuel, h⟩ := h
    rcases Go.Deep.open_slice Try.underlying41 h with ⟨h, -⟩ | ⟨a, len', cap', m, n, D, Pl, he, -, -, -, hm, hx, hel⟩
    · simp [Value.cells] at h
    · simp [Value.cells] at he
      obtain ⟨rfl, rfl, rfl⟩ := he
      simp at hm
      subst hm
      obtain ⟨ms, hl, hms⟩ := choose_list len (fun i (m : Cm) => CamelAt W b (off + i * 7) m) (fun i hi => by
        obtain ⟨cs, h1, h2⟩ := hel i (by omega)
        obtain ⟨m, rfl⟩ := trod_camel h2
        refine ⟨m, ?_⟩
        rw [cells39] at h1
        obtain ⟨-, -, hc⟩ := World.cells?_some h1
        have k : ∀ j, j < 7 → W.cell? ⟨b, off + i * 7 + j, none⟩ = (camCells m)[j]? := by
          intro j hj
          have := hc j hj
          rw [add_none, add_none] at this
          exact this
        exact ⟨k 0 (by omega), k 1 (by omega), k 2 (by omega), k 3 (by omega), k 4 (by omega), k 5 (by omega), k 6 (by omega)⟩)
      exact ⟨some ⟨b, off, none⟩, _, ms, by rw [hl], .inr ⟨b, off, rfl, hms, hb⟩⟩
end
end Go.Proofs.Ytafdcbdbllpcnaa
