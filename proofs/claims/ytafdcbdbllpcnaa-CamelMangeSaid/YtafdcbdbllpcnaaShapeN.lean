/- The shape of the arguments: numbers, a span, lists of numbers and of meetings. -/
import Derived.Test.YtafdcbdbllpcnaaShapeL
import Derived.Test.YtafdcbdbllpcnaaMtCl
namespace Go.Proofs.Ytafdcbdbllpcnaa
open Go.ChangeShapes Go.WideShapes Go.ChangeAt Go.RowKit
open Go.Proofs

set_option maxRecDepth 100000
section
variable {H : Type} {enc : TypeId × Value → H} {W : World} {base : Nat} {spare : Nat → Bool} {held : Bool}

theorem cells79 : Try.prog.cellsOf 79 = 4 := by kernel_rfl
theorem types31 : Try.prog.cellTypes Try.prog.depth 31 = some (List.replicate 2 3) := by kernel_rfl
theorem shapeI {w : World} {r : Reach} {b0 : Nat} {v : Value} (h : Value.okWide Try.prog w r b0 3 v) : ∃ n, v = .int .i64 n := by
  simp only [Value.okWide, Try.underlying3] at h
  exact cell_int Try.underlying3 h
theorem shapeS {w : World} {r : Reach} {b0 : Nat} {v : Value} (h : Value.okWide Try.prog w r b0 31 v) : ∃ s : Int × Int, v = .agg #[.int .i64 s.1, .int .i64 s.2] := by
  obtain ⟨cs, rfl, hs, hc⟩ := shape_cells 2 Try.underlying31 (by kernel_rfl) types31 (by simp) h
  obtain ⟨f, hf⟩ := ints_of (cs := cs) (n := 2) fun i hi => by
    obtain ⟨c, u, h1, h2, h3⟩ := hc i hi
    rw [List.getElem?_replicate, if_pos hi] at h2
    obtain rfl := Option.some.inj h2
    obtain ⟨n, rfl⟩ := cell_int Try.underlying3 h3
    exact ⟨n, h1⟩
  refine ⟨(f 0, f 1), ?_⟩
  have e := cells_eq (cs := cs) ((List.range 2).map fun i => .int .i64 (f i)) (by simpa using hs) (fun i hi => by
    simp only [List.length_map, List.length_range] at hi
    rw [hf i hi]; simp [hi])
  subst e
  rfl
theorem trod_meet {n : Nat} {cs : List Value} {x : DataW H × List MemPlace} (h : DataW.trod enc Try.prog W base spare held n 79 cs = some x) : ∃ c : Mt, cs = mtCells c := by
  obtain ⟨xs, k, -, -, hl, hxl, hf⟩ := DataW.trod_struct Try.underlying79 h
  rw [cells79] at hl
  match cs, hl with
  | [v0, v1, v2, v3], _ =>
    match xs, hxl with
    | [y0, y1, y2, y3], _ =>
      have g0 := hf 0 _ rfl
      have g1 := hf 1 _ rfl
      have g2 := hf 2 _ rfl
      have g3 := hf 3 _ rfl
      simp [cells4, cells3] at g0 g1 g2 g3
      obtain ⟨a0, h0, -, -⟩ := DataW.trod_int Try.underlying3 g0
      obtain ⟨a1, h1, -, -⟩ := DataW.trod_int Try.underlying3 g1
      obtain ⟨a2, h2, -, -⟩ := DataW.trod_int Try.underlying3 g2
      obtain ⟨a3, h3, -⟩ := DataW.trod_bool Try.underlying4 g3
      simp at h0 h1 h2 h3
      subst h0 h1 h2 h3
      exact ⟨⟨a0, a1, a2, a3⟩, rfl⟩

theorem shapeMeets {v : Value} {d : DataW H} {ps : List MemPlace} {b0 : Nat} (hv : Value.okWide Try.prog W .any b0 28 v) (h : DataW.Trod enc Try.prog W base (fun _ => true) held 28 v d ps) : ∃ a cap ms, v = .slice a ms.length cap ∧ MeetsIn W a cap ms := by
  rcases okWide_slice Try.underlying28 hv with rfl | ⟨b, off, len, cap, rfl, hlc, hb⟩
  · exact ⟨none, 0, [], rfl, .inl ⟨rfl, rfl, rfl⟩⟩
  · obtain ⟨fuel, h⟩ := h
    rcases Go.Deep.open_slice Try.underlying28 h with ⟨h, -⟩ | ⟨a, len', cap', m, n, D, Pl, he, -, -, -, hm, hx, hel⟩
    · simp [Value.cells] at h
    · simp [Value.cells] at he
      obtain ⟨rfl, rfl, rfl⟩ := he
      simp at hm
      subst hm
      obtain ⟨ms, hl, hms⟩ := choose_list len (fun i (m : Mt) => MeetAt W b (off + i * 4) m) (fun i hi => by
        obtain ⟨cs, h1, h2⟩ := hel i (by omega)
        obtain ⟨m, rfl⟩ := trod_meet h2
        refine ⟨m, ?_⟩
        rw [cells79] at h1
        obtain ⟨-, -, hc⟩ := World.cells?_some h1
        have k : ∀ j, j < 4 → W.cell? ⟨b, off + i * 4 + j, none⟩ = (mtCells m)[j]? := by
          intro j hj
          have := hc j hj
          rw [add_none, add_none] at this
          exact this
        exact ⟨k 0 (by omega), k 1 (by omega), k 2 (by omega), k 3 (by omega)⟩)
      exact ⟨some ⟨b, off, none⟩, _, ms, by rw [hl], .inr ⟨b, off, rfl, hms, hb⟩⟩
theorem shapeInts {v : Value} {d : DataW H} {ps : List MemPlace} {b0 : Nat} (hv : Value.okWide Try.prog W .any b0 27 v) (h : DataW.Trod enc Try.prog W base (fun _ => true) held 27 v d ps) : ∃ a cap ms, v = .slice a ms.length cap ∧ IntsIn W a cap ms := by
  rcases okWide_slice Try.underlying27 hv with rfl | ⟨b, off, len, cap, rfl, hlc, hb⟩
  · exact ⟨none, 0, [], rfl, .inl ⟨rfl, rfl, rfl⟩⟩
  · obtain ⟨fuel, h⟩ := h
    rcases Go.Deep.open_slice Try.underlying27 h with ⟨h, -⟩ | ⟨a, len', cap', m, n, D, Pl, he, -, -, -, hm, hx, hel⟩
    · simp [Value.cells] at h
    · simp [Value.cells] at he
      obtain ⟨rfl, rfl, rfl⟩ := he
      simp at hm
      subst hm
      obtain ⟨ms, hl, hms⟩ := choose_list len (fun i (m : Int) => W.cell? ⟨b, off + i, none⟩ = some (.int .i64 m)) (fun i hi => by
        obtain ⟨cs, h1, h2⟩ := hel i (by omega)
        obtain ⟨m, rfl, -, -⟩ := DataW.trod_int Try.underlying3 h2
        refine ⟨m, ?_⟩
        rw [cells3] at h1
        obtain ⟨-, -, hc⟩ := World.cells?_some h1
        have := hc 0 (by omega)
        rw [add_none, add_none, Nat.mul_one] at this
        exact this)
      exact ⟨some ⟨b, off, none⟩, _, ms, by rw [hl], .inr ⟨b, off, rfl, hms, hb⟩⟩
end
end Go.Proofs.Ytafdcbdbllpcnaa
