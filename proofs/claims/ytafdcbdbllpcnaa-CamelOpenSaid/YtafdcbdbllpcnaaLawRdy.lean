/- The shape of the arguments: numbers, a span, lists of numbers and of meetings. -/
import Derived.Test.YtafdcbdbllpcnaaShapeL
import Derived.Test.YtafdcbdbllpcnaaMtCl
import Derived.Test.YtafdcbdbllpcnaaSpec3
import Derived.Test.YtafdcbdbllpcnaaLate
import Derived.Test.YtafdcbdbllpcnaaDayT
import Derived.Test.YtafdcbdbllpcnaaLeafN
namespace Go.Proofs.Ytafdcbdbllpcnaa
open Go.ChangeShapes Go.WideShapes Go.ChangeAt Go.RowKit
open Go.Proofs

set_option maxRecDepth 100000
section
variable {H : Type} {enc : TypeId × Value → H} {W : World} {base : Nat} {spare : Nat → Bool} {held : Bool}

theorem cells79 : Try.prog.cellsOf 79 = 4 := by kernel_rfl
theorem types31 : Try.prog.cellTypes Try.prog.depth 31 = some (List.replicate 2 3) := by kernel_rfl
theorem shapeI {w : World} {r : Reach} {b0 : Nat} {v : Value} (h : Value.okWide Try.prog w r b0 3 v) : ∃ n, v = .int .i64 n := by
  simp only [Value.okWide, Try.underlying3] at h
  exact cell_int Try.underlying3 h
theorem shapeS {w : World} {r : Reach} {b0 : Nat} {v : Value} (h : Value.okWide Try.prog w r b0 31 v) : ∃ s : Int × Int, v = .agg #[.int .i64 s.1, .int .i64 s.2] := by
  obtain ⟨cs, rfl, hs, hc⟩ := shape_cells 2 Try.underlying31 (by kernel_rfl) types31 (by simp) h
  obtain ⟨f, hf⟩ := ints_of (cs := cs) (n := 2) fun i hi => by
    obtain ⟨c, u, h1, h2, h3⟩ := hc i hi
    rw [List.getElem?_replicate, if_pos hi] at h2
    obtain rfl := Option.some.inj h2
    obtain ⟨n, rfl⟩ := cell_int Try.underlying3 h3
    exact ⟨n, h1⟩
  refine ⟨(f 0, f 1), ?_⟩
  have e := cells_eq (cs := cs) ((List.range 2).map fun i => .int .i64 (f i)) (by simpa using hs) (fun i hi => by
    simp only [List.length_map, List.length_range] at hi
    rw [hf i hi]; simp [hi])
  subst e
  rfl
theorem trod_meet {n : Nat} {cs : List Value} {x : DataW H × List MemPlace} (h : DataW.trod enc Try.prog W base spare held n 79 cs = some x) : ∃ c : Mt, cs = mtCells c := by
  obtain ⟨xs, k, -, -, hl, hxl, hf⟩ := DataW.trod_struct Try.underlying79 h
  rw [cells79] at hl
  match cs, hl with
  | [v0, v1, v2, v3], _ =>
    match xs, hxl with
    | [y0, y1, y2, y3], _ =>
      have g0 := hf 0 _ rfl
      have g1 := hf 1 _ rfl
      have g2 := hf 2 _ rfl
      have g3 := hf 3 _ rfl
      simp [cells4, cells3] at g0 g1 g2 g3
      obtain ⟨a0, h0, -, -⟩ := DataW.trod_int Try.underlying3 g0
      obtain ⟨a1, h1, -, -⟩ := DataW.trod_int Try.underlying3 g1
      obtain ⟨a2, h2, -, -⟩ := DataW.trod_int Try.underlying3 g2
      obtain ⟨a3, h3, -⟩ := DataW.trod_bool Try.underlying4 g3
      simp at h0 h1 h2 h3
      subst h0 h1 h2 h3
      exact ⟨⟨a0, a1, a2, a3⟩, rfl⟩

theorem shapeMeets {v : Value} {d : DataW H} {ps : List MemPlace} {b0 : Nat} (hv : Value.okWide Try.prog W .any b0 28 v) (h : DataW.Trod enc Try.prog W base (fun _ => true) held 28 v d ps) : ∃ a cap ms, v = .slice a ms.length cap ∧ MeetsIn W a cap ms := by
  rcases okWide_slice Try.underlying28 hv with rfl | ⟨b, off, len, cap, rfl, hlc, hb⟩
  · exact ⟨none, 0, [], rfl, .inl ⟨rfl, rfl, rfl⟩⟩
  · obtain ⟨fuel, h⟩ := h
    rcases Go.Deep.open_slice Try.underlying28 h with ⟨h, -⟩ | ⟨a, len', cap', m, n, D, Pl, he, -, -, -, hm, hx, hel⟩
    · simp [Value.cells] at h
    · simp [Value.cells] at he
      obtain ⟨rfl, rfl, rfl⟩ := he
      simp at hm
      subst hm
      obtain ⟨ms, hl, hms⟩ := choose_list len (fun i (m : Mt) => MeetAt W b (off + i * 4) m) (fun i hi => by
        obtain ⟨cs, h1, h2⟩ := hel i (by omega)
        obtain ⟨m, rfl⟩ := trod_meet h2
        refine ⟨m, ?_⟩
        rw [cells79] at h1
        obtain ⟨-, -, hc⟩ := World.cells?_some h1
        have k : ∀ j, j < 4 → W.cell? ⟨b, off + i * 4 + j, none⟩ = (mtCells m)[j]? := by
          intro j hj
          have := hc j hj
          rw [add_none, add_none] at this
          exact this
        exact ⟨k 0 (by omega), k 1 (by omega), k 2 (by omega), k 3 (by omega)⟩)
      exact ⟨some ⟨b, off, none⟩, _, ms, by rw [hl], .inr ⟨b, off, rfl, hms, hb⟩⟩
theorem shapeInts {v : Value} {d : DataW H} {ps : List MemPlace} {b0 : Nat} (hv : Value.okWide Try.prog W .any b0 27 v) (h : DataW.Trod enc Try.prog W base (fun _ => true) held 27 v d ps) : ∃ a cap ms, v = .slice a ms.length cap ∧ IntsIn W a cap ms := by
  rcases okWide_slice Try.underlying27 hv with rfl | ⟨b, off, len, cap, rfl, hlc, hb⟩
  · exact ⟨none, 0, [], rfl, .inl ⟨rfl, rfl, rfl⟩⟩
  · obtain ⟨fuel, h⟩ := h
    rcases Go.Deep.open_slice Try.underlying27 h with ⟨h, -⟩ | ⟨a, len', cap', m, n, D, Pl, he, -, -, -, hm, hx, hel⟩
    · simp [Value.cells] at h
    · simp [Value.cells] at he
      obtain ⟨rfl, rfl, rfl⟩ := he
      simp at hm
      subst hm
      obtain ⟨ms, hl, hms⟩ := choose_list len (fun i (m : Int) => W.cell? ⟨b, off + i, none⟩ = some (.int .i64 m)) (fun i hi => by
        obtain ⟨cs, h1, h2⟩ := hel i (by omega)
        obtain ⟨m, rfl, -, -⟩ := DataW.trod_int Try.underlying3 h2
        refine ⟨m, ?_⟩
        rw [cells3] at h1
        obtain ⟨-, -, hc⟩ := World.cells?_some h1
        have := hc 0 (by omega)
        rw [add_none, add_none, Nat.mul_one] at this
        exact this)
      exact ⟨some ⟨b, off, none⟩, _, ms, by rw [hl], .inr ⟨b, off, rfl, hms, hb⟩⟩
end
end Go.Proofs.Ytafdcbdbllpcnaa
/- Contracts of the outright properties' helpers: ready, at, pick. -/
namespace Go.Proofs.Ytafdcbdbllpcnaa
open Go.RowKit
open Go.Proofs

attribute [local go_sem ↓] exec36l exec112l exec36s exec112s exec31s run_min2 run_max2
attribute [local go_sem] load36 load112 store36 store112 store31 build112 rowOf_alloc rowOf_drew setRow_alloc one_int one_bool run_min4

theorem exec45l : ∀ ρ dst x ty pos after guard, execOp ρ { dst, op := .load 45 x, type := ty, pos, after, guard } = wideLoad 45 (ρ x) := execOp_wideLoad 45
theorem load45 (g : Nat) (w : World) : (wideLoad 45 (.pointer (some ⟨g, 0, none⟩))).run Try.prog w = match rowOf w g with
      | some cs => if cs.size = 8 then .ok (.value (.agg cs)) w else wideLoadElse Try.prog 45 g w
      | none => wideLoadElse Try.prog 45 g w := run_wideLoad (P := Try.prog) 8 Try.underlying45 rfl info45 g w
theorem cams_row {W : World} {g : Nat} {cs : List Cm} (h : rowOf W g = some (cs.flatMap camCells).toArray) : CamelsAt W g 0 cs := by
  obtain ⟨hc, -, -⟩ := cell_of_rowOf h
  intro k hk
  have key : ∀ i v, (camCells cs[k])[i]? = some v → W.cell? ⟨g, 0 + k * 7 + i, none⟩ = some v := by
    intro i v hv
    have hi : i < 7 := (List.getElem?_eq_some_iff.1 hv).1
    rw [hc, ← hv, ← flat_at camCells 7 (fun _ => rfl) cs k i hk hi, List.getElem?_toArray, Nat.zero_add]
  exact ⟨key 0 _ rfl, key 1 _ rfl, key 2 _ rfl, key 3 _ rfl, key 4 _ rfl, key 5 _ rfl, key 6 _ rfl⟩
theorem mars_row {W : World} {g : Nat} {ms : List Mr} (h : rowOf W g = some (ms.flatMap marCells).toArray) : MarchesAt W g 0 ms := by
  obtain ⟨hc, -, -⟩ := cell_of_rowOf h
  intro k hk
  have key : ∀ i v, (marCells ms[k])[i]? = some v → W.cell? ⟨g, 0 + k * 8 + i, none⟩ = some v := by
    intro i v hv
    have hi : i < 8 := (List.getElem?_eq_some_iff.1 hv).1
    rw [hc, ← hv, ← flat_at marCells 8 (fun _ => rfl) ms k i hk hi, List.getElem?_toArray, Nat.zero_add]
  exact ⟨key 0 _ rfl, key 1 _ rfl, key 2 _ rfl, key 3 _ rfl, key 4 _ rfl, key 5 _ rfl, key 6 _ rfl, key 7 _ rfl⟩
theorem days_row {W : World} {g : Nat} {ms : List Mr} (cap : Nat) (h : rowOf W g = some (ms.flatMap marCells).toArray) : DaysIn W (some ⟨g, 0, none⟩) cap ms := .inr ⟨g, 0, rfl, mars_row h, (cell_of_rowOf h).2.2⟩

/-- A breed, an animal and days are valid. -/
def rdyS (b : Br) (c : Cm) (ms : List Mr) : Bool := decide (chkC b c = 0) && decide (ms.length ≤ 60) && ms.all okM

set_option maxRecDepth 100000 in
set_option maxHeartbeats 1000000 in
theorem ready_all (b : Br) (c : Cm) (a : Option Addr) (cap n : Nat) (ms : List Mr) (y : Bool) (w : World) (hn : n = ms.length) (h : DaysIn w a cap ms) (h0 : chkC b c = 0) (h6 : n ≤ 60) (hy : ms.all okM = y) :
    Calls Try.prog 44 #[.agg #[.int .i64 b.full, .int .i64 b.fed, .int .i64 b.rest.1, .int .i64 b.rest.2, .int .i64 b.heat.1, .int .i64 b.heat.2, .int .i64 b.toil.1, .int .i64 b.toil.2, .int .i64 b.burn.1, .int .i64 b.burn.2, .int .i64 b.rub.1, .int .i64 b.rub.2, .int .i64 b.milk.1, .int .i64 b.milk.2, .int .i64 b.heal, .int .i64 b.strong.1, .int .i64 b.strong.2], .agg #[.int .i64 c.water.1, .int .i64 c.water.2, .int .i64 c.fat.1, .int .i64 c.fat.2, .int .i64 c.sore.1, .int .i64 c.sore.2, .bool c.milks], .slice a n cap] w fun e w' => e = .returned (.bool y) ∧ Below w.heap.size w w' := by
  have HX := Lib.hid hy
  have HC := Lib.hid h0
  have HS := Lib.hid h
  have HN := Lib.hid hn
  have hn60 : ¬ (60 : Int) < (n : Int) := by omega
  clear hy h0 h hn
  go_enter Try.func44, Try.ntmps44
  go_wp2_with fail
  refine (rchkC_x b c _ HC.out _).mono ?_
  rintro e W1 ⟨rfl, hB⟩
  have hW1 : Below w.heap.size w W1 := Below.trans (by go_grown) (hB.mono (by simp; try omega))
  have zW1 := hW1.size
  clear hB
  go_wp2_with fail
  go_loopw [20] (fun i wr => ∃ k : Nat, k ≤ n ∧ i = .int .i64 k ∧ Hid ((ms.take k).all okM = true) ∧ Below w.heap.size w wr) (fun i _ => n - (intOf i).toNat)
  case atStart => exact ⟨0, Nat.zero_le _, rfl, by simp [Hid], hW1⟩
  case round =>
    obtain ⟨k, hk, rfl, hall, hB0⟩ := hrel
    have hz := hB0.size
    by_cases hlt : k < n
    · have hkl : k < ms.length := by have := HN.out; omega
      have hlt' : (k : Int) < (n : Int) := by omega
      rcases HS.out with ⟨-, -, hnil⟩ | ⟨g, off, rfl, hms, hg⟩
      · rw [hnil] at hkl; simp at hkl
      · obtain ⟨c0, c1, c2, c3, c4, c5, c6, c7⟩ := march_below hB0 hg (hms k hkl)
        clear hms
        generalize hm : ms[k] = m at *
        have Hm := Lib.hid hm
        clear hm
        cases hok : okM m with
        | false =>
          have HK := Lib.hid hok
          clear hok
          go_wp2_with fail
          refine (rMarch_x m _ HK.out _).mono ?_
          rintro e W ⟨rfl, hB⟩
          have hw : Below w.heap.size w W := hB0.trans (Below.trans (by go_grown) (hB.mono (by first | exact hz | (simp; omega))))
          clear hB
          go_wp2
          go_returns
          exact ⟨ret_bool (by rw [← HX.out, all_noM ms k hkl (by rw [Hm.out]; exact HK.out)]), hw⟩
        | true =>
          have HK := Lib.hid hok
          clear hok
          go_wp2_with fail
          refine (rMarch_x m _ HK.out _).mono ?_
          rintro e W ⟨rfl, hB⟩
          have hw : Below w.heap.size w W := hB0.trans (Below.trans (by go_grown) (hB.mono (by first | exact hz | (simp; omega))))
          clear hB
          go_wp2
          exact ⟨⟨k + 1, by omega, by go_num, all_stepM ms k hkl hall.out (by rw [Hm.out]; exact HK.out), hw⟩, by simp [intOf]; omega⟩
    · obtain rfl : k = n := by omega
      go_wp2
      go_returns
      have h := hall.out
      rw [HN.out, List.take_length] at h
      exact ⟨ret_bool (by rw [← HX.out, h]), hB0⟩
theorem ready_many (b : Br) (c : Cm) (a : Option Addr) (cap n : Nat) (w : World) (h0 : chkC b c = 0) (h6 : 60 < n) :
    Calls Try.prog 44 #[.agg #[.int .i64 b.full, .int .i64 b.fed, .int .i64 b.rest.1, .int .i64 b.rest.2, .int .i64 b.heat.1, .int .i64 b.heat.2, .int .i64 b.toil.1, .int .i64 b.toil.2, .int .i64 b.burn.1, .int .i64 b.burn.2, .int .i64 b.rub.1, .int .i64 b.rub.2, .int .i64 b.milk.1, .int .i64 b.milk.2, .int .i64 b.heal, .int .i64 b.strong.1, .int .i64 b.strong.2], .agg #[.int .i64 c.water.1, .int .i64 c.water.2, .int .i64 c.fat.1, .int .i64 c.fat.2, .int .i64 c.sore.1, .int .i64 c.sore.2, .bool c.milks], .slice a n cap] w fun e w' => e = .returned (.bool false) ∧ Below w.heap.size w w' := by
  have HC := Lib.hid h0
  have hn60 : (60 : Int) < (n : Int) := by omega
  clear h0
  go_enter Try.func44, Try.ntmps44
  go_wp2_with fail
  refine (rchkC_x b c _ HC.out _).mono ?_
  rintro e W1 ⟨rfl, hB⟩
  have hW1 : Below w.heap.size w W1 := Below.trans (by go_grown) (hB.mono (by simp; try omega))
  have zW1 := hW1.size
  clear hB
  go_wp2
  go_returns
  exact ⟨rfl, hW1⟩
theorem ready_bad (b : Br) (c : Cm) (a : Option Addr) (cap n : Nat) (x : Int) (w : World) (hx : chkC b c = x) (h0 : x ≠ 0) :
    Calls Try.prog 44 #[.agg #[.int .i64 b.full, .int .i64 b.fed, .int .i64 b.rest.1, .int .i64 b.rest.2, .int .i64 b.heat.1, .int .i64 b.heat.2, .int .i64 b.toil.1, .int .i64 b.toil.2, .int .i64 b.burn.1, .int .i64 b.burn.2, .int .i64 b.rub.1, .int .i64 b.rub.2, .int .i64 b.milk.1, .int .i64 b.milk.2, .int .i64 b.heal, .int .i64 b.strong.1, .int .i64 b.strong.2], .agg #[.int .i64 c.water.1, .int .i64 c.water.2, .int .i64 c.fat.1, .int .i64 c.fat.2, .int .i64 c.sore.1, .int .i64 c.sore.2, .bool c.milks], .slice a n cap] w fun e w' => e = .returned (.bool false) ∧ Below w.heap.size w w' := by
  have HC := Lib.hid hx
  have hne : (x == 0) = false := by simpa using h0
  clear hx
  go_enter Try.func44, Try.ntmps44
  go_wp2_with fail
  refine (rchkC_x b c _ HC.out _).mono ?_
  rintro e W1 ⟨rfl, hB⟩
  have hW1 : Below w.heap.size w W1 := Below.trans (by go_grown) (hB.mono (by simp; try omega))
  have zW1 := hW1.size
  clear hB
  go_wp2
  go_returns
  exact ⟨rfl, hW1⟩
theorem ready_any (b : Br) (c : Cm) (a : Option Addr) (cap n : Nat) (ms : List Mr) (y : Bool) (w : World) (hn : n = ms.length) (h : DaysIn w a cap ms) (hy : rdyS b c ms = y) :
    Calls Try.prog 44 #[.agg #[.int .i64 b.full, .int .i64 b.fed, .int .i64 b.rest.1, .int .i64 b.rest.2, .int .i64 b.heat.1, .int .i64 b.heat.2, .int .i64 b.toil.1, .int .i64 b.toil.2, .int .i64 b.burn.1, .int .i64 b.burn.2, .int .i64 b.rub.1, .int .i64 b.rub.2, .int .i64 b.milk.1, .int .i64 b.milk.2, .int .i64 b.heal, .int .i64 b.strong.1, .int .i64 b.strong.2], .agg #[.int .i64 c.water.1, .int .i64 c.water.2, .int .i64 c.fat.1, .int .i64 c.fat.2, .int .i64 c.sore.1, .int .i64 c.sore.2, .bool c.milks], .slice a n cap] w fun e w' => e = .returned (.bool y) ∧ Below w.heap.size w w' := by
  subst hy
  by_cases h0 : chkC b c = 0
  · by_cases h6 : n ≤ 60
    · exact ready_all b c a cap n ms _ w hn h h0 h6 (by simp [rdyS, h0, show ms.length ≤ 60 by omega])
    · rw [show rdyS b c ms = false by simp [rdyS, show ¬ ms.length ≤ 60 by omega]]
      exact ready_many b c a cap n w h0 (by omega)
  · rw [show rdyS b c ms = false by simp [rdyS, h0]]
    exact ready_bad b c a cap n _ w rfl h0
end Go.Proofs.Ytafdcbdbllpcnaa
