/- Contracts of the outright properties' helpers over numbers: at, pick, part, inner. -/
import Derived.Test.YtafdcbdbllpcnaaLeafE
import Derived.Test.YtafdcbdbllpcnaaIter
import Derived.Test.YtafdcbdbllpcnaaBigT
import Derived.Test.YtafdcbdbllpcnaaShapeL
namespace Go.Proofs.Ytafdcbdbllpcnaa
open Go.RowKit
open Go.Proofs

attribute [local go_sem ↓] exec36l exec112l exec36s exec112s exec31s run_min2 run_max2
attribute [local go_sem] load36 load112 store36 store112 store31 build112 rowOf_alloc rowOf_drew setRow_alloc one_int one_bool run_min4

theorem span_any (a b : Int) (w : World) :
    Calls Try.prog 17 #[.int .i64 a, .int .i64 b] w fun e w' => e = .returned (.agg #[.int .i64 a, .int .i64 b]) ∧ Below w.heap.size w w' := by
  go_enter Try.func17, Try.ntmps17
  go_wp2
  exact bodyPost_ret (res31 Try.results17 rfl (cs := #[.int .i64 a, .int .i64 b]) (by simp [rowOf_alloc]) rfl) rfl ⟨rfl, by go_grown⟩
/-- A list of numbers that was handed over: nil, or so many that lie one behind the other. -/
def WordsIn (w : World) (a : Option Addr) (cap : Nat) (xs : List Int) : Prop := (a = none ∧ cap = 0 ∧ xs = []) ∨ ∃ g off, a = some ⟨g, off, none⟩ ∧ (∀ k (h : k < xs.length), w.cell? ⟨g, off + k, none⟩ = some (.int .u32 xs[k])) ∧ g < w.heap.size
theorem WordsIn.below {B : Nat} {W W' : World} {a : Option Addr} {cap : Nat} {xs : List Int} (h : WordsIn W a cap xs) (hE : Below B W W') (hs : W.heap.size ≤ B) : WordsIn W' a cap xs := by
  rcases h with h | ⟨g, off, h1, h2, h3⟩
  · exact .inl h
  · exact .inr ⟨g, off, h1, fun k hk => at_belowb hE (by omega) (h2 k hk), Nat.lt_of_lt_of_le h3 hE.size⟩
theorem xt_ext2 {W W' : World} (h : XT [] W W') : Ext W W' := ⟨h.os, h.tape, h.output, h.size, fun k hk => h.block k hk (by simp)⟩
theorem WordsIn.behind {w X W : World} {a : Option Addr} {cap : Nat} {xs : List Int} (h : WordsIn w a cap xs) (hX : Below w.heap.size w X) (hE : Ext X.drew W) : WordsIn W a cap xs :=
  h.below (hX.drew.trans (Below.mono hE (by simpa using hX.size))) (Nat.le_refl _)
theorem WordsIn.behindQ {w X W : World} {a : Option Addr} {cap : Nat} {xs : List Int} (h : WordsIn w a cap xs) (hX : Below w.heap.size w X) (hE : Ext X W) : WordsIn W a cap xs :=
  h.below (hX.trans (Below.mono hE hX.size)) (Nat.le_refl _)
/-- The number of a list with an index, which goes round. -/
def atS (xs : List Int) (i : Nat) : Int := if xs.length = 0 then 0 else xs.getD (i % xs.length) 0
def inU (v : Int) : Prop := 0 ≤ v ∧ v < 4294967296
theorem atS_in {xs : List Int} (h : ∀ x ∈ xs, inU x) (i : Nat) : inU (atS xs i) := by
  unfold atS
  split
  · exact ⟨by omega, by omega⟩
  · have hk : i % xs.length < xs.length := Nat.mod_lt _ (by omega)
    rw [show xs.getD (i % xs.length) 0 = xs[i % xs.length] by simp [hk]]
    exact h _ (List.getElem_mem hk)
set_option maxHeartbeats 1000000 in
theorem at_any (a : Option Addr) (cap n : Nat) (xs : List Int) (i : Nat) (v : Int) (w : World) (hn : n = xs.length) (h : WordsIn w a cap xs) (hi : i < 100000) (hv : atS xs i = v) :
    Calls Try.prog 50 #[.slice a n cap, .int .i64 (i : Int)] w fun e w' => e = .returned (.int .u32 v) ∧ Below w.heap.size w w' := by
  by_cases h0 : n = 0
  · subst h0
    have hv0 : v = 0 := by rw [← hv, atS, if_pos hn.symm]
    subst hv0
    clear h hn
    go_enter Try.func50, Try.ntmps50
    go_wp2
    go_returns
    exact ⟨rfl, by go_grown⟩
  · rcases h with ⟨-, -, h3⟩ | ⟨g, off, rfl, h2, h3⟩
    · rw [h3] at hn; exact absurd hn h0
    · have hk : i % n < xs.length := by rw [← hn]; exact Nat.mod_lt _ (by omega)
      have c0 := h2 _ hk
      have hx : xs[i % n] = v := by rw [← hv, atS, if_neg (by omega), ← hn]; simp only [List.getD]; rw [List.getElem?_eq_getElem hk]; rfl
      rw [hx] at c0
      have hm : Int.tmod (i : Int) (n : Int) = ((i % n : Nat) : Int) := rfl
      have hlt : i % n < n := by omega
      have hle : i % n ≤ i := Nat.mod_le _ _
      have hne : (n : Int) ≠ 0 := by omega
      clear h2 hx hv hn hk
      generalize i % n = r at *
      go_enter Try.func50, Try.ntmps50
      go_wp2
      go_returns
      exact ⟨rfl, by go_grown⟩
/-- The number of a span that is chosen by another one. -/
def pickS (s : Int × Int) (n : Int) : Int := s.1 + n % (s.2 - s.1 + 1)
theorem pickS_in {s : Int × Int} (h : s.1 ≤ s.2) (n : Int) : s.1 ≤ pickS s n ∧ pickS s n ≤ s.2 := by
  unfold pickS
  have h1 := Int.emod_nonneg n (show s.2 - s.1 + 1 ≠ 0 by omega)
  have h2 := Int.emod_lt_of_pos n (show 0 < s.2 - s.1 + 1 by omega)
  omega
set_option maxHeartbeats 1000000 in
theorem pick_any (s : Int × Int) (n v : Int) (w : World) (hs : s.1 ≤ s.2) (h1 : -1000000000 ≤ s.1) (h2 : s.2 ≤ 1000000000) (hn : inU n) (hv : pickS s n = v) :
    Calls Try.prog 49 #[.agg #[.int .i64 s.1, .int .i64 s.2], .int .u32 n] w fun e w' => e = .returned (.int .i64 v) ∧ Below w.heap.size w w' := by
  obtain ⟨n1, n2⟩ := hn
  have hm : Int.tmod n (s.2 - s.1 + 1) = n % (s.2 - s.1 + 1) := Int.tmod_eq_emod_of_nonneg n1
  have k1 := Int.emod_nonneg n (show s.2 - s.1 + 1 ≠ 0 by omega)
  have k2 := Int.emod_lt_of_pos n (show 0 < s.2 - s.1 + 1 by omega)
  have hne : s.2 - s.1 + 1 ≠ 0 := by omega
  subst hv
  unfold pickS
  generalize n % (s.2 - s.1 + 1) = r at *
  go_enter Try.func49, Try.ntmps49
  go_wp2
  go_quiet (fail)
  go_wp2
  go_returns
  exact ⟨rfl, below_drewN (by go_grown) nq⟩
/-- A span within another one. -/
def partS (s : Int × Int) (x y : Int) : Int × Int := (pickS s x, pickS s x + y % (s.2 - pickS s x + 1))
theorem partS_in {s : Int × Int} (h : s.1 ≤ s.2) (x y : Int) : s.1 ≤ (partS s x y).1 ∧ (partS s x y).1 ≤ (partS s x y).2 ∧ (partS s x y).2 ≤ s.2 := by
  obtain ⟨p1, p2⟩ := pickS_in h x
  unfold partS
  have h1 := Int.emod_nonneg y (show s.2 - pickS s x + 1 ≠ 0 by omega)
  have h2 := Int.emod_lt_of_pos y (show 0 < s.2 - pickS s x + 1 by omega)
  simp only
  omega
set_option maxHeartbeats 2000000 in
theorem part_any (s : Int × Int) (x y : Int) (t : Int × Int) (w : World) (hs : s.1 ≤ s.2) (h1 : -1000000000 ≤ s.1) (h2 : s.2 ≤ 1000000000) (hx : inU x) (hy : inU y) (ht : partS s x y = t) :
    Calls Try.prog 52 #[.agg #[.int .i64 s.1, .int .i64 s.2], .int .u32 x, .int .u32 y] w fun e w' => e = .returned (.agg #[.int .i64 t.1, .int .i64 t.2]) ∧ Below w.heap.size w w' := by
  obtain ⟨y1, y2⟩ := hy
  obtain ⟨p, hp⟩ : ∃ p, pickS s x = p := ⟨_, rfl⟩
  have HP := Lib.hid hp
  have HX := Lib.hid hx
  obtain ⟨p1, p2⟩ := pickS_in hs x
  rw [hp] at p1 p2
  have hm : Int.tmod y (s.2 - p + 1) = y % (s.2 - p + 1) := Int.tmod_eq_emod_of_nonneg y1
  have k1 := Int.emod_nonneg y (show s.2 - p + 1 ≠ 0 by omega)
  have k2 := Int.emod_lt_of_pos y (show 0 < s.2 - p + 1 by omega)
  have hne : s.2 - p + 1 ≠ 0 := by omega
  unfold partS at ht
  rw [hp] at ht
  subst ht
  generalize y % (s.2 - p + 1) = r at *
  clear hp hx
  go_enter Try.func52, Try.ntmps52
  go_wp2_with fail
  refine (pick_any s x p _ hs h1 h2 HX.out HP.out).mono ?_
  rintro e W1 ⟨rfl, hB⟩
  have hW1 : Below w.heap.size w W1 := Below.trans (by go_grown) (hB.mono (by simp; try omega))
  have zW1 := hW1.size
  obtain ⟨rsW1, csW1, gsW1, zsW1⟩ := keep_row hB (g := w.heap.size) (by repeat (first | with_reducible assumption | with_reducible apply row_here0 | with_reducible apply row_here1 | with_reducible apply row_here2 | with_reducible apply row_here3 | with_reducible apply rowSkip))
  obtain ⟨rrW1, crW1, grW1, zrW1⟩ := keep_row hB (g := w.heap.size + 1) (by repeat (first | with_reducible assumption | with_reducible apply row_here0 | with_reducible apply row_here1 | with_reducible apply row_here2 | with_reducible apply row_here3 | with_reducible apply rowSkip))
  clear hB
  go_wp2_with fail
  refine (span_any p (p + r) _).mono ?_
  rintro e W2 ⟨rfl, hB⟩
  have hW2 : Below w.heap.size w W2 := hW1.trans (Below.trans (by have := hW1.size; go_grown) (hB.mono (by have := hW1.size; simp; try omega)))
  have zW2 := hW2.size
  obtain ⟨rrW2, crW2, grW2, zrW2⟩ := keep_row hB (g := w.heap.size + 1) (by repeat (first | with_reducible assumption | with_reducible apply row_here0 | with_reducible apply row_here1 | with_reducible apply row_here2 | with_reducible apply row_here3 | with_reducible apply rowSkip))
  clear hB
  go_wp2
  exact bodyPost_ret (res31 Try.results52 rfl (stored_setRow rrW2 _).row rfl) rfl ⟨rfl, Below_setRow hW2 (by omega) _⟩
set_option maxHeartbeats 1000000 in
theorem inner_any (s t : Int × Int) (v : Bool) (w : World) (hv : (decide (t.1 ≤ s.1) && decide (s.2 ≤ t.2)) = v) :
    Calls Try.prog 53 #[.agg #[.int .i64 s.1, .int .i64 s.2], .agg #[.int .i64 t.1, .int .i64 t.2]] w fun e w' => e = .returned (.bool v) ∧ Below w.heap.size w w' := by
  subst hv
  by_cases h1 : t.1 ≤ s.1
  · by_cases h2 : s.2 ≤ t.2
    · rw [show (decide (t.1 ≤ s.1) && decide (s.2 ≤ t.2)) = true by simp [h1, h2]]
      go_enter Try.func53, Try.ntmps53
      go_wp2
      go_returns
      exact ⟨rfl, by go_grown⟩
    · rw [show (decide (t.1 ≤ s.1) && decide (s.2 ≤ t.2)) = false by simp [h2]]
      have h3 : ¬ s.2 ≤ t.2 := h2
      go_enter Try.func53, Try.ntmps53
      go_wp2
      go_returns
      exact ⟨rfl, by go_grown⟩
  · rw [show (decide (t.1 ≤ s.1) && decide (s.2 ≤ t.2)) = false by simp [h1]]
    go_enter Try.func53, Try.ntmps53
    go_wp2
    go_returns
    exact ⟨rfl, by go_grown⟩
end Go.Proofs.Ytafdcbdbllpcnaa
/- The shape of the arguments: lists of numbers of 32 bits. -/
namespace Go.Proofs.Ytafdcbdbllpcnaa
open Go.ChangeShapes Go.WideShapes Go.ChangeAt Go.RowKit
open Go.Proofs

set_option maxRecDepth 100000
section
variable {H : Type} {enc : TypeId × Value → H} {W : World} {base : Nat} {spare : Nat → Bool} {held : Bool}

theorem cells91 : Try.prog.cellsOf 91 = 1 := by kernel_rfl
theorem wf_u32 {n : Int} (h : (Lit.int .u32 n).wf = true) : inU n := by
  simp only [Lit.wf, Bool.and_eq_true, decide_eq_true_eq] at h
  have h1 : IntKind.min .u32 = 0 := by decide
  have h2 : IntKind.max .u32 = 4294967295 := by decide
  rw [h1, h2] at h
  unfold inU
  omega
theorem shapeU {w : World} {r : Reach} {b0 : Nat} {v : Value} (h : Value.okWide Try.prog w r b0 91 v) : ∃ n, v = .int .u32 n := by
  simp only [Value.okWide, Try.underlying91] at h
  exact cell_int Try.underlying91 h
theorem shapeU2 {v : Value} {d : DataW H} {ps : List MemPlace} {b0 : Nat} (hv : Value.okWide Try.prog W .any b0 91 v) (h : DataW.Trod enc Try.prog W base (fun _ => true) held 91 v d ps) : ∃ n, v = .int .u32 n ∧ inU n := by
  obtain ⟨n, rfl⟩ := shapeU hv
  obtain ⟨fuel, h⟩ := h
  obtain ⟨m, he, -, hw⟩ := DataW.trod_int Try.underlying91 h
  simp [Value.cells] at he
  subst he
  exact ⟨_, rfl, wf_u32 hw⟩
theorem shapeWords {v : Value} {d : DataW H} {ps : List MemPlace} {b0 : Nat} (hv : Value.okWide Try.prog W .any b0 82 v) (h : DataW.Trod enc Try.prog W base (fun _ => true) held 82 v d ps) : ∃ a cap ms, v = .slice a ms.length cap ∧ WordsIn W a cap ms ∧ ∀ x ∈ ms, inU x := by
  rcases okWide_slice Try.underlying82 hv with rfl | ⟨b, off, len, cap, rfl, hlc, hb⟩
  · exact ⟨none, 0, [], rfl, .inl ⟨rfl, rfl, rfl⟩, by simp⟩
  · obtain ⟨fuel, h⟩ := h
    rcases Go.Deep.open_slice Try.underlying82 h with ⟨h, -⟩ | ⟨a, len', cap', m, n, D, Pl, he, -, -, -, hm, hx, hel⟩
    · simp [Value.cells] at h
    · simp [Value.cells] at he
      obtain ⟨rfl, rfl, rfl⟩ := he
      simp at hm
      subst hm
      obtain ⟨ms, hl, hms⟩ := choose_list len (fun i (m : Int) => W.cell? ⟨b, off + i, none⟩ = some (.int .u32 m) ∧ inU m) (fun i hi => by
        obtain ⟨cs, h1, h2⟩ := hel i (by omega)
        obtain ⟨m, rfl, -, hw⟩ := DataW.trod_int Try.underlying91 h2
        refine ⟨m, ?_, wf_u32 hw⟩
        rw [cells91] at h1
        obtain ⟨-, -, hc⟩ := World.cells?_some h1
        have := hc 0 (by omega)
        rw [add_none, add_none, Nat.mul_one] at this
        exact this)
      refine ⟨some ⟨b, off, none⟩, _, ms, by rw [hl], .inr ⟨b, off, rfl, fun k hk => (hms k hk).1, hb⟩, fun x hx => ?_⟩
      obtain ⟨k, hk, rfl⟩ := List.mem_iff_getElem.1 hx
      exact (hms k hk).2
end
end Go.Proofs.Ytafdcbdbllpcnaa
