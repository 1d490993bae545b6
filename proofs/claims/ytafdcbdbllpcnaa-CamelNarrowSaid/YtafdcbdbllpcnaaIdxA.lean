/- Contract of package camel's Mange, over that of sickFrom. -/
import Derived.Test.YtafdcbdbllpcnaaLate2
import Derived.Test.YtafdcbdbllpcnaaLeafW
import Derived.Laws.MakeOwn
namespace Go.Proofs.Ytafdcbdbllpcnaa
open Go.RowKit
open Go.Proofs

/-- Spans that lie one behind the other in a block of one's own. -/
def SpOut (W : World) (g : Nat) (ss : List (Int × Int)) : Prop := ∃ cur : Array Value, rowOf W g = some cur ∧ ∀ k, k < ss.length → cur[k * 2]? = some (.int .i64 (ss.getD k (0, 0)).1) ∧ cur[k * 2 + 1]? = some (.int .i64 (ss.getD k (0, 0)).2)
theorem SpOut.get {W : World} {g : Nat} {ss : List (Int × Int)} (h : SpOut W g ss) {k : Nat} (hk : k < ss.length) : W.cell? ⟨g, k * 2, none⟩ = some (.int .i64 (ss.getD k (0, 0)).1) ∧ W.cell? ⟨g, k * 2 + 1, none⟩ = some (.int .i64 (ss.getD k (0, 0)).2) ∧ W.frozen? ⟨g, k * 2, none⟩ = false ∧ W.frozen? ⟨g, k * 2 + 1, none⟩ = false := by
  obtain ⟨cur, h1, h2⟩ := h
  obtain ⟨c, f, z⟩ := cell_of_rowOf h1
  exact ⟨by rw [c]; exact (h2 k hk).1, by rw [c]; exact (h2 k hk).2, f _, f _⟩
theorem SpOut.lt {W : World} {g : Nat} {ss : List (Int × Int)} (h : SpOut W g ss) : g < W.heap.size := by
  obtain ⟨cur, h1, -⟩ := h
  exact (cell_of_rowOf h1).2.2
theorem SpOut.keep {B : Nat} {W W' : World} {g : Nat} {ss : List (Int × Int)} (h : SpOut W g ss) (hB : Below B W W') (hg : g < B) : SpOut W' g ss := by
  obtain ⟨cur, h1, h2⟩ := h
  exact ⟨cur, by rw [← h1]; simp only [rowOf, hB.block g hg], h2⟩
theorem SpOut.alloc {W : World} {g : Nat} {ss : List (Int × Int)} (h : SpOut W g ss) (o : Obj) : SpOut (W.alloc o) g ss := h.keep (ext_alloc _ _) h.lt
theorem SpOut.setOther {W : World} {g h : Nat} {ss : List (Int × Int)} (hs : SpOut W g ss) (k : Nat) (v : Value) (hne : g ≠ h) : SpOut (W.setCell ⟨h, k, none⟩ v) g ss := by
  obtain ⟨cur, h1, h2⟩ := hs
  exact ⟨cur, row_grown h1 (grown_setCell _ _ _) (by simpa using hne), h2⟩
/-- Bytes that lie in a block of one's own. -/
def ByOut (W : World) (g : Nat) (xs : List Int) : Prop := ∃ cur : Array Value, rowOf W g = some cur ∧ ∀ k, k < xs.length → cur[k]? = some (.int .u8 (xs.getD k 0))
theorem ByOut.set {W : World} {g : Nat} {xs : List Int} (h : ByOut W g xs) {k : Nat} (hk : k < xs.length) (v : Int) : ByOut (W.setCell ⟨g, k, none⟩ (.int .u8 v)) g (xs.set k v) := by
  obtain ⟨cur, h1, h2⟩ := h
  refine ⟨_, rowOf_setCell_o h1 _, fun j hj => ?_⟩
  have hj' : j < xs.length := by simpa using hj
  have hkc : k < cur.size := (Array.getElem?_eq_some_iff.1 (h2 k hk)).1
  rw [Array.getElem?_setIfInBounds]
  by_cases e : k = j
  · subst e
    simp [hkc, hk]
  · rw [if_neg e, h2 j hj']
    simp [List.getD, List.getElem?_set_ne e]
theorem ByOut.get {W : World} {g : Nat} {xs : List Int} (h : ByOut W g xs) {k : Nat} (hk : k < xs.length) : W.cell? ⟨g, k, none⟩ = some (.int .u8 (xs.getD k 0)) ∧ W.frozen? ⟨g, k, none⟩ = false ∧ g < W.heap.size := by
  obtain ⟨cur, h1, h2⟩ := h
  obtain ⟨c, f, z⟩ := cell_of_rowOf h1
  exact ⟨by rw [c]; exact h2 k hk, f k, z⟩
theorem ByOut.keep {B : Nat} {W W' : World} {g : Nat} {xs : List Int} (h : ByOut W g xs) (hB : Below B W W') (hg : g < B) : ByOut W' g xs := by
  obtain ⟨cur, h1, h2⟩ := h
  exact ⟨cur, by rw [← h1]; simp only [rowOf, hB.block g hg], h2⟩
theorem ByOut.lt {W : World} {g : Nat} {xs : List Int} (h : ByOut W g xs) : g < W.heap.size := by
  obtain ⟨cur, h1, -⟩ := h
  exact (cell_of_rowOf h1).2.2

/-- What sickFrom hands back. -/
def SickBy (first : List Int) (ms : List Mt) (wt : Int × Int) (day : Int) (nn : Nat) (ss : List (Int × Int)) : Prop := ss.length = nn ∧ ∀ k, k < nn → Knw first ms wt day (k : Int) (if (ss.getD k (0, 0)).2 ≤ day then 2 else if (ss.getD k (0, 0)).1 ≤ day then 1 else 0)
theorem info5y : (Try.prog.info? 5).map (fun i => (i.zero, i.size, i.bytes)) = some (some (.int .u8 0), 1, 1) := by kernel_rfl

set_option maxRecDepth 100000 in
set_option maxHeartbeats 8000000 in
theorem Mange_ok (nn : Nat) (day : Int) (wt : Int × Int) (fa : Option Addr) (fcap nf : Nat) (first : List Int) (ma : Option Addr) (mcap nm : Nat) (ms : List Mt) (w : World) (hnf : nf = first.length) (hnm : nm = ms.length) (hf : IntsIn w fa fcap first) (hm : MeetsIn w ma mcap ms) (hx : chkG (nn : Int) first ms wt day = 0)
    (hsick : ∀ W, Below w.heap.size w W → Calls Try.prog 56 #[.int .i64 (nn : Int), .slice fa nf fcap, .slice ma nm mcap, .agg #[.int .i64 wt.1, .int .i64 wt.2], .int .i64 day] W fun e W' => (∃ g cap ss, e = .returned (.slice (some ⟨g, 0, none⟩) nn cap) ∧ W.heap.size ≤ g ∧ SpOut W' g ss ∧ SickBy first ms wt day nn ss) ∧ Below W.heap.size W W') :
    Calls Try.prog 15 #[.int .i64 (nn : Int), .slice fa nf fcap, .slice ma nm mcap, .agg #[.int .i64 wt.1, .int .i64 wt.2], .int .i64 day] w fun e w' => (∃ g, e = .returned (.tuple #[.slice (some ⟨g, 0, none⟩) nn nn, .int .i64 0]) ∧ w.heap.size ≤ g ∧ ∃ vs : List Int, vs.length = nn ∧ ByOut w' g vs ∧ ∀ i, i < nn → Knw first ms wt day (i : Int) (vs.getD i 0)) ∧ Below w.heap.size w w' := by
  have hfine := chkG_fine hx
  obtain ⟨⟨n1, n2⟩, -⟩ := hfine
  have HF := Lib.hid hf
  have HM := Lib.hid hm
  have HNF := Lib.hid hnf
  have HNM := Lib.hid hnm
  have HX := Lib.hid hx
  have HS := Lib.hid hsick
  have hn1 : 1 ≤ nn := by omega
  have hn2 : nn ≤ 30 := by omega
  obtain ⟨i0, hi0, hz0, hz1, hz2⟩ := info_parts info5y
  clear hf hm hnf hnm hx hsick
  go_enter Try.func15, Try.ntmps15
  go_wp2_with fail
  refine (checkMange_any (nn : Int) day wt fa fcap nf first ma mcap nm ms 0 _ HNF.out HNM.out (HF.out.below (B := w.heap.size) (by go_grown) (Nat.le_refl _)) (HM.out.below (B := w.heap.size) (by go_grown) (Nat.le_refl _)) HX.out).mono ?_
  rintro e W1 ⟨rfl, hB⟩
  have hW1 : Below w.heap.size w W1 := Below.trans (by go_grown) (hB.mono (by simp; try omega))
  have zW1 := hW1.size
  obtain ⟨raW1, caW1, gaW1, zaW1⟩ := keep_row hB (g := w.heap.size) (by repeat (first | with_reducible assumption | with_reducible apply row_here0 | with_reducible apply row_here1 | with_reducible apply row_here2 | with_reducible apply row_here3 | with_reducible apply rowSkip))
  clear hB
  have hmk := run_make (P := Try.prog) W1 23 5 i0 _ Try.underlying23 hi0 hz0 .i64 .i64 (nn : Int) (nn : Int) (by omega) (by omega) (by rw [hz2]; omega) (by omega)
  obtain ⟨cur, hcur⟩ : ∃ cur, madeCells (Value.int .u8 0).cells ((nn : Int).toNat * i0.size) = cur := ⟨_, rfl⟩
  have hcs : cur.size = nn := by rw [← hcur, size_madeCells, hz1]; simp
  rw [hcur] at hmk
  simp only [Int.toNat_natCast] at hmk
  have hcz : ∀ k, k < nn → cur[k]? = some (.int .u8 0) := by
    intro k hk
    have hl : cur.toList = List.replicate nn (.int .u8 0) := by
      rw [← hcur, show (Value.int .u8 0).cells = #[.int .u8 0] from rfl, toList_madeCells_one, hz1]
      simp
    rw [← Array.getElem?_toList, hl]
    simp [hk]
  clear hi0 hz0 hz1 hz2 hcur
  go_wp2_with fail
  refine (HS.out _ (hW1.alloc zW1 _)).mono ?_
  rintro e W2 ⟨⟨gs, cp, ss, rfl, h1, h2, h3⟩, hB⟩
  have hW2 : Below w.heap.size w W2 := (hW1.alloc zW1 _).trans (hB.mono (by simp; omega))
  have hgk : rowOf W2 W1.heap.size = some cur := (keep_row hB (row_here0 _ _ _)).1
  have hgs : W1.heap.size < gs := by simp at h1; omega
  obtain ⟨hsl, hsk⟩ := h3
  have HSK := Lib.hid hsk
  have hBy := Lib.hid (show ByOut W2 W1.heap.size (List.replicate nn 0) from ⟨cur, hgk, fun k hk => by
    have hk' : k < nn := by simpa using hk
    rw [hcz k hk']; simp [hk']⟩)
  have hSp := Lib.hid h2
  clear hB hgk hcz hmk raW1 caW1 gaW1 HS h1 h2 hsk hcs
  generalize W1.heap.size = gk at *
  go_wp2
  go_loopw [34] (fun i wr => ∃ (k : Nat) (vs : List Int), k ≤ nn ∧ i = .int .i64 (k : Int) ∧ Hid (vs.length = nn) ∧ Hid (ByOut wr gk vs) ∧ Hid (SpOut wr gs ss) ∧ Hid (∀ j, j < k → Knw first ms wt day (j : Int) (vs.getD j 0)) ∧ Below w.heap.size w wr) (fun i _ => nn - (intOf i).toNat)
  case atStart => exact ⟨0, _, Nat.zero_le _, rfl, by simp [Hid], hBy, hSp, fun j hj => by omega, hW2⟩
  case round =>
    obtain ⟨k, vs, hk, rfl, hvl, hby, hsp, hkn, hB0⟩ := hrel
    by_cases hlt : k < nn
    · have hlt' : (k : Int) < (nn : Int) := by omega
      have hvk : k < vs.length := by rw [hvl.out]; exact hlt
      obtain ⟨c0, c1, -, -⟩ := hsp.out.get (k := k) (by omega)
      have hKk := HSK.out k hlt
      obtain ⟨lo, hlo⟩ : ∃ y, (ss.getD k (0, 0)).1 = y := ⟨_, rfl⟩
      obtain ⟨hi, hhi⟩ : ∃ y, (ss.getD k (0, 0)).2 = y := ⟨_, rfl⟩
      rw [hlo] at c0
      rw [hhi] at c1
      rw [hlo, hhi] at hKk
      have HKK := Lib.hid hKk
      obtain ⟨d0, f0, z0⟩ := hby.out.get hvk
      have zs := hB0.size
      have hgkw : w.heap.size ≤ gk := zW1
      clear hlo hhi hKk
      by_cases h1 : hi ≤ day
      · skip
        have hv := Lib.hid (show Knw first ms wt day (k : Int) 2 by have h := HKK.out; rw [if_pos h1] at h; exact h)
        have hby1 := Lib.hid (show ByOut ((wr.setCell ⟨gk, k, none⟩ (.int .u8 2)).alloc (.cells #[.int .i64 lo, .int .i64 hi] 31)) gk (vs.set k 2) from (hby.out.set hvk 2).keep (ext_alloc _ _) (hby.out.set hvk 2).lt)
        have hsp1 := Lib.hid (show SpOut ((wr.setCell ⟨gk, k, none⟩ (.int .u8 2)).alloc (.cells #[.int .i64 lo, .int .i64 hi] 31)) gs ss from (hsp.out.setOther _ _ (by omega)).alloc _)
        have hB1 : Below w.heap.size w ((wr.setCell ⟨gk, k, none⟩ (.int .u8 2)).alloc (.cells #[.int .i64 lo, .int .i64 hi] 31)) := (below_grown hB0 (grown_setCell _ _ _) zs (by simp only; omega)).alloc (by simp; omega) _
        clear HKK
        go_wp2
        refine ⟨⟨k + 1, _, hlt, by go_num, by show _ = _; rw [List.length_set]; exact hvl.out, hby1, hsp1, ?_, hB1⟩, by simp [intOf]; omega⟩
        intro j hj
        rcases Nat.lt_or_ge j k with h | h
        · rw [show (vs.set k 2).getD j 0 = vs.getD j 0 by simp [List.getD, List.getElem?_set_ne (show k ≠ j by omega)]]
          exact hkn.out j h
        · obtain rfl : j = k := by omega
          rw [show (vs.set j 2).getD j 0 = (2 : Int) by simp [hvk]]
          exact hv.out
      · by_cases h2 : lo ≤ day
        · skip
          have hv := Lib.hid (show Knw first ms wt day (k : Int) 1 by have h := HKK.out; rw [if_neg h1, if_pos h2] at h; exact h)
          have hby1 := Lib.hid (show ByOut ((wr.setCell ⟨gk, k, none⟩ (.int .u8 1)).alloc (.cells #[.int .i64 lo, .int .i64 hi] 31)) gk (vs.set k 1) from (hby.out.set hvk 1).keep (ext_alloc _ _) (hby.out.set hvk 1).lt)
          have hsp1 := Lib.hid (show SpOut ((wr.setCell ⟨gk, k, none⟩ (.int .u8 1)).alloc (.cells #[.int .i64 lo, .int .i64 hi] 31)) gs ss from (hsp.out.setOther _ _ (by omega)).alloc _)
          have hB1 : Below w.heap.size w ((wr.setCell ⟨gk, k, none⟩ (.int .u8 1)).alloc (.cells #[.int .i64 lo, .int .i64 hi] 31)) := (below_grown hB0 (grown_setCell _ _ _) zs (by simp only; omega)).alloc (by simp; omega) _
          clear HKK
          go_wp2
          refine ⟨⟨k + 1, _, hlt, by go_num, by show _ = _; rw [List.length_set]; exact hvl.out, hby1, hsp1, ?_, hB1⟩, by simp [intOf]; omega⟩
          intro j hj
          rcases Nat.lt_or_ge j k with h | h
          · rw [show (vs.set k 1).getD j 0 = vs.getD j 0 by simp [List.getD, List.getElem?_set_ne (show k ≠ j by omega)]]
            exact hkn.out j h
          · obtain rfl : j = k := by omega
            rw [show (vs.set j 1).getD j 0 = (1 : Int) by simp [hvk]]
            exact hv.out
        · skip
          have hv := Lib.hid (show Knw first ms wt day (k : Int) 0 by have h := HKK.out; rw [if_neg h1, if_neg h2] at h; exact h)
          have hby1 := Lib.hid (show ByOut ((wr.setCell ⟨gk, k, none⟩ (.int .u8 0)).alloc (.cells #[.int .i64 lo, .int .i64 hi] 31)) gk (vs.set k 0) from (hby.out.set hvk 0).keep (ext_alloc _ _) (hby.out.set hvk 0).lt)
          have hsp1 := Lib.hid (show SpOut ((wr.setCell ⟨gk, k, none⟩ (.int .u8 0)).alloc (.cells #[.int .i64 lo, .int .i64 hi] 31)) gs ss from (hsp.out.setOther _ _ (by omega)).alloc _)
          have hB1 : Below w.heap.size w ((wr.setCell ⟨gk, k, none⟩ (.int .u8 0)).alloc (.cells #[.int .i64 lo, .int .i64 hi] 31)) := (below_grown hB0 (grown_setCell _ _ _) zs (by simp only; omega)).alloc (by simp; omega) _
          clear HKK
          go_wp2
          refine ⟨⟨k + 1, _, hlt, by go_num, by show _ = _; rw [List.length_set]; exact hvl.out, hby1, hsp1, ?_, hB1⟩, by simp [intOf]; omega⟩
          intro j hj
          rcases Nat.lt_or_ge j k with h | h
          · rw [show (vs.set k 0).getD j 0 = vs.getD j 0 by simp [List.getD, List.getElem?_set_ne (show k ≠ j by omega)]]
            exact hkn.out j h
          · obtain rfl : j = k := by omega
            rw [show (vs.set j 0).getD j 0 = (0 : Int) by simp [hvk]]
            exact hv.out
    · obtain rfl : k = nn := by omega
      go_wp2
      go_returns
      exact ⟨⟨gk, rfl, zW1, vs, hvl.out, hby.out, hkn.out⟩, hB0⟩
theorem Mange_bad (n : Int) (day : Int) (wt : Int × Int) (fa : Option Addr) (fcap nf : Nat) (first : List Int) (ma : Option Addr) (mcap nm : Nat) (ms : List Mt) (x : Int) (w : World) (hnf : nf = first.length) (hnm : nm = ms.length) (hf : IntsIn w fa fcap first) (hm : MeetsIn w ma mcap ms) (hx : chkG n first ms wt day = x) (h0 : x ≠ 0) :
    Calls Try.prog 15 #[.int .i64 n, .slice fa nf fcap, .slice ma nm mcap, .agg #[.int .i64 wt.1, .int .i64 wt.2], .int .i64 day] w fun e w' => e = .returned (.tuple #[.slice none 0 0, .int .i64 x]) ∧ Below w.heap.size w w' := by
  have HF := Lib.hid hf
  have HM := Lib.hid hm
  have HNF := Lib.hid hnf
  have HNM := Lib.hid hnm
  have HX := Lib.hid hx
  have hne : (x == 0) = false := by simpa using h0
  clear hf hm hnf hnm hx
  go_enter Try.func15, Try.ntmps15
  go_wp2_with fail
  refine (checkMange_any n day wt fa fcap nf first ma mcap nm ms x _ HNF.out HNM.out (HF.out.below (B := w.heap.size) (by go_grown) (Nat.le_refl _)) (HM.out.below (B := w.heap.size) (by go_grown) (Nat.le_refl _)) HX.out).mono ?_
  rintro e W1 ⟨rfl, hB⟩
  have hW1 : Below w.heap.size w W1 := Below.trans (by go_grown) (hB.mono (by simp; try omega))
  have zW1 := hW1.size
  clear hB
  go_wp2
  go_returns
  exact ⟨rfl, hW1⟩
end Go.Proofs.Ytafdcbdbllpcnaa
/- An element of an array of two pairs. -/
namespace Go.Proofs.Ytafdcbdbllpcnaa
open Go.RowKit
set_option maxRecDepth 100000 in
theorem index146_0 (a b c d : Value) (W : World) : (Instr.index 146 (.agg #[a, b, c, d]) (.int .i64 0)).run Try.prog W = .ok (.agg #[a, b]) W := by
  kernel_rfl
set_option maxRecDepth 100000 in
theorem index146_1 (a b c d : Value) (W : World) : (Instr.index 146 (.agg #[a, b, c, d]) (.int .i64 1)).run Try.prog W = .ok (.agg #[c, d]) W := by
  kernel_rfl
end Go.Proofs.Ytafdcbdbllpcnaa
