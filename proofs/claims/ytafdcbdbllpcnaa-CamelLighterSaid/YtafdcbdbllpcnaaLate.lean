/- Contract of package camel's Mange, over that of sickFrom. -/
import Derived.Test.YtafdcbdbllpcnaaRefA
import Derived.Test.YtafdcbdbllpcnaaLeafW
import Derived.Laws.MakeOwn
import Derived.Test.YtafdcbdbllpcnaaBigT
import Derived.Test.YtafdcbdbllpcnaaPart
set_option linter.unusedVariables false
set_option linter.unusedSimpArgs false
namespace Go.Proofs.Ytafdcbdbllpcnaa
open Go.RowKit
open Go.Proofs

/-- Spans that lie one behind the other in a block of one's own. -/
def SpOut (W : World) (g : Nat) (ss : List (Int × Int)) : Prop := ∃ cur : Array Value, rowOf W g = some cur ∧ ∀ k, k < ss.length → cur[k * 2]? = some (.int .i64 (ss.getD k (0, 0)).1) ∧ cur[k * 2 + 1]? = some (.int .i64 (ss.getD k (0, 0)).2)
theorem SpOut.get {W : World} {g : Nat} {ss : List (Int × Int)} (h : SpOut W g ss) {k : Nat} (hk : k < ss.length) : W.cell? ⟨g, k * 2, none⟩ = some (.int .i64 (ss.getD k (0, 0)).1) ∧ W.cell? ⟨g, k * 2 + 1, none⟩ = some (.int .i64 (ss.getD k (0, 0)).2) ∧ W.frozen? ⟨g, k * 2, none⟩ = false ∧ W.frozen? ⟨g, k * 2 + 1, none⟩ = false := by
  obtain ⟨cur, h1, h2⟩ := h
  obtain ⟨c, f, z⟩ := cell_of_rowOf h1
  exact ⟨by rw [c]; exact (h2 k hk).1, by rw [c]; exact (h2 k hk).2, f _, f _⟩
theorem SpOut.lt {W : World} {g : Nat} {ss : List (Int × Int)} (h : SpOut W g ss) : g < W.heap.size := by
  obtain ⟨cur, h1, -⟩ := h
  exact (cell_of_rowOf h1).2.2
theorem SpOut.keep {B : Nat} {W W' : World} {g : Nat} {ss : List (Int × Int)} (h : SpOut W g ss) (hB : Below B W W') (hg : g < B) : SpOut W' g ss := by
  obtain ⟨cur, h1, h2⟩ := h
  exact ⟨cur, by rw [← h1]; simp only [rowOf, hB.block g hg], h2⟩
theorem SpOut.alloc {W : World} {g : Nat} {ss : List (Int × Int)} (h : SpOut W g ss) (o : Obj) : SpOut (W.alloc o) g ss := h.keep (ext_alloc _ _) h.lt
theorem SpOut.setOther {W : World} {g h : Nat} {ss : List (Int × Int)} (hs : SpOut W g ss) (k : Nat) (v : Value) (hne : g ≠ h) : SpOut (W.setCell ⟨h, k, none⟩ v) g ss := by
  obtain ⟨cur, h1, h2⟩ := hs
  exact ⟨cur, row_grown h1 (grown_setCell _ _ _) (by simpa using hne), h2⟩
/-- Bytes that lie in a block of one's own. -/
def ByOut (W : World) (g : Nat) (xs : List Int) : Prop := ∃ cur : Array Value, rowOf W g = some cur ∧ ∀ k, k < xs.length → cur[k]? = some (.int .u8 (xs.getD k 0))
theorem ByOut.set {W : World} {g : Nat} {xs : List Int} (h : ByOut W g xs) {k : Nat} (hk : k < xs.length) (v : Int) : ByOut (W.setCell ⟨g, k, none⟩ (.int .u8 v)) g (xs.set k v) := by
  obtain ⟨cur, h1, h2⟩ := h
  refine ⟨_, rowOf_setCell_o h1 _, fun j hj => ?_⟩
  have hj' : j < xs.length := by simpa using hj
  have hkc : k < cur.size := (Array.getElem?_eq_some_iff.1 (h2 k hk)).1
  rw [Array.getElem?_setIfInBounds]
  by_cases e : k = j
  · subst e
    simp [hkc, hk]
  · rw [if_neg e, h2 j hj']
    simp [List.getD, List.getElem?_set_ne e]
theorem ByOut.get {W : World} {g : Nat} {xs : List Int} (h : ByOut W g xs) {k : Nat} (hk : k < xs.length) : W.cell? ⟨g, k, none⟩ = some (.int .u8 (xs.getD k 0)) ∧ W.frozen? ⟨g, k, none⟩ = false ∧ g < W.heap.size := by
  obtain ⟨cur, h1, h2⟩ := h
  obtain ⟨c, f, z⟩ := cell_of_rowOf h1
  exact ⟨by rw [c]; exact h2 k hk, f k, z⟩
theorem ByOut.keep {B : Nat} {W W' : World} {g : Nat} {xs : List Int} (h : ByOut W g xs) (hB : Below B W W') (hg : g < B) : ByOut W' g xs := by
  obtain ⟨cur, h1, h2⟩ := h
  exact ⟨cur, by rw [← h1]; simp only [rowOf, hB.block g hg], h2⟩
theorem ByOut.lt {W : World} {g : Nat} {xs : List Int} (h : ByOut W g xs) : g < W.heap.size := by
  obtain ⟨cur, h1, -⟩ := h
  exact (cell_of_rowOf h1).2.2

/-- What sickFrom hands back. -/
def SickBy (first : List Int) (ms : List Mt) (wt : Int × Int) (day : Int) (nn : Nat) (ss : List (Int × Int)) : Prop := ss.length = nn ∧ ∀ k, k < nn → Knw first ms wt day (k : Int) (if (ss.getD k (0, 0)).2 ≤ day then 2 else if (ss.getD k (0, 0)).1 ≤ day then 1 else 0)
theorem info5y : (Try.prog.info? 5).map (fun i => (i.zero, i.size, i.bytes)) = some (some (.int .u8 0), 1, 1) := by kernel_rfl

set_option maxRecDepth 100000 in
set_option maxHeartbeats 8000000 in
theorem Mange_ok (nn : Nat) (day : Int) (wt : Int × Int) (fa : Option Addr) (fcap nf : Nat) (first : List Int) (ma : Option Addr) (mcap nm : Nat) (ms : List Mt) (w : World) (hnf : nf = first.length) (hnm : nm = ms.length) (hf : IntsIn w fa fcap first) (hm : MeetsIn w ma mcap ms) (hx : chkG (nn : Int) first ms wt day = 0)
    (hsick : ∀ W, Below w.heap.size w W → Calls Try.prog 56 #[.int .i64 (nn : Int), .slice fa nf fcap, .slice ma nm mcap, .agg #[.int .i64 wt.1, .int .i64 wt.2], .int .i64 day] W fun e W' => (∃ g cap ss, e = .returned (.slice (some ⟨g, 0, none⟩) nn cap) ∧ W.heap.size ≤ g ∧ SpOut W' g ss ∧ SickBy first ms wt day nn ss) ∧ Below W.heap.size W W') :
    Calls Try.prog 15 #[.int .i64 (nn : Int), .slice fa nf fcap, .slice ma nm mcap, .agg #[.int .i64 wt.1, .int .i64 wt.2], .int .i64 day] w fun e w' => (∃ g, e = .returned (.tuple #[.slice (some ⟨g, 0, none⟩) nn nn, .int .i64 0]) ∧ w.heap.size ≤ g ∧ ∃ vs : List Int, vs.length = nn ∧ ByOut w' g vs ∧ ∀ i, i < nn → Knw first ms wt day (i : Int) (vs.getD i 0)) ∧ Below w.heap.size w w' := by
  have hfine := chkG_fine hx
  obtain ⟨⟨n1, n2⟩, -⟩ := hfine
  have HF := Lib.hid hf
  have HM := Lib.hid hm
  have HNF := Lib.hid hnf
  have HNM := Lib.hid hnm
  have HX := Lib.hid hx
  have HS := Lib.hid hsick
  have hn1 : 1 ≤ nn := by omega
  have hn2 : nn ≤ 30 := by omega
  obtain ⟨i0, hi0, hz0, hz1, hz2⟩ := info_parts info5y
  clear hf hm hnf hnm hx hsick
  go_enter Try.func15, Try.ntmps15
  go_wp2_with fail
  refine (checkMange_any (nn : Int) day wt fa fcap nf first ma mcap nm ms 0 _ HNF.out HNM.out (HF.out.below (B := w.heap.size) (by go_grown) (Nat.le_refl _)) (HM.out.below (B := w.heap.size) (by go_grown) (Nat.le_refl _)) HX.out).mono ?_
  rintro e W1 ⟨rfl, hB⟩
  have hW1 : Below w.heap.size w W1 := Below.trans (by go_grown) (hB.mono (by simp; try omega))
  have zW1 := hW1.size
  obtain ⟨raW1, caW1, gaW1, zaW1⟩ := keep_row hB (g := w.heap.size) (by repeat (first | with_reducible assumption | with_reducible apply row_here0 | with_reducible apply row_here1 | with_reducible apply row_here2 | with_reducible apply row_here3 | with_reducible apply rowSkip))
  clear hB
  have hmk := run_make (P := Try.prog) W1 23 5 i0 _ Try.underlying23 hi0 hz0 .i64 .i64 (nn : Int) (nn : Int) (by omega) (by omega) (by rw [hz2]; omega) (by omega)
  obtain ⟨cur, hcur⟩ : ∃ cur, madeCells (Value.int .u8 0).cells ((nn : Int).toNat * i0.size) = cur := ⟨_, rfl⟩
  have hcs : cur.size = nn := by rw [← hcur, size_madeCells, hz1]; simp
  rw [hcur] at hmk
  simp only [Int.toNat_natCast] at hmk
  have hcz : ∀ k, k < nn → cur[k]? = some (.int .u8 0) := by
    intro k hk
    have hl : cur.toList = List.replicate nn (.int .u8 0) := by
      rw [← hcur, show (Value.int .u8 0).cells = #[.int .u8 0] from rfl, toList_madeCells_one, hz1]
      simp
    rw [← Array.getElem?_toList, hl]
    simp [hk]
  clear hi0 hz0 hz1 hz2 hcur
  go_wp2_with fail
  refine (HS.out _ (hW1.alloc zW1 _)).mono ?_
  rintro e W2 ⟨⟨gs, cp, ss, rfl, h1, h2, h3⟩, hB⟩
  have hW2 : Below w.heap.size w W2 := (hW1.alloc zW1 _).trans (hB.mono (by simp; omega))
  have hgk : rowOf W2 W1.heap.size = some cur := (keep_row hB (row_here0 _ _ _)).1
  have hgs : W1.heap.size < gs := by simp at h1; omega
  obtain ⟨hsl, hsk⟩ := h3
  have HSK := Lib.hid hsk
  have hBy := Lib.hid (show ByOut W2 W1.heap.size (List.replicate nn 0) from ⟨cur, hgk, fun k hk => by
    have hk' : k < nn := by simpa using hk
    rw [hcz k hk']; simp [hk']⟩)
  have hSp := Lib.hid h2
  clear hB hgk hcz hmk raW1 caW1 gaW1 HS h1 h2 hsk hcs
  generalize W1.heap.size = gk at *
  go_wp2
  go_loopw [34] (fun i wr => ∃ (k : Nat) (vs : List Int), k ≤ nn ∧ i = .int .i64 (k : Int) ∧ Hid (vs.length = nn) ∧ Hid (ByOut wr gk vs) ∧ Hid (SpOut wr gs ss) ∧ Hid (∀ j, j < k → Knw first ms wt day (j : Int) (vs.getD j 0)) ∧ Below w.heap.size w wr) (fun i _ => nn - (intOf i).toNat)
  case atStart => exact ⟨0, _, Nat.zero_le _, rfl, by simp [Hid], hBy, hSp, fun j hj => by omega, hW2⟩
  case round =>
    obtain ⟨k, vs, hk, rfl, hvl, hby, hsp, hkn, hB0⟩ := hrel
    by_cases hlt : k < nn
    · have hlt' : (k : Int) < (nn : Int) := by omega
      have hvk : k < vs.length := by rw [hvl.out]; exact hlt
      obtain ⟨c0, c1, -, -⟩ := hsp.out.get (k := k) (by omega)
      have hKk := HSK.out k hlt
      obtain ⟨lo, hlo⟩ : ∃ y, (ss.getD k (0, 0)).1 = y := ⟨_, rfl⟩
      obtain ⟨hi, hhi⟩ : ∃ y, (ss.getD k (0, 0)).2 = y := ⟨_, rfl⟩
      rw [hlo] at c0
      rw [hhi] at c1
      rw [hlo, hhi] at hKk
      have HKK := Lib.hid hKk
      obtain ⟨d0, f0, z0⟩ := hby.out.get hvk
      have zs := hB0.size
      have hgkw : w.heap.size ≤ gk := zW1
      clear hlo hhi hKk
      by_cases h1 : hi ≤ day
      · skip
        have hv := Lib.hid (show Knw first ms wt day (k : Int) 2 by have h := HKK.out; rw [if_pos h1] at h; exact h)
        have hby1 := Lib.hid (show ByOut ((wr.setCell ⟨gk, k, none⟩ (.int .u8 2)).alloc (.cells #[.int .i64 lo, .int .i64 hi] 31)) gk (vs.set k 2) from (hby.out.set hvk 2).keep (ext_alloc _ _) (hby.out.set hvk 2).lt)
        have hsp1 := Lib.hid (show SpOut ((wr.setCell ⟨gk, k, none⟩ (.int .u8 2)).alloc (.cells #[.int .i64 lo, .int .i64 hi] 31)) gs ss from (hsp.out.setOther _ _ (by omega)).alloc _)
        have hB1 : Below w.heap.size w ((wr.setCell ⟨gk, k, none⟩ (.int .u8 2)).alloc (.cells #[.int .i64 lo, .int .i64 hi] 31)) := (below_grown hB0 (grown_setCell _ _ _) zs (by simp only; omega)).alloc (by simp; omega) _
        clear HKK
        go_wp2
        refine ⟨⟨k + 1, _, hlt, by go_num, by show _ = _; rw [List.length_set]; exact hvl.out, hby1, hsp1, ?_, hB1⟩, by simp [intOf]; omega⟩
        intro j hj
        rcases Nat.lt_or_ge j k with h | h
        · rw [show (vs.set k 2).getD j 0 = vs.getD j 0 by simp [List.getD, List.getElem?_set_ne (show k ≠ j by omega)]]
          exact hkn.out j h
        · obtain rfl : j = k := by omega
          rw [show (vs.set j 2).getD j 0 = (2 : Int) by simp [hvk]]
          exact hv.out
      · by_cases h2 : lo ≤ day
        · skip
          have hv := Lib.hid (show Knw first ms wt day (k : Int) 1 by have h := HKK.out; rw [if_neg h1, if_pos h2] at h; exact h)
          have hby1 := Lib.hid (show ByOut ((wr.setCell ⟨gk, k, none⟩ (.int .u8 1)).alloc (.cells #[.int .i64 lo, .int .i64 hi] 31)) gk (vs.set k 1) from (hby.out.set hvk 1).keep (ext_alloc _ _) (hby.out.set hvk 1).lt)
          have hsp1 := Lib.hid (show SpOut ((wr.setCell ⟨gk, k, none⟩ (.int .u8 1)).alloc (.cells #[.int .i64 lo, .int .i64 hi] 31)) gs ss from (hsp.out.setOther _ _ (by omega)).alloc _)
          have hB1 : Below w.heap.size w ((wr.setCell ⟨gk, k, none⟩ (.int .u8 1)).alloc (.cells #[.int .i64 lo, .int .i64 hi] 31)) := (below_grown hB0 (grown_setCell _ _ _) zs (by simp only; omega)).alloc (by simp; omega) _
          clear HKK
          go_wp2
          refine ⟨⟨k + 1, _, hlt, by go_num, by show _ = _; rw [List.length_set]; exact hvl.out, hby1, hsp1, ?_, hB1⟩, by simp [intOf]; omega⟩
          intro j hj
          rcases Nat.lt_or_ge j k with h | h
          · rw [show (vs.set k 1).getD j 0 = vs.getD j 0 by simp [List.getD, List.getElem?_set_ne (show k ≠ j by omega)]]
            exact hkn.out j h
          · obtain rfl : j = k := by omega
            rw [show (vs.set j 1).getD j 0 = (1 : Int) by simp [hvk]]
            exact hv.out
        · skip
          have hv := Lib.hid (show Knw first ms wt day (k : Int) 0 by have h := HKK.out; rw [if_neg h1, if_neg h2] at h; exact h)
          have hby1 := Lib.hid (show ByOut ((wr.setCell ⟨gk, k, none⟩ (.int .u8 0)).alloc (.cells #[.int .i64 lo, .int .i64 hi] 31)) gk (vs.set k 0) from (hby.out.set hvk 0).keep (ext_alloc _ _) (hby.out.set hvk 0).lt)
          have hsp1 := Lib.hid (show SpOut ((wr.setCell ⟨gk, k, none⟩ (.int .u8 0)).alloc (.cells #[.int .i64 lo, .int .i64 hi] 31)) gs ss from (hsp.out.setOther _ _ (by omega)).alloc _)
          have hB1 : Below w.heap.size w ((wr.setCell ⟨gk, k, none⟩ (.int .u8 0)).alloc (.cells #[.int .i64 lo, .int .i64 hi] 31)) := (below_grown hB0 (grown_setCell _ _ _) zs (by simp only; omega)).alloc (by simp; omega) _
          clear HKK
          go_wp2
          refine ⟨⟨k + 1, _, hlt, by go_num, by show _ = _; rw [List.length_set]; exact hvl.out, hby1, hsp1, ?_, hB1⟩, by simp [intOf]; omega⟩
          intro j hj
          rcases Nat.lt_or_ge j k with h | h
          · rw [show (vs.set k 0).getD j 0 = vs.getD j 0 by simp [List.getD, List.getElem?_set_ne (show k ≠ j by omega)]]
            exact hkn.out j h
          · obtain rfl : j = k := by omega
            rw [show (vs.set j 0).getD j 0 = (0 : Int) by simp [hvk]]
            exact hv.out
    · obtain rfl : k = nn := by omega
      go_wp2
      go_returns
      exact ⟨⟨gk, rfl, zW1, vs, hvl.out, hby.out, hkn.out⟩, hB0⟩
theorem Mange_bad (n : Int) (day : Int) (wt : Int × Int) (fa : Option Addr) (fcap nf : Nat) (first : List Int) (ma : Option Addr) (mcap nm : Nat) (ms : List Mt) (x : Int) (w : World) (hnf : nf = first.length) (hnm : nm = ms.length) (hf : IntsIn w fa fcap first) (hm : MeetsIn w ma mcap ms) (hx : chkG n first ms wt day = x) (h0 : x ≠ 0) :
    Calls Try.prog 15 #[.int .i64 n, .slice fa nf fcap, .slice ma nm mcap, .agg #[.int .i64 wt.1, .int .i64 wt.2], .int .i64 day] w fun e w' => e = .returned (.tuple #[.slice none 0 0, .int .i64 x]) ∧ Below w.heap.size w w' := by
  have HF := Lib.hid hf
  have HM := Lib.hid hm
  have HNF := Lib.hid hnf
  have HNM := Lib.hid hnm
  have HX := Lib.hid hx
  have hne : (x == 0) = false := by simpa using h0
  clear hf hm hnf hnm hx
  go_enter Try.func15, Try.ntmps15
  go_wp2_with fail
  refine (checkMange_any n day wt fa fcap nf first ma mcap nm ms x _ HNF.out HNM.out (HF.out.below (B := w.heap.size) (by go_grown) (Nat.le_refl _)) (HM.out.below (B := w.heap.size) (by go_grown) (Nat.le_refl _)) HX.out).mono ?_
  rintro e W1 ⟨rfl, hB⟩
  have hW1 : Below w.heap.size w W1 := Below.trans (by go_grown) (hB.mono (by simp; try omega))
  have zW1 := hW1.size
  clear hB
  go_wp2
  go_returns
  exact ⟨rfl, hW1⟩
end Go.Proofs.Ytafdcbdbllpcnaa
/- An element of an array of two pairs. -/
namespace Go.Proofs.Ytafdcbdbllpcnaa
open Go.RowKit
set_option maxRecDepth 100000 in
theorem index146_0 (a b c d : Value) (W : World) : (Instr.index 146 (.agg #[a, b, c, d]) (.int .i64 0)).run Try.prog W = .ok (.agg #[a, b]) W := by
  kernel_rfl
set_option maxRecDepth 100000 in
theorem index146_1 (a b c d : Value) (W : World) : (Instr.index 146 (.agg #[a, b, c, d]) (.int .i64 1)).run Try.prog W = .ok (.agg #[c, d]) W := by
  kernel_rfl
end Go.Proofs.Ytafdcbdbllpcnaa
/- The sweep of the meetings by their days, plain. -/
namespace Go.Proofs.Ytafdcbdbllpcnaa

/-- Lists of spans of days as functions of the animal. -/
def fL (ss : List (Int × Int)) (i : Int) : Int := if 0 ≤ i then (ss.getD i.toNat (0, 0)).1 else 0
def fH (ss : List (Int × Int)) (i : Int) : Int := if 0 ≤ i then (ss.getD i.toNat (0, 0)).2 else 0
theorem fL_nat (ss : List (Int × Int)) (k : Nat) : fL ss (k : Int) = (ss.getD k (0, 0)).1 := by simp [fL]
theorem fH_nat (ss : List (Int × Int)) (k : Nat) : fH ss (k : Int) = (ss.getD k (0, 0)).2 := by simp [fH]
theorem swp_getD_ne {ss : List (Int × Int)} {j k : Nat} {v : Int × Int} (h : k ≠ j) : (ss.set j v).getD k (0, 0) = ss.getD k (0, 0) := by
  simp [List.getD, List.getElem?_set_ne (fun e => h e.symm)]
theorem swp_getD_eq {ss : List (Int × Int)} {j : Nat} {v : Int × Int} (h : j < ss.length) : (ss.set j v).getD j (0, 0) = v := by simp [h]
theorem fL_set {ss : List (Int × Int)} {j : Nat} {v : Int × Int} (h : j < ss.length) : fL (ss.set j v) = upd (fL ss) (j : Int) v.1 := by
  funext i
  unfold fL upd
  by_cases e : i = (j : Int)
  · subst e
    simp [h]
  · rw [if_neg e]
    by_cases hi : 0 ≤ i
    · simp only [hi, if_true, swp_getD_ne (show i.toNat ≠ j by omega)]
    · simp only [hi, if_false]
theorem fH_set {ss : List (Int × Int)} {j : Nat} {v : Int × Int} (h : j < ss.length) : fH (ss.set j v) = upd (fH ss) (j : Int) v.2 := by
  funext i
  unfold fH upd
  by_cases e : i = (j : Int)
  · subst e
    simp [h]
  · rw [if_neg e]
    by_cases hi : 0 ≤ i
    · simp only [hi, if_true, swp_getD_ne (show i.toNat ≠ j by omega)]
    · simp only [hi, if_false]

/-- One direction of a meeting, early and late. -/
def dir (D : Int) (wt : Int × Int) (c : Bool) (i j : Nat) (ss : List (Int × Int)) : List (Int × Int) :=
  ss.set j (if (ss.getD i (0, 0)).1 ≤ D then mn (ss.getD j (0, 0)).1 (D + wt.1) else (ss.getD j (0, 0)).1, if c = true ∧ (ss.getD i (0, 0)).2 ≤ D then mn (ss.getD j (0, 0)).2 (D + wt.2) else (ss.getD j (0, 0)).2)
theorem dir_len (D : Int) (wt : Int × Int) (c : Bool) (i j : Nat) (ss : List (Int × Int)) : (dir D wt c i j ss).length = ss.length := by simp [dir]
theorem dir_L {D : Int} {wt : Int × Int} {c : Bool} {i j : Nat} {ss : List (Int × Int)} (hj : j < ss.length) : fL (dir D wt c i j ss) = passOn true D wt.1 (i : Int) (j : Int) (fL ss) := by
  unfold dir
  rw [fL_set hj]
  unfold passOn
  rw [fL_nat, fL_nat]
  by_cases h : (ss.getD i (0, 0)).1 ≤ D
  · rw [if_pos (show true = true ∧ (ss.getD i (0, 0)).1 ≤ D from ⟨rfl, h⟩)]; simp only [h, if_true]
  · rw [if_neg (show ¬ (true = true ∧ (ss.getD i (0, 0)).1 ≤ D) from fun hh => h hh.2)]
    simp only [h, if_false]
    funext k
    unfold upd
    by_cases e : k = (j : Int)
    · subst e; rw [if_pos rfl, fL_nat]
    · rw [if_neg e]
theorem dir_H {D : Int} {wt : Int × Int} {c : Bool} {i j : Nat} {ss : List (Int × Int)} (hj : j < ss.length) : fH (dir D wt c i j ss) = passOn c D wt.2 (i : Int) (j : Int) (fH ss) := by
  unfold dir
  rw [fH_set hj]
  unfold passOn
  rw [fH_nat, fH_nat]
  by_cases h : c = true ∧ (ss.getD i (0, 0)).2 ≤ D
  · simp only [if_pos h]
  · simp only [if_neg h]
    funext k
    unfold upd
    by_cases e : k = (j : Int)
    · subst e; rw [if_pos rfl, fH_nat]
    · rw [if_neg e]

/-- The same in two steps. -/
def dirL (D : Int) (wt : Int × Int) (i j : Nat) (ss : List (Int × Int)) : List (Int × Int) := ss.set j (if (ss.getD i (0, 0)).1 ≤ D then mn (ss.getD j (0, 0)).1 (D + wt.1) else (ss.getD j (0, 0)).1, (ss.getD j (0, 0)).2)
def dirH (D : Int) (wt : Int × Int) (c : Bool) (i j : Nat) (ss : List (Int × Int)) : List (Int × Int) := ss.set j ((ss.getD j (0, 0)).1, if c = true ∧ (ss.getD i (0, 0)).2 ≤ D then mn (ss.getD j (0, 0)).2 (D + wt.2) else (ss.getD j (0, 0)).2)
theorem dirL_len (D : Int) (wt : Int × Int) (i j : Nat) (ss : List (Int × Int)) : (dirL D wt i j ss).length = ss.length := by simp [dirL]
theorem dirH_len (D : Int) (wt : Int × Int) (c : Bool) (i j : Nat) (ss : List (Int × Int)) : (dirH D wt c i j ss).length = ss.length := by simp [dirH]
theorem dir_split {D : Int} {wt : Int × Int} {c : Bool} {i j : Nat} {ss : List (Int × Int)} (hj : j < ss.length) (hne : i ≠ j) : dir D wt c i j ss = dirH D wt c i j (dirL D wt i j ss) := by
  unfold dir dirH dirL
  rw [swp_getD_eq hj, swp_getD_ne hne, List.set_set]
theorem set_same {ss : List (Int × Int)} {j : Nat} (hj : j < ss.length) : ss.set j ((ss.getD j (0, 0)).1, (ss.getD j (0, 0)).2) = ss := by
  apply List.ext_getElem
  · simp
  · intro k h1 h2
    by_cases e : k = j
    · subst e
      simp [h2]
    · simp [List.getElem_set_ne (fun h => e h.symm)]
theorem dirL_yes {D : Int} {wt : Int × Int} {i j : Nat} {ss : List (Int × Int)} (h : (ss.getD i (0, 0)).1 ≤ D) : dirL D wt i j ss = ss.set j (mn (ss.getD j (0, 0)).1 (D + wt.1), (ss.getD j (0, 0)).2) := by unfold dirL; rw [if_pos h]
theorem dirL_no {D : Int} {wt : Int × Int} {i j : Nat} {ss : List (Int × Int)} (hj : j < ss.length) (h : ¬ (ss.getD i (0, 0)).1 ≤ D) : dirL D wt i j ss = ss := by unfold dirL; rw [if_neg h, set_same hj]
theorem dirH_yes {D : Int} {wt : Int × Int} {c : Bool} {i j : Nat} {ss : List (Int × Int)} (hc : c = true) (h : (ss.getD i (0, 0)).2 ≤ D) : dirH D wt c i j ss = ss.set j ((ss.getD j (0, 0)).1, mn (ss.getD j (0, 0)).2 (D + wt.2)) := by unfold dirH; rw [if_pos ⟨hc, h⟩]
theorem dirH_no {D : Int} {wt : Int × Int} {c : Bool} {i j : Nat} {ss : List (Int × Int)} (hj : j < ss.length) (h : ¬ (c = true ∧ (ss.getD i (0, 0)).2 ≤ D)) : dirH D wt c i j ss = ss := by unfold dirH; rw [if_neg h, set_same hj]

/-- What stands behind the meetings P. -/
structure Swp (first : List Int) (ms : List Mt) (wt : Int × Int) (n : Int) (P : List Mt) (ss : List (Int × Int)) : Prop where
  len : (ss.length : Int) = n
  sl : Snd first (fun x => x ∈ ms) wt.1 n 100001 (fL ss)
  bl : ∀ i ∈ first, fL ss i ≤ 0
  rl : Reck (fun x => x ∈ ms) (fun x => x ∈ P) wt.1 (fL ss)
  sh : Snd first (fun x => x ∈ ms ∧ x.close = true) wt.2 n 100001 (fH ss)
  bh : ∀ i ∈ first, fH ss i ≤ 0
  rh : Reck (fun x => x ∈ ms ∧ x.close = true) (fun x => x ∈ P) wt.2 (fH ss)
theorem Swp.step {first : List Int} {ms : List Mt} {wt : Int × Int} {n : Int} {P : List Mt} {ss : List (Int × Int)} (h : Swp first ms wt n P ss) {x : Mt} (hx : x ∈ ms) (ho : okMt n x) (hd : ∀ y ∈ P, y.day ≤ x.day) (hw : 1 ≤ wt.1) (hw2 : 1 ≤ wt.2) {i j : Nat} (hi : x.a = (i : Int)) (hj : x.b = (j : Int)) :
    Swp first ms wt n (P ++ [x]) (dir x.day wt x.close j i (dir x.day wt x.close i j ss)) := by
  obtain ⟨o1, o2, o3, o4, -⟩ := id ho
  have hlen := h.len
  have li : i < ss.length := by omega
  have lj : j < ss.length := by omega
  have eL : fL (dir x.day wt x.close j i (dir x.day wt x.close i j ss)) = both true x wt.1 (fL ss) := by
    rw [dir_L (by rw [dir_len]; exact li), dir_L lj, both, hi, hj]
  have eH : fH (dir x.day wt x.close j i (dir x.day wt x.close i j ss)) = both x.close x wt.2 (fH ss) := by
    rw [dir_H (by rw [dir_len]; exact li), dir_H lj, both, hi, hj]
  have hP : (fun y => y ∈ P ++ [x]) = fun y => y ∈ P ∨ y = x := by funext y; simp
  refine ⟨by rw [dir_len, dir_len]; exact hlen, ?_, ?_, ?_, ?_, ?_, ?_⟩
  · rw [eL]; exact h.sl.passes (fun _ => hx) ho (by omega)
  · rw [eL]; exact fun q hq => Int.le_trans (both_le ..) (h.bl q hq)
  · rw [eL, hP]; exact h.rl.passes (n := n) (fun _ => rfl) ho hd hw
  · rw [eH]; exact h.sh.passes (fun hc => ⟨hx, hc⟩) ho (by omega)
  · rw [eH]; exact fun q hq => Int.le_trans (both_le ..) (h.bh q hq)
  · rw [eH, hP]; exact h.rh.passes (n := n) (fun hx => hx.2) ho hd hw2
/-- At the end, or where the rest is too late. -/
theorem Swp.known {first : List Int} {ms : List Mt} {wt : Int × Int} {n d : Int} {P : List Mt} {ss : List (Int × Int)} (h : Swp first ms wt n P ss) (hf : ∀ i ∈ first, 0 ≤ i ∧ i < n) (ho : ∀ x ∈ ms, okMt n x) (hp : ∀ x ∈ ms, x ∈ P ∨ d < x.day + wt.1) (hw : 1 ≤ wt.1) (hw2 : wt.1 ≤ wt.2) (hd : d ≤ 100000) {k : Nat} (hk : (k : Int) < n) :
    Knw first ms wt d (k : Int) (if (ss.getD k (0, 0)).2 ≤ d then 2 else if (ss.getD k (0, 0)).1 ≤ d then 1 else 0) := by
  have e1 := reckoned (d := d) h.sl h.bl h.rl hf ho hp hw (by omega) (i := (k : Int)) ⟨by omega, hk⟩
  have e2 := reckoned (d := d) h.sh h.bh h.rh hf (fun x hx => ho x hx.1) (fun x hx => (hp x hx.1).imp id (fun h => by omega)) (by omega) (by omega) (i := (k : Int)) ⟨by omega, hk⟩
  rw [fL_nat] at e1
  rw [fH_nat] at e2
  exact Knw.told hw2 e1 e2
/-- At the beginning. -/
structure Sw0 (first L : List Int) (n : Int) (ss : List (Int × Int)) : Prop where
  len : (ss.length : Int) = n
  all : ∀ k, k < ss.length → ss.getD k (0, 0) = (100001, 100001) ∨ ((k : Int) ∈ first ∧ ss.getD k (0, 0) = (0, 0))
  fst : ∀ i ∈ L, fL ss i ≤ 0 ∧ fH ss i ≤ 0
theorem Sw0.start {first : List Int} {n : Nat} : Sw0 first [] (n : Int) (List.replicate n (100001, 100001)) :=
  ⟨by simp, fun k hk => .inl (by have : k < n := by simpa using hk
                                 simp [this]), fun i hi => by simp at hi⟩
theorem Sw0.step {first L : List Int} {n : Int} {ss : List (Int × Int)} (h : Sw0 first L n ss) {q : Nat} (hq : q < ss.length) (hm : (q : Int) ∈ first) : Sw0 first (L ++ [(q : Int)]) n (ss.set q (0, 0)) := by
  refine ⟨by simpa using h.len, fun k hk => ?_, fun i hi => ?_⟩
  · by_cases e : k = q
    · subst e
      exact .inr ⟨hm, swp_getD_eq hq⟩
    · rw [swp_getD_ne e]
      exact h.all k (by simpa using hk)
  · rw [fL_set hq, fH_set hq]
    unfold upd
    by_cases e : i = (q : Int)
    · simp [e]
    · rw [if_neg e, if_neg e]
      rw [List.mem_append] at hi
      rcases hi with hi | hi
      · exact h.fst i hi
      · simp at hi; exact absurd hi e
theorem Sw0.swp {first : List Int} {ms : List Mt} {wt : Int × Int} {n : Int} {ss : List (Int × Int)} (h : Sw0 first first n ss) : Swp first ms wt n [] ss := by
  have key : ∀ i, 0 ≤ i → i < n → (fL ss i = 100001 ∧ fH ss i = 100001) ∨ (i ∈ first ∧ fL ss i = 0 ∧ fH ss i = 0) := by
    intro i h1 h2
    have hl := h.len
    have hk := h.all i.toNat (by omega)
    rw [show ((i.toNat : Nat) : Int) = i by omega] at hk
    unfold fL fH
    rw [if_pos h1, if_pos h1]
    rcases hk with hk | ⟨hm, hk⟩
    · left; rw [hk]; exact ⟨rfl, rfl⟩
    · right; rw [hk]; exact ⟨hm, rfl, rfl⟩
  refine ⟨h.len, fun i h1 h2 => ?_, fun i hi => (h.fst i hi).1, fun x hx => by simp at hx, fun i h1 h2 => ?_, fun i hi => (h.fst i hi).2, fun x hx => by simp at hx⟩
  · rcases key i h1 h2 with hk | ⟨hm, hk, -⟩
    · exact .inl hk.1
    · rw [hk]; exact .inr (.start hm)
  · rcases key i h1 h2 with hk | ⟨hm, -, hk⟩
    · exact .inl hk.2
    · rw [hk]; exact .inr (.start hm)
end Go.Proofs.Ytafdcbdbllpcnaa
/- The law for drawn regions, wider again: over any relation of worlds; a store is told of through the slot that it goes by. Over every program. -/
namespace Go.Proofs.Ytafdcbdbllpcnaa
open Go.RowKit

/-- The value that an operation is told of: its own slot's, or that of the slot that it watches. -/
def valY (wt : Nat → Tmp) (a : Act) (j : Nat) : Option Tmp → Value
  | some d => a.tmps[d]?.getD undef
  | none => a.tmps[wt j]?.getD undef
def valYF (wt : Nat → Tmp) (f : Tmp → Value) (j : Nat) : Option Tmp → Value
  | some d => f d
  | none => f (wt j)

section
variable {P : Program} {ops : Array Oper} {Q : Exit → Act → World → Prop}

structure GoodY (X : World → World → Prop) (wt : Nat → Tmp) (ds : List (Option Tmp)) (R : Nat → Value → World → Prop) (a0 : Act) (w0 : World) (listed : Array Bool) (a : Act) (w : World) (n : Nat) : Prop where
  size : listed.size = n
  last : ∀ k, ds.length ≤ k → k < n → listed.getD k true = false
  ext : X w0 w
  defers : a.defers = a0.defers
  tsize : a.tmps.size = a0.tmps.size
  rest : ∀ t, (∀ j, listed.getD j false = true → ds[j]? ≠ some (some t)) → a.tmps[t]? = a0.tmps[t]?
  watch : ∀ j i, listed.getD j false = true → ds[j]? = some none → ds[i]? = some (some (wt j)) → listed.getD i false = true
  done : ∀ j d, ds[j]? = some d → listed.getD j false = true → ∃ W, X W w ∧ R j (valY wt a j d) W

theorem wpAny_drawy (X : World → World → Prop) (wt : Nat → Tmp) (xr : ∀ W, X W W) (xt : ∀ a b c, X a b → X b c → X a c) (ds : List (Option Tmp)) (R : Nat → Value → World → Prop) (a0 : Act) (w0 : World) (hs : Region.shaped ops ds a0.tmps.size = true) (hwt : ∀ j i : Nat, ds[j]? = some none → ds[i]? = some (some (wt j)) → waitsFor ops j i = true)
    (step : ∀ (k : Nat) (o : Oper) (d : Option Tmp) (b : Act) (W : World), ops[k]? = some o → ds[k]? = some d → X w0 W → (∀ t, some t ∉ ds → b.tmps[t]?.getD undef = a0.tmps[t]?.getD undef) →
      (∀ j dj, waitsFor ops k j = true → ds[j]? = some dj → ∃ Wj, X Wj W ∧ R j (valY wt b j dj) Wj) →
      (∀ g, o.guard = some g → ∀ v W, R g.1 v W → v = .bool g.2) ∧
      ∀ K : Act → World → Prop, (∀ v W', d ≠ none → X W W' → R k v W' → K (b.put d v) W') → (d = none → ∀ W', X W W' → R k (b.tmps[wt k]?.getD undef) W' → K b W') → o.wp P b W K Q)
    (last : ∀ (f : Tmp → Value) (W : World), X w0 W → (∀ j d, ds[j]? = some d → ∃ Wj, X Wj W ∧ R j (valYF wt f j d) Wj) →
      wpList P ops Q (ops.toList.drop ds.length) (puts f (ds.filterMap id) a0) W) :
    ∀ (fuel : Nat) (listed : Array Bool) (a : Act) (w : World), GoodY X wt ds R a0 w0 listed a w ops.size → left ops.size listed ≤ fuel → wpAny P .any ops Q fuel listed a w := by
  simp only [Region.shaped, Bool.and_eq_true, decide_eq_true_eq, List.all_eq_true, List.mem_range] at hs
  obtain ⟨⟨⟨⟨⟨⟨hm, hnd⟩, hdst⟩, hin⟩, hback⟩, hwait⟩, hgd⟩ := hs
  have hback' : ∀ (k : Nat) (o : Oper), ops[k]? = some o → ∀ e ∈ o.after, Region.binds .any e = true → Edge.on e < k := by
    intro k o ho e he hbd
    have h1 := hback k (Array.getElem?_eq_some_iff.1 ho).1
    rw [ho] at h1
    simp only [Option.map_some, Option.getD_some, Array.all_eq_true_iff_forall_mem, Bool.or_eq_true, Bool.not_eq_true', decide_eq_true_eq] at h1
    exact (h1 e he).resolve_left (by rw [hbd]; simp)
  have hwait' : ∀ k j, ds.length ≤ k → j < k → k < ops.size → waitsFor ops k j = true := by
    intro k j hk hj hk2
    have h1 := hwait k hk2
    rw [Bool.or_eq_true, decide_eq_true_eq] at h1
    have h2 := h1.resolve_left (by omega)
    rw [List.all_eq_true] at h2
    exact h2 j (List.mem_range.2 hj)
  have hdin : ∀ (j : Nat) (d : Tmp), ds[j]? = some (some d) → d < a0.tmps.size := by
    intro j d hj
    have h1 := hin j (List.getElem?_eq_some_iff.1 hj).1
    rw [hj] at h1
    simpa using h1
  have hnd' : ∀ (i j : Nat) (d : Tmp), ds[i]? = some (some d) → ds[j]? = some (some d) → i = j := by
    intro i j d hi hj
    have h1 := hnd i (List.getElem?_eq_some_iff.1 hi).1 j (List.getElem?_eq_some_iff.1 hj).1
    rw [hi, hj] at h1
    simpa using h1
  intro fuel
  induction fuel with
  | zero =>
    intro listed a w hg hl
    exfalso
    have := left_set (listed := listed) hm hg.size (hg.last _ (Nat.le_refl _) hm)
    omega
  | succ fuel ih =>
    intro listed a w hg hl
    refine ⟨fun hr => ?_, fun i hi => ?_⟩
    · exfalso
      have hex : ∃ i, i < ops.size ∧ listed.getD i true = false ∧ ∀ j, j < i → listed.getD j true = true := by
        have : ∀ n, (∃ i, i < n ∧ listed.getD i true = false) → ∃ i, i < n ∧ listed.getD i true = false ∧ ∀ j, j < i → listed.getD j true = true := by
          intro n
          induction n with
          | zero => rintro ⟨i, hi, _⟩; omega
          | succ n ihn =>
            rintro ⟨i, hi, hf⟩
            by_cases hx : ∃ i, i < n ∧ listed.getD i true = false
            · obtain ⟨i, h1, h2⟩ := ihn hx
              exact ⟨i, by omega, h2⟩
            · have hin : i = n := by
                rcases Nat.lt_or_ge i n with h | h
                · exact absurd ⟨i, h, hf⟩ hx
                · omega
              subst hin
              refine ⟨i, hi, hf, fun j hj => ?_⟩
              cases hjj : listed.getD j true with
              | true => rfl
              | false => exact absurd ⟨j, hj, hjj⟩ hx
        exact this _ ⟨ds.length, hm, hg.last _ (Nat.le_refl _) hm⟩
      obtain ⟨i, hi, hf, hb⟩ := hex
      have : i ∈ Region.ready .any ops listed := by
        rw [mem_ready]
        refine ⟨hf, ops[i], Array.getElem?_eq_getElem hi, fun e he hbd => ?_⟩
        have h2 := hback' i _ (Array.getElem?_eq_getElem hi) e he hbd
        rw [← getD_false_of (by have := hg.size; omega) true]
        exact hb _ h2
      rw [hr] at this
      simp at this
    · have hi' := hi
      rw [mem_ready] at hi
      obtain ⟨hf, o, ho, hed⟩ := hi
      have hlt : i < ops.size := (Array.getElem?_eq_some_iff.1 ho).1
      have hcnt := left_set hlt hg.size hf
      have hsz' : (listed.setIfInBounds i true).size = ops.size := by simp [hg.size]
      have hdone : ∀ j, waitsFor ops i j = true → listed.getD j false = true := by
        intro j hj
        simp only [waitsFor, ho, Option.map_some, Option.getD_some, List.any_eq_true, Bool.and_eq_true, beq_iff_eq] at hj
        obtain ⟨e, he, h1, h2⟩ := hj
        rw [← h1]
        exact hed e (by simpa using he) h2
      rcases Nat.lt_or_ge i ds.length with hil | hil
      · obtain ⟨d, hdd⟩ : ∃ d, ds[i]? = some d := ⟨ds[i], List.getElem?_eq_getElem hil⟩
        have hd : o.dst = d := by
          have h1 := hdst i hil
          rw [ho, hdd] at h1
          simpa using h1
        have hst := step i o d a w ho hdd hg.ext (fun t ht => by rw [hg.rest t (fun j _ e => ht (List.mem_of_getElem? e))]) (fun j dj hj hdj => hg.done j dj hdj (hdone j hj))
        have hw : Region.wanted o (yielded ops a.tmps) = true := by
          cases hgo : o.guard with
          | none => simp [Region.wanted, hgo]
          | some g =>
            have h1 := hgd i hil
            rw [ho] at h1
            simp only [Option.map_some, Option.getD_some, hgo, Bool.and_eq_true, decide_eq_true_eq] at h1
            obtain ⟨⟨h2, h3⟩, h4⟩ := h1
            obtain ⟨dg, hdg⟩ : ∃ dg, ds[g.1]? = some dg := ⟨ds[g.1], List.getElem?_eq_getElem h3⟩
            rw [hdg] at h4
            cases dg with
            | none => simp at h4
            | some t =>
              obtain ⟨Wg, _, hR⟩ := hg.done g.1 _ hdg (hdone _ h2)
              have hv := hst.1 g hgo _ _ hR
              simp only [valY] at hv
              have htl : t < a.tmps.size := by rw [hg.tsize]; exact hdin _ _ hdg
              have hog : ((ops[g.1]?).bind (·.dst)) = some t := by
                have h5 := hdst g.1 h3
                rw [hdg] at h5
                cases hop : ops[g.1]? with
                | none => simp [hop] at h5
                | some og => simp only [hop, Option.map_some, Option.getD_some, beq_iff_eq, Option.some.injEq] at h5; simp [h5]
              obtain ⟨gj, gw⟩ := g
              rw [Array.getElem?_eq_getElem htl, Option.getD_some] at hv
              simp only at hog hv
              simp only [Region.wanted, hgo, yielded, hog, Option.bind_some, Array.getElem?_eq_getElem htl, hv]
              simp
        have hwatch : ∀ j i', (listed.setIfInBounds i true).getD j false = true → ds[j]? = some none → ds[i']? = some (some (wt j)) → (listed.setIfInBounds i true).getD i' false = true := by
          intro j i' h1 h2 h3
          have h4 : listed.getD i' false = true := by
            by_cases hij : i = j
            · subst hij; exact hdone _ (hwt _ _ h2 h3)
            · rw [getD_set_ne false hij] at h1
              exact hg.watch j i' h1 h2 h3
          by_cases hii : i = i'
          · subst hii; simp [show i < listed.size by have := hg.size; omega]
          · rw [getD_set_ne false hii]; exact h4
        have hkeep : ∀ (v : Value) (j : Nat) (dj : Option Tmp), i ≠ j → ds[j]? = some dj → listed.getD j false = true → valY wt (a.put d v) j dj = valY wt a j dj := by
          intro v j dj hij hdj hj
          cases d with
          | none => rfl
          | some d =>
            cases dj with
            | some dj =>
              have hne : d ≠ dj := fun e => hij (hnd' i j d hdd (by rw [hdj, e]))
              simp [valY, Act.put, Array.getElem?_setIfInBounds_ne hne]
            | none =>
              have hne : d ≠ wt j := by
                intro e
                subst e
                have h1 := hg.watch j i hj hdj hdd
                rw [getD_false_of (by have := hg.size; omega) true] at hf
                rw [hf] at h1
                simp at h1
              simp [valY, Act.put, Array.getElem?_setIfInBounds_ne hne]
        simp only [wpOp, ho, hw, if_true]
        refine .inl (hst.2 _ (fun v W' hdn hE hR => ?_) (fun hdn W' hE hR => ?_))
        · refine ih _ _ _ ⟨hsz', fun k hk hk2 => ?_, xt _ _ _ hg.ext hE, ?_, ?_, fun t ht => ?_, hwatch, fun j dj hdj hj => ?_⟩ (by omega)
          · rw [getD_set_ne true (by omega)]; exact hg.last k hk hk2
          · cases d <;> exact hg.defers
          · cases d <;> simp [Act.put, hg.tsize]
          · have h2 : (a.put d v).tmps[t]? = a.tmps[t]? := by
              cases d with
              | none => rfl
              | some d =>
                have htd : t ≠ d := fun e => by
                  refine ht i ?_ (by rw [e]; exact hdd)
                  simp [show i < listed.size by have := hg.size; omega]
                simp [Act.put, Array.getElem?_setIfInBounds_ne (Ne.symm htd)]
            rw [h2]
            refine hg.rest t fun j hj => ht j ?_
            by_cases hij : i = j
            · subst hij; simp [show i < listed.size by have := hg.size; omega]
            · rw [getD_set_ne false hij]; exact hj
          · by_cases hij : i = j
            · subst hij
              obtain rfl : d = dj := Option.some.inj (hdd.symm.trans hdj)
              cases d with
              | none => exact absurd rfl hdn
              | some d =>
                refine ⟨W', xr _, ?_⟩
                have hdl : d < a.tmps.size := by rw [hg.tsize]; exact hdin _ _ hdd
                have : valY wt (a.put (some d) v) i (some d) = v := by simp [valY, Act.put, hdl]
                rw [this]; exact hR
            · rw [getD_set_ne false hij] at hj
              obtain ⟨Wj, h3, h4⟩ := hg.done j dj hdj hj
              refine ⟨Wj, xt _ _ _ h3 hE, ?_⟩
              rw [hkeep v j dj hij hdj hj]; exact h4
        · subst hdn
          refine ih _ _ _ ⟨hsz', fun k hk hk2 => ?_, xt _ _ _ hg.ext hE, hg.defers, hg.tsize, fun t ht => ?_, hwatch, fun j dj hdj hj => ?_⟩ (by omega)
          · rw [getD_set_ne true (by omega)]; exact hg.last k hk hk2
          · refine hg.rest t fun j hj => ht j ?_
            by_cases hij : i = j
            · subst hij; simp [show i < listed.size by have := hg.size; omega]
            · rw [getD_set_ne false hij]; exact hj
          · by_cases hij : i = j
            · subst hij
              obtain rfl : none = dj := Option.some.inj (hdd.symm.trans hdj)
              exact ⟨W', xr _, hR⟩
            · rw [getD_set_ne false hij] at hj
              obtain ⟨Wj, h3, h4⟩ := hg.done j dj hdj hj
              exact ⟨Wj, xt _ _ _ h3 hE, h4⟩
      · have hall : ∀ j, j < i → listed.getD j true = true := fun j hj => by
          rw [getD_false_of (by have := hg.size; omega)]
          exact hdone j (hwait' i j hil hj hlt)
        obtain rfl : i = ds.length := by
          rcases Nat.eq_or_lt_of_le hil with h | h
          · exact h.symm
          · have := hall ds.length h
            rw [hg.last _ (Nat.le_refl _) hm] at this
            simp at this
        have ha : puts (fun t => a.tmps[t]?.getD undef) (ds.filterMap id) a0 = a := by
          obtain ⟨p1, p2, p3⟩ := puts_spec (fun t => a.tmps[t]?.getD undef) (ds.filterMap id) a0
          have e1 : (puts (fun t => a.tmps[t]?.getD undef) (ds.filterMap id) a0).tmps = a.tmps := by
            apply Array.ext_getElem?
            intro t
            by_cases ht : t < a0.tmps.size
            · rw [p3 t ht]
              by_cases hmm : t ∈ ds.filterMap id
              · rw [if_pos hmm, Array.getElem?_eq_getElem (by rw [hg.tsize]; exact ht)]
                simp
              · rw [if_neg hmm]
                exact (hg.rest t fun j _ e => hmm (List.mem_filterMap.2 ⟨some t, List.mem_of_getElem? e, rfl⟩)).symm
            · rw [Array.getElem?_eq_none (by omega), Array.getElem?_eq_none (by rw [hg.tsize]; omega)]
          have e2 : (puts (fun t => a.tmps[t]?.getD undef) (ds.filterMap id) a0).defers = a.defers := by rw [p1, hg.defers]
          cases hp : puts (fun t => a.tmps[t]?.getD undef) (ds.filterMap id) a0 with
          | mk x y =>
            cases a with
            | mk x' y' =>
              rw [hp] at e1 e2
              simp only at e1 e2
              rw [e1, e2]
        have hl' := last (fun t => a.tmps[t]?.getD undef) w hg.ext (fun j d hd => by
          obtain ⟨Wj, h1, h2⟩ := hg.done j d hd (by rw [← getD_false_of (by have := hg.size; have := (List.getElem?_eq_some_iff.1 hd).1; omega) true]; exact hall j (List.getElem?_eq_some_iff.1 hd).1)
          exact ⟨Wj, h1, by cases d <;> exact h2⟩)
        rw [ha] at hl'
        have hch := wpAny_chain (P := P) (Q := Q) (ops := ops) (ops.size - ds.length) (fuel + 1) ds.length listed a w (by omega) hg.size hall hg.last hwait' hback' (by
          have : ∀ (r i : Nat) (listed : Array Bool), i + r = ops.size → listed.size = ops.size → (∀ j, i ≤ j → j < ops.size → listed.getD j true = false) → r ≤ left ops.size listed := by
            intro r
            induction r with
            | zero => intro _ _ _ _ _; omega
            | succ r ihr =>
              intro i listed h1 h2 h3
              have h4 := left_set (show i < ops.size by omega) h2 (h3 i (Nat.le_refl _) (by omega))
              have h5 := ihr (i + 1) (listed.setIfInBounds i true) (by omega) (by simpa using h2) (fun j hj hj2 => by rw [getD_set_ne true (by omega)]; exact h3 j (by omega) hj2)
              omega
          exact Nat.le_trans (this _ ds.length listed (by omega) hg.size hg.last) hl) hl'
        exact hch.2 _ hi'
/-- An obligation an operation, in the text's order; then the last operations. -/
def stepsY (P : Program) (ops : Array Oper) (Q : Exit → Act → World → Prop) (X : World → World → Prop) (wt : Nat → Tmp) (ds0 : List (Option Tmp)) (a0 : Act) (w1 : World) (R : Nat → Value → World → Prop) : Nat → List Oper → List (Option Tmp) → Prop
  | k, o :: os, some d :: ds => ((∀ g, o.guard = some g → ∀ v W, R g.1 v W → v = .bool g.2) ∧ ∀ (b : Act) (W : World), X w1 W → (∀ t, some t ∉ ds0 → b.tmps[t]?.getD undef = a0.tmps[t]?.getD undef) →
      (∀ j dj, waitsFor ops k j = true → ds0[j]? = some dj → ∃ Wj, X Wj W ∧ R j (valY wt b j dj) Wj) →
      ∀ K : Act → World → Prop, (∀ v W', X W W' → R k v W' → K (b.put (some d) v) W') → o.wp P b W K Q) ∧ stepsY P ops Q X wt ds0 a0 w1 R (k + 1) os ds
  | k, o :: os, none :: ds => ((∀ g, o.guard = some g → ∀ v W, R g.1 v W → v = .bool g.2) ∧ ∀ (b : Act) (W : World), X w1 W → (∀ t, some t ∉ ds0 → b.tmps[t]?.getD undef = a0.tmps[t]?.getD undef) →
      (∀ j dj, waitsFor ops k j = true → ds0[j]? = some dj → ∃ Wj, X Wj W ∧ R j (valY wt b j dj) Wj) →
      ∀ K : Act → World → Prop, (∀ W', X W W' → R k (b.tmps[wt k]?.getD undef) W' → K b W') → o.wp P b W K Q) ∧ stepsY P ops Q X wt ds0 a0 w1 R (k + 1) os ds
  | _, os, [] => ∀ (f : Tmp → Value) (W : World), X w1 W → (∀ j d, ds0[j]? = some d → ∃ Wj, X Wj W ∧ R j (valYF wt f j d) Wj) → wpList P ops Q os (puts f (ds0.filterMap id) a0) W
  | _, [], _ :: _ => True

theorem stepsY_get {X : World → World → Prop} {wt : Nat → Tmp} {ds0 : List (Option Tmp)} {a0 : Act} {w1 : World} {R : Nat → Value → World → Prop} : ∀ (os : List Oper) (ds : List (Option Tmp)) (k i : Nat), stepsY P ops Q X wt ds0 a0 w1 R k os ds → ∀ (o : Oper) (d : Option Tmp), os[i]? = some o → ds[i]? = some d →
    (∀ g, o.guard = some g → ∀ v W, R g.1 v W → v = .bool g.2) ∧ (∀ (b : Act) (W : World), X w1 W → (∀ t, some t ∉ ds0 → b.tmps[t]?.getD undef = a0.tmps[t]?.getD undef) →
      (∀ j dj, waitsFor ops (k + i) j = true → ds0[j]? = some dj → ∃ Wj, X Wj W ∧ R j (valY wt b j dj) Wj) →
      ∀ K : Act → World → Prop, (∀ v W', d ≠ none → X W W' → R (k + i) v W' → K (b.put d v) W') → (d = none → ∀ W', X W W' → R (k + i) (b.tmps[wt (k + i)]?.getD undef) W' → K b W') → o.wp P b W K Q)
  | [], _, _, _, _, _, _, h, _ => by simp at h
  | _ :: _, [], _, _, _, _, _, _, h => by simp at h
  | o' :: os, some d' :: ds, k, 0, h, o, d, ho, hd => by
    simp at ho hd; subst ho; subst hd
    exact ⟨h.1.1, fun b W h1 h2 h3 K hK _ => h.1.2 b W h1 h2 h3 K (fun v W' e r => hK v W' (by simp) e r)⟩
  | o' :: os, none :: ds, k, 0, h, o, d, ho, hd => by
    simp at ho hd; subst ho; subst hd
    exact ⟨h.1.1, fun b W h1 h2 h3 K _ hK => h.1.2 b W h1 h2 h3 K (fun W' e r => hK rfl W' e r)⟩
  | o' :: os, some d' :: ds, k, i + 1, h, o, d, ho, hd => by
    have := stepsY_get os ds (k + 1) i h.2 o d (by simpa using ho) (by simpa using hd)
    rw [show k + 1 + i = k + (i + 1) by omega] at this
    exact this
  | o' :: os, none :: ds, k, i + 1, h, o, d, ho, hd => by
    have := stepsY_get os ds (k + 1) i h.2 o d (by simpa using ho) (by simpa using hd)
    rw [show k + 1 + i = k + (i + 1) by omega] at this
    exact this

theorem stepsY_last {X : World → World → Prop} {wt : Nat → Tmp} {ds0 : List (Option Tmp)} {a0 : Act} {w1 : World} {R : Nat → Value → World → Prop} : ∀ (os : List Oper) (ds : List (Option Tmp)) (k : Nat), stepsY P ops Q X wt ds0 a0 w1 R k os ds → ds.length < os.length →
    ∀ (f : Tmp → Value) (W : World), X w1 W → (∀ j d, ds0[j]? = some d → ∃ Wj, X Wj W ∧ R j (valYF wt f j d) Wj) → wpList P ops Q (os.drop ds.length) (puts f (ds0.filterMap id) a0) W
  | [], _, _, _, hl => by simp at hl
  | _ :: _, [], _, h, _ => h
  | _ :: os, some _ :: ds, k, h, hl => stepsY_last os ds (k + 1) h.2 (by simpa using hl)
  | _ :: os, none :: ds, k, h, hl => stepsY_last os ds (k + 1) h.2 (by simpa using hl)

/-- THE LAW, WIDER. -/
theorem wp_drawy {id : Nat} {a0 : Act} {w0 : World} {os : List Oper} (hm : P.follows .mixedOrders = true) (X : World → World → Prop) (wt : Nat → Tmp) (xr : ∀ W, X W W) (xt : ∀ a b c, X a b → X b c → X a c) (ds : List (Option Tmp)) (hs : Region.shaped os.toArray ds a0.tmps.size = true)
    (hwt : (List.range ds.length).all (fun j => (List.range ds.length).all fun i => ds[j]? != some none || ds[i]? != some (some (wt j)) || waitsFor os.toArray j i) = true) (R : Nat → Value → World → Prop)
    (step : stepsY P os.toArray Q X wt ds a0 w0.drew R 0 os ds) : (Code.region id os.toArray true).wp P Q a0 w0 := by
  have hlt : ds.length < os.length := by
    simp only [Region.shaped, Bool.and_eq_true, decide_eq_true_eq] at hs
    simpa using hs.1.1.1.1.1.1
  refine wp_region_any hm (wpAny_drawy X wt xr xt ds R a0 w0.drew hs (fun j i h1 h2 => ?_) (fun k o d b W ho hd hE hb hdep => ?_) (fun f W hE hR => ?_) _ _ _ _ ⟨by simp, fun k _ hk => by simp at hk; simp [Array.getElem?_replicate, hk], xr _, rfl, rfl, fun _ _ => rfl, fun j i hj _ _ => ?_, fun j d hd hj => ?_⟩ ?_)
  · simp only [List.all_eq_true, List.mem_range, Bool.or_eq_true, bne_iff_ne, ne_eq] at hwt
    have h3 := hwt j (List.getElem?_eq_some_iff.1 h1).1 i (List.getElem?_eq_some_iff.1 h2).1
    rcases h3 with (h3 | h3) | h3
    · exact absurd h1 h3
    · exact absurd h2 h3
    · exact h3
  · have h := stepsY_get (ops := os.toArray) os ds 0 k step o d (by simpa using ho) hd
    refine ⟨fun g hg v W' hR => h.1 g hg v W' hR, fun K hK hK2 => h.2 b W hE hb (fun j dj h1 h2 => hdep j dj (by simpa using h1) h2) K (fun v W' hn e r => hK v W' hn e (by simpa using r)) (fun hn W' e r => hK2 hn W' e (by simpa using r))⟩
  · have := stepsY_last (ops := os.toArray) os ds 0 step hlt f W hE (fun j d hd => hR j d hd)
    simpa using this
  · exfalso
    rw [Array.getD_eq_getD_getElem?, Array.getElem?_replicate] at hj
    split at hj <;> simp at hj
  · exfalso
    rw [Array.getD_eq_getD_getElem?, Array.getElem?_replicate] at hj
    split at hj <;> simp at hj
  · exact Nat.le_trans List.countP_le_length (by simp)
end
end Go.Proofs.Ytafdcbdbllpcnaa
/- A relation of worlds for a drawn region that makes a block and stores a row into it, while other operations may still wait. Over every program. -/
namespace Go.Proofs.Ytafdcbdbllpcnaa
open Go.RowKit

/-- W' is W with more memory; a block from B on whose row is z may have got the row r. -/
structure XN (B : Nat) (z r : Array Value) (W W' : World) : Prop where
  os : W'.os = W.os
  tape : W'.tape = W.tape
  output : W'.output = W.output
  size : W.heap.size ≤ W'.heap.size
  block : ∀ k, k < W.heap.size → (k < B ∨ rowOf W k ≠ some z) → W'.heap[k]? = W.heap[k]?
  fresh : ∀ k, rowOf W k = some z → rowOf W' k = some z ∨ rowOf W' k = some r

theorem rowOf_heap {W W' : World} {k : Nat} (h : W'.heap[k]? = W.heap[k]?) : rowOf W' k = rowOf W k := by unfold rowOf; rw [h]
section
variable {B : Nat} {z r : Array Value}
theorem XN.refl (W : World) : XN B z r W W := ⟨rfl, rfl, rfl, Nat.le_refl _, fun _ _ _ => rfl, fun _ h => .inl h⟩
theorem XN.lt {a : World} {k : Nat} {cs : Array Value} (h : rowOf a k = some cs) : k < a.heap.size := (cell_of_rowOf h).2.2
theorem XN.last {b c : World} (q : XN B z r b c) {k : Nat} (h : rowOf b k = some r) : rowOf c k = some r := by
  by_cases e : z = r
  · subst e
    rcases q.fresh k h with h | h <;> exact h
  · rw [rowOf_heap (q.block k (XN.lt h) (.inr (by rw [h]; intro x; exact e (Option.some.inj x).symm)))]; exact h
theorem XN.trans {a b c : World} (p : XN B z r a b) (q : XN B z r b c) : XN B z r a c := by
  refine ⟨q.os.trans p.os, q.tape.trans p.tape, q.output.trans p.output, Nat.le_trans p.size q.size, fun k hk h => ?_, fun k h => ?_⟩
  · have h1 := p.block k hk h
    rw [← h1]
    refine q.block k (Nat.lt_of_lt_of_le hk p.size) ?_
    rcases h with h | h
    · exact .inl h
    · exact .inr (by rw [rowOf_heap h1]; exact h)
  · rcases p.fresh k h with h1 | h1
    · exact q.fresh k h1
    · exact .inr (q.last h1)
theorem Ext.xn {W W' : World} (h : Ext W W') : XN B z r W W' := ⟨h.os, h.tape, h.output, h.size, fun k hk _ => h.block k hk, fun k e => .inl (keep_row h e).1⟩
theorem XN.row {W W' : World} (h : XN B z r W W') {g : Nat} {cs : Array Value} (hr : rowOf W g = some cs) (hg : g < B) : rowOf W' g = some cs := by
  rw [rowOf_heap (h.block g (XN.lt hr) (.inl hg))]; exact hr
theorem XN.rowz {W W' : World} (h : XN B z r W W') {g : Nat} {cs : Array Value} (hr : rowOf W g = some cs) (hz : cs.size ≠ z.size) : rowOf W' g = some cs := by
  rw [rowOf_heap (h.block g (XN.lt hr) (.inr (by rw [hr]; intro x; exact hz (by rw [Option.some.inj x]))))]; exact hr
theorem XN.below {B0 : Nat} {w W W' : World} (h : XN B z r W W') (hw : Below B0 w W) (hB : B0 ≤ W.heap.size) (hf : B0 ≤ B) : Below B0 w W' :=
  hw.trans ⟨h.os, h.tape, h.output, h.size, fun k hk => h.block k (by omega) (.inl (by omega))⟩
theorem xn_setRow {W : World} {g : Nat} (hr : rowOf W g = some z) (hg : B ≤ g) : XN B z r W (W.setRow g r) := by
  have hS := stored_setRow hr r
  refine ⟨rfl, rfl, rfl, by simp, fun k _ hk => ?_, fun k h => ?_⟩
  · refine setRow_other W g k r ?_
    rintro rfl
    rcases hk with hk | hk
    · omega
    · exact hk hr
  · by_cases e : k = g
    · subst e; exact .inr hS.row
    · exact .inl ((hS.other k e).trans h)
theorem xn_setRow_same {W : World} {g : Nat} (hr : rowOf W g = some r) : XN B z r W (W.setRow g r) := by
  obtain ⟨t, hg⟩ := rowOf_some hr
  rw [setRow_same W g r t (0, 0) hg]
  exact XN.refl _

/-- A pointer to a new block, before the store or behind it; behind it. -/
structure NB (B : Nat) (z r : Array Value) (v : Value) (W : World) : Prop where
  eq : v = .pointer (some ⟨blk v, 0, none⟩)
  base : B ≤ blk v
  row : rowOf W (blk v) = some z ∨ rowOf W (blk v) = some r
structure SB (r : Array Value) (v : Value) (W : World) : Prop where
  eq : v = .pointer (some ⟨blk v, 0, none⟩)
  row : rowOf W (blk v) = some r
theorem nbR {v : Value} {W : World} (h : ∃ Wj, XN B z r Wj W ∧ NB B z r v Wj) : NB B z r v W := let ⟨_, e, h⟩ := h; ⟨h.1, h.2, h.3.elim (fun k => e.fresh _ k) fun k => .inr (e.last k)⟩
theorem sbR {v : Value} {W : World} (h : ∃ Wj, XN B z r Wj W ∧ SB r v Wj) : SB r v W := let ⟨_, e, h⟩ := h; ⟨h.1, e.last h.2⟩
theorem pureN {W : World} {p : Prop} (h : ∃ Wj, XN B z r Wj W ∧ p) : p := let ⟨_, _, h⟩ := h; h
theorem sliceN {W : World} {v : Value} {n : Nat} {row : Array Value} (hz : row.size ≠ z.size) (h : ∃ Wj, XN B z r Wj W ∧ SL v n row Wj) : SL v n row W := let ⟨_, e, h⟩ := h; ⟨h.1, e.rowz h.2 hz⟩
theorem wp_store_nb {P : Program} {Q : Exit → Act → World → Prop} {o : Oper} {a : Act} {W : World} {K : Act → World → Prop} (ty : TypeId) (x : Tmp) (y : Operand) (ho : o.op = .store ty (.tmp x) y) (hd : o.dst = none) (hn : NB B z r (a.tmps[x]?.getD undef) W) (hy : a.eval y = .agg r)
    (hi : (P.info? ty).map (·.size) = some r.size) (hz : z.size = r.size) (h1 : r.all (·.oneCell') = true)
    (hk : ∀ W', XN B z r W W' → SB r (a.tmps[x]?.getD undef) W' → K a W') : o.wp P a W K Q := by
  obtain ⟨e, hb, hr⟩ := hn
  have hx : a.eval (.tmp x) = .pointer (some ⟨blk (a.tmps[x]?.getD undef), 0, none⟩) := (eval_tmp a x).trans e
  rcases hr with hr | hr
  · obtain ⟨t, hg⟩ := rowOf_some hr
    refine wp_store_row ty (.tmp x) y ho _ r hx hy t z hg hi hz h1 ?_
    rw [hd]
    exact hk _ (xn_setRow hr hb) ⟨e, (stored_setRow hr r).row⟩
  · obtain ⟨t, hg⟩ := rowOf_some hr
    refine wp_store_row ty (.tmp x) y ho _ r hx hy t r hg hi rfl h1 ?_
    rw [hd]
    exact hk _ (xn_setRow_same hr) ⟨e, (stored_setRow hr r).row⟩
end
end Go.Proofs.Ytafdcbdbllpcnaa
