/- Contract of the reference's SameCamels: two lists of the same animals are the same. -/
import Derived.Test.YtafdcbdbllpcnaaLeafB
import Derived.Test.YtafdcbdbllpcnaaLeafE
import Derived.Deep.QuietTactic
import Derived.BigQuiet
import Derived.Test.YtafdcbdbllpcnaaRefI
namespace Go.Proofs.Ytafdcbdbllpcnaa
open Go.RowKit
open Go.Proofs

/-- Animals lie one behind the other in a block; a list of animals that was handed over. -/
def CamelAt (w : World) (b o : Nat) (c : Cm) : Prop :=
  w.cell? ⟨b, o, none⟩ = some (.int .i64 c.water.1) ∧ w.cell? ⟨b, o + 1, none⟩ = some (.int .i64 c.water.2) ∧ w.cell? ⟨b, o + 2, none⟩ = some (.int .i64 c.fat.1) ∧ w.cell? ⟨b, o + 3, none⟩ = some (.int .i64 c.fat.2) ∧
  w.cell? ⟨b, o + 4, none⟩ = some (.int .i64 c.sore.1) ∧ w.cell? ⟨b, o + 5, none⟩ = some (.int .i64 c.sore.2) ∧ w.cell? ⟨b, o + 6, none⟩ = some (.bool c.milks)
def CamelsAt (w : World) (b off : Nat) (cs : List Cm) : Prop := ∀ k (h : k < cs.length), CamelAt w b (off + k * 7) cs[k]
theorem camel_below {B : Nat} {w w' : World} {b o : Nat} {c : Cm} (hB : Below B w w') (hb : b < B) (h : CamelAt w b o c) : CamelAt w' b o c := by
  obtain ⟨c0, c1, c2, c3, c4, c5, c6⟩ := h
  exact ⟨at_belowb hB hb c0, at_belowb hB hb c1, at_belowb hB hb c2, at_belowb hB hb c3, at_belowb hB hb c4, at_belowb hB hb c5, at_belowb hB hb c6⟩

set_option maxHeartbeats 1000000 in
theorem sameCamels_some (b1 o1 p1 b2 o2 p2 : Nat) (cs : List Cm) (w : World) (h1 : CamelsAt w b1 o1 cs) (h2 : CamelsAt w b2 o2 cs) (l1 : b1 < w.heap.size) (l2 : b2 < w.heap.size) (hl : cs.length ≤ 100000) :
    Calls Try.prog 39 #[.slice (some ⟨b1, o1, none⟩) cs.length p1, .slice (some ⟨b2, o2, none⟩) cs.length p2] w fun e w' => e = .returned (.bool true) ∧ Below w.heap.size w w' := by
  have H1 := Lib.hid h1
  have H2 := Lib.hid h2
  clear h1 h2
  go_enter Try.func39, Try.ntmps39
  go_wp2_with fail
  go_loopw [5] (fun i wr => ∃ k : Nat, k ≤ cs.length ∧ i = .int .i64 k ∧ Below w.heap.size w wr) (fun i _ => cs.length - (intOf i).toNat)
  case atStart => exact ⟨0, Nat.zero_le _, rfl, Below.refl _ _⟩
  case round =>
    obtain ⟨k, hk, rfl, hB0⟩ := hrel
    by_cases hlt : k < cs.length
    · obtain ⟨c0, c1, c2, c3, c4, c5, c6⟩ := camel_below hB0 l1 (H1.out k hlt)
      obtain ⟨d0, d1, d2, d3, d4, d5, d6⟩ := camel_below hB0 l2 (H2.out k hlt)
      generalize cs[k] = c at *
      have hlt' : (k : Int) < (cs.length : Int) := by omega
      go_wp2_with fail
      go_quiet (fail)
      go_wp2
      exact ⟨⟨k + 1, by omega, by go_num, below_drewN hB0 _⟩, by simp [intOf]; omega⟩
    · obtain rfl : k = cs.length := by omega
      go_wp2
      go_returns
      exact ⟨rfl, hB0⟩
end Go.Proofs.Ytafdcbdbllpcnaa
/- Contract of package camel's Thirst at a list that isn't nil, of a valid breed, and not too long. -/
namespace Go.Proofs.Ytafdcbdbllpcnaa
open Go.RowKit
open Go.Proofs

attribute [local go_sem ↓] exec36l exec112l exec36s exec112s exec31s exec39s run_min2 run_max2
attribute [local go_sem] load36 load112 store36 store112 store39 store31at List.setIfInBounds_toArray List.set_cons_succ List.set_cons_zero build39z rowOf_alloc rowOf_drew setRow_alloc one_int one_bool

/-- How much water animals need, from a first sum on, and the error. -/
def thGo (b : Br) : List Cm → Int × Int → (Int × Int) × Int
  | [], acc => (acc, 0)
  | c :: l, acc => if okC b c = true then thGo b l (acc.1 + (b.full - c.water.2), acc.2 + (b.full - c.water.1)) else ((0, 0), 11)
theorem thGo_drop {b : Br} {cs : List Cm} {k : Nat} (h : k < cs.length) (acc : Int × Int) : thGo b (cs.drop k) acc = if okC b cs[k] = true then thGo b (cs.drop (k + 1)) (acc.1 + (b.full - cs[k].water.2), acc.2 + (b.full - cs[k].water.1)) else ((0, 0), 11) := by
  rw [List.drop_eq_getElem_cons h, thGo]

set_option maxRecDepth 100000 in
set_option maxHeartbeats 2000000 in
theorem Thirst_some (b : Br) (g off cap : Nat) (cs : List Cm) (w : World) (h : CamelsAt w g off cs) (hg : g < w.heap.size) (hb : okB b = true) (hl : cs.length ≤ 30) :
    Calls Try.prog 18 #[.agg #[.int .i64 b.full, .int .i64 b.fed, .int .i64 b.rest.1, .int .i64 b.rest.2, .int .i64 b.heat.1, .int .i64 b.heat.2, .int .i64 b.toil.1, .int .i64 b.toil.2, .int .i64 b.burn.1, .int .i64 b.burn.2, .int .i64 b.rub.1, .int .i64 b.rub.2, .int .i64 b.milk.1, .int .i64 b.milk.2, .int .i64 b.heal, .int .i64 b.strong.1, .int .i64 b.strong.2], .slice (some ⟨g, off, none⟩) cs.length cap] w fun e w' => e = .returned (.tuple #[.agg #[.int .i64 (thGo b cs (0, 0)).1.1, .int .i64 (thGo b cs (0, 0)).1.2], .int .i64 (thGo b cs (0, 0)).2]) ∧ Below w.heap.size w w' := by
  obtain ⟨r, hr⟩ : ∃ r, thGo b cs (0, 0) = r := ⟨_, rfl⟩
  rw [hr]
  have HR := Lib.hid hr
  have HB := Lib.hid hb
  have HS := Lib.hid h
  obtain ⟨l1, l2⟩ := (okB_bd hb).full
  clear hr hb h
  go_enter Try.func18, Try.ntmps18
  go_wp2_with fail
  refine (CheckBreed_x b _ HB.out _).mono ?_
  rintro e W1 ⟨rfl, hB⟩
  have hW1 : Below w.heap.size w W1 := Below.trans (by go_grown) (hB.mono (by simp; try omega))
  have zW1 := hW1.size
  obtain ⟨raW1, caW1, gaW1, zaW1⟩ := keep_row hB (g := w.heap.size) (by repeat (first | with_reducible assumption | with_reducible apply row_here0 | with_reducible apply row_here1 | with_reducible apply row_here2 | with_reducible apply row_here3 | with_reducible apply rowSkip))
  obtain ⟨rdW1, cdW1, gdW1, zdW1⟩ := keep_row hB (g := w.heap.size + 1) (by repeat (first | with_reducible assumption | with_reducible apply row_here0 | with_reducible apply row_here1 | with_reducible apply row_here2 | with_reducible apply row_here3 | with_reducible apply rowSkip))
  clear hB
  go_wp2_with fail
  go_loopw [24] (fun i wr => ∃ (k : Nat) (acc : Int × Int), k ≤ cs.length ∧ i = .int .i64 k ∧ Hid (thGo b (cs.drop k) acc = r) ∧ 0 ≤ acc.1 ∧ acc.1 ≤ k * 1000000 ∧ 0 ≤ acc.2 ∧ acc.2 ≤ k * 1000000 ∧ Below w.heap.size w wr ∧ rowOf wr w.heap.size = some #[.int .i64 b.full, .int .i64 b.fed, .int .i64 b.rest.1, .int .i64 b.rest.2, .int .i64 b.heat.1, .int .i64 b.heat.2, .int .i64 b.toil.1, .int .i64 b.toil.2, .int .i64 b.burn.1, .int .i64 b.burn.2, .int .i64 b.rub.1, .int .i64 b.rub.2, .int .i64 b.milk.1, .int .i64 b.milk.2, .int .i64 b.heal, .int .i64 b.strong.1, .int .i64 b.strong.2] ∧ rowOf wr (w.heap.size + 1) = some #[.int .i64 0, .int .i64 0] ∧ rowOf wr W1.heap.size = some #[.int .i64 acc.1, .int .i64 acc.2]) (fun i _ => cs.length - (intOf i).toNat)
  case atStart => exact ⟨0, (0, 0), Nat.zero_le _, rfl, by have h := HR.out; simpa [Hid] using h, by simp, by simp, by simp, by simp, by go_grown, rowSkip raW1, rowSkip rdW1, row_here0 _ _ _⟩
  case round =>
    obtain ⟨k, acc, hk, rfl, hgo, a1, a2, a3, a4, hR, q1, q2, q3⟩ := hrel
    clear raW1 caW1 gaW1 rdW1 cdW1 gdW1
    obtain ⟨raR, caR, gaR, zaR⟩ := row_facts q1
    obtain ⟨rdR, cdR, gdR, zdR⟩ := row_facts q2
    obtain ⟨rtR, ctR, gtR, ztR⟩ := row_facts q3
    have zR := hR.size
    clear q1 q2 q3
    by_cases hlt : k < cs.length
    · obtain ⟨c0, c1, c2, c3, c4, c5, c6⟩ := camel_below hR hg (HS.out k hlt)
      have H0 := Lib.hid ((thGo_drop (b := b) hlt acc).symm.trans hgo.out)
      clear hgo
      generalize cs[k] = c at *
      have hlt' : (k : Int) < (cs.length : Int) := by omega
      cases ho : okC b c with
      | true =>
        have HC := Lib.hid (show chkC b c = 0 by simp [chkC, HB.out, ho])
        have H1 : Hid (thGo b (cs.drop (k + 1)) (acc.1 + (b.full - c.water.2), acc.2 + (b.full - c.water.1)) = r) := by
          have h := H0.out
          rw [if_pos ho] at h
          exact h
        obtain ⟨x1, x2, x3⟩ := (okC_bd ho).water
        clear ho H0
        go_wp2_with fail
        refine (chkC_x b c _ HC.out _).mono ?_
        rintro e W2 ⟨rfl, hB⟩
        have hW2 : Below w.heap.size w W2 := hR.trans (Below.trans (by have := hR.size; go_grown) (hB.mono (by have := hR.size; simp; try omega)))
        have zW2 := hW2.size
        obtain ⟨raW2, caW2, gaW2, zaW2⟩ := keep_row hB (g := w.heap.size) (by repeat (first | with_reducible assumption | with_reducible apply row_here0 | with_reducible apply row_here1 | with_reducible apply row_here2 | with_reducible apply row_here3 | with_reducible apply rowSkip))
        obtain ⟨rdW2, cdW2, gdW2, zdW2⟩ := keep_row hB (g := w.heap.size + 1) (by repeat (first | with_reducible assumption | with_reducible apply row_here0 | with_reducible apply row_here1 | with_reducible apply row_here2 | with_reducible apply row_here3 | with_reducible apply rowSkip))
        obtain ⟨rtW2, ctW2, gtW2, ztW2⟩ := keep_row hB (g := W1.heap.size) (by repeat (first | with_reducible assumption | with_reducible apply row_here0 | with_reducible apply row_here1 | with_reducible apply row_here2 | with_reducible apply row_here3 | with_reducible apply rowSkip))
        obtain ⟨ruW2, cuW2, guW2, zuW2⟩ := keep_row hB (g := wr.heap.size) (by repeat (first | with_reducible assumption | with_reducible apply row_here0 | with_reducible apply row_here1 | with_reducible apply row_here2 | with_reducible apply row_here3 | with_reducible apply rowSkip))
        clear hB
        have ea := fun v v2 => (rowOf_setCell_other (W2.setCell ⟨W1.heap.size, 0, none⟩ v) ⟨W1.heap.size, 1, none⟩ v2 w.heap.size (by simp; omega)).trans ((rowOf_setCell_other W2 ⟨W1.heap.size, 0, none⟩ v w.heap.size (by simp; omega)).trans raW2)
        have ed := fun v v2 => (rowOf_setCell_other (W2.setCell ⟨W1.heap.size, 0, none⟩ v) ⟨W1.heap.size, 1, none⟩ v2 (w.heap.size + 1) (by simp; omega)).trans ((rowOf_setCell_other W2 ⟨W1.heap.size, 0, none⟩ v (w.heap.size + 1) (by simp; omega)).trans rdW2)
        have et := fun v v2 => rowOf_setCell_same (off := 1) (rowOf_setCell_same (off := 0) rtW2 v) v2
        go_wp2
        exact ⟨⟨k + 1, _, by omega, by go_num, H1, by simp only []; omega, by simp only []; omega, by simp only []; omega, by simp only []; omega, setCell_below (setCell_below hW2 (by omega) _) (by omega) _, ea _ _, ed _ _, et _ _⟩, by simp [intOf]; omega⟩
      | false =>
        have HC := Lib.hid (show chkC b c = 11 by simp [chkC, HB.out, ho])
        have H1 : Hid (r = ((0, 0), 11)) := by
          have h := H0.out
          rw [if_neg (by rw [ho]; simp)] at h
          exact h.symm
        clear ho H0
        go_wp2_with fail
        refine (chkC_x b c _ HC.out _).mono ?_
        rintro e W2 ⟨rfl, hB⟩
        have hW2 : Below w.heap.size w W2 := hR.trans (Below.trans (by have := hR.size; go_grown) (hB.mono (by have := hR.size; simp; try omega)))
        have zW2 := hW2.size
        obtain ⟨rdW2, cdW2, gdW2, zdW2⟩ := keep_row hB (g := w.heap.size + 1) (by repeat (first | with_reducible assumption | with_reducible apply row_here0 | with_reducible apply row_here1 | with_reducible apply row_here2 | with_reducible apply row_here3 | with_reducible apply rowSkip))
        clear hB
        go_wp2
        exact bodyPost_ret (results_row2 Try.results18 rfl (stored_setRow rdW2 _).row rfl (v := .int .i64 11) rfl) rfl ⟨by rw [H1.out], Below_setRow hW2 (by omega) _⟩
    · obtain rfl : k = cs.length := by omega
      have H1 : Hid (r = (acc, 0)) := by
        have h := hgo.out
        rw [List.drop_length, thGo] at h
        exact h.symm
      clear hgo
      have hq := fun vs g => rowOf_setRow rdR vs g
      go_wp2
      exact bodyPost_ret (results_row2 Try.results18 rfl (cs := #[.int .i64 acc.1, .int .i64 acc.2]) (stored_setRow rdR _).row rfl (v := .int .i64 0) rfl) rfl ⟨by rw [H1.out], Below_setRow hR (by omega) _⟩
end Go.Proofs.Ytafdcbdbllpcnaa
