/- Contract of package camel's checkMarches: it tells whether all days of a list are valid. -/
import Derived.Test.YtafdcbdbllpcnaaLeafG
namespace Go.Proofs.Ytafdcbdbllpcnaa
open Go.RowKit
open Go.Proofs

attribute [local go_sem ↓] exec36l exec112l exec36s exec112s exec31s run_min2 run_max2
attribute [local go_sem] load36 load112 store36 store112 store31 build112 rowOf_alloc rowOf_drew setRow_alloc one_int one_bool run_min4

/-- Days lie one behind the other in a block. -/
def MarchAt (w : World) (b o : Nat) (m : Mr) : Prop :=
  w.cell? ⟨b, o, none⟩ = some (.int .i64 m.hours) ∧ w.cell? ⟨b, o + 1, none⟩ = some (.int .i64 m.load) ∧ w.cell? ⟨b, o + 2, none⟩ = some (.int .i64 m.heat.1) ∧ w.cell? ⟨b, o + 3, none⟩ = some (.int .i64 m.heat.2) ∧
  w.cell? ⟨b, o + 4, none⟩ = some (.int .i64 m.grass.1) ∧ w.cell? ⟨b, o + 5, none⟩ = some (.int .i64 m.grass.2) ∧ w.cell? ⟨b, o + 6, none⟩ = some (.int .i64 m.drinks.1) ∧ w.cell? ⟨b, o + 7, none⟩ = some (.int .i64 m.drinks.2)
def MarchesAt (w : World) (b off : Nat) (ms : List Mr) : Prop := ∀ k (h : k < ms.length), MarchAt w b (off + k * 8) ms[k]

theorem within2s (most : Int) (s t : Int × Int) (w : World) (b cap : Nat) (h : rowOf w b = some #[.int .i64 s.1, .int .i64 s.2, .int .i64 t.1, .int .i64 t.2]) (hb : b < w.heap.size) :
    Calls Try.prog 74 #[.int .i64 most, .slice (some ⟨b, 0, none⟩) 2 cap] w fun e w' => e = .returned (.bool (okSpan most s && okSpan most t)) ∧ Below w.heap.size w w' := by
  have := within_any most b 0 cap [s, t] w (spans_of_row _ h fun k hk => by
    match k, hk with
    | 0, _ => exact ⟨rfl, rfl⟩
    | 1, _ => exact ⟨rfl, rfl⟩) hb (by simp)
  simpa using this

theorem within1x (most : Int) (s : Int × Int) (x : Bool) (hx : okSpan most s = x) (w : World) (b cap : Nat) (h : rowOf w b = some #[.int .i64 s.1, .int .i64 s.2]) (hb : b < w.heap.size) :
    Calls Try.prog 74 #[.int .i64 most, .slice (some ⟨b, 0, none⟩) 1 cap] w fun e w' => e = .returned (.bool x) ∧ Below w.heap.size w w' := by
  subst hx; exact within1s most s w b cap h hb
theorem within2x (most : Int) (s t : Int × Int) (x : Bool) (hx : (okSpan most s && okSpan most t) = x) (w : World) (b cap : Nat) (h : rowOf w b = some #[.int .i64 s.1, .int .i64 s.2, .int .i64 t.1, .int .i64 t.2]) (hb : b < w.heap.size) :
    Calls Try.prog 74 #[.int .i64 most, .slice (some ⟨b, 0, none⟩) 2 cap] w fun e w' => e = .returned (.bool x) ∧ Below w.heap.size w w' := by
  subst hx; exact within2s most s t w b cap h hb
theorem all_stepM (ms : List Mr) (k : Nat) (h : k < ms.length) (ha : (ms.take k).all okM = true) (hm : okM ms[k] = true) : (ms.take (k + 1)).all okM = true := by
  rw [List.take_succ_eq_append_getElem h, List.all_append, ha]
  simp [hm]
theorem all_noM (ms : List Mr) (k : Nat) (h : k < ms.length) (hm : okM ms[k] = false) : ms.all okM = false := by
  rw [List.all_eq_false]
  exact ⟨ms[k], List.getElem_mem h, by simp [hm]⟩
theorem okM_no {m : Mr} (h : ¬ (0 ≤ m.hours ∧ m.hours ≤ 24 ∧ 0 ≤ m.load ∧ m.load ≤ 1000000)) : okM m = false := by
  rw [← Bool.not_eq_true]
  simp only [okM, inB, Bool.and_eq_true, decide_eq_true_eq]
  omega

set_option maxHeartbeats 4000000 in
theorem checkMarches_any (b off cap : Nat) (ms : List Mr) (w : World) (hs : MarchesAt w b off ms) (hb : b < w.heap.size) (hl : ms.length ≤ 100000) :
    Calls Try.prog 63 #[.slice (some ⟨b, off, none⟩) ms.length cap] w fun e w' => e = .returned (.int .i64 (if ms.all okM = true then 0 else 12)) ∧ Below w.heap.size w w' := by
  have HS := Lib.hid hs
  obtain ⟨x, hx⟩ : ∃ x : Int, (if ms.all okM = true then 0 else 12) = x := ⟨_, rfl⟩
  rw [hx]
  have HX := Lib.hid hx
  clear hs hx
  go_enter Try.func63, Try.ntmps63
  go_wp2
  go_loopw [7] (fun i wr => ∃ k : Nat, k ≤ ms.length ∧ i = .int .i64 k ∧ Hid ((ms.take k).all okM = true) ∧ Below w.heap.size w wr) (fun i _ => ms.length - (intOf i).toNat)
  case atStart => exact ⟨0, Nat.zero_le _, rfl, by simp [Hid], Below.refl _ _⟩
  case round =>
    obtain ⟨k, hk, rfl, hall, hB0⟩ := hrel
    have hg := hB0.size
    by_cases hlt : k < ms.length
    · obtain ⟨c0, c1, c2, c3, c4, c5, c6, c7⟩ := HS.out k hlt
      generalize hm : ms[k] = m at *
      have Hm := Lib.hid hm
      clear hm
      rw [← hB0.cell (p := ⟨b, off + k * 8, none⟩) hb] at c0
      rw [← hB0.cell (p := ⟨b, off + k * 8 + 1, none⟩) hb] at c1
      rw [← hB0.cell (p := ⟨b, off + k * 8 + 2, none⟩) hb] at c2
      rw [← hB0.cell (p := ⟨b, off + k * 8 + 3, none⟩) hb] at c3
      rw [← hB0.cell (p := ⟨b, off + k * 8 + 4, none⟩) hb] at c4
      rw [← hB0.cell (p := ⟨b, off + k * 8 + 5, none⟩) hb] at c5
      rw [← hB0.cell (p := ⟨b, off + k * 8 + 6, none⟩) hb] at c6
      rw [← hB0.cell (p := ⟨b, off + k * 8 + 7, none⟩) hb] at c7
      by_cases h1 : 0 ≤ m.hours ∧ m.hours ≤ 24 ∧ 0 ≤ m.load ∧ m.load ≤ 1000000
      · obtain ⟨d1, d2, d3, d4⟩ := h1
        have hB1 : Below w.heap.size w wr := hB0
        cases h5 : okSpan 60 m.heat with
        | false =>
          have H5 := Lib.hid h5
          have hno : okM m = false := by simp [okM, h5]
          have HN := Lib.hid hno
          clear h5 hno
          go_wp2_with fail
          refine (within1x 60 m.heat false H5.out _ _ _ (by repeat (first | with_reducible assumption | with_reducible apply row_here0 | with_reducible apply row_here1 | with_reducible apply row_here2 | with_reducible apply row_here3 | with_reducible apply rowSkip)) (by simp)).mono ?_
          rintro e W ⟨rfl, hB⟩
          have hw : Below w.heap.size w W := hB0.trans (Below.trans (by go_grown) (hB.mono (by simp; omega)))
          clear hB
          go_wp2
          go_returns
          exact ⟨ret_int (by rw [← HX.out, if_neg (by rw [all_noM ms k hlt (by rw [Hm.out]; exact HN.out)]; simp)]), hw⟩
        | true =>
          have H5 := Lib.hid h5
          go_wp2_with fail
          refine (within1x 60 m.heat true H5.out _ _ _ (by repeat (first | with_reducible assumption | with_reducible apply row_here0 | with_reducible apply row_here1 | with_reducible apply row_here2 | with_reducible apply row_here3 | with_reducible apply rowSkip)) (by simp)).mono ?_
          rintro e W ⟨rfl, hB⟩
          have hw : Below w.heap.size w W := hB0.trans (Below.trans (by go_grown) (hB.mono (by simp; omega)))
          obtain ⟨r1, q1, -, s1⟩ := keep_row hB (g := wr.heap.size) (by repeat (first | with_reducible assumption | with_reducible apply row_here0 | with_reducible apply row_here1 | with_reducible apply row_here2 | with_reducible apply row_here3 | with_reducible apply rowSkip))
          clear hB
          have hz := hw.size
          cases h6 : (okSpan 1000000 m.grass && okSpan 1000000 m.drinks) with
          | false =>
            have H6 := Lib.hid h6
            have hno : okM m = false := by
              rw [Bool.and_eq_false_iff] at h6
              rcases h6 with h6 | h6 <;> simp [okM, h6]
            have HN := Lib.hid hno
            clear h5 h6 hno
            go_wp2_with fail
            refine (within2x 1000000 m.grass m.drinks false H6.out _ _ _ (by repeat (first | with_reducible assumption | with_reducible apply row_here0 | with_reducible apply row_here1 | with_reducible apply row_here2 | with_reducible apply row_here3 | with_reducible apply rowSkip)) (by simp)).mono ?_
            rintro e W2 ⟨rfl, hB⟩
            have hw2 : Below w.heap.size w W2 := hw.trans (Below.trans (by go_grown) (hB.mono (by simp; omega)))
            clear hB
            go_wp2
            go_returns
            exact ⟨ret_int (by rw [← HX.out, if_neg (by rw [all_noM ms k hlt (by rw [Hm.out]; exact HN.out)]; simp)]), hw2⟩
          | true =>
            have H6 := Lib.hid h6
            have hyes : okM m = true := by
              rw [Bool.and_eq_true] at h6
              simp [okM, inB, h5, h6.1, h6.2, d1, d2, d3, d4]
            have HN := Lib.hid hyes
            clear h5 h6 hyes
            go_wp2_with fail
            refine (within2x 1000000 m.grass m.drinks true H6.out _ _ _ (by repeat (first | with_reducible assumption | with_reducible apply row_here0 | with_reducible apply row_here1 | with_reducible apply row_here2 | with_reducible apply row_here3 | with_reducible apply rowSkip)) (by simp)).mono ?_
            rintro e W2 ⟨rfl, hB⟩
            have hw2 : Below w.heap.size w W2 := hw.trans (Below.trans (by go_grown) (hB.mono (by simp; omega)))
            clear hB
            go_wp2
            exact ⟨⟨k + 1, by omega, by go_num, all_stepM ms k hlt hall.out (by rw [Hm.out]; exact HN.out), hw2⟩, by simp [intOf]; omega⟩
      · have HN := Lib.hid (okM_no h1)
        have h1' : m.hours < 0 ∨ 24 < m.hours ∨ m.load < 0 ∨ 1000000 < m.load := by omega
        clear h1
        go_wp2
        all_goals
          go_returns
          exact ⟨ret_int (by rw [← HX.out, if_neg (by rw [all_noM ms k hlt (by rw [Hm.out]; exact HN.out)]; simp)]), hB0.trans (by go_grown)⟩
    · obtain rfl : k = ms.length := by omega
      go_wp2
      go_returns
      have h := hall.out
      rw [List.take_length] at h
      exact ⟨ret_int (by rw [← HX.out, if_pos h]), hB0⟩
end Go.Proofs.Ytafdcbdbllpcnaa
