/- Contracts of package camel's atWork, less and CheckBreed: what they return, for every breed and animal. -/
import Derived.Test.YtafdcbdbllpcnaaBigT
namespace Go.Proofs.Ytafdcbdbllpcnaa
open Go.RowKit
open Go.Proofs

attribute [local go_sem ↓] exec36l exec112l exec36s exec112s exec31s run_min2 run_max2
attribute [local go_sem] load36 load112 store36 store112 store31 build112 rowOf_alloc rowOf_drew setRow_alloc one_int one_bool run_min4

set_option maxRecDepth 100000 in
theorem atWork_any (b : Br) (c : Cm) (w : World) :
    Calls Try.prog 58 #[.agg #[.int .i64 b.full, .int .i64 b.fed, .int .i64 b.rest.1, .int .i64 b.rest.2, .int .i64 b.heat.1, .int .i64 b.heat.2, .int .i64 b.toil.1, .int .i64 b.toil.2, .int .i64 b.burn.1, .int .i64 b.burn.2, .int .i64 b.rub.1, .int .i64 b.rub.2, .int .i64 b.milk.1, .int .i64 b.milk.2, .int .i64 b.heal, .int .i64 b.strong.1, .int .i64 b.strong.2], .agg #[.int .i64 c.water.1, .int .i64 c.water.2, .int .i64 c.fat.1, .int .i64 c.fat.2, .int .i64 c.sore.1, .int .i64 c.sore.2, .bool c.milks]] w fun e w' => e = .returned (.agg #[.int .i64 b.full, .int .i64 b.fed, .int .i64 b.rest.1, .int .i64 b.rest.2, .int .i64 b.heat.1, .int .i64 b.heat.2, .int .i64 b.toil.1, .int .i64 b.toil.2, .int .i64 b.burn.1, .int .i64 b.burn.2, .int .i64 b.rub.1, .int .i64 b.rub.2, .int .i64 b.milk.1, .int .i64 b.milk.2, .int .i64 b.heal, .int .i64 b.strong.1, .int .i64 b.strong.2, .int .i64 c.water.1, .int .i64 c.water.2, .int .i64 c.fat.1, .int .i64 c.fat.2, .int .i64 c.sore.1, .int .i64 c.sore.2, .bool c.milks]) ∧ Below w.heap.size w w' := by
  go_enter Try.func58, Try.ntmps58
  go_wp2
  refine bodyPost_ret (v := .agg #[.int .i64 b.full, .int .i64 b.fed, .int .i64 b.rest.1, .int .i64 b.rest.2, .int .i64 b.heat.1, .int .i64 b.heat.2, .int .i64 b.toil.1, .int .i64 b.toil.2, .int .i64 b.burn.1, .int .i64 b.burn.2, .int .i64 b.rub.1, .int .i64 b.rub.2, .int .i64 b.milk.1, .int .i64 b.milk.2, .int .i64 b.heal, .int .i64 b.strong.1, .int .i64 b.strong.2, .int .i64 c.water.1, .int .i64 c.water.2, .int .i64 c.fat.1, .int .i64 c.fat.2, .int .i64 c.sore.1, .int .i64 c.sore.2, .bool c.milks]) (res112 Try.results58 rfl (by simp [rowOf_alloc]) rfl) rfl ⟨rfl, by go_grown⟩

theorem less_any (s1 s2 t1 t2 : Int) (w : World) (h1 : -1000000000000000 ≤ s1 - t2) (h2 : s1 - t2 ≤ 1000000000000000) (h3 : -1000000000000000 ≤ s2 - t1) (h4 : s2 - t1 ≤ 1000000000000000) :
    Calls Try.prog 87 #[.agg #[.int .i64 s1, .int .i64 s2], .agg #[.int .i64 t1, .int .i64 t2]] w fun e w' => e = .returned (.agg #[.int .i64 (s1 - t2), .int .i64 (s2 - t1)]) ∧ Below w.heap.size w w' := by
  go_enter Try.func87, Try.ntmps87
  go_wp2
  go_returns
  exact ⟨rfl, by go_grown⟩

/-- Spans that lie in a block that is known whole. -/
theorem spans_of_row {w : World} {b : Nat} {cs : Array Value} (ss : List (Int × Int)) (h : rowOf w b = some cs) (hc : ∀ k, k < ss.length → cs[k * 2]? = some (.int .i64 (ss[k]?.getD (0, 0)).1) ∧ cs[k * 2 + 1]? = some (.int .i64 (ss[k]?.getD (0, 0)).2)) : SpansAt w b 0 ss := by
  obtain ⟨t, hg⟩ := rowOf_some h
  intro k hk
  rw [Nat.zero_add, cell_of_row w b _ cs t _ hg, cell_of_row w b _ cs t _ hg]
  exact hc k hk
theorem spans1 {w : World} {b : Nat} {s : Int × Int} (h : rowOf w b = some #[.int .i64 s.1, .int .i64 s.2]) : SpansAt w b 0 [s] :=
  spans_of_row _ h fun k hk => by
    match k, hk with
    | 0, _ => exact ⟨rfl, rfl⟩
theorem spans6 {w : World} {b : Nat} {s0 s1 s2 s3 s4 s5 : Int × Int} (h : rowOf w b = some #[.int .i64 s0.1, .int .i64 s0.2, .int .i64 s1.1, .int .i64 s1.2, .int .i64 s2.1, .int .i64 s2.2, .int .i64 s3.1, .int .i64 s3.2, .int .i64 s4.1, .int .i64 s4.2, .int .i64 s5.1, .int .i64 s5.2]) : SpansAt w b 0 [s0, s1, s2, s3, s4, s5] :=
  spans_of_row _ h fun k hk => by
    match k, hk with
    | 0, _ => exact ⟨rfl, rfl⟩
    | 1, _ => exact ⟨rfl, rfl⟩
    | 2, _ => exact ⟨rfl, rfl⟩
    | 3, _ => exact ⟨rfl, rfl⟩
    | 4, _ => exact ⟨rfl, rfl⟩
    | 5, _ => exact ⟨rfl, rfl⟩
theorem row_last (w : World) (cs : Array Value) (t : TypeId) {g : Nat} (h : g = w.heap.size) : rowOf (w.alloc (.cells cs t)) g = some cs := by rw [rowOf_alloc, if_pos h]

theorem within1 (most : Int) (s : Int × Int) (w : World) (b cap : Nat) (h : rowOf w b = some #[.int .i64 s.1, .int .i64 s.2]) (hb : b < w.heap.size) :
    Calls Try.prog 74 #[.int .i64 most, .slice (some ⟨b, 0, none⟩) 1 cap] w fun e w' => e = .returned (.bool ([s].all (okSpan most))) ∧ Below w.heap.size w w' :=
  within_any most b 0 cap [s] w (spans1 h) hb (by simp)
theorem within6 (most : Int) (s0 s1 s2 s3 s4 s5 : Int × Int) (w : World) (b cap : Nat) (h : rowOf w b = some #[.int .i64 s0.1, .int .i64 s0.2, .int .i64 s1.1, .int .i64 s1.2, .int .i64 s2.1, .int .i64 s2.2, .int .i64 s3.1, .int .i64 s3.2, .int .i64 s4.1, .int .i64 s4.2, .int .i64 s5.1, .int .i64 s5.2]) (hb : b < w.heap.size) :
    Calls Try.prog 74 #[.int .i64 most, .slice (some ⟨b, 0, none⟩) 6 cap] w fun e w' => e = .returned (.bool ([s0, s1, s2, s3, s4, s5].all (okSpan most))) ∧ Below w.heap.size w w' :=
  within_any most b 0 cap [s0, s1, s2, s3, s4, s5] w (spans6 h) hb (by simp)

theorem b2_call (b : Br) (x : Bool) (hx : okB2 b = x) (w : World) (g cap : Nat) (h : rowOf w g = some #[.int .i64 b.rest.1, .int .i64 b.rest.2, .int .i64 b.heat.1, .int .i64 b.heat.2, .int .i64 b.toil.1, .int .i64 b.toil.2, .int .i64 b.burn.1, .int .i64 b.burn.2, .int .i64 b.rub.1, .int .i64 b.rub.2, .int .i64 b.milk.1, .int .i64 b.milk.2]) (hb : g < w.heap.size) :
    Calls Try.prog 74 #[.int .i64 100000, .slice (some ⟨g, 0, none⟩) 6 cap] w fun e w' => e = .returned (.bool x) ∧ Below w.heap.size w w' := by
  subst hx
  exact within6 100000 _ _ _ _ _ _ w g cap h hb
theorem b4_call (b : Br) (x : Bool) (hx : okB4 b = x) (w : World) (g cap : Nat) (h : rowOf w g = some #[.int .i64 b.strong.1, .int .i64 b.strong.2]) (hb : g < w.heap.size) :
    Calls Try.prog 74 #[.int .i64 1000000, .slice (some ⟨g, 0, none⟩) 1 cap] w fun e w' => e = .returned (.bool x) ∧ Below w.heap.size w w' := by
  subst hx
  exact within1 1000000 _ w g cap h hb

set_option maxHeartbeats 1000000 in
theorem CheckBreed_any (b : Br) (w : World) :
    Calls Try.prog 31 #[.agg #[.int .i64 b.full, .int .i64 b.fed, .int .i64 b.rest.1, .int .i64 b.rest.2, .int .i64 b.heat.1, .int .i64 b.heat.2, .int .i64 b.toil.1, .int .i64 b.toil.2, .int .i64 b.burn.1, .int .i64 b.burn.2, .int .i64 b.rub.1, .int .i64 b.rub.2, .int .i64 b.milk.1, .int .i64 b.milk.2, .int .i64 b.heal, .int .i64 b.strong.1, .int .i64 b.strong.2]] w fun e w' => e = .returned (.int .i64 (if okB b = true then 0 else 10)) ∧ Below w.heap.size w w' := by
  by_cases h1 : okB1 b = true
  · have h1' := h1
    simp only [okB1, Bool.and_eq_true, decide_eq_true_eq] at h1
    obtain ⟨⟨⟨a1, a2⟩, a3⟩, a4⟩ := h1
    cases h2 : okB2 b with
    | false =>
      have he : (if okB b = true then (0 : Int) else 10) = 10 := by rw [okB, h1', h2]; simp
      rw [he]
      have H2 := Lib.hid h2
      clear he h1' h2
      go_enter Try.func31, Try.ntmps31
      go_wp2_with (go_at_call 74; refine (b2_call b _ H2.out _ _ _ (row_last _ _ _ (by simp)) (by simp)).mono ?_; rintro e w1 ⟨rfl, hB⟩)
      go_returns
      exact ⟨rfl, Below.trans (by go_grown) (hB.mono (by simp; omega))⟩
    | true =>
      by_cases h3 : okB3 b = true
      · have h3' := h3
        simp only [okB3, Bool.and_eq_true, decide_eq_true_eq] at h3
        obtain ⟨a5, a6⟩ := h3
        obtain ⟨x, h4⟩ : ∃ x, okB4 b = x := ⟨_, rfl⟩
        have he : (if okB b = true then (0 : Int) else 10) = (if x = true then 0 else 10) := by rw [okB, h1', h2, h3', h4]; simp
        rw [he]
        have H2 := Lib.hid h2
        have H4 := Lib.hid h4
        clear he h1' h2 h3' h4
        go_enter Try.func31, Try.ntmps31
        go_wp2_with fail
        refine (b2_call b _ H2.out _ _ _ (row_last _ _ _ (by simp)) (by simp)).mono ?_
        rintro e w1 ⟨rfl, hB⟩
        have hw : Below w.heap.size w w1 := Below.trans (by go_grown) (hB.mono (by simp; omega))
        obtain ⟨r1, c1, -, s1⟩ := keep_row hB (g := w.heap.size) (by rw [rowOf_alloc, if_neg (by simp), rowOf_alloc, if_pos rfl])
        clear hB
        go_wp2_with fail
        refine (b4_call b _ H4.out _ _ _ (row_last _ _ _ (by simp)) (by simp)).mono ?_
        rintro e w2 ⟨rfl, hB⟩
        have hz := hw.size
        cases x
        all_goals
          go_wp2
          go_returns
          exact ⟨rfl, hw.trans (Below.trans (by go_grown) (hB.mono (by simp; omega)))⟩
      · have hn : b.heal < 0 ∨ 1000 < b.heal := by
          simp only [okB3, Bool.and_eq_true, decide_eq_true_eq] at h3; omega
        have he : (if okB b = true then (0 : Int) else 10) = 10 := by rw [okB, h1', h2]; simp at h3; simp [h3]
        rw [he]
        have H2 := Lib.hid h2
        clear he h1' h2 h3
        go_enter Try.func31, Try.ntmps31
        go_wp2_with fail
        refine (b2_call b _ H2.out _ _ _ (row_last _ _ _ (by simp)) (by simp)).mono ?_
        rintro e w1 ⟨rfl, hB⟩
        obtain ⟨hc, hf, hz⟩ := bcell hB
        go_wp2
        all_goals go_returns
        all_goals exact ⟨rfl, Below.trans (by go_grown) (hB.mono (by simp; omega))⟩
  · have hn : b.full < 1 ∨ 1000000 < b.full ∨ b.fed < 1 ∨ 1000000 < b.fed := by
      simp only [okB1, Bool.and_eq_true, decide_eq_true_eq] at h1; omega
    have he : (if okB b = true then (0 : Int) else 10) = 10 := by rw [okB]; simp at h1; simp [h1]
    rw [he]
    clear he h1
    go_enter Try.func31, Try.ntmps31
    go_wp2
    all_goals go_returns
    all_goals exact ⟨rfl, by go_grown⟩
end Go.Proofs.Ytafdcbdbllpcnaa
