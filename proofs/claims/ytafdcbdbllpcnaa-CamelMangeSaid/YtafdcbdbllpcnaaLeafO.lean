/- Contract of package camel's Thirst: how much water animals need, or the error, for every breed and list. -/
import Derived.Test.YtafdcbdbllpcnaaLeafN
namespace Go.Proofs.Ytafdcbdbllpcnaa
open Go.RowKit
open Go.Proofs

attribute [local go_sem ↓] exec36l exec112l exec36s exec112s exec31s run_min2 run_max2
attribute [local go_sem] load36 load112 store36 store112 store31 build112 rowOf_alloc rowOf_drew setRow_alloc one_int one_bool run_min4

/-- A list of animals that was handed over: nil, or so many that lie one behind the other. -/
def HerdIn (w : World) (a : Option Addr) (cap : Nat) (cs : List Cm) : Prop :=
  (a = none ∧ cap = 0 ∧ cs = []) ∨ ∃ g off, a = some ⟨g, off, none⟩ ∧ CamelsAt w g off cs ∧ g < w.heap.size
def thR (b : Br) (cs : List Cm) : (Int × Int) × Int := if okB b = true then (if 30 < cs.length then ((0, 0), 4) else thGo b cs (0, 0)) else ((0, 0), 10)

set_option maxRecDepth 100000 in
set_option maxHeartbeats 1000000 in
theorem Thirst_any (b : Br) (a : Option Addr) (cap : Nat) (cs : List Cm) (w : World) (h : HerdIn w a cap cs) (hl : cs.length ≤ 100000) :
    Calls Try.prog 18 #[.agg #[.int .i64 b.full, .int .i64 b.fed, .int .i64 b.rest.1, .int .i64 b.rest.2, .int .i64 b.heat.1, .int .i64 b.heat.2, .int .i64 b.toil.1, .int .i64 b.toil.2, .int .i64 b.burn.1, .int .i64 b.burn.2, .int .i64 b.rub.1, .int .i64 b.rub.2, .int .i64 b.milk.1, .int .i64 b.milk.2, .int .i64 b.heal, .int .i64 b.strong.1, .int .i64 b.strong.2], .slice a cs.length cap] w fun e w' => e = .returned (.tuple #[.agg #[.int .i64 (thR b cs).1.1, .int .i64 (thR b cs).1.2], .int .i64 (thR b cs).2]) ∧ Below w.heap.size w w' := by
  cases hb : okB b with
  | false =>
    have hv : thR b cs = ((0, 0), 10) := by simp [thR, hb]
    rw [hv]
    have HB := Lib.hid hb
    clear hv hb h
    go_enter Try.func18, Try.ntmps18
    go_wp2_with fail
    refine (CheckBreed_x b _ HB.out _).mono ?_
    rintro e W1 ⟨rfl, hB⟩
    have hW1 : Below w.heap.size w W1 := Below.trans (by go_grown) (hB.mono (by simp; try omega))
    have zW1 := hW1.size
    obtain ⟨rdW1, cdW1, gdW1, zdW1⟩ := keep_row hB (g := w.heap.size + 1) (by repeat (first | with_reducible assumption | with_reducible apply row_here0 | with_reducible apply row_here1 | with_reducible apply row_here2 | with_reducible apply row_here3 | with_reducible apply rowSkip))
    clear hB
    go_wp2
    exact bodyPost_ret (results_row2 Try.results18 rfl (stored_setRow rdW1 _).row rfl (v := .int .i64 10) rfl) rfl ⟨rfl, Below_setRow hW1 (by omega) _⟩
  | true =>
    by_cases h6 : 30 < cs.length
    · have hv : thR b cs = ((0, 0), 4) := by simp [thR, hb, h6]
      rw [hv]
      have HB := Lib.hid hb
      clear hv hb h
      go_enter Try.func18, Try.ntmps18
      go_wp2_with fail
      refine (CheckBreed_x b _ HB.out _).mono ?_
      rintro e W1 ⟨rfl, hB⟩
      have hW1 : Below w.heap.size w W1 := Below.trans (by go_grown) (hB.mono (by simp; try omega))
      have zW1 := hW1.size
      obtain ⟨rdW1, cdW1, gdW1, zdW1⟩ := keep_row hB (g := w.heap.size + 1) (by repeat (first | with_reducible assumption | with_reducible apply row_here0 | with_reducible apply row_here1 | with_reducible apply row_here2 | with_reducible apply row_here3 | with_reducible apply rowSkip))
      clear hB
      go_wp2
      exact bodyPost_ret (results_row2 Try.results18 rfl (stored_setRow rdW1 _).row rfl (v := .int .i64 4) rfl) rfl ⟨rfl, Below_setRow hW1 (by omega) _⟩
    · have hv : thR b cs = thGo b cs (0, 0) := by rw [thR, if_pos hb, if_neg h6]
      rw [hv]
      rcases h with ⟨rfl, rfl, rfl⟩ | ⟨g, off, rfl, h3, h4⟩
      · have HB := Lib.hid hb
        clear hb hv
        go_enter Try.func18, Try.ntmps18
        go_wp2_with fail
        refine (CheckBreed_x b _ HB.out _).mono ?_
        rintro e W1 ⟨rfl, hB⟩
        have hW1 : Below w.heap.size w W1 := Below.trans (by go_grown) (hB.mono (by simp; try omega))
        have zW1 := hW1.size
        obtain ⟨rdW1, cdW1, gdW1, zdW1⟩ := keep_row hB (g := w.heap.size + 1) (by repeat (first | with_reducible assumption | with_reducible apply row_here0 | with_reducible apply row_here1 | with_reducible apply row_here2 | with_reducible apply row_here3 | with_reducible apply rowSkip))
        clear hB
        have hq := fun vs g => rowOf_setRow rdW1 vs g
        go_wp2_with fail
        go_rounds 1
        exact bodyPost_ret (results_row2 Try.results18 rfl (cs := #[.int .i64 0, .int .i64 0]) (stored_setRow (rowSkip rdW1) _).row rfl (v := .int .i64 0) rfl) rfl ⟨rfl, Below_setRow (Below.alloc hW1 zW1 _) (by omega) _⟩
      · exact Thirst_some b g off cap cs w h3 h4 hb (by omega)
end Go.Proofs.Ytafdcbdbllpcnaa
