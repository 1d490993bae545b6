/- Contract of package camel's Days where an error is returned at once. -/
import Derived.Test.YtafdcbdbllpcnaaLeafQ
namespace Go.Proofs.Ytafdcbdbllpcnaa
open Go.RowKit
open Go.Proofs

attribute [local go_sem ↓] exec36l exec112l exec36s exec112s exec31s run_min2 run_max2
attribute [local go_sem] load36 load112 store36 store112 store31 build112 rowOf_alloc rowOf_drew setRow_alloc one_int one_bool run_min4
attribute [local go_sem ↓] exec39s
attribute [local go_sem] store39 rowOf_setCell_if Option.map_some

set_option maxRecDepth 100000 in
set_option maxHeartbeats 2000000 in
theorem Days_bad (b : Br) (c : Cm) (a : Option Addr) (cap : Nat) (ms : List Mr) (x : Int) (w : World) (h : DaysIn w a cap ms) (hl : ms.length ≤ 100000) (hx : chkT b c ms = x) (h0 : x ≠ 0) :
    Calls Try.prog 26 #[.agg #[.int .i64 b.full, .int .i64 b.fed, .int .i64 b.rest.1, .int .i64 b.rest.2, .int .i64 b.heat.1, .int .i64 b.heat.2, .int .i64 b.toil.1, .int .i64 b.toil.2, .int .i64 b.burn.1, .int .i64 b.burn.2, .int .i64 b.rub.1, .int .i64 b.rub.2, .int .i64 b.milk.1, .int .i64 b.milk.2, .int .i64 b.heal, .int .i64 b.strong.1, .int .i64 b.strong.2], .agg #[.int .i64 c.water.1, .int .i64 c.water.2, .int .i64 c.fat.1, .int .i64 c.fat.2, .int .i64 c.sore.1, .int .i64 c.sore.2, .bool c.milks], .slice a ms.length cap] w fun e w' => e = .returned (.tuple #[.slice none 0 0, .int .u8 0, .int .i64 0, .int .i64 x]) ∧ Below w.heap.size w w' := by
  have HX := Lib.hid hx
  have HD := Lib.hid h
  have hne : (x == 0) = false := by simpa using h0
  clear hx h
  go_enter Try.func26, Try.ntmps26
  go_wp2_with fail
  refine (chkT_x b c a cap ms x HX.out _ (HD.out.below (B := w.heap.size) (by go_grown) (Nat.le_refl _) (by simp; omega)) hl).mono ?_
  rintro e W1 ⟨rfl, hB⟩
  have hW1 : Below w.heap.size w W1 := Below.trans (by go_grown) (hB.mono (by simp; try omega))
  have zW1 := hW1.size
  obtain ⟨rrW1, crW1, grW1, zrW1⟩ := keep_row hB (g := w.heap.size + 1 + 1) (by repeat (first | with_reducible assumption | with_reducible apply row_here0 | with_reducible apply row_here1 | with_reducible apply row_here2 | with_reducible apply row_here3 | with_reducible apply row_here4 | with_reducible apply row_here5 | with_reducible apply row_here6 | with_reducible apply rowSkip))
  obtain ⟨rfW1, cfW1, gfW1, zfW1⟩ := keep_row hB (g := w.heap.size + 1 + 1 + 1) (by repeat (first | with_reducible assumption | with_reducible apply row_here0 | with_reducible apply row_here1 | with_reducible apply row_here2 | with_reducible apply row_here3 | with_reducible apply row_here4 | with_reducible apply row_here5 | with_reducible apply row_here6 | with_reducible apply rowSkip))
  obtain ⟨riW1, ciW1, giW1, ziW1⟩ := keep_row hB (g := w.heap.size + 1 + 1 + 1 + 1) (by repeat (first | with_reducible assumption | with_reducible apply row_here0 | with_reducible apply row_here1 | with_reducible apply row_here2 | with_reducible apply row_here3 | with_reducible apply row_here4 | with_reducible apply row_here5 | with_reducible apply row_here6 | with_reducible apply rowSkip))
  obtain ⟨reW1, ceW1, geW1, zeW1⟩ := keep_row hB (g := w.heap.size + 1 + 1 + 1 + 1 + 1) (by repeat (first | with_reducible assumption | with_reducible apply row_here0 | with_reducible apply row_here1 | with_reducible apply row_here2 | with_reducible apply row_here3 | with_reducible apply row_here4 | with_reducible apply row_here5 | with_reducible apply row_here6 | with_reducible apply rowSkip))
  clear hB
  go_wp2
  have s1 := stored_cell rrW1 (.slice none 0 0)
  have s2 := stored_cell (s1.keeps (g := w.heap.size + 1 + 1 + 1) (by omega) rfW1) (.int .u8 0)
  have s3 := stored_cell (s2.keeps (g := w.heap.size + 1 + 1 + 1 + 1) (by omega) (s1.keeps (by omega) riW1)) (.int .i64 0)
  have s4 := stored_cell (s3.keeps (g := w.heap.size + 1 + 1 + 1 + 1 + 1) (by omega) (s2.keeps (by omega) (s1.keeps (by omega) reW1))) (.int .i64 x)
  exact bodyPost_ret (results_cells4 Try.results26 rfl (s4.keeps (by omega) (s3.keeps (by omega) (s2.keeps (by omega) s1.row))) rfl (s4.keeps (by omega) (s3.keeps (by omega) s2.row)) rfl (s4.keeps (by omega) s3.row) rfl s4.row) rfl
    ⟨rfl, (((hW1.trans (s1.below _ (by omega))).trans (s2.below _ (by omega))).trans (s3.below _ (by omega))).trans (s4.below _ (by omega))⟩
end Go.Proofs.Ytafdcbdbllpcnaa
