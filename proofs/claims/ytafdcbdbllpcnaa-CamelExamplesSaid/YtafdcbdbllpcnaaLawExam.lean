/- The walk of the first outright property: the chapter's examples, limits and numbers of errors. -/
import Derived.Test.YtafdcbdbllpcnaaDraws3
import Derived.Test.YtafdcbdbllpcnaaLawAliv
import Derived.Test.YtafdcbdbllpcnaaExamA
set_option linter.unusedVariables false
set_option linter.unusedSimpArgs false
namespace Go.Proofs.Ytafdcbdbllpcnaa
open Go.RowKit
open Go.Proofs

attribute [local go_sem ↓] exec36l exec36s exec45s exec39s exec39l
attribute [local go_sem] load36 store36 load45 load39 store45 store39 rowOf_alloc rowOf_drew setRow_alloc one_int one_bool
attribute [local irreducible] wpQuiet

theorem build36z (w : World) : (Instr.build 36 #[]).run Try.prog w = .ok (.agg #[.int .i64 0, .int .i64 0, .int .i64 0, .int .i64 0, .int .i64 0, .int .i64 0, .int .i64 0, .int .i64 0, .int .i64 0, .int .i64 0, .int .i64 0, .int .i64 0, .int .i64 0, .int .i64 0, .int .i64 0, .int .i64 0, .int .i64 0]) w := by kernel_rfl
theorem build45z (w : World) : (Instr.build 45 #[]).run Try.prog w = .ok (.agg #[.int .i64 0, .int .i64 0, .int .i64 0, .int .i64 0, .int .i64 0, .int .i64 0, .int .i64 0, .int .i64 0]) w := by kernel_rfl
theorem build39_2s (a b : Int) (w : World) : (Instr.build 39 #[(2, .agg #[.int .i64 a, .int .i64 b])]).run Try.prog w = .ok (.agg #[.int .i64 0, .int .i64 0, .int .i64 0, .int .i64 0, .int .i64 a, .int .i64 b, .bool false]) w := by kernel_rfl
theorem build45_1 (a : Int) (w : World) : (Instr.build 45 #[(0, .int .i64 a)]).run Try.prog w = .ok (.agg #[.int .i64 a, .int .i64 0, .int .i64 0, .int .i64 0, .int .i64 0, .int .i64 0, .int .i64 0, .int .i64 0]) w := by kernel_rfl
attribute [local go_sem] build36z build45z build39_2s build45_1

theorem dry_row {W : World} {g : Nat} {c d : Cm} (hc : c = cmE) (hd : d = dryE) (h : rowOf W g = some #[.int .i64 c.water.1, .int .i64 c.water.2, .int .i64 c.fat.1, .int .i64 c.fat.2, .int .i64 c.sore.1, .int .i64 c.sore.2, .bool c.milks]) : rowOf ((W.setCell ⟨g, 0, none⟩ (.int .i64 0)).setCell ⟨g, 1, none⟩ (.int .i64 6999)) g = some #[.int .i64 d.water.1, .int .i64 d.water.2, .int .i64 d.fat.1, .int .i64 d.fat.2, .int .i64 d.sore.1, .int .i64 d.sore.2, .bool d.milks] := by
  subst hc hd
  exact rowOf_setCell_o (rowOf_setCell_o h _) _

theorem made61 : madeCells (Value.agg #[.int .i64 0, .int .i64 0, .int .i64 0, .int .i64 0, .int .i64 0, .int .i64 0, .int .i64 0, .int .i64 0]).cells (61 * 8) = (rep (marCells mrZ) 61).toArray := by kernel_rfl
theorem mk61 (W : World) : (Instr.makeSlice 47 (.int .i64 61) (.int .i64 61)).run Try.prog W = .ok (.slice (some ⟨W.heap.size, 0, none⟩) 61 61) (W.alloc (.cells (rep (marCells mrZ) 61).toArray 45)) := by
  obtain ⟨i0, hi0, hz0, hz1, hz2⟩ := info_parts info45z
  have hmk := run_make (P := Try.prog) W 47 45 i0 _ Try.underlying47 hi0 hz0 .i64 .i64 61 61 (by omega) (by omega) (by rw [hz2]; decide) (by omega)
  rw [hz1] at hmk
  rw [← made61]
  exact hmk

set_option maxRecDepth 100000 in
set_option maxHeartbeats 16000000 in
theorem camelExamples_walk (w : World) : Calls Try.prog 3 #[] w fun e w' => e = .returned (.bool true) ∧ Below w.heap.size w w' := by
  obtain ⟨b, hb⟩ : ∃ b, b = brE := ⟨_, rfl⟩
  obtain ⟨c, hc⟩ : ∃ c, c = cmE := ⟨_, rfl⟩
  obtain ⟨d, hd⟩ : ∃ d, d = dryE := ⟨_, rfl⟩
  obtain ⟨m, hm⟩ : ∃ m, m = mrE := ⟨_, rfl⟩
  have HB := Lib.hid hb
  have HC := Lib.hid hc
  have HD := Lib.hid hd
  have HM := Lib.hid hm
  clear hb hc hd hm
  go_enter Try.func3, Try.ntmps3
  go_wp2_with fail
  refine (alive_any _).mono ?_
  rintro e W1 ⟨rfl, hB⟩
  have hW1 : Below w.heap.size w W1 := Below.trans (by go_grown) (hB.mono (by simp; try omega))
  have zW1 := hW1.size
  clear hB
  go_wp2_with fail
  refine (herd_any _).mono ?_
  rintro e W2 ⟨⟨gm, rfl, hM⟩, hB⟩
  have hW2 : Below w.heap.size w W2 := hW1.trans (Below.trans (by have := hW1.size; go_grown) (hB.mono (by have := hW1.size; simp; try omega)))
  have zW2 := hW2.size
  obtain ⟨riW2, ciW2, giW2, ziW2⟩ := keep_row hB (g := W1.heap.size) (by repeat (first | with_reducible assumption | with_reducible apply row_here0 | with_reducible apply row_here1 | with_reducible apply row_here2 | with_reducible apply row_here3 | with_reducible apply rowSkip))
  clear hB
  clear hW1 zW1 
  have M2 := Lib.hid hM
  clear hM
  go_wp2_with fail
  refine (span_any 3 5 _).mono ?_
  rintro e W3 ⟨rfl, hB⟩
  have xW3 : Ext W2 W3 := Below.trans (by go_grown) (hB.mono (by simp; try omega))
  have hW3 : Below w.heap.size w W3 := hW2.trans (Below.trans (by have := hW2.size; go_grown) (hB.mono (by have := hW2.size; simp; try omega)))
  have zW3 := hW3.size
  obtain ⟨riW3, ciW3, giW3, ziW3⟩ := keep_row hB (g := W1.heap.size) (by repeat (first | with_reducible assumption | with_reducible apply row_here0 | with_reducible apply row_here1 | with_reducible apply row_here2 | with_reducible apply row_here3 | with_reducible apply rowSkip))
  clear hB
  clear hW2 zW2 riW2 ciW2 giW2 ziW2
  have M3 := Lib.hid (M2.out.ext xW3)
  clear M2 xW3
  go_wp2_with fail
  refine (mange_x 7 _ (by decide +kernel) bs_7 _ _ 1 gm 2 (ints_row riW3 1) M3.out).mono ?_
  rintro e W4 ⟨⟨va, rfl, hT⟩, hB⟩
  have hW4 : Below w.heap.size w W4 := hW3.trans (Below.trans (by have := hW3.size; go_grown) (hB.mono (by have := hW3.size; simp; try omega)))
  have zW4 := hW4.size
  obtain ⟨riW4, ciW4, giW4, ziW4⟩ := keep_row hB (g := W1.heap.size) (by repeat (first | with_reducible assumption | with_reducible apply row_here0 | with_reducible apply row_here1 | with_reducible apply row_here2 | with_reducible apply row_here3 | with_reducible apply rowSkip))
  clear hB
  clear hW3 zW3 riW3 ciW3 giW3 ziW3
  have Ta4 := Lib.hid hT
  clear hT M3
  clear riW4 ciW4 giW4 ziW4
  go_wp2_with fail
  refine (herd_any _).mono ?_
  rintro e W5 ⟨⟨gn, rfl, hM⟩, hB⟩
  have xW5 : Ext W4 W5 := Below.trans (by go_grown) (hB.mono (by simp; try omega))
  have hW5 : Below w.heap.size w W5 := hW4.trans (Below.trans (by have := hW4.size; go_grown) (hB.mono (by have := hW4.size; simp; try omega)))
  have zW5 := hW5.size
  obtain ⟨riW5, ciW5, giW5, ziW5⟩ := keep_row hB (g := W4.heap.size) (by repeat (first | with_reducible assumption | with_reducible apply row_here0 | with_reducible apply row_here1 | with_reducible apply row_here2 | with_reducible apply row_here3 | with_reducible apply rowSkip))
  clear hB
  clear hW4 zW4 
  have M5 := Lib.hid hM
  have Ta5 := Lib.hid (Ta4.out.ext xW5)
  clear hM Ta4 xW5
  go_wp2_with fail
  refine (span_any 3 5 _).mono ?_
  rintro e W6 ⟨rfl, hB⟩
  have xW6 : Ext W5 W6 := Below.trans (by go_grown) (hB.mono (by simp; try omega))
  have hW6 : Below w.heap.size w W6 := hW5.trans (Below.trans (by have := hW5.size; go_grown) (hB.mono (by have := hW5.size; simp; try omega)))
  have zW6 := hW6.size
  obtain ⟨riW6, ciW6, giW6, ziW6⟩ := keep_row hB (g := W4.heap.size) (by repeat (first | with_reducible assumption | with_reducible apply row_here0 | with_reducible apply row_here1 | with_reducible apply row_here2 | with_reducible apply row_here3 | with_reducible apply rowSkip))
  clear hB
  clear hW5 zW5 riW5 ciW5 giW5 ziW5
  have M6 := Lib.hid (M5.out.ext xW6)
  have Ta6 := Lib.hid (Ta5.out.ext xW6)
  clear M5 Ta5 xW6
  go_wp2_with fail
  refine (mange_x 12 _ (by decide +kernel) bs_12 _ _ 1 gn 2 (ints_row riW6 1) M6.out).mono ?_
  rintro e W7 ⟨⟨vb, rfl, hT⟩, hB⟩
  have xW7 : Ext W6 W7 := Below.trans (by go_grown) (hB.mono (by simp; try omega))
  have hW7 : Below w.heap.size w W7 := hW6.trans (Below.trans (by have := hW6.size; go_grown) (hB.mono (by have := hW6.size; simp; try omega)))
  have zW7 := hW7.size
  obtain ⟨riW7, ciW7, giW7, ziW7⟩ := keep_row hB (g := W4.heap.size) (by repeat (first | with_reducible assumption | with_reducible apply row_here0 | with_reducible apply row_here1 | with_reducible apply row_here2 | with_reducible apply row_here3 | with_reducible apply rowSkip))
  clear hB
  clear hW6 zW6 riW6 ciW6 giW6 ziW6
  have Tb7 := Lib.hid hT
  have Ta7 := Lib.hid (Ta6.out.ext xW7)
  clear hT M6 Ta6 xW7
  clear riW7 ciW7 giW7 ziW7
  go_wp2_with fail
  refine (breed_x b HB.out _).mono ?_
  rintro e W8 ⟨rfl, hB⟩
  have xW8 : Ext W7 W8 := Below.trans (by go_grown) (hB.mono (by simp; try omega))
  have hW8 : Below w.heap.size w W8 := hW7.trans (Below.trans (by have := hW7.size; go_grown) (hB.mono (by have := hW7.size; simp; try omega)))
  have zW8 := hW8.size
  clear hB
  clear hW7 zW7 
  have Ta8 := Lib.hid (Ta7.out.ext xW8)
  clear Ta7
  have Tb8 := Lib.hid (Tb7.out.ext xW8)
  clear Tb7
  clear xW8
  go_wp2_with fail
  refine (animal_x c HC.out _).mono ?_
  rintro e W9 ⟨rfl, hB⟩
  have xW9 : Ext W8 W9 := Below.trans (by go_grown) (hB.mono (by simp; try omega))
  have hW9 : Below w.heap.size w W9 := hW8.trans (Below.trans (by have := hW8.size; go_grown) (hB.mono (by have := hW8.size; simp; try omega)))
  have zW9 := hW9.size
  clear hB
  clear hW8 zW8 
  have Ta9 := Lib.hid (Ta8.out.ext xW9)
  clear Ta8
  have Tb9 := Lib.hid (Tb8.out.ext xW9)
  clear Tb8
  clear xW9
  go_wp2_with fail
  refine (animal_x c HC.out _).mono ?_
  rintro e W10 ⟨rfl, hB⟩
  have xW10 : Ext W9 W10 := Below.trans (by go_grown) (hB.mono (by simp; try omega))
  have hW10 : Below w.heap.size w W10 := hW9.trans (Below.trans (by have := hW9.size; go_grown) (hB.mono (by have := hW9.size; simp; try omega)))
  have zW10 := hW10.size
  clear hB
  clear hW9 zW9 
  have Ta10 := Lib.hid (Ta9.out.ext xW10)
  clear Ta9
  have Tb10 := Lib.hid (Tb9.out.ext xW10)
  clear Tb9
  clear xW10
  go_wp2_with fail
  refine (thirst_x b c HB.out HC.out _ _ (row_here0 _ _ _)).mono ?_
  rintro e W11 ⟨rfl, hB⟩
  have xW11 : Ext W10 W11 := Below.trans (by go_grown) (hB.mono (by simp; try omega))
  have hW11 : Below w.heap.size w W11 := hW10.trans (xW11.mono hW10.size)
  have zW11 := hW11.size
  clear hB hW10 zW10
  have Ta11 := Lib.hid (Ta10.out.ext xW11)
  clear Ta10
  have Tb11 := Lib.hid (Tb10.out.ext xW11)
  clear Tb10
  clear xW11
  go_wp2_with fail
  refine (breed_x b HB.out _).mono ?_
  rintro e W12 ⟨rfl, hB⟩
  have xW12 : Ext W11 W12 := Below.trans (by go_grown) (hB.mono (by simp; try omega))
  have hW12 : Below w.heap.size w W12 := hW11.trans (Below.trans (by have := hW11.size; go_grown) (hB.mono (by have := hW11.size; simp; try omega)))
  have zW12 := hW12.size
  obtain ⟨rpW12, cpW12, gpW12, zpW12⟩ := keep_row hB (g := W11.heap.size) (by repeat (first | with_reducible assumption | with_reducible apply row_here0 | with_reducible apply row_here1 | with_reducible apply row_here2 | with_reducible apply row_here3 | with_reducible apply rowSkip))
  clear hB
  clear hW11 zW11 
  have Ta12 := Lib.hid (Ta11.out.ext xW12)
  clear Ta11
  have Tb12 := Lib.hid (Tb11.out.ext xW12)
  clear Tb11
  clear xW12
  go_wp2_with fail
  refine (animal_x c HC.out _).mono ?_
  rintro e W13 ⟨rfl, hB⟩
  have xW13 : Ext W12 W13 := Below.trans (by go_grown) (hB.mono (by simp; try omega))
  have hW13 : Below w.heap.size w W13 := hW12.trans (Below.trans (by have := hW12.size; go_grown) (hB.mono (by have := hW12.size; simp; try omega)))
  have zW13 := hW13.size
  obtain ⟨rpW13, cpW13, gpW13, zpW13⟩ := keep_row hB (g := W11.heap.size) (by repeat (first | with_reducible assumption | with_reducible apply row_here0 | with_reducible apply row_here1 | with_reducible apply row_here2 | with_reducible apply row_here3 | with_reducible apply rowSkip))
  clear hB
  clear hW12 zW12 rpW12 cpW12 gpW12 zpW12
  have Ta13 := Lib.hid (Ta12.out.ext xW13)
  clear Ta12
  have Tb13 := Lib.hid (Tb12.out.ext xW13)
  clear Tb12
  clear xW13
  go_wp2_with fail
  refine (day_x m HM.out _).mono ?_
  rintro e W14 ⟨rfl, hB⟩
  have xW14 : Ext W13 W14 := Below.trans (by go_grown) (hB.mono (by simp; try omega))
  have hW14 : Below w.heap.size w W14 := hW13.trans (Below.trans (by have := hW13.size; go_grown) (hB.mono (by have := hW13.size; simp; try omega)))
  have zW14 := hW14.size
  obtain ⟨rpW14, cpW14, gpW14, zpW14⟩ := keep_row hB (g := W11.heap.size) (by repeat (first | with_reducible assumption | with_reducible apply row_here0 | with_reducible apply row_here1 | with_reducible apply row_here2 | with_reducible apply row_here3 | with_reducible apply rowSkip))
  clear hB
  clear hW13 zW13 rpW13 cpW13 gpW13 zpW13
  have Ta14 := Lib.hid (Ta13.out.ext xW14)
  clear Ta13
  have Tb14 := Lib.hid (Tb13.out.ext xW14)
  clear Tb13
  clear xW14
  go_wp2_with fail
  refine (heav_x b c m HB.out HC.out HM.out _ _ (row_here0 _ _ _)).mono ?_
  rintro e W15 ⟨rfl, hB⟩
  have xW15 : Ext W14 W15 := Below.trans (by go_grown) (hB.mono (by simp; try omega))
  have hW15 : Below w.heap.size w W15 := hW14.trans (xW15.mono hW14.size)
  obtain ⟨rpW15, cpW15, gpW15, zpW15⟩ := keep_row xW15 rpW14
  have zW15 := hW15.size
  clear hB hW14 zW14 rpW14 cpW14 gpW14 zpW14
  have Ta15 := Lib.hid (Ta14.out.ext xW15)
  clear Ta14
  have Tb15 := Lib.hid (Tb14.out.ext xW15)
  clear Tb14
  clear xW15
  go_wp2_with fail
  refine quiet_wp (by kernel_rfl) (by kernel_rfl) ?_
  refine quiet_step rfl (.int .i64 0) (fun W hE => ?_) ?_
  · show Oper.quietUpon _ _ _ _ _
    go_simp
    try exact ⟨rfl, rfl⟩
  simp only [Act.put, List.setIfInBounds_toArray, List.set_cons_succ, List.set_cons_zero]
  refine quiet_step rfl (.bool false) (fun W hE => ?_) ?_
  · show Oper.quietUpon _ _ _ _ _
    go_simp
    try exact ⟨rfl, rfl⟩
  simp only [Act.put, List.setIfInBounds_toArray, List.set_cons_succ, List.set_cons_zero]
  refine quiet_step rfl (.bool false) (fun W hE => ?_) ?_
  · show Oper.quietUpon _ _ _ _ _
    go_simp
    try exact ⟨rfl, rfl⟩
  simp only [Act.put, List.setIfInBounds_toArray, List.set_cons_succ, List.set_cons_zero]
  refine quiet_step rfl (va) (fun W hE => ?_) ?_
  · show Oper.quietUpon _ _ _ _ _
    go_simp
    try exact ⟨rfl, rfl⟩
  simp only [Act.put, List.setIfInBounds_toArray, List.set_cons_succ, List.set_cons_zero]
  refine quiet_step rfl (.string ⟨#[2, 0, 0]⟩) (fun W hE => ?_) ?_
  · show Oper.quietUpon _ _ _ _ _
    have cv := (Ta15.out.ext hE).conv
    go_simp
    try exact ⟨rfl, rfl⟩
  simp only [Act.put, List.setIfInBounds_toArray, List.set_cons_succ, List.set_cons_zero]
  refine quiet_step rfl (.bool false) (fun W hE => ?_) ?_
  · show Oper.quietUpon _ _ _ _ _
    go_simp
    try exact ⟨rfl, rfl⟩
  simp only [Act.put, List.setIfInBounds_toArray, List.set_cons_succ, List.set_cons_zero]
  refine quiet_step rfl (.bool false) (fun W hE => ?_) ?_
  · show Oper.quietUpon _ _ _ _ _
    go_simp
    try exact ⟨rfl, rfl⟩
  simp only [Act.put, List.setIfInBounds_toArray, List.set_cons_succ, List.set_cons_zero]
  refine quiet_step rfl (.bool false) (fun W hE => ?_) ?_
  · show Oper.quietUpon _ _ _ _ _
    go_simp
    try exact ⟨rfl, rfl⟩
  simp only [Act.put, List.setIfInBounds_toArray, List.set_cons_succ, List.set_cons_zero]
  refine quiet_step rfl (.int .i64 0) (fun W hE => ?_) ?_
  · show Oper.quietUpon _ _ _ _ _
    go_simp
    try exact ⟨rfl, rfl⟩
  simp only [Act.put, List.setIfInBounds_toArray, List.set_cons_succ, List.set_cons_zero]
  refine quiet_step rfl (.bool false) (fun W hE => ?_) ?_
  · show Oper.quietUpon _ _ _ _ _
    go_simp
    try exact ⟨rfl, rfl⟩
  simp only [Act.put, List.setIfInBounds_toArray, List.set_cons_succ, List.set_cons_zero]
  refine quiet_step rfl (.bool false) (fun W hE => ?_) ?_
  · show Oper.quietUpon _ _ _ _ _
    go_simp
    try exact ⟨rfl, rfl⟩
  simp only [Act.put, List.setIfInBounds_toArray, List.set_cons_succ, List.set_cons_zero]
  refine quiet_step rfl (.bool false) (fun W hE => ?_) ?_
  · show Oper.quietUpon _ _ _ _ _
    go_simp
    try exact ⟨rfl, rfl⟩
  simp only [Act.put, List.setIfInBounds_toArray, List.set_cons_succ, List.set_cons_zero]
  refine quiet_step rfl (vb) (fun W hE => ?_) ?_
  · show Oper.quietUpon _ _ _ _ _
    go_simp
    try exact ⟨rfl, rfl⟩
  simp only [Act.put, List.setIfInBounds_toArray, List.set_cons_succ, List.set_cons_zero]
  refine quiet_step rfl (.string ⟨#[2, 1, 1]⟩) (fun W hE => ?_) ?_
  · show Oper.quietUpon _ _ _ _ _
    have cv := (Tb15.out.ext hE).conv
    go_simp
    try exact ⟨rfl, rfl⟩
  simp only [Act.put, List.setIfInBounds_toArray, List.set_cons_succ, List.set_cons_zero]
  refine quiet_step rfl (.bool false) (fun W hE => ?_) ?_
  · show Oper.quietUpon _ _ _ _ _
    go_simp
    try exact ⟨rfl, rfl⟩
  simp only [Act.put, List.setIfInBounds_toArray, List.set_cons_succ, List.set_cons_zero]
  refine quiet_step rfl (.bool false) (fun W hE => ?_) ?_
  · show Oper.quietUpon _ _ _ _ _
    go_simp
    try exact ⟨rfl, rfl⟩
  simp only [Act.put, List.setIfInBounds_toArray, List.set_cons_succ, List.set_cons_zero]
  refine quiet_step rfl (.bool false) (fun W hE => ?_) ?_
  · show Oper.quietUpon _ _ _ _ _
    go_simp
    try exact ⟨rfl, rfl⟩
  simp only [Act.put, List.setIfInBounds_toArray, List.set_cons_succ, List.set_cons_zero]
  refine quiet_step rfl (.int .i64 0) (fun W hE => ?_) ?_
  · show Oper.quietUpon _ _ _ _ _
    go_simp
    try exact ⟨rfl, rfl⟩
  simp only [Act.put, List.setIfInBounds_toArray, List.set_cons_succ, List.set_cons_zero]
  refine quiet_step rfl (.bool false) (fun W hE => ?_) ?_
  · show Oper.quietUpon _ _ _ _ _
    go_simp
    try exact ⟨rfl, rfl⟩
  simp only [Act.put, List.setIfInBounds_toArray, List.set_cons_succ, List.set_cons_zero]
  refine quiet_step rfl (.bool false) (fun W hE => ?_) ?_
  · show Oper.quietUpon _ _ _ _ _
    go_simp
    try exact ⟨rfl, rfl⟩
  simp only [Act.put, List.setIfInBounds_toArray, List.set_cons_succ, List.set_cons_zero]
  refine quiet_step rfl (.bool false) (fun W hE => ?_) ?_
  · show Oper.quietUpon _ _ _ _ _
    go_simp
    try exact ⟨rfl, rfl⟩
  simp only [Act.put, List.setIfInBounds_toArray, List.set_cons_succ, List.set_cons_zero]
  refine quiet_step rfl (.agg #[.int .i64 60000, .int .i64 80000]) (fun W hE => ?_) ?_
  · show Oper.quietUpon _ _ _ _ _
    obtain ⟨_, _, -, _⟩ := keep_row hE (rpW15 : rowOf _ _ = _)
    go_simp
    try exact ⟨rfl, rfl⟩
  simp only [Act.put, List.setIfInBounds_toArray, List.set_cons_succ, List.set_cons_zero]
  refine quiet_step rfl (.agg #[.int .i64 60000, .int .i64 80000]) (fun W hE => ?_) ?_
  · show Oper.quietUpon _ _ _ _ _
    go_simp
    first | exact ⟨rfl, (span_any 60000 80000 W).mono fun e w'' ⟨he, hB⟩ => ⟨he, Ext.trans hE hB⟩⟩ | exact (span_any 60000 80000 W).mono fun e w'' ⟨he, hB⟩ => ⟨he, Ext.trans hE hB⟩
  simp only [Act.put, List.setIfInBounds_toArray, List.set_cons_succ, List.set_cons_zero]
  refine quiet_step rfl (.bool false) (fun W hE => ?_) ?_
  · show Oper.quietUpon _ _ _ _ _
    go_simp
    try exact ⟨rfl, rfl⟩
  simp only [Act.put, List.setIfInBounds_toArray, List.set_cons_succ, List.set_cons_zero]
  refine quiet_step rfl (.bool false) (fun W hE => ?_) ?_
  · show Oper.quietUpon _ _ _ _ _
    go_simp
    try exact ⟨rfl, rfl⟩
  simp only [Act.put, List.setIfInBounds_toArray, List.set_cons_succ, List.set_cons_zero]
  refine quiet_step rfl (.bool false) (fun W hE => ?_) ?_
  · show Oper.quietUpon _ _ _ _ _
    go_simp
    try exact ⟨rfl, rfl⟩
  simp only [Act.put, List.setIfInBounds_toArray, List.set_cons_succ, List.set_cons_zero]
  refine quiet_step rfl (.int .i64 0) (fun W hE => ?_) ?_
  · show Oper.quietUpon _ _ _ _ _
    go_simp
    try exact ⟨rfl, rfl⟩
  simp only [Act.put, List.setIfInBounds_toArray, List.set_cons_succ, List.set_cons_zero]
  refine quiet_step rfl (.bool false) (fun W hE => ?_) ?_
  · show Oper.quietUpon _ _ _ _ _
    go_simp
    try exact ⟨rfl, rfl⟩
  simp only [Act.put, List.setIfInBounds_toArray, List.set_cons_succ, List.set_cons_zero]
  refine quiet_step rfl (.bool false) (fun W hE => ?_) ?_
  · show Oper.quietUpon _ _ _ _ _
    go_simp
    try exact ⟨rfl, rfl⟩
  simp only [Act.put, List.setIfInBounds_toArray, List.set_cons_succ, List.set_cons_zero]
  refine quiet_step rfl (.bool false) (fun W hE => ?_) ?_
  · show Oper.quietUpon _ _ _ _ _
    go_simp
    try exact ⟨rfl, rfl⟩
  simp only [Act.put, List.setIfInBounds_toArray, List.set_cons_succ, List.set_cons_zero]
  refine quiet_step rfl (.int .i64 120000) (fun W hE => ?_) ?_
  · show Oper.quietUpon _ _ _ _ _
    go_simp
    try exact ⟨rfl, rfl⟩
  simp only [Act.put, List.setIfInBounds_toArray, List.set_cons_succ, List.set_cons_zero]
  refine quiet_step rfl (.bool false) (fun W hE => ?_) ?_
  · show Oper.quietUpon _ _ _ _ _
    go_simp
    try exact ⟨rfl, rfl⟩
  simp only [Act.put, List.setIfInBounds_toArray, List.set_cons_succ, List.set_cons_zero]
  refine quiet_step rfl (.bool false) (fun W hE => ?_) ?_
  · show Oper.quietUpon _ _ _ _ _
    go_simp
    try exact ⟨rfl, rfl⟩
  simp only [Act.put, List.setIfInBounds_toArray, List.set_cons_succ, List.set_cons_zero]
  refine wpQuiet_nil ?_
  intro W hE
  have hWQ : Below w.heap.size w W := hW15.trans (Below.mono hE zW15)
  clear hE hW15 zW15 rpW15 cpW15 gpW15 zpW15 Ta15 Tb15
  have zWQ := hWQ.size
  generalize W = WQ at *
  go_wp2_with fail
  refine (animal_x c HC.out _).mono ?_
  rintro e W16 ⟨rfl, hB⟩
  have hW16 : Below w.heap.size w W16 := hWQ.trans (Below.trans (by have := hWQ.size; go_grown) (hB.mono (by have := hWQ.size; simp; try omega)))
  have zW16 := hW16.size
  clear hB
  clear hWQ zWQ 
  have HZ16 : Hid (w.heap.size ≤ W16.heap.size) := zW16
  go_wp2_with fail
  refine (span_any 0 6999 _).mono ?_
  rintro e W17 ⟨rfl, hB⟩
  have hW17 : Below w.heap.size w W17 := hW16.trans (Below.trans (by have := hW16.size; go_grown) (hB.mono (by have := hW16.size; simp; try omega)))
  have zW17 := hW17.size
  obtain ⟨rdW17, cdW17, gdW17, zdW17⟩ := keep_row hB (g := W16.heap.size) (by repeat (first | with_reducible assumption | with_reducible apply row_here0 | with_reducible apply row_here1 | with_reducible apply row_here2 | with_reducible apply row_here3 | with_reducible apply rowSkip))
  clear hB
  clear hW16 zW16 
  have rdS : rowOf ((W17.setCell ⟨W16.heap.size, 0, none⟩ (.int .i64 0)).setCell ⟨W16.heap.size, 1, none⟩ (.int .i64 6999)) W16.heap.size = some #[.int .i64 d.water.1, .int .i64 d.water.2, .int .i64 d.fat.1, .int .i64 d.fat.2, .int .i64 d.sore.1, .int .i64 d.sore.2, .bool d.milks] := dry_row HC.out HD.out rdW17
  have hS : Below w.heap.size w ((W17.setCell ⟨W16.heap.size, 0, none⟩ (.int .i64 0)).setCell ⟨W16.heap.size, 1, none⟩ (.int .i64 6999)) := by
    have hg1 := grown_setCell W17 ⟨W16.heap.size, 0, none⟩ (.int .i64 0)
    have hg2 := grown_setCell (W17.setCell ⟨W16.heap.size, 0, none⟩ (.int .i64 0)) ⟨W16.heap.size, 1, none⟩ (.int .i64 6999)
    have hb1 := below_grown hW17 hg1 zW17 (by have := HZ16.out; simp only; omega)
    exact below_grown hb1 hg2 hb1.size (by have := HZ16.out; simp only; omega)
  go_wp2_with fail
  clear rdW17 cdW17 gdW17 zdW17 hW17 zW17
  generalize ((W17.setCell ⟨W16.heap.size, 0, none⟩ (.int .i64 0)).setCell ⟨W16.heap.size, 1, none⟩ (.int .i64 6999)) = S at *
  obtain ⟨rdS, cdS, gdS, zdS⟩ := row_facts rdS
  have zS := hS.size
  go_wp2_with fail
  refine (fitz_x d HD.out _).mono ?_
  rintro e W18 ⟨rfl, hB⟩
  have hW18 : Below w.heap.size w W18 := hS.trans (Below.trans (by have := hS.size; go_grown) (hB.mono (by have := hS.size; simp; try omega)))
  have zW18 := hW18.size
  obtain ⟨rdW18, cdW18, gdW18, zdW18⟩ := keep_row hB (g := W16.heap.size) (by repeat (first | with_reducible assumption | with_reducible apply row_here0 | with_reducible apply row_here1 | with_reducible apply row_here2 | with_reducible apply row_here3 | with_reducible apply rowSkip))
  clear hB
  clear hS zS rdS cdS gdS zdS
  go_wp2_with fail
  refine (breed_x b HB.out _).mono ?_
  rintro e W19 ⟨rfl, hB⟩
  have hW19 : Below w.heap.size w W19 := hW18.trans (Below.trans (by have := hW18.size; go_grown) (hB.mono (by have := hW18.size; simp; try omega)))
  have zW19 := hW19.size
  obtain ⟨rdW19, cdW19, gdW19, zdW19⟩ := keep_row hB (g := W16.heap.size) (by repeat (first | with_reducible assumption | with_reducible apply row_here0 | with_reducible apply row_here1 | with_reducible apply row_here2 | with_reducible apply row_here3 | with_reducible apply rowSkip))
  clear hB
  clear hW18 zW18 rdW18 cdW18 gdW18 zdW18
  go_wp2_with fail
  refine (span_any 0 1001 _).mono ?_
  rintro e W20 ⟨rfl, hB⟩
  have hW20 : Below w.heap.size w W20 := hW19.trans (Below.trans (by have := hW19.size; go_grown) (hB.mono (by have := hW19.size; simp; try omega)))
  have zW20 := hW20.size
  obtain ⟨rdW20, cdW20, gdW20, zdW20⟩ := keep_row hB (g := W16.heap.size) (by repeat (first | with_reducible assumption | with_reducible apply row_here0 | with_reducible apply row_here1 | with_reducible apply row_here2 | with_reducible apply row_here3 | with_reducible apply rowSkip))
  clear hB
  clear hW19 zW19 rdW19 cdW19 gdW19 zdW19
  go_wp2_with fail
  refine (fits_x b HB.out _).mono ?_
  rintro e W21 ⟨rfl, hB⟩
  have hW21 : Below w.heap.size w W21 := hW20.trans (Below.trans (by have := hW20.size; go_grown) (hB.mono (by have := hW20.size; simp; try omega)))
  have zW21 := hW21.size
  obtain ⟨rdW21, cdW21, gdW21, zdW21⟩ := keep_row hB (g := W16.heap.size) (by repeat (first | with_reducible assumption | with_reducible apply row_here0 | with_reducible apply row_here1 | with_reducible apply row_here2 | with_reducible apply row_here3 | with_reducible apply rowSkip))
  clear hB
  clear hW20 zW20 rdW20 cdW20 gdW20 zdW20
  go_wp2_with fail
  refine (breed_x b HB.out _).mono ?_
  rintro e W22 ⟨rfl, hB⟩
  have hW22 : Below w.heap.size w W22 := hW21.trans (Below.trans (by have := hW21.size; go_grown) (hB.mono (by have := hW21.size; simp; try omega)))
  have zW22 := hW22.size
  obtain ⟨rdW22, cdW22, gdW22, zdW22⟩ := keep_row hB (g := W16.heap.size) (by repeat (first | with_reducible assumption | with_reducible apply row_here0 | with_reducible apply row_here1 | with_reducible apply row_here2 | with_reducible apply row_here3 | with_reducible apply rowSkip))
  clear hB
  clear hW21 zW21 rdW21 cdW21 gdW21 zdW21
  go_wp2_with fail
  refine (cost25_x b HB.out _).mono ?_
  rintro e W23 ⟨rfl, hB⟩
  have hW23 : Below w.heap.size w W23 := hW22.trans (Below.trans (by have := hW22.size; go_grown) (hB.mono (by have := hW22.size; simp; try omega)))
  have zW23 := hW23.size
  obtain ⟨rdW23, cdW23, gdW23, zdW23⟩ := keep_row hB (g := W16.heap.size) (by repeat (first | with_reducible assumption | with_reducible apply row_here0 | with_reducible apply row_here1 | with_reducible apply row_here2 | with_reducible apply row_here3 | with_reducible apply rowSkip))
  clear hB
  clear hW22 zW22 rdW22 cdW22 gdW22 zdW22
  go_wp2_with fail
  refine quiet_wp (by kernel_rfl) (by kernel_rfl) ?_
  refine quiet_step rfl (.agg #[.int .i64 b.full, .int .i64 b.fed, .int .i64 b.rest.1, .int .i64 b.rest.2, .int .i64 b.heat.1, .int .i64 b.heat.2, .int .i64 b.toil.1, .int .i64 b.toil.2, .int .i64 b.burn.1, .int .i64 b.burn.2, .int .i64 b.rub.1, .int .i64 b.rub.2, .int .i64 b.milk.1, .int .i64 b.milk.2, .int .i64 b.heal, .int .i64 b.strong.1, .int .i64 b.strong.2]) (fun W hE => ?_) ?_
  · show Oper.quietUpon _ _ _ _ _
    go_simp
    first | exact ⟨rfl, (breed_x b HB.out W).mono fun e w'' ⟨he, hB⟩ => ⟨he, Ext.trans hE hB⟩⟩ | exact (breed_x b HB.out W).mono fun e w'' ⟨he, hB⟩ => ⟨he, Ext.trans hE hB⟩
  simp only [Act.put, List.setIfInBounds_toArray, List.set_cons_succ, List.set_cons_zero]
  refine quiet_step rfl (.agg #[.int .i64 d.water.1, .int .i64 d.water.2, .int .i64 d.fat.1, .int .i64 d.fat.2, .int .i64 d.sore.1, .int .i64 d.sore.2, .bool d.milks]) (fun W hE => ?_) ?_
  · show Oper.quietUpon _ _ _ _ _
    obtain ⟨_, _, -, _⟩ := keep_row hE (rdW23 : rowOf _ _ = _)
    go_simp
    try exact ⟨rfl, rfl⟩
  simp only [Act.put, List.setIfInBounds_toArray, List.set_cons_succ, List.set_cons_zero]
  refine quiet_step rfl (.agg #[.int .i64 m.hours, .int .i64 m.load, .int .i64 m.heat.1, .int .i64 m.heat.2, .int .i64 m.grass.1, .int .i64 m.grass.2, .int .i64 m.drinks.1, .int .i64 m.drinks.2]) (fun W hE => ?_) ?_
  · show Oper.quietUpon _ _ _ _ _
    go_simp
    first | exact ⟨rfl, (day_x m HM.out W).mono fun e w'' ⟨he, hB⟩ => ⟨he, Ext.trans hE hB⟩⟩ | exact (day_x m HM.out W).mono fun e w'' ⟨he, hB⟩ => ⟨he, Ext.trans hE hB⟩
  simp only [Act.put, List.setIfInBounds_toArray, List.set_cons_succ, List.set_cons_zero]
  refine quiet_step rfl (.tuple #[.agg #[.int .i64 0, .int .i64 0, .int .i64 0, .int .i64 0, .int .i64 0, .int .i64 0, .bool false], .int .u8 0, .int .i64 13]) (fun W hE => ?_) ?_
  · show Oper.quietUpon _ _ _ _ _
    go_simp
    first | exact ⟨rfl, (aftd_x b d m HB.out HD.out HM.out W).mono fun e w'' ⟨he, hB⟩ => ⟨he, Ext.trans hE hB⟩⟩ | exact (aftd_x b d m HB.out HD.out HM.out W).mono fun e w'' ⟨he, hB⟩ => ⟨he, Ext.trans hE hB⟩
  simp only [Act.put, List.setIfInBounds_toArray, List.set_cons_succ, List.set_cons_zero]
  refine quiet_step rfl (.tuple #[.agg #[.int .i64 0, .int .i64 0, .int .i64 0, .int .i64 0, .int .i64 0, .int .i64 0, .bool false], .int .u8 0, .int .i64 13]) (fun W hE => ?_) ?_
  · show Oper.quietUpon _ _ _ _ _
    go_simp
    try exact ⟨rfl, rfl⟩
  simp only [Act.put, List.setIfInBounds_toArray, List.set_cons_succ, List.set_cons_zero]
  refine quiet_step rfl (.agg #[.int .i64 0, .int .i64 0, .int .i64 0, .int .i64 0, .int .i64 0, .int .i64 0, .bool false]) (fun W hE => ?_) ?_
  · show Oper.quietUpon _ _ _ _ _
    go_simp
    try exact ⟨rfl, rfl⟩
  simp only [Act.put, List.setIfInBounds_toArray, List.set_cons_succ, List.set_cons_zero]
  refine quiet_step rfl (.int .u8 0) (fun W hE => ?_) ?_
  · show Oper.quietUpon _ _ _ _ _
    go_simp
    try exact ⟨rfl, rfl⟩
  simp only [Act.put, List.setIfInBounds_toArray, List.set_cons_succ, List.set_cons_zero]
  refine quiet_step rfl (.int .i64 13) (fun W hE => ?_) ?_
  · show Oper.quietUpon _ _ _ _ _
    go_simp
    try exact ⟨rfl, rfl⟩
  simp only [Act.put, List.setIfInBounds_toArray, List.set_cons_succ, List.set_cons_zero]
  refine quiet_step rfl (.int .i64 13) (fun W hE => ?_) ?_
  · show Oper.quietUpon _ _ _ _ _
    go_simp
    try exact ⟨rfl, rfl⟩
  simp only [Act.put, List.setIfInBounds_toArray, List.set_cons_succ, List.set_cons_zero]
  refine wpQuiet_nil ?_
  intro W hE
  have hX1 : Below w.heap.size w W := hW23.trans (Below.mono hE zW23)
  obtain ⟨rdX1, cdX1, gdX1, zdX1⟩ := keep_row hE rdW23
  clear hE hW23 zW23 rdW23 cdW23 gdW23 zdW23
  have zX1 := hX1.size
  generalize W = X1 at *
  go_wp2_with fail
  refine wp_drawz (by kernel_rfl) Ext (fun _ => 0) Ext.refl (fun _ _ _ => Ext.trans) [some 123, some 124, some 125, some 126, some 127, some 128, some 122, some 129, some 130, some 131, some 132, some 10, some 11, some 12, some 13] (by kernel_rfl) (by kernel_rfl) (fun ix v W => match ix with
    | 0 => v = .agg #[.int .i64 b.full, .int .i64 b.fed, .int .i64 b.rest.1, .int .i64 b.rest.2, .int .i64 b.heat.1, .int .i64 b.heat.2, .int .i64 b.toil.1, .int .i64 b.toil.2, .int .i64 b.burn.1, .int .i64 b.burn.2, .int .i64 b.rub.1, .int .i64 b.rub.2, .int .i64 b.milk.1, .int .i64 b.milk.2, .int .i64 b.heal, .int .i64 b.strong.1, .int .i64 b.strong.2]
    | 1 => v = .agg #[.int .i64 d.water.1, .int .i64 d.water.2, .int .i64 d.fat.1, .int .i64 d.fat.2, .int .i64 d.sore.1, .int .i64 d.sore.2, .bool d.milks]
    | 2 => v = .agg #[.int .i64 0, .int .i64 0, .int .i64 0, .int .i64 0, .int .i64 0, .int .i64 0, .int .i64 0, .int .i64 0]
    | 3 => v = .agg #[.int .i64 m.hours, .int .i64 m.load, .int .i64 m.heat.1, .int .i64 m.heat.2, .int .i64 m.grass.1, .int .i64 m.grass.2, .int .i64 m.drinks.1, .int .i64 m.drinks.2]
    | 4 => SL v 2 #[.int .i64 0, .int .i64 0, .int .i64 0, .int .i64 0, .int .i64 0, .int .i64 0, .int .i64 0, .int .i64 0, .int .i64 m.hours, .int .i64 m.load, .int .i64 m.heat.1, .int .i64 m.heat.2, .int .i64 m.grass.1, .int .i64 m.grass.2, .int .i64 m.drinks.1, .int .i64 m.drinks.2] W
    | 5 => v = .tuple #[.slice none 0 0, .int .u8 2, .int .i64 1, .int .i64 13]
    | 6 => v = .tuple #[.slice none 0 0, .int .u8 2, .int .i64 1, .int .i64 13]
    | 7 => v = .slice none 0 0
    | 8 => v = .int .u8 2
    | 9 => v = .int .i64 1
    | 10 => v = .int .i64 13
    | 11 => v = .slice none 0 0
    | 12 => v = .int .u8 2
    | 13 => v = .int .i64 1
    | 14 => v = .int .i64 13
    | _ => True) ⟨⟨?_, ?_⟩, ⟨?_, ?_⟩, ⟨?_, ?_⟩, ⟨?_, ?_⟩, ⟨?_, ?_⟩, ⟨?_, ?_⟩, ⟨?_, ?_⟩, ⟨?_, ?_⟩, ⟨?_, ?_⟩, ⟨?_, ?_⟩, ⟨?_, ?_⟩, ⟨?_, ?_⟩, ⟨?_, ?_⟩, ⟨?_, ?_⟩, ⟨?_, ?_⟩, ?_⟩
  · intro g h; cases h
  · intro b' W hE hb hdep K hK
    clear hdep hb
    go_wp2_with fail
    refine (breed_x b HB.out _).mono ?_
    rintro e W' ⟨rfl, hB⟩
    exact hK _ _ hB rfl
  · intro g h; cases h
  · intro b' W hE hb hdep K hK
    have e9 : b'.tmps[9]?.getD undef = .pointer (some ⟨W16.heap.size, 0, none⟩) := hb 9 (by decide)
    clear hdep hb
    obtain ⟨_, _, -, _⟩ := keep_row hE ((rdX1 : rowOf _ _ = _))
    go_wp2
    exact hK _ _ (Ext.refl _) rfl
  · intro g h; cases h
  · intro b' W hE hb hdep K hK
    clear hdep hb
    go_wp2
    exact hK _ _ (Ext.refl _) rfl
  · intro g h; cases h
  · intro b' W hE hb hdep K hK
    clear hdep hb
    go_wp2_with fail
    refine (day_x m HM.out _).mono ?_
    rintro e W' ⟨rfl, hB⟩
    exact hK _ _ hB rfl
  · intro g h; cases h
  · intro b' W hE hb hdep K hK
    have e125 : b'.tmps[125]?.getD undef = .agg #[.int .i64 0, .int .i64 0, .int .i64 0, .int .i64 0, .int .i64 0, .int .i64 0, .int .i64 0, .int .i64 0] := pureR (hdep 2 (some 125) (by kernel_rfl) rfl)
    have e126 : b'.tmps[126]?.getD undef = .agg #[.int .i64 m.hours, .int .i64 m.load, .int .i64 m.heat.1, .int .i64 m.heat.2, .int .i64 m.grass.1, .int .i64 m.grass.2, .int .i64 m.drinks.1, .int .i64 m.drinks.2] := pureR (hdep 3 (some 126) (by kernel_rfl) rfl)
    clear hdep hb
    go_wp2
    exact hK _ _ (ext_alloc _ _) ⟨rfl, row_here0 _ _ _⟩
  · intro g h; cases h
  · intro b' W hE hb hdep K hK
    have e123 : b'.tmps[123]?.getD undef = .agg #[.int .i64 b.full, .int .i64 b.fed, .int .i64 b.rest.1, .int .i64 b.rest.2, .int .i64 b.heat.1, .int .i64 b.heat.2, .int .i64 b.toil.1, .int .i64 b.toil.2, .int .i64 b.burn.1, .int .i64 b.burn.2, .int .i64 b.rub.1, .int .i64 b.rub.2, .int .i64 b.milk.1, .int .i64 b.milk.2, .int .i64 b.heal, .int .i64 b.strong.1, .int .i64 b.strong.2] := pureR (hdep 0 (some 123) (by kernel_rfl) rfl)
    have e124 : b'.tmps[124]?.getD undef = .agg #[.int .i64 d.water.1, .int .i64 d.water.2, .int .i64 d.fat.1, .int .i64 d.fat.2, .int .i64 d.sore.1, .int .i64 d.sore.2, .bool d.milks] := pureR (hdep 1 (some 124) (by kernel_rfl) rfl)
    have s127 : SL (b'.tmps[127]?.getD undef) 2 #[.int .i64 0, .int .i64 0, .int .i64 0, .int .i64 0, .int .i64 0, .int .i64 0, .int .i64 0, .int .i64 0, .int .i64 m.hours, .int .i64 m.load, .int .i64 m.heat.1, .int .i64 m.heat.2, .int .i64 m.grass.1, .int .i64 m.grass.2, .int .i64 m.drinks.1, .int .i64 m.drinks.2] W := sliceR (hdep 4 (some 127) (by kernel_rfl) rfl)
    have e127 := s127.eq
    have r127 := s127.row
    clear s127
    generalize blk (b'.tmps[127]?.getD undef) = g127 at e127 r127
    clear hdep hb
    go_wp2_with fail
    refine (daysd_x b d m HB.out HD.out HM.out _ _ r127).mono ?_
    rintro e W' ⟨rfl, hB⟩
    exact hK _ _ hB rfl
  · intro g h; cases h
  · intro b' W hE hb hdep K hK
    have e128 : b'.tmps[128]?.getD undef = .tuple #[.slice none 0 0, .int .u8 2, .int .i64 1, .int .i64 13] := pureR (hdep 5 (some 128) (by kernel_rfl) rfl)
    clear hdep hb
    go_wp2
    exact hK _ _ (Ext.refl _) rfl
  · intro g h; cases h
  · intro b' W hE hb hdep K hK
    have e122 : b'.tmps[122]?.getD undef = .tuple #[.slice none 0 0, .int .u8 2, .int .i64 1, .int .i64 13] := pureR (hdep 6 (some 122) (by kernel_rfl) rfl)
    clear hdep hb
    go_wp2
    exact hK _ _ (Ext.refl _) rfl
  · intro g h; cases h
  · intro b' W hE hb hdep K hK
    have e122 : b'.tmps[122]?.getD undef = .tuple #[.slice none 0 0, .int .u8 2, .int .i64 1, .int .i64 13] := pureR (hdep 6 (some 122) (by kernel_rfl) rfl)
    clear hdep hb
    go_wp2
    exact hK _ _ (Ext.refl _) rfl
  · intro g h; cases h
  · intro b' W hE hb hdep K hK
    have e122 : b'.tmps[122]?.getD undef = .tuple #[.slice none 0 0, .int .u8 2, .int .i64 1, .int .i64 13] := pureR (hdep 6 (some 122) (by kernel_rfl) rfl)
    clear hdep hb
    go_wp2
    exact hK _ _ (Ext.refl _) rfl
  · intro g h; cases h
  · intro b' W hE hb hdep K hK
    have e122 : b'.tmps[122]?.getD undef = .tuple #[.slice none 0 0, .int .u8 2, .int .i64 1, .int .i64 13] := pureR (hdep 6 (some 122) (by kernel_rfl) rfl)
    clear hdep hb
    go_wp2
    exact hK _ _ (Ext.refl _) rfl
  · intro g h; cases h
  · intro b' W hE hb hdep K hK
    have e129 : b'.tmps[129]?.getD undef = .slice none 0 0 := pureR (hdep 7 (some 129) (by kernel_rfl) rfl)
    clear hdep hb
    go_wp2
    exact hK _ _ (Ext.refl _) rfl
  · intro g h; cases h
  · intro b' W hE hb hdep K hK
    have e130 : b'.tmps[130]?.getD undef = .int .u8 2 := pureR (hdep 8 (some 130) (by kernel_rfl) rfl)
    clear hdep hb
    go_wp2
    exact hK _ _ (Ext.refl _) rfl
  · intro g h; cases h
  · intro b' W hE hb hdep K hK
    have e131 : b'.tmps[131]?.getD undef = .int .i64 1 := pureR (hdep 9 (some 131) (by kernel_rfl) rfl)
    clear hdep hb
    go_wp2
    exact hK _ _ (Ext.refl _) rfl
  · intro g h; cases h
  · intro b' W hE hb hdep K hK
    have e132 : b'.tmps[132]?.getD undef = .int .i64 13 := pureR (hdep 10 (some 132) (by kernel_rfl) rfl)
    clear hdep hb
    go_wp2
    exact hK _ _ (Ext.refl _) rfl
  intro f W hE hR
  have e123 : f 123 = .agg #[.int .i64 b.full, .int .i64 b.fed, .int .i64 b.rest.1, .int .i64 b.rest.2, .int .i64 b.heat.1, .int .i64 b.heat.2, .int .i64 b.toil.1, .int .i64 b.toil.2, .int .i64 b.burn.1, .int .i64 b.burn.2, .int .i64 b.rub.1, .int .i64 b.rub.2, .int .i64 b.milk.1, .int .i64 b.milk.2, .int .i64 b.heal, .int .i64 b.strong.1, .int .i64 b.strong.2] := pureR (hR 0 (some 123) rfl)
  have e124 : f 124 = .agg #[.int .i64 d.water.1, .int .i64 d.water.2, .int .i64 d.fat.1, .int .i64 d.fat.2, .int .i64 d.sore.1, .int .i64 d.sore.2, .bool d.milks] := pureR (hR 1 (some 124) rfl)
  have e125 : f 125 = .agg #[.int .i64 0, .int .i64 0, .int .i64 0, .int .i64 0, .int .i64 0, .int .i64 0, .int .i64 0, .int .i64 0] := pureR (hR 2 (some 125) rfl)
  have e126 : f 126 = .agg #[.int .i64 m.hours, .int .i64 m.load, .int .i64 m.heat.1, .int .i64 m.heat.2, .int .i64 m.grass.1, .int .i64 m.grass.2, .int .i64 m.drinks.1, .int .i64 m.drinks.2] := pureR (hR 3 (some 126) rfl)
  have e128 : f 128 = .tuple #[.slice none 0 0, .int .u8 2, .int .i64 1, .int .i64 13] := pureR (hR 5 (some 128) rfl)
  have e122 : f 122 = .tuple #[.slice none 0 0, .int .u8 2, .int .i64 1, .int .i64 13] := pureR (hR 6 (some 122) rfl)
  have e129 : f 129 = .slice none 0 0 := pureR (hR 7 (some 129) rfl)
  have e130 : f 130 = .int .u8 2 := pureR (hR 8 (some 130) rfl)
  have e131 : f 131 = .int .i64 1 := pureR (hR 9 (some 131) rfl)
  have e132 : f 132 = .int .i64 13 := pureR (hR 10 (some 132) rfl)
  have e10 : f 10 = .slice none 0 0 := pureR (hR 11 (some 10) rfl)
  have e11 : f 11 = .int .u8 2 := pureR (hR 12 (some 11) rfl)
  have e12 : f 12 = .int .i64 1 := pureR (hR 13 (some 12) rfl)
  have e13 : f 13 = .int .i64 13 := pureR (hR 14 (some 13) rfl)
  clear hR
  simp only [List.filterMap_cons, List.filterMap_nil, id, puts, Act.put, List.setIfInBounds_toArray, List.set_cons_succ, List.set_cons_zero, e123, e124, e125, e126, e128, e122, e129, e130, e131, e132, e10, e11, e12, e13]
  have xE := drew_ext hE
  have hX2 : Below w.heap.size w W := hX1.trans (Below.mono xE zX1)
  obtain ⟨rdX2, cdX2, gdX2, zdX2⟩ := keep_row xE rdX1
  clear hE xE hX1 zX1 e123 e124 e125 e126 e128 e122 e129 e130 e131 e132 e10 e11 e12 e13 rdX1 cdX1 gdX1 zdX1
  generalize f 127 = y127 at *
  have zX2 := hX2.size
  generalize W = X2 at *
  go_wp2_with fail
  refine wp_drawz (by kernel_rfl) Ext (fun _ => 0) Ext.refl (fun _ _ _ => Ext.trans) [some 134, some 135, some 136, some 137, some 133, some 138, some 139, some 140, some 141, some 14, some 15, some 16, some 17] (by kernel_rfl) (by kernel_rfl) (fun ix v W => match ix with
    | 0 => v = .agg #[.int .i64 b.full, .int .i64 b.fed, .int .i64 b.rest.1, .int .i64 b.rest.2, .int .i64 b.heat.1, .int .i64 b.heat.2, .int .i64 b.toil.1, .int .i64 b.toil.2, .int .i64 b.burn.1, .int .i64 b.burn.2, .int .i64 b.rub.1, .int .i64 b.rub.2, .int .i64 b.milk.1, .int .i64 b.milk.2, .int .i64 b.heal, .int .i64 b.strong.1, .int .i64 b.strong.2]
    | 1 => v = .agg #[.int .i64 c.water.1, .int .i64 c.water.2, .int .i64 c.fat.1, .int .i64 c.fat.2, .int .i64 c.sore.1, .int .i64 c.sore.2, .bool c.milks]
    | 2 => SL v 61 (rep (marCells mrZ) 61).toArray W
    | 3 => v = .tuple #[.slice none 0 0, .int .u8 0, .int .i64 0, .int .i64 4]
    | 4 => v = .tuple #[.slice none 0 0, .int .u8 0, .int .i64 0, .int .i64 4]
    | 5 => v = .slice none 0 0
    | 6 => v = .int .u8 0
    | 7 => v = .int .i64 0
    | 8 => v = .int .i64 4
    | 9 => v = .slice none 0 0
    | 10 => v = .int .u8 0
    | 11 => v = .int .i64 0
    | 12 => v = .int .i64 4
    | _ => True) ⟨⟨?_, ?_⟩, ⟨?_, ?_⟩, ⟨?_, ?_⟩, ⟨?_, ?_⟩, ⟨?_, ?_⟩, ⟨?_, ?_⟩, ⟨?_, ?_⟩, ⟨?_, ?_⟩, ⟨?_, ?_⟩, ⟨?_, ?_⟩, ⟨?_, ?_⟩, ⟨?_, ?_⟩, ⟨?_, ?_⟩, ?_⟩
  · intro g h; cases h
  · intro b' W hE hb hdep K hK
    clear hdep hb
    go_wp2_with fail
    refine (breed_x b HB.out _).mono ?_
    rintro e W' ⟨rfl, hB⟩
    exact hK _ _ hB rfl
  · intro g h; cases h
  · intro b' W hE hb hdep K hK
    clear hdep hb
    go_wp2_with fail
    refine (animal_x c HC.out _).mono ?_
    rintro e W' ⟨rfl, hB⟩
    exact hK _ _ hB rfl
  · intro g h; cases h
  · intro b' W hE hb hdep K hK
    clear hdep hb
    have hmk := mk61 W
    go_wp2
    exact hK _ _ (ext_alloc _ _) ⟨rfl, row_here0 _ _ _⟩
  · intro g h; cases h
  · intro b' W hE hb hdep K hK
    have e134 : b'.tmps[134]?.getD undef = .agg #[.int .i64 b.full, .int .i64 b.fed, .int .i64 b.rest.1, .int .i64 b.rest.2, .int .i64 b.heat.1, .int .i64 b.heat.2, .int .i64 b.toil.1, .int .i64 b.toil.2, .int .i64 b.burn.1, .int .i64 b.burn.2, .int .i64 b.rub.1, .int .i64 b.rub.2, .int .i64 b.milk.1, .int .i64 b.milk.2, .int .i64 b.heal, .int .i64 b.strong.1, .int .i64 b.strong.2] := pureR (hdep 0 (some 134) (by kernel_rfl) rfl)
    have e135 : b'.tmps[135]?.getD undef = .agg #[.int .i64 c.water.1, .int .i64 c.water.2, .int .i64 c.fat.1, .int .i64 c.fat.2, .int .i64 c.sore.1, .int .i64 c.sore.2, .bool c.milks] := pureR (hdep 1 (some 135) (by kernel_rfl) rfl)
    have s136 : SL (b'.tmps[136]?.getD undef) 61 (rep (marCells mrZ) 61).toArray W := sliceR (hdep 2 (some 136) (by kernel_rfl) rfl)
    have e136 := s136.eq
    have r136 := s136.row
    clear s136
    generalize blk (b'.tmps[136]?.getD undef) = g136 at e136 r136
    clear hdep hb
    go_wp2_with fail
    refine (daysm_x b c HB.out HC.out _ _ r136).mono ?_
    rintro e W' ⟨rfl, hB⟩
    exact hK _ _ hB rfl
  · intro g h; cases h
  · intro b' W hE hb hdep K hK
    have e137 : b'.tmps[137]?.getD undef = .tuple #[.slice none 0 0, .int .u8 0, .int .i64 0, .int .i64 4] := pureR (hdep 3 (some 137) (by kernel_rfl) rfl)
    clear hdep hb
    go_wp2
    exact hK _ _ (Ext.refl _) rfl
  · intro g h; cases h
  · intro b' W hE hb hdep K hK
    have e133 : b'.tmps[133]?.getD undef = .tuple #[.slice none 0 0, .int .u8 0, .int .i64 0, .int .i64 4] := pureR (hdep 4 (some 133) (by kernel_rfl) rfl)
    clear hdep hb
    go_wp2
    exact hK _ _ (Ext.refl _) rfl
  · intro g h; cases h
  · intro b' W hE hb hdep K hK
    have e133 : b'.tmps[133]?.getD undef = .tuple #[.slice none 0 0, .int .u8 0, .int .i64 0, .int .i64 4] := pureR (hdep 4 (some 133) (by kernel_rfl) rfl)
    clear hdep hb
    go_wp2
    exact hK _ _ (Ext.refl _) rfl
  · intro g h; cases h
  · intro b' W hE hb hdep K hK
    have e133 : b'.tmps[133]?.getD undef = .tuple #[.slice none 0 0, .int .u8 0, .int .i64 0, .int .i64 4] := pureR (hdep 4 (some 133) (by kernel_rfl) rfl)
    clear hdep hb
    go_wp2
    exact hK _ _ (Ext.refl _) rfl
  · intro g h; cases h
  · intro b' W hE hb hdep K hK
    have e133 : b'.tmps[133]?.getD undef = .tuple #[.slice none 0 0, .int .u8 0, .int .i64 0, .int .i64 4] := pureR (hdep 4 (some 133) (by kernel_rfl) rfl)
    clear hdep hb
    go_wp2
    exact hK _ _ (Ext.refl _) rfl
  · intro g h; cases h
  · intro b' W hE hb hdep K hK
    have e138 : b'.tmps[138]?.getD undef = .slice none 0 0 := pureR (hdep 5 (some 138) (by kernel_rfl) rfl)
    clear hdep hb
    go_wp2
    exact hK _ _ (Ext.refl _) rfl
  · intro g h; cases h
  · intro b' W hE hb hdep K hK
    have e139 : b'.tmps[139]?.getD undef = .int .u8 0 := pureR (hdep 6 (some 139) (by kernel_rfl) rfl)
    clear hdep hb
    go_wp2
    exact hK _ _ (Ext.refl _) rfl
  · intro g h; cases h
  · intro b' W hE hb hdep K hK
    have e140 : b'.tmps[140]?.getD undef = .int .i64 0 := pureR (hdep 7 (some 140) (by kernel_rfl) rfl)
    clear hdep hb
    go_wp2
    exact hK _ _ (Ext.refl _) rfl
  · intro g h; cases h
  · intro b' W hE hb hdep K hK
    have e141 : b'.tmps[141]?.getD undef = .int .i64 4 := pureR (hdep 8 (some 141) (by kernel_rfl) rfl)
    clear hdep hb
    go_wp2
    exact hK _ _ (Ext.refl _) rfl
  intro f W hE hR
  have e134 : f 134 = .agg #[.int .i64 b.full, .int .i64 b.fed, .int .i64 b.rest.1, .int .i64 b.rest.2, .int .i64 b.heat.1, .int .i64 b.heat.2, .int .i64 b.toil.1, .int .i64 b.toil.2, .int .i64 b.burn.1, .int .i64 b.burn.2, .int .i64 b.rub.1, .int .i64 b.rub.2, .int .i64 b.milk.1, .int .i64 b.milk.2, .int .i64 b.heal, .int .i64 b.strong.1, .int .i64 b.strong.2] := pureR (hR 0 (some 134) rfl)
  have e135 : f 135 = .agg #[.int .i64 c.water.1, .int .i64 c.water.2, .int .i64 c.fat.1, .int .i64 c.fat.2, .int .i64 c.sore.1, .int .i64 c.sore.2, .bool c.milks] := pureR (hR 1 (some 135) rfl)
  have e137 : f 137 = .tuple #[.slice none 0 0, .int .u8 0, .int .i64 0, .int .i64 4] := pureR (hR 3 (some 137) rfl)
  have e133 : f 133 = .tuple #[.slice none 0 0, .int .u8 0, .int .i64 0, .int .i64 4] := pureR (hR 4 (some 133) rfl)
  have e138 : f 138 = .slice none 0 0 := pureR (hR 5 (some 138) rfl)
  have e139 : f 139 = .int .u8 0 := pureR (hR 6 (some 139) rfl)
  have e140 : f 140 = .int .i64 0 := pureR (hR 7 (some 140) rfl)
  have e141 : f 141 = .int .i64 4 := pureR (hR 8 (some 141) rfl)
  have e14 : f 14 = .slice none 0 0 := pureR (hR 9 (some 14) rfl)
  have e15 : f 15 = .int .u8 0 := pureR (hR 10 (some 15) rfl)
  have e16 : f 16 = .int .i64 0 := pureR (hR 11 (some 16) rfl)
  have e17 : f 17 = .int .i64 4 := pureR (hR 12 (some 17) rfl)
  clear hR
  simp only [List.filterMap_cons, List.filterMap_nil, id, puts, Act.put, List.setIfInBounds_toArray, List.set_cons_succ, List.set_cons_zero, e134, e135, e137, e133, e138, e139, e140, e141, e14, e15, e16, e17]
  have xE := drew_ext hE
  have hX3 : Below w.heap.size w W := hX2.trans (Below.mono xE zX2)
  obtain ⟨rdX3, cdX3, gdX3, zdX3⟩ := keep_row xE rdX2
  clear hE xE hX2 zX2 e134 e135 e137 e133 e138 e139 e140 e141 e14 e15 e16 e17 rdX2 cdX2 gdX2 zdX2
  generalize f 136 = y136 at *
  have zX3 := hX3.size
  generalize W = X3 at *
  go_wp2_with fail
  refine (span_any 1 1 _).mono ?_
  rintro e W31 ⟨rfl, hB⟩
  have hW31 : Below w.heap.size w W31 := hX3.trans (Below.trans (by have := hX3.size; go_grown) (hB.mono (by have := hX3.size; simp; try omega)))
  have zW31 := hW31.size
  obtain ⟨rdW31, cdW31, gdW31, zdW31⟩ := keep_row hB (g := W16.heap.size) (by repeat (first | with_reducible assumption | with_reducible apply row_here0 | with_reducible apply row_here1 | with_reducible apply row_here2 | with_reducible apply row_here3 | with_reducible apply rowSkip))
  clear hB
  clear hX3 zX3 rdX3 cdX3 gdX3 zdX3
  go_wp2_with fail
  refine (mangez_x _).mono ?_
  rintro e W32 ⟨⟨vc, rfl, -⟩, hB⟩
  have hW32 : Below w.heap.size w W32 := hW31.trans (Below.trans (by have := hW31.size; go_grown) (hB.mono (by have := hW31.size; simp; try omega)))
  have zW32 := hW32.size
  obtain ⟨rdW32, cdW32, gdW32, zdW32⟩ := keep_row hB (g := W16.heap.size) (by repeat (first | with_reducible assumption | with_reducible apply row_here0 | with_reducible apply row_here1 | with_reducible apply row_here2 | with_reducible apply row_here3 | with_reducible apply rowSkip))
  clear hB
  clear hW31 zW31 rdW31 cdW31 gdW31 zdW31
  go_wp2_with fail
  refine (span_any 1 1 _).mono ?_
  rintro e W33 ⟨rfl, hB⟩
  have hW33 : Below w.heap.size w W33 := hW32.trans (Below.trans (by have := hW32.size; go_grown) (hB.mono (by have := hW32.size; simp; try omega)))
  have zW33 := hW33.size
  obtain ⟨rdW33, cdW33, gdW33, zdW33⟩ := keep_row hB (g := W16.heap.size) (by repeat (first | with_reducible assumption | with_reducible apply row_here0 | with_reducible apply row_here1 | with_reducible apply row_here2 | with_reducible apply row_here3 | with_reducible apply rowSkip))
  obtain ⟨riW33, ciW33, giW33, ziW33⟩ := keep_row hB (g := W32.heap.size) (by repeat (first | with_reducible assumption | with_reducible apply row_here0 | with_reducible apply row_here1 | with_reducible apply row_here2 | with_reducible apply row_here3 | with_reducible apply rowSkip))
  clear hB
  clear hW32 zW32 rdW32 cdW32 gdW32 zdW32
  go_wp2_with fail
  refine (mange1_x _ _ (ints_row riW33 1)).mono ?_
  rintro e W34 ⟨⟨vd, rfl, -⟩, hB⟩
  have hW34 : Below w.heap.size w W34 := hW33.trans (Below.trans (by have := hW33.size; go_grown) (hB.mono (by have := hW33.size; simp; try omega)))
  have zW34 := hW34.size
  obtain ⟨rdW34, cdW34, gdW34, zdW34⟩ := keep_row hB (g := W16.heap.size) (by repeat (first | with_reducible assumption | with_reducible apply row_here0 | with_reducible apply row_here1 | with_reducible apply row_here2 | with_reducible apply row_here3 | with_reducible apply rowSkip))
  obtain ⟨riW34, ciW34, giW34, ziW34⟩ := keep_row hB (g := W32.heap.size) (by repeat (first | with_reducible assumption | with_reducible apply row_here0 | with_reducible apply row_here1 | with_reducible apply row_here2 | with_reducible apply row_here3 | with_reducible apply rowSkip))
  clear hB
  clear hW33 zW33 rdW33 cdW33 gdW33 zdW33 riW33 ciW33 giW33 ziW33
  clear riW34 ciW34 giW34 ziW34
  go_wp2_with fail
  refine wp_drawz (by kernel_rfl) Ext (fun _ => 0) Ext.refl (fun _ _ _ => Ext.trans) [some 154, some 155, some 156, some 157, some 158, some 153, some 159, some 160, some 22, some 23] (by kernel_rfl) (by kernel_rfl) (fun ix v W => match ix with
    | 0 => v = .agg #[.int .i64 b.full, .int .i64 b.fed, .int .i64 b.rest.1, .int .i64 b.rest.2, .int .i64 b.heat.1, .int .i64 b.heat.2, .int .i64 b.toil.1, .int .i64 b.toil.2, .int .i64 b.burn.1, .int .i64 b.burn.2, .int .i64 b.rub.1, .int .i64 b.rub.2, .int .i64 b.milk.1, .int .i64 b.milk.2, .int .i64 b.heal, .int .i64 b.strong.1, .int .i64 b.strong.2]
    | 1 => v = .agg #[.int .i64 d.water.1, .int .i64 d.water.2, .int .i64 d.fat.1, .int .i64 d.fat.2, .int .i64 d.sore.1, .int .i64 d.sore.2, .bool d.milks]
    | 2 => v = .agg #[.int .i64 m.hours, .int .i64 m.load, .int .i64 m.heat.1, .int .i64 m.heat.2, .int .i64 m.grass.1, .int .i64 m.grass.2, .int .i64 m.drinks.1, .int .i64 m.drinks.2]
    | 3 => SL v 1 #[.int .i64 m.hours, .int .i64 m.load, .int .i64 m.heat.1, .int .i64 m.heat.2, .int .i64 m.grass.1, .int .i64 m.grass.2, .int .i64 m.drinks.1, .int .i64 m.drinks.2] W
    | 4 => v = .tuple #[.int .i64 0, .int .i64 13]
    | 5 => v = .tuple #[.int .i64 0, .int .i64 13]
    | 6 => v = .int .i64 0
    | 7 => v = .int .i64 13
    | 8 => v = .int .i64 0
    | 9 => v = .int .i64 13
    | _ => True) ⟨⟨?_, ?_⟩, ⟨?_, ?_⟩, ⟨?_, ?_⟩, ⟨?_, ?_⟩, ⟨?_, ?_⟩, ⟨?_, ?_⟩, ⟨?_, ?_⟩, ⟨?_, ?_⟩, ⟨?_, ?_⟩, ⟨?_, ?_⟩, ?_⟩
  · intro g h; cases h
  · intro b' W hE hb hdep K hK
    clear hdep hb
    go_wp2_with fail
    refine (breed_x b HB.out _).mono ?_
    rintro e W' ⟨rfl, hB⟩
    exact hK _ _ hB rfl
  · intro g h; cases h
  · intro b' W hE hb hdep K hK
    have e9 : b'.tmps[9]?.getD undef = .pointer (some ⟨W16.heap.size, 0, none⟩) := hb 9 (by decide)
    clear hdep hb
    obtain ⟨_, _, -, _⟩ := keep_row hE ((rdW34 : rowOf _ _ = _))
    go_wp2
    exact hK _ _ (Ext.refl _) rfl
  · intro g h; cases h
  · intro b' W hE hb hdep K hK
    clear hdep hb
    go_wp2_with fail
    refine (day_x m HM.out _).mono ?_
    rintro e W' ⟨rfl, hB⟩
    exact hK _ _ hB rfl
  · intro g h; cases h
  · intro b' W hE hb hdep K hK
    have e156 : b'.tmps[156]?.getD undef = .agg #[.int .i64 m.hours, .int .i64 m.load, .int .i64 m.heat.1, .int .i64 m.heat.2, .int .i64 m.grass.1, .int .i64 m.grass.2, .int .i64 m.drinks.1, .int .i64 m.drinks.2] := pureR (hdep 2 (some 156) (by kernel_rfl) rfl)
    clear hdep hb
    go_wp2
    exact hK _ _ (ext_alloc _ _) ⟨rfl, row_here0 _ _ _⟩
  · intro g h; cases h
  · intro b' W hE hb hdep K hK
    have e154 : b'.tmps[154]?.getD undef = .agg #[.int .i64 b.full, .int .i64 b.fed, .int .i64 b.rest.1, .int .i64 b.rest.2, .int .i64 b.heat.1, .int .i64 b.heat.2, .int .i64 b.toil.1, .int .i64 b.toil.2, .int .i64 b.burn.1, .int .i64 b.burn.2, .int .i64 b.rub.1, .int .i64 b.rub.2, .int .i64 b.milk.1, .int .i64 b.milk.2, .int .i64 b.heal, .int .i64 b.strong.1, .int .i64 b.strong.2] := pureR (hdep 0 (some 154) (by kernel_rfl) rfl)
    have e155 : b'.tmps[155]?.getD undef = .agg #[.int .i64 d.water.1, .int .i64 d.water.2, .int .i64 d.fat.1, .int .i64 d.fat.2, .int .i64 d.sore.1, .int .i64 d.sore.2, .bool d.milks] := pureR (hdep 1 (some 155) (by kernel_rfl) rfl)
    have s157 : SL (b'.tmps[157]?.getD undef) 1 #[.int .i64 m.hours, .int .i64 m.load, .int .i64 m.heat.1, .int .i64 m.heat.2, .int .i64 m.grass.1, .int .i64 m.grass.2, .int .i64 m.drinks.1, .int .i64 m.drinks.2] W := sliceR (hdep 3 (some 157) (by kernel_rfl) rfl)
    have e157 := s157.eq
    have r157 := s157.row
    clear s157
    generalize blk (b'.tmps[157]?.getD undef) = g157 at e157 r157
    clear hdep hb
    go_wp2_with fail
    refine (heavd_x b d m HB.out HD.out HM.out _ _ r157).mono ?_
    rintro e W' ⟨rfl, hB⟩
    exact hK _ _ hB rfl
  · intro g h; cases h
  · intro b' W hE hb hdep K hK
    have e158 : b'.tmps[158]?.getD undef = .tuple #[.int .i64 0, .int .i64 13] := pureR (hdep 4 (some 158) (by kernel_rfl) rfl)
    clear hdep hb
    go_wp2
    exact hK _ _ (Ext.refl _) rfl
  · intro g h; cases h
  · intro b' W hE hb hdep K hK
    have e153 : b'.tmps[153]?.getD undef = .tuple #[.int .i64 0, .int .i64 13] := pureR (hdep 5 (some 153) (by kernel_rfl) rfl)
    clear hdep hb
    go_wp2
    exact hK _ _ (Ext.refl _) rfl
  · intro g h; cases h
  · intro b' W hE hb hdep K hK
    have e153 : b'.tmps[153]?.getD undef = .tuple #[.int .i64 0, .int .i64 13] := pureR (hdep 5 (some 153) (by kernel_rfl) rfl)
    clear hdep hb
    go_wp2
    exact hK _ _ (Ext.refl _) rfl
  · intro g h; cases h
  · intro b' W hE hb hdep K hK
    have e159 : b'.tmps[159]?.getD undef = .int .i64 0 := pureR (hdep 6 (some 159) (by kernel_rfl) rfl)
    clear hdep hb
    go_wp2
    exact hK _ _ (Ext.refl _) rfl
  · intro g h; cases h
  · intro b' W hE hb hdep K hK
    have e160 : b'.tmps[160]?.getD undef = .int .i64 13 := pureR (hdep 7 (some 160) (by kernel_rfl) rfl)
    clear hdep hb
    go_wp2
    exact hK _ _ (Ext.refl _) rfl
  intro f W hE hR
  have e154 : f 154 = .agg #[.int .i64 b.full, .int .i64 b.fed, .int .i64 b.rest.1, .int .i64 b.rest.2, .int .i64 b.heat.1, .int .i64 b.heat.2, .int .i64 b.toil.1, .int .i64 b.toil.2, .int .i64 b.burn.1, .int .i64 b.burn.2, .int .i64 b.rub.1, .int .i64 b.rub.2, .int .i64 b.milk.1, .int .i64 b.milk.2, .int .i64 b.heal, .int .i64 b.strong.1, .int .i64 b.strong.2] := pureR (hR 0 (some 154) rfl)
  have e155 : f 155 = .agg #[.int .i64 d.water.1, .int .i64 d.water.2, .int .i64 d.fat.1, .int .i64 d.fat.2, .int .i64 d.sore.1, .int .i64 d.sore.2, .bool d.milks] := pureR (hR 1 (some 155) rfl)
  have e156 : f 156 = .agg #[.int .i64 m.hours, .int .i64 m.load, .int .i64 m.heat.1, .int .i64 m.heat.2, .int .i64 m.grass.1, .int .i64 m.grass.2, .int .i64 m.drinks.1, .int .i64 m.drinks.2] := pureR (hR 2 (some 156) rfl)
  have e158 : f 158 = .tuple #[.int .i64 0, .int .i64 13] := pureR (hR 4 (some 158) rfl)
  have e153 : f 153 = .tuple #[.int .i64 0, .int .i64 13] := pureR (hR 5 (some 153) rfl)
  have e159 : f 159 = .int .i64 0 := pureR (hR 6 (some 159) rfl)
  have e160 : f 160 = .int .i64 13 := pureR (hR 7 (some 160) rfl)
  have e22 : f 22 = .int .i64 0 := pureR (hR 8 (some 22) rfl)
  have e23 : f 23 = .int .i64 13 := pureR (hR 9 (some 23) rfl)
  clear hR
  simp only [List.filterMap_cons, List.filterMap_nil, id, puts, Act.put, List.setIfInBounds_toArray, List.set_cons_succ, List.set_cons_zero, e154, e155, e156, e158, e153, e159, e160, e22, e23]
  have xE := drew_ext hE
  have hX4 : Below w.heap.size w W := hW34.trans (Below.mono xE zW34)
  obtain ⟨rdX4, cdX4, gdX4, zdX4⟩ := keep_row xE rdW34
  clear hE xE hW34 zW34 e154 e155 e156 e158 e153 e159 e160 e22 e23 rdW34 cdW34 gdW34 zdW34
  generalize f 157 = y157 at *
  have zX4 := hX4.size
  generalize W = X4 at *
  go_wp2
  go_returns
  exact ⟨rfl, hX4⟩
end Go.Proofs.Ytafdcbdbllpcnaa
