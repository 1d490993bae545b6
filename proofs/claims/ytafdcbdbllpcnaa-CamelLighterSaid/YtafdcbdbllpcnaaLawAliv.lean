/- The walk of the examples that each outright property begins with: they are as the chapter says. -/
import Derived.Test.YtafdcbdbllpcnaaLeafO
set_option linter.unusedVariables false
set_option linter.unusedSimpArgs false
namespace Go.Proofs.Ytafdcbdbllpcnaa
open Go.RowKit
open Go.Proofs

attribute [local go_sem ↓] exec36l exec36s exec45s exec39s exec39l
attribute [local irreducible] wpQuiet
attribute [local go_sem] load36 store36 load39 store45 store39 build39_3 rowOf_alloc rowOf_drew setRow_alloc one_int one_bool

theorem ints_row {W : World} {g : Nat} {x : Int} (h : rowOf W g = some #[.int .i64 x]) (cap : Nat) : IntsIn W (some ⟨g, 0, none⟩) cap [x] := by
  obtain ⟨hc, hf, hz⟩ := cell_of_rowOf h
  refine .inr ⟨g, 0, rfl, fun k hk => ?_, hz⟩
  obtain rfl : k = 0 := by simp at hk; omega
  rw [hc]; rfl

set_option maxRecDepth 100000 in
set_option maxHeartbeats 8000000 in
theorem alive_any (w : World) : Calls Try.prog 14 #[] w fun e w' => e = .returned (.bool true) ∧ Below w.heap.size w w' := by
  obtain ⟨b, hb⟩ : ∃ b, b = brE := ⟨_, rfl⟩
  obtain ⟨c, hc⟩ : ∃ c, c = cmE := ⟨_, rfl⟩
  obtain ⟨m, hm⟩ : ∃ m, m = mrE := ⟨_, rfl⟩
  have HB := Lib.hid hb
  have HC := Lib.hid hc
  have HM := Lib.hid hm
  clear hb hc hm
  go_enter Try.func14, Try.ntmps14
  go_wp2_with fail
  refine (breed_x b HB.out _).mono ?_
  rintro e W1 ⟨rfl, hB⟩
  have hW1 : Below w.heap.size w W1 := Below.trans (by go_grown) (hB.mono (by simp; try omega))
  have zW1 := hW1.size
  clear hB
  go_wp2_with fail
  refine (animal_x c HC.out _).mono ?_
  rintro e W2 ⟨rfl, hB⟩
  have hW2 : Below w.heap.size w W2 := hW1.trans (Below.trans (by have := hW1.size; go_grown) (hB.mono (by have := hW1.size; simp; try omega)))
  have zW2 := hW2.size
  clear hB
  clear hW1 zW1 
  go_wp2_with fail
  refine (fit_x b c HB.out HC.out _).mono ?_
  rintro e W3 ⟨rfl, hB⟩
  have hW3 : Below w.heap.size w W3 := hW2.trans (Below.trans (by have := hW2.size; go_grown) (hB.mono (by have := hW2.size; simp; try omega)))
  have zW3 := hW3.size
  clear hB
  clear hW2 zW2 
  go_wp2_with fail
  refine (breed_x b HB.out _).mono ?_
  rintro e W4 ⟨rfl, hB⟩
  have hW4 : Below w.heap.size w W4 := hW3.trans (Below.trans (by have := hW3.size; go_grown) (hB.mono (by have := hW3.size; simp; try omega)))
  have zW4 := hW4.size
  obtain ⟨rpW4, cpW4, gpW4, zpW4⟩ := keep_row hB (g := W3.heap.size) (by repeat (first | with_reducible assumption | with_reducible apply row_here0 | with_reducible apply row_here1 | with_reducible apply row_here2 | with_reducible apply row_here3 | with_reducible apply rowSkip))
  clear hB
  clear hW3 zW3 
  go_wp2_with fail
  refine (animal_x c HC.out _).mono ?_
  rintro e W5 ⟨rfl, hB⟩
  have hW5 : Below w.heap.size w W5 := hW4.trans (Below.trans (by have := hW4.size; go_grown) (hB.mono (by have := hW4.size; simp; try omega)))
  have zW5 := hW5.size
  obtain ⟨rpW5, cpW5, gpW5, zpW5⟩ := keep_row hB (g := W3.heap.size) (by repeat (first | with_reducible assumption | with_reducible apply row_here0 | with_reducible apply row_here1 | with_reducible apply row_here2 | with_reducible apply row_here3 | with_reducible apply rowSkip))
  clear hB
  clear hW4 zW4 rpW4 cpW4 gpW4 zpW4
  go_wp2_with fail
  refine (car_x b c HB.out HC.out _).mono ?_
  rintro e W6 ⟨rfl, hB⟩
  have hW6 : Below w.heap.size w W6 := hW5.trans (Below.trans (by have := hW5.size; go_grown) (hB.mono (by have := hW5.size; simp; try omega)))
  have zW6 := hW6.size
  obtain ⟨rpW6, cpW6, gpW6, zpW6⟩ := keep_row hB (g := W3.heap.size) (by repeat (first | with_reducible assumption | with_reducible apply row_here0 | with_reducible apply row_here1 | with_reducible apply row_here2 | with_reducible apply row_here3 | with_reducible apply rowSkip))
  clear hB
  clear hW5 zW5 rpW5 cpW5 gpW5 zpW5
  go_wp2_with fail
  refine (breed_x b HB.out _).mono ?_
  rintro e W7 ⟨rfl, hB⟩
  have hW7 : Below w.heap.size w W7 := hW6.trans (Below.trans (by have := hW6.size; go_grown) (hB.mono (by have := hW6.size; simp; try omega)))
  have zW7 := hW7.size
  obtain ⟨rpW7, cpW7, gpW7, zpW7⟩ := keep_row hB (g := W3.heap.size) (by repeat (first | with_reducible assumption | with_reducible apply row_here0 | with_reducible apply row_here1 | with_reducible apply row_here2 | with_reducible apply row_here3 | with_reducible apply rowSkip))
  obtain ⟨rqW7, cqW7, gqW7, zqW7⟩ := keep_row hB (g := W6.heap.size) (by repeat (first | with_reducible assumption | with_reducible apply row_here0 | with_reducible apply row_here1 | with_reducible apply row_here2 | with_reducible apply row_here3 | with_reducible apply rowSkip))
  clear hB
  clear hW6 zW6 rpW6 cpW6 gpW6 zpW6
  go_wp2_with fail
  refine (day_x m HM.out _).mono ?_
  rintro e W8 ⟨rfl, hB⟩
  have hW8 : Below w.heap.size w W8 := hW7.trans (Below.trans (by have := hW7.size; go_grown) (hB.mono (by have := hW7.size; simp; try omega)))
  have zW8 := hW8.size
  obtain ⟨rpW8, cpW8, gpW8, zpW8⟩ := keep_row hB (g := W3.heap.size) (by repeat (first | with_reducible assumption | with_reducible apply row_here0 | with_reducible apply row_here1 | with_reducible apply row_here2 | with_reducible apply row_here3 | with_reducible apply rowSkip))
  obtain ⟨rqW8, cqW8, gqW8, zqW8⟩ := keep_row hB (g := W6.heap.size) (by repeat (first | with_reducible assumption | with_reducible apply row_here0 | with_reducible apply row_here1 | with_reducible apply row_here2 | with_reducible apply row_here3 | with_reducible apply rowSkip))
  clear hB
  clear hW7 zW7 rpW7 cpW7 gpW7 zpW7 rqW7 cqW7 gqW7 zqW7
  go_wp2_with fail
  refine (cost_x b m HB.out HM.out _).mono ?_
  rintro e W9 ⟨rfl, hB⟩
  have hW9 : Below w.heap.size w W9 := hW8.trans (Below.trans (by have := hW8.size; go_grown) (hB.mono (by have := hW8.size; simp; try omega)))
  have zW9 := hW9.size
  obtain ⟨rpW9, cpW9, gpW9, zpW9⟩ := keep_row hB (g := W3.heap.size) (by repeat (first | with_reducible assumption | with_reducible apply row_here0 | with_reducible apply row_here1 | with_reducible apply row_here2 | with_reducible apply row_here3 | with_reducible apply rowSkip))
  obtain ⟨rqW9, cqW9, gqW9, zqW9⟩ := keep_row hB (g := W6.heap.size) (by repeat (first | with_reducible assumption | with_reducible apply row_here0 | with_reducible apply row_here1 | with_reducible apply row_here2 | with_reducible apply row_here3 | with_reducible apply rowSkip))
  clear hB
  clear hW8 zW8 rpW8 cpW8 gpW8 zpW8 rqW8 cqW8 gqW8 zqW8
  go_wp2_with fail
  refine (breed_x b HB.out _).mono ?_
  rintro e W10 ⟨rfl, hB⟩
  have hW10 : Below w.heap.size w W10 := hW9.trans (Below.trans (by have := hW9.size; go_grown) (hB.mono (by have := hW9.size; simp; try omega)))
  have zW10 := hW10.size
  obtain ⟨rpW10, cpW10, gpW10, zpW10⟩ := keep_row hB (g := W3.heap.size) (by repeat (first | with_reducible assumption | with_reducible apply row_here0 | with_reducible apply row_here1 | with_reducible apply row_here2 | with_reducible apply row_here3 | with_reducible apply rowSkip))
  obtain ⟨rqW10, cqW10, gqW10, zqW10⟩ := keep_row hB (g := W6.heap.size) (by repeat (first | with_reducible assumption | with_reducible apply row_here0 | with_reducible apply row_here1 | with_reducible apply row_here2 | with_reducible apply row_here3 | with_reducible apply rowSkip))
  obtain ⟨rrW10, crW10, grW10, zrW10⟩ := keep_row hB (g := W9.heap.size) (by repeat (first | with_reducible assumption | with_reducible apply row_here0 | with_reducible apply row_here1 | with_reducible apply row_here2 | with_reducible apply row_here3 | with_reducible apply rowSkip))
  obtain ⟨rsW10, csW10, gsW10, zsW10⟩ := keep_row hB (g := W9.heap.size + 1) (by repeat (first | with_reducible assumption | with_reducible apply row_here0 | with_reducible apply row_here1 | with_reducible apply row_here2 | with_reducible apply row_here3 | with_reducible apply rowSkip))
  clear hB
  clear hW9 zW9 rpW9 cpW9 gpW9 zpW9 rqW9 cqW9 gqW9 zqW9
  go_wp2_with fail
  refine (animal_x c HC.out _).mono ?_
  rintro e W11 ⟨rfl, hB⟩
  have hW11 : Below w.heap.size w W11 := hW10.trans (Below.trans (by have := hW10.size; go_grown) (hB.mono (by have := hW10.size; simp; try omega)))
  have zW11 := hW11.size
  obtain ⟨rpW11, cpW11, gpW11, zpW11⟩ := keep_row hB (g := W3.heap.size) (by repeat (first | with_reducible assumption | with_reducible apply row_here0 | with_reducible apply row_here1 | with_reducible apply row_here2 | with_reducible apply row_here3 | with_reducible apply rowSkip))
  obtain ⟨rqW11, cqW11, gqW11, zqW11⟩ := keep_row hB (g := W6.heap.size) (by repeat (first | with_reducible assumption | with_reducible apply row_here0 | with_reducible apply row_here1 | with_reducible apply row_here2 | with_reducible apply row_here3 | with_reducible apply rowSkip))
  obtain ⟨rrW11, crW11, grW11, zrW11⟩ := keep_row hB (g := W9.heap.size) (by repeat (first | with_reducible assumption | with_reducible apply row_here0 | with_reducible apply row_here1 | with_reducible apply row_here2 | with_reducible apply row_here3 | with_reducible apply rowSkip))
  obtain ⟨rsW11, csW11, gsW11, zsW11⟩ := keep_row hB (g := W9.heap.size + 1) (by repeat (first | with_reducible assumption | with_reducible apply row_here0 | with_reducible apply row_here1 | with_reducible apply row_here2 | with_reducible apply row_here3 | with_reducible apply rowSkip))
  clear hB
  clear hW10 zW10 rpW10 cpW10 gpW10 zpW10 rqW10 cqW10 gqW10 zqW10 rrW10 crW10 grW10 zrW10 rsW10 csW10 gsW10 zsW10
  go_wp2_with fail
  refine (day_x m HM.out _).mono ?_
  rintro e W12 ⟨rfl, hB⟩
  have hW12 : Below w.heap.size w W12 := hW11.trans (Below.trans (by have := hW11.size; go_grown) (hB.mono (by have := hW11.size; simp; try omega)))
  have zW12 := hW12.size
  obtain ⟨rpW12, cpW12, gpW12, zpW12⟩ := keep_row hB (g := W3.heap.size) (by repeat (first | with_reducible assumption | with_reducible apply row_here0 | with_reducible apply row_here1 | with_reducible apply row_here2 | with_reducible apply row_here3 | with_reducible apply rowSkip))
  obtain ⟨rqW12, cqW12, gqW12, zqW12⟩ := keep_row hB (g := W6.heap.size) (by repeat (first | with_reducible assumption | with_reducible apply row_here0 | with_reducible apply row_here1 | with_reducible apply row_here2 | with_reducible apply row_here3 | with_reducible apply rowSkip))
  obtain ⟨rrW12, crW12, grW12, zrW12⟩ := keep_row hB (g := W9.heap.size) (by repeat (first | with_reducible assumption | with_reducible apply row_here0 | with_reducible apply row_here1 | with_reducible apply row_here2 | with_reducible apply row_here3 | with_reducible apply rowSkip))
  obtain ⟨rsW12, csW12, gsW12, zsW12⟩ := keep_row hB (g := W9.heap.size + 1) (by repeat (first | with_reducible assumption | with_reducible apply row_here0 | with_reducible apply row_here1 | with_reducible apply row_here2 | with_reducible apply row_here3 | with_reducible apply rowSkip))
  clear hB
  clear hW11 zW11 rpW11 cpW11 gpW11 zpW11 rqW11 cqW11 gqW11 zqW11 rrW11 crW11 grW11 zrW11 rsW11 csW11 gsW11 zsW11
  go_wp2_with fail
  refine (aft_x b c m HB.out HC.out HM.out _).mono ?_
  rintro e W13 ⟨rfl, hB⟩
  have hW13 : Below w.heap.size w W13 := hW12.trans (Below.trans (by have := hW12.size; go_grown) (hB.mono (by have := hW12.size; simp; try omega)))
  have zW13 := hW13.size
  obtain ⟨rpW13, cpW13, gpW13, zpW13⟩ := keep_row hB (g := W3.heap.size) (by repeat (first | with_reducible assumption | with_reducible apply row_here0 | with_reducible apply row_here1 | with_reducible apply row_here2 | with_reducible apply row_here3 | with_reducible apply rowSkip))
  obtain ⟨rqW13, cqW13, gqW13, zqW13⟩ := keep_row hB (g := W6.heap.size) (by repeat (first | with_reducible assumption | with_reducible apply row_here0 | with_reducible apply row_here1 | with_reducible apply row_here2 | with_reducible apply row_here3 | with_reducible apply rowSkip))
  obtain ⟨rrW13, crW13, grW13, zrW13⟩ := keep_row hB (g := W9.heap.size) (by repeat (first | with_reducible assumption | with_reducible apply row_here0 | with_reducible apply row_here1 | with_reducible apply row_here2 | with_reducible apply row_here3 | with_reducible apply rowSkip))
  obtain ⟨rsW13, csW13, gsW13, zsW13⟩ := keep_row hB (g := W9.heap.size + 1) (by repeat (first | with_reducible assumption | with_reducible apply row_here0 | with_reducible apply row_here1 | with_reducible apply row_here2 | with_reducible apply row_here3 | with_reducible apply rowSkip))
  clear hB
  clear hW12 zW12 rpW12 cpW12 gpW12 zpW12 rqW12 cqW12 gqW12 zqW12 rrW12 crW12 grW12 zrW12 rsW12 csW12 gsW12 zsW12
  go_wp2_with fail
  refine (breed_x b HB.out _).mono ?_
  rintro e W14 ⟨rfl, hB⟩
  have hW14 : Below w.heap.size w W14 := hW13.trans (Below.trans (by have := hW13.size; go_grown) (hB.mono (by have := hW13.size; simp; try omega)))
  have zW14 := hW14.size
  obtain ⟨rpW14, cpW14, gpW14, zpW14⟩ := keep_row hB (g := W3.heap.size) (by repeat (first | with_reducible assumption | with_reducible apply row_here0 | with_reducible apply row_here1 | with_reducible apply row_here2 | with_reducible apply row_here3 | with_reducible apply rowSkip))
  obtain ⟨rqW14, cqW14, gqW14, zqW14⟩ := keep_row hB (g := W6.heap.size) (by repeat (first | with_reducible assumption | with_reducible apply row_here0 | with_reducible apply row_here1 | with_reducible apply row_here2 | with_reducible apply row_here3 | with_reducible apply rowSkip))
  obtain ⟨rrW14, crW14, grW14, zrW14⟩ := keep_row hB (g := W9.heap.size) (by repeat (first | with_reducible assumption | with_reducible apply row_here0 | with_reducible apply row_here1 | with_reducible apply row_here2 | with_reducible apply row_here3 | with_reducible apply rowSkip))
  obtain ⟨rsW14, csW14, gsW14, zsW14⟩ := keep_row hB (g := W9.heap.size + 1) (by repeat (first | with_reducible assumption | with_reducible apply row_here0 | with_reducible apply row_here1 | with_reducible apply row_here2 | with_reducible apply row_here3 | with_reducible apply rowSkip))
  obtain ⟨ruW14, cuW14, guW14, zuW14⟩ := keep_row hB (g := W13.heap.size) (by repeat (first | with_reducible assumption | with_reducible apply row_here0 | with_reducible apply row_here1 | with_reducible apply row_here2 | with_reducible apply row_here3 | with_reducible apply rowSkip))
  clear hB
  clear hW13 zW13 rpW13 cpW13 gpW13 zpW13 rqW13 cqW13 gqW13 zqW13 rrW13 crW13 grW13 zrW13 rsW13 csW13 gsW13 zsW13
  go_wp2_with fail
  refine (animal_x c HC.out _).mono ?_
  rintro e W15 ⟨rfl, hB⟩
  have hW15 : Below w.heap.size w W15 := hW14.trans (Below.trans (by have := hW14.size; go_grown) (hB.mono (by have := hW14.size; simp; try omega)))
  have zW15 := hW15.size
  obtain ⟨rpW15, cpW15, gpW15, zpW15⟩ := keep_row hB (g := W3.heap.size) (by repeat (first | with_reducible assumption | with_reducible apply row_here0 | with_reducible apply row_here1 | with_reducible apply row_here2 | with_reducible apply row_here3 | with_reducible apply rowSkip))
  obtain ⟨rqW15, cqW15, gqW15, zqW15⟩ := keep_row hB (g := W6.heap.size) (by repeat (first | with_reducible assumption | with_reducible apply row_here0 | with_reducible apply row_here1 | with_reducible apply row_here2 | with_reducible apply row_here3 | with_reducible apply rowSkip))
  obtain ⟨rrW15, crW15, grW15, zrW15⟩ := keep_row hB (g := W9.heap.size) (by repeat (first | with_reducible assumption | with_reducible apply row_here0 | with_reducible apply row_here1 | with_reducible apply row_here2 | with_reducible apply row_here3 | with_reducible apply rowSkip))
  obtain ⟨rsW15, csW15, gsW15, zsW15⟩ := keep_row hB (g := W9.heap.size + 1) (by repeat (first | with_reducible assumption | with_reducible apply row_here0 | with_reducible apply row_here1 | with_reducible apply row_here2 | with_reducible apply row_here3 | with_reducible apply rowSkip))
  obtain ⟨ruW15, cuW15, guW15, zuW15⟩ := keep_row hB (g := W13.heap.size) (by repeat (first | with_reducible assumption | with_reducible apply row_here0 | with_reducible apply row_here1 | with_reducible apply row_here2 | with_reducible apply row_here3 | with_reducible apply rowSkip))
  clear hB
  clear hW14 zW14 rpW14 cpW14 gpW14 zpW14 rqW14 cqW14 gqW14 zqW14 rrW14 crW14 grW14 zrW14 rsW14 csW14 gsW14 zsW14 ruW14 cuW14 guW14 zuW14
  go_wp2_with fail
  refine (day_x m HM.out _).mono ?_
  rintro e W16 ⟨rfl, hB⟩
  have hW16 : Below w.heap.size w W16 := hW15.trans (Below.trans (by have := hW15.size; go_grown) (hB.mono (by have := hW15.size; simp; try omega)))
  have zW16 := hW16.size
  obtain ⟨rpW16, cpW16, gpW16, zpW16⟩ := keep_row hB (g := W3.heap.size) (by repeat (first | with_reducible assumption | with_reducible apply row_here0 | with_reducible apply row_here1 | with_reducible apply row_here2 | with_reducible apply row_here3 | with_reducible apply rowSkip))
  obtain ⟨rqW16, cqW16, gqW16, zqW16⟩ := keep_row hB (g := W6.heap.size) (by repeat (first | with_reducible assumption | with_reducible apply row_here0 | with_reducible apply row_here1 | with_reducible apply row_here2 | with_reducible apply row_here3 | with_reducible apply rowSkip))
  obtain ⟨rrW16, crW16, grW16, zrW16⟩ := keep_row hB (g := W9.heap.size) (by repeat (first | with_reducible assumption | with_reducible apply row_here0 | with_reducible apply row_here1 | with_reducible apply row_here2 | with_reducible apply row_here3 | with_reducible apply rowSkip))
  obtain ⟨rsW16, csW16, gsW16, zsW16⟩ := keep_row hB (g := W9.heap.size + 1) (by repeat (first | with_reducible assumption | with_reducible apply row_here0 | with_reducible apply row_here1 | with_reducible apply row_here2 | with_reducible apply row_here3 | with_reducible apply rowSkip))
  obtain ⟨ruW16, cuW16, guW16, zuW16⟩ := keep_row hB (g := W13.heap.size) (by repeat (first | with_reducible assumption | with_reducible apply row_here0 | with_reducible apply row_here1 | with_reducible apply row_here2 | with_reducible apply row_here3 | with_reducible apply rowSkip))
  clear hB
  clear hW15 zW15 rpW15 cpW15 gpW15 zpW15 rqW15 cqW15 gqW15 zqW15 rrW15 crW15 grW15 zrW15 rsW15 csW15 gsW15 zsW15 ruW15 cuW15 guW15 zuW15
  go_wp2_with fail
  refine (last_x b c m HB.out HC.out HM.out _).mono ?_
  rintro e W17 ⟨rfl, hB⟩
  have hW17 : Below w.heap.size w W17 := hW16.trans (Below.trans (by have := hW16.size; go_grown) (hB.mono (by have := hW16.size; simp; try omega)))
  have zW17 := hW17.size
  obtain ⟨rpW17, cpW17, gpW17, zpW17⟩ := keep_row hB (g := W3.heap.size) (by repeat (first | with_reducible assumption | with_reducible apply row_here0 | with_reducible apply row_here1 | with_reducible apply row_here2 | with_reducible apply row_here3 | with_reducible apply rowSkip))
  obtain ⟨rqW17, cqW17, gqW17, zqW17⟩ := keep_row hB (g := W6.heap.size) (by repeat (first | with_reducible assumption | with_reducible apply row_here0 | with_reducible apply row_here1 | with_reducible apply row_here2 | with_reducible apply row_here3 | with_reducible apply rowSkip))
  obtain ⟨rrW17, crW17, grW17, zrW17⟩ := keep_row hB (g := W9.heap.size) (by repeat (first | with_reducible assumption | with_reducible apply row_here0 | with_reducible apply row_here1 | with_reducible apply row_here2 | with_reducible apply row_here3 | with_reducible apply rowSkip))
  obtain ⟨rsW17, csW17, gsW17, zsW17⟩ := keep_row hB (g := W9.heap.size + 1) (by repeat (first | with_reducible assumption | with_reducible apply row_here0 | with_reducible apply row_here1 | with_reducible apply row_here2 | with_reducible apply row_here3 | with_reducible apply rowSkip))
  obtain ⟨ruW17, cuW17, guW17, zuW17⟩ := keep_row hB (g := W13.heap.size) (by repeat (first | with_reducible assumption | with_reducible apply row_here0 | with_reducible apply row_here1 | with_reducible apply row_here2 | with_reducible apply row_here3 | with_reducible apply rowSkip))
  clear hB
  clear hW16 zW16 rpW16 cpW16 gpW16 zpW16 rqW16 cqW16 gqW16 zqW16 rrW16 crW16 grW16 zrW16 rsW16 csW16 gsW16 zsW16 ruW16 cuW16 guW16 zuW16
  go_wp2_with fail
  refine (herd_any _).mono ?_
  rintro e W18 ⟨⟨gm, rfl, hM⟩, hB⟩
  have hW18 : Below w.heap.size w W18 := hW17.trans (Below.trans (by have := hW17.size; go_grown) (hB.mono (by have := hW17.size; simp; try omega)))
  have zW18 := hW18.size
  obtain ⟨rpW18, cpW18, gpW18, zpW18⟩ := keep_row hB (g := W3.heap.size) (by repeat (first | with_reducible assumption | with_reducible apply row_here0 | with_reducible apply row_here1 | with_reducible apply row_here2 | with_reducible apply row_here3 | with_reducible apply rowSkip))
  obtain ⟨rqW18, cqW18, gqW18, zqW18⟩ := keep_row hB (g := W6.heap.size) (by repeat (first | with_reducible assumption | with_reducible apply row_here0 | with_reducible apply row_here1 | with_reducible apply row_here2 | with_reducible apply row_here3 | with_reducible apply rowSkip))
  obtain ⟨rrW18, crW18, grW18, zrW18⟩ := keep_row hB (g := W9.heap.size) (by repeat (first | with_reducible assumption | with_reducible apply row_here0 | with_reducible apply row_here1 | with_reducible apply row_here2 | with_reducible apply row_here3 | with_reducible apply rowSkip))
  obtain ⟨rsW18, csW18, gsW18, zsW18⟩ := keep_row hB (g := W9.heap.size + 1) (by repeat (first | with_reducible assumption | with_reducible apply row_here0 | with_reducible apply row_here1 | with_reducible apply row_here2 | with_reducible apply row_here3 | with_reducible apply rowSkip))
  obtain ⟨ruW18, cuW18, guW18, zuW18⟩ := keep_row hB (g := W13.heap.size) (by repeat (first | with_reducible assumption | with_reducible apply row_here0 | with_reducible apply row_here1 | with_reducible apply row_here2 | with_reducible apply row_here3 | with_reducible apply rowSkip))
  obtain ⟨rvW18, cvW18, gvW18, zvW18⟩ := keep_row hB (g := W17.heap.size) (by repeat (first | with_reducible assumption | with_reducible apply row_here0 | with_reducible apply row_here1 | with_reducible apply row_here2 | with_reducible apply row_here3 | with_reducible apply rowSkip))
  obtain ⟨riW18, ciW18, giW18, ziW18⟩ := keep_row hB (g := W17.heap.size + 1) (by repeat (first | with_reducible assumption | with_reducible apply row_here0 | with_reducible apply row_here1 | with_reducible apply row_here2 | with_reducible apply row_here3 | with_reducible apply rowSkip))
  clear hB
  clear hW17 zW17 rpW17 cpW17 gpW17 zpW17 rqW17 cqW17 gqW17 zqW17 rrW17 crW17 grW17 zrW17 rsW17 csW17 gsW17 zsW17 ruW17 cuW17 guW17 zuW17
  have M18 := Lib.hid hM
  clear hM
  go_wp2_with fail
  refine (span_any 3 5 _).mono ?_
  rintro e W19 ⟨rfl, hB⟩
  have xW19 : Ext W18 W19 := Below.trans (by go_grown) (hB.mono (by simp; try omega))
  have hW19 : Below w.heap.size w W19 := hW18.trans (Below.trans (by have := hW18.size; go_grown) (hB.mono (by have := hW18.size; simp; try omega)))
  have zW19 := hW19.size
  obtain ⟨rpW19, cpW19, gpW19, zpW19⟩ := keep_row hB (g := W3.heap.size) (by repeat (first | with_reducible assumption | with_reducible apply row_here0 | with_reducible apply row_here1 | with_reducible apply row_here2 | with_reducible apply row_here3 | with_reducible apply rowSkip))
  obtain ⟨rqW19, cqW19, gqW19, zqW19⟩ := keep_row hB (g := W6.heap.size) (by repeat (first | with_reducible assumption | with_reducible apply row_here0 | with_reducible apply row_here1 | with_reducible apply row_here2 | with_reducible apply row_here3 | with_reducible apply rowSkip))
  obtain ⟨rrW19, crW19, grW19, zrW19⟩ := keep_row hB (g := W9.heap.size) (by repeat (first | with_reducible assumption | with_reducible apply row_here0 | with_reducible apply row_here1 | with_reducible apply row_here2 | with_reducible apply row_here3 | with_reducible apply rowSkip))
  obtain ⟨rsW19, csW19, gsW19, zsW19⟩ := keep_row hB (g := W9.heap.size + 1) (by repeat (first | with_reducible assumption | with_reducible apply row_here0 | with_reducible apply row_here1 | with_reducible apply row_here2 | with_reducible apply row_here3 | with_reducible apply rowSkip))
  obtain ⟨ruW19, cuW19, guW19, zuW19⟩ := keep_row hB (g := W13.heap.size) (by repeat (first | with_reducible assumption | with_reducible apply row_here0 | with_reducible apply row_here1 | with_reducible apply row_here2 | with_reducible apply row_here3 | with_reducible apply rowSkip))
  obtain ⟨rvW19, cvW19, gvW19, zvW19⟩ := keep_row hB (g := W17.heap.size) (by repeat (first | with_reducible assumption | with_reducible apply row_here0 | with_reducible apply row_here1 | with_reducible apply row_here2 | with_reducible apply row_here3 | with_reducible apply rowSkip))
  obtain ⟨riW19, ciW19, giW19, ziW19⟩ := keep_row hB (g := W17.heap.size + 1) (by repeat (first | with_reducible assumption | with_reducible apply row_here0 | with_reducible apply row_here1 | with_reducible apply row_here2 | with_reducible apply row_here3 | with_reducible apply rowSkip))
  clear hB
  clear hW18 zW18 rpW18 cpW18 gpW18 zpW18 rqW18 cqW18 gqW18 zqW18 rrW18 crW18 grW18 zrW18 rsW18 csW18 gsW18 zsW18 ruW18 cuW18 guW18 zuW18 rvW18 cvW18 gvW18 zvW18 riW18 ciW18 giW18 ziW18
  have M19 := Lib.hid (M18.out.ext xW19)
  clear M18 xW19
  go_wp2_with fail
  refine (mange_x 8 _ (by decide +kernel) bs_8 _ _ 1 gm 2 (ints_row riW19 1) M19.out).mono ?_
  rintro e W20 ⟨⟨vv, rfl, hT⟩, hB⟩
  have hW20 : Below w.heap.size w W20 := hW19.trans (Below.trans (by have := hW19.size; go_grown) (hB.mono (by have := hW19.size; simp; try omega)))
  have zW20 := hW20.size
  obtain ⟨rpW20, cpW20, gpW20, zpW20⟩ := keep_row hB (g := W3.heap.size) (by repeat (first | with_reducible assumption | with_reducible apply row_here0 | with_reducible apply row_here1 | with_reducible apply row_here2 | with_reducible apply row_here3 | with_reducible apply rowSkip))
  obtain ⟨rqW20, cqW20, gqW20, zqW20⟩ := keep_row hB (g := W6.heap.size) (by repeat (first | with_reducible assumption | with_reducible apply row_here0 | with_reducible apply row_here1 | with_reducible apply row_here2 | with_reducible apply row_here3 | with_reducible apply rowSkip))
  obtain ⟨rrW20, crW20, grW20, zrW20⟩ := keep_row hB (g := W9.heap.size) (by repeat (first | with_reducible assumption | with_reducible apply row_here0 | with_reducible apply row_here1 | with_reducible apply row_here2 | with_reducible apply row_here3 | with_reducible apply rowSkip))
  obtain ⟨rsW20, csW20, gsW20, zsW20⟩ := keep_row hB (g := W9.heap.size + 1) (by repeat (first | with_reducible assumption | with_reducible apply row_here0 | with_reducible apply row_here1 | with_reducible apply row_here2 | with_reducible apply row_here3 | with_reducible apply rowSkip))
  obtain ⟨ruW20, cuW20, guW20, zuW20⟩ := keep_row hB (g := W13.heap.size) (by repeat (first | with_reducible assumption | with_reducible apply row_here0 | with_reducible apply row_here1 | with_reducible apply row_here2 | with_reducible apply row_here3 | with_reducible apply rowSkip))
  obtain ⟨rvW20, cvW20, gvW20, zvW20⟩ := keep_row hB (g := W17.heap.size) (by repeat (first | with_reducible assumption | with_reducible apply row_here0 | with_reducible apply row_here1 | with_reducible apply row_here2 | with_reducible apply row_here3 | with_reducible apply rowSkip))
  obtain ⟨riW20, ciW20, giW20, ziW20⟩ := keep_row hB (g := W17.heap.size + 1) (by repeat (first | with_reducible assumption | with_reducible apply row_here0 | with_reducible apply row_here1 | with_reducible apply row_here2 | with_reducible apply row_here3 | with_reducible apply rowSkip))
  clear hB
  clear hW19 zW19 rpW19 cpW19 gpW19 zpW19 rqW19 cqW19 gqW19 zqW19 rrW19 crW19 grW19 zrW19 rsW19 csW19 gsW19 zsW19 ruW19 cuW19 guW19 zuW19 rvW19 cvW19 gvW19 zvW19 riW19 ciW19 giW19 ziW19
  have T20 := Lib.hid hT
  clear hT M19
  clear riW20 ciW20 giW20 ziW20
  go_wp2_with fail
  refine quiet_wp (by kernel_rfl) (by kernel_rfl) ?_
  refine quiet_step rfl (.int .i64 0) (fun W hE => ?_) ?_
  · show Oper.quietUpon _ _ _ _ _
    go_simp
    try exact ⟨rfl, rfl⟩
  simp only [Act.put, List.setIfInBounds_toArray, List.set_cons_succ, List.set_cons_zero]
  refine quiet_step rfl (.bool true) (fun W hE => ?_) ?_
  · show Oper.quietUpon _ _ _ _ _
    go_simp
    try exact ⟨rfl, rfl⟩
  simp only [Act.put, List.setIfInBounds_toArray, List.set_cons_succ, List.set_cons_zero]
  refine quiet_step rfl (.bool true) (fun W hE => ?_) ?_
  · show Oper.quietUpon _ _ _ _ _
    go_simp
    try exact ⟨rfl, rfl⟩
  simp only [Act.put, List.setIfInBounds_toArray, List.set_cons_succ, List.set_cons_zero]
  refine quiet_step rfl (.agg #[.int .i64 800, .int .i64 1000]) (fun W hE => ?_) ?_
  · show Oper.quietUpon _ _ _ _ _
    obtain ⟨_, _, -, _⟩ := keep_row hE (rpW20 : rowOf _ _ = _)
    obtain ⟨_, _, -, _⟩ := keep_row hE (rqW20 : rowOf _ _ = _)
    obtain ⟨_, _, -, _⟩ := keep_row hE (rrW20 : rowOf _ _ = _)
    obtain ⟨_, _, -, _⟩ := keep_row hE (rsW20 : rowOf _ _ = _)
    obtain ⟨_, _, -, _⟩ := keep_row hE (ruW20 : rowOf _ _ = _)
    obtain ⟨_, _, -, _⟩ := keep_row hE (rvW20 : rowOf _ _ = _)
    go_simp
    try exact ⟨rfl, rfl⟩
  simp only [Act.put, List.setIfInBounds_toArray, List.set_cons_succ, List.set_cons_zero]
  refine quiet_step rfl (.agg #[.int .i64 800, .int .i64 1000]) (fun W hE => ?_) ?_
  · show Oper.quietUpon _ _ _ _ _
    go_simp
    first | exact ⟨rfl, (span_any 800 1000 W).mono fun e w'' ⟨he, hB⟩ => ⟨he, Ext.trans hE hB⟩⟩ | exact (span_any 800 1000 W).mono fun e w'' ⟨he, hB⟩ => ⟨he, Ext.trans hE hB⟩
  simp only [Act.put, List.setIfInBounds_toArray, List.set_cons_succ, List.set_cons_zero]
  refine quiet_step rfl (.bool true) (fun W hE => ?_) ?_
  · show Oper.quietUpon _ _ _ _ _
    go_simp
    try exact ⟨rfl, rfl⟩
  simp only [Act.put, List.setIfInBounds_toArray, List.set_cons_succ, List.set_cons_zero]
  refine quiet_step rfl (.bool true) (fun W hE => ?_) ?_
  · show Oper.quietUpon _ _ _ _ _
    go_simp
    try exact ⟨rfl, rfl⟩
  simp only [Act.put, List.setIfInBounds_toArray, List.set_cons_succ, List.set_cons_zero]
  refine quiet_step rfl (.bool true) (fun W hE => ?_) ?_
  · show Oper.quietUpon _ _ _ _ _
    go_simp
    try exact ⟨rfl, rfl⟩
  simp only [Act.put, List.setIfInBounds_toArray, List.set_cons_succ, List.set_cons_zero]
  refine quiet_step rfl (.int .i64 0) (fun W hE => ?_) ?_
  · show Oper.quietUpon _ _ _ _ _
    go_simp
    try exact ⟨rfl, rfl⟩
  simp only [Act.put, List.setIfInBounds_toArray, List.set_cons_succ, List.set_cons_zero]
  refine quiet_step rfl (.bool true) (fun W hE => ?_) ?_
  · show Oper.quietUpon _ _ _ _ _
    go_simp
    try exact ⟨rfl, rfl⟩
  simp only [Act.put, List.setIfInBounds_toArray, List.set_cons_succ, List.set_cons_zero]
  refine quiet_step rfl (.bool true) (fun W hE => ?_) ?_
  · show Oper.quietUpon _ _ _ _ _
    go_simp
    try exact ⟨rfl, rfl⟩
  simp only [Act.put, List.setIfInBounds_toArray, List.set_cons_succ, List.set_cons_zero]
  refine quiet_step rfl (.bool true) (fun W hE => ?_) ?_
  · show Oper.quietUpon _ _ _ _ _
    go_simp
    try exact ⟨rfl, rfl⟩
  simp only [Act.put, List.setIfInBounds_toArray, List.set_cons_succ, List.set_cons_zero]
  refine quiet_step rfl (.agg #[.int .i64 120000, .int .i64 200000]) (fun W hE => ?_) ?_
  · show Oper.quietUpon _ _ _ _ _
    obtain ⟨_, _, -, _⟩ := keep_row hE (rpW20 : rowOf _ _ = _)
    obtain ⟨_, _, -, _⟩ := keep_row hE (rqW20 : rowOf _ _ = _)
    obtain ⟨_, _, -, _⟩ := keep_row hE (rrW20 : rowOf _ _ = _)
    obtain ⟨_, _, -, _⟩ := keep_row hE (rsW20 : rowOf _ _ = _)
    obtain ⟨_, _, -, _⟩ := keep_row hE (ruW20 : rowOf _ _ = _)
    obtain ⟨_, _, -, _⟩ := keep_row hE (rvW20 : rowOf _ _ = _)
    go_simp
    try exact ⟨rfl, rfl⟩
  simp only [Act.put, List.setIfInBounds_toArray, List.set_cons_succ, List.set_cons_zero]
  refine quiet_step rfl (.agg #[.int .i64 120000, .int .i64 200000]) (fun W hE => ?_) ?_
  · show Oper.quietUpon _ _ _ _ _
    go_simp
    first | exact ⟨rfl, (span_any 120000 200000 W).mono fun e w'' ⟨he, hB⟩ => ⟨he, Ext.trans hE hB⟩⟩ | exact (span_any 120000 200000 W).mono fun e w'' ⟨he, hB⟩ => ⟨he, Ext.trans hE hB⟩
  simp only [Act.put, List.setIfInBounds_toArray, List.set_cons_succ, List.set_cons_zero]
  refine quiet_step rfl (.bool true) (fun W hE => ?_) ?_
  · show Oper.quietUpon _ _ _ _ _
    go_simp
    try exact ⟨rfl, rfl⟩
  simp only [Act.put, List.setIfInBounds_toArray, List.set_cons_succ, List.set_cons_zero]
  refine quiet_step rfl (.bool true) (fun W hE => ?_) ?_
  · show Oper.quietUpon _ _ _ _ _
    go_simp
    try exact ⟨rfl, rfl⟩
  simp only [Act.put, List.setIfInBounds_toArray, List.set_cons_succ, List.set_cons_zero]
  refine quiet_step rfl (.bool true) (fun W hE => ?_) ?_
  · show Oper.quietUpon _ _ _ _ _
    go_simp
    try exact ⟨rfl, rfl⟩
  simp only [Act.put, List.setIfInBounds_toArray, List.set_cons_succ, List.set_cons_zero]
  refine quiet_step rfl (.int .i64 0) (fun W hE => ?_) ?_
  · show Oper.quietUpon _ _ _ _ _
    go_simp
    try exact ⟨rfl, rfl⟩
  simp only [Act.put, List.setIfInBounds_toArray, List.set_cons_succ, List.set_cons_zero]
  refine quiet_step rfl (.bool true) (fun W hE => ?_) ?_
  · show Oper.quietUpon _ _ _ _ _
    go_simp
    try exact ⟨rfl, rfl⟩
  simp only [Act.put, List.setIfInBounds_toArray, List.set_cons_succ, List.set_cons_zero]
  refine quiet_step rfl (.bool true) (fun W hE => ?_) ?_
  · show Oper.quietUpon _ _ _ _ _
    go_simp
    try exact ⟨rfl, rfl⟩
  simp only [Act.put, List.setIfInBounds_toArray, List.set_cons_succ, List.set_cons_zero]
  refine quiet_step rfl (.bool true) (fun W hE => ?_) ?_
  · show Oper.quietUpon _ _ _ _ _
    go_simp
    try exact ⟨rfl, rfl⟩
  simp only [Act.put, List.setIfInBounds_toArray, List.set_cons_succ, List.set_cons_zero]
  refine quiet_step rfl (.agg #[.int .i64 7000, .int .i64 9500]) (fun W hE => ?_) ?_
  · show Oper.quietUpon _ _ _ _ _
    obtain ⟨_, _, -, _⟩ := keep_row hE (rpW20 : rowOf _ _ = _)
    obtain ⟨_, _, -, _⟩ := keep_row hE (rqW20 : rowOf _ _ = _)
    obtain ⟨_, _, -, _⟩ := keep_row hE (rrW20 : rowOf _ _ = _)
    obtain ⟨_, _, -, _⟩ := keep_row hE (rsW20 : rowOf _ _ = _)
    obtain ⟨_, _, -, _⟩ := keep_row hE (ruW20 : rowOf _ _ = _)
    obtain ⟨_, _, -, _⟩ := keep_row hE (rvW20 : rowOf _ _ = _)
    go_simp
    try exact ⟨rfl, rfl⟩
  simp only [Act.put, List.setIfInBounds_toArray, List.set_cons_succ, List.set_cons_zero]
  refine quiet_step rfl (.agg #[.int .i64 7000, .int .i64 9500]) (fun W hE => ?_) ?_
  · show Oper.quietUpon _ _ _ _ _
    go_simp
    first | exact ⟨rfl, (span_any 7000 9500 W).mono fun e w'' ⟨he, hB⟩ => ⟨he, Ext.trans hE hB⟩⟩ | exact (span_any 7000 9500 W).mono fun e w'' ⟨he, hB⟩ => ⟨he, Ext.trans hE hB⟩
  simp only [Act.put, List.setIfInBounds_toArray, List.set_cons_succ, List.set_cons_zero]
  refine quiet_step rfl (.bool true) (fun W hE => ?_) ?_
  · show Oper.quietUpon _ _ _ _ _
    go_simp
    try exact ⟨rfl, rfl⟩
  simp only [Act.put, List.setIfInBounds_toArray, List.set_cons_succ, List.set_cons_zero]
  refine quiet_step rfl (.bool true) (fun W hE => ?_) ?_
  · show Oper.quietUpon _ _ _ _ _
    go_simp
    try exact ⟨rfl, rfl⟩
  simp only [Act.put, List.setIfInBounds_toArray, List.set_cons_succ, List.set_cons_zero]
  refine quiet_step rfl (.bool true) (fun W hE => ?_) ?_
  · show Oper.quietUpon _ _ _ _ _
    go_simp
    try exact ⟨rfl, rfl⟩
  simp only [Act.put, List.setIfInBounds_toArray, List.set_cons_succ, List.set_cons_zero]
  refine quiet_step rfl (.agg #[.int .i64 800, .int .i64 1000]) (fun W hE => ?_) ?_
  · show Oper.quietUpon _ _ _ _ _
    obtain ⟨_, _, -, _⟩ := keep_row hE (rpW20 : rowOf _ _ = _)
    obtain ⟨_, _, -, _⟩ := keep_row hE (rqW20 : rowOf _ _ = _)
    obtain ⟨_, _, -, _⟩ := keep_row hE (rrW20 : rowOf _ _ = _)
    obtain ⟨_, _, -, _⟩ := keep_row hE (rsW20 : rowOf _ _ = _)
    obtain ⟨_, _, -, _⟩ := keep_row hE (ruW20 : rowOf _ _ = _)
    obtain ⟨_, _, -, _⟩ := keep_row hE (rvW20 : rowOf _ _ = _)
    go_simp
    try exact ⟨rfl, rfl⟩
  simp only [Act.put, List.setIfInBounds_toArray, List.set_cons_succ, List.set_cons_zero]
  refine quiet_step rfl (.agg #[.int .i64 800, .int .i64 1000]) (fun W hE => ?_) ?_
  · show Oper.quietUpon _ _ _ _ _
    go_simp
    first | exact ⟨rfl, (span_any 800 1000 W).mono fun e w'' ⟨he, hB⟩ => ⟨he, Ext.trans hE hB⟩⟩ | exact (span_any 800 1000 W).mono fun e w'' ⟨he, hB⟩ => ⟨he, Ext.trans hE hB⟩
  simp only [Act.put, List.setIfInBounds_toArray, List.set_cons_succ, List.set_cons_zero]
  refine quiet_step rfl (.bool true) (fun W hE => ?_) ?_
  · show Oper.quietUpon _ _ _ _ _
    go_simp
    try exact ⟨rfl, rfl⟩
  simp only [Act.put, List.setIfInBounds_toArray, List.set_cons_succ, List.set_cons_zero]
  refine quiet_step rfl (.bool true) (fun W hE => ?_) ?_
  · show Oper.quietUpon _ _ _ _ _
    go_simp
    try exact ⟨rfl, rfl⟩
  simp only [Act.put, List.setIfInBounds_toArray, List.set_cons_succ, List.set_cons_zero]
  refine quiet_step rfl (.bool true) (fun W hE => ?_) ?_
  · show Oper.quietUpon _ _ _ _ _
    go_simp
    try exact ⟨rfl, rfl⟩
  simp only [Act.put, List.setIfInBounds_toArray, List.set_cons_succ, List.set_cons_zero]
  refine quiet_step rfl (.int .i64 0) (fun W hE => ?_) ?_
  · show Oper.quietUpon _ _ _ _ _
    go_simp
    try exact ⟨rfl, rfl⟩
  simp only [Act.put, List.setIfInBounds_toArray, List.set_cons_succ, List.set_cons_zero]
  refine quiet_step rfl (.bool true) (fun W hE => ?_) ?_
  · show Oper.quietUpon _ _ _ _ _
    go_simp
    try exact ⟨rfl, rfl⟩
  simp only [Act.put, List.setIfInBounds_toArray, List.set_cons_succ, List.set_cons_zero]
  refine quiet_step rfl (.bool true) (fun W hE => ?_) ?_
  · show Oper.quietUpon _ _ _ _ _
    go_simp
    try exact ⟨rfl, rfl⟩
  simp only [Act.put, List.setIfInBounds_toArray, List.set_cons_succ, List.set_cons_zero]
  refine quiet_step rfl (.bool true) (fun W hE => ?_) ?_
  · show Oper.quietUpon _ _ _ _ _
    go_simp
    try exact ⟨rfl, rfl⟩
  simp only [Act.put, List.setIfInBounds_toArray, List.set_cons_succ, List.set_cons_zero]
  refine quiet_step rfl (.int .u8 0) (fun W hE => ?_) ?_
  · show Oper.quietUpon _ _ _ _ _
    go_simp
    try exact ⟨rfl, rfl⟩
  simp only [Act.put, List.setIfInBounds_toArray, List.set_cons_succ, List.set_cons_zero]
  refine quiet_step rfl (.bool true) (fun W hE => ?_) ?_
  · show Oper.quietUpon _ _ _ _ _
    go_simp
    try exact ⟨rfl, rfl⟩
  simp only [Act.put, List.setIfInBounds_toArray, List.set_cons_succ, List.set_cons_zero]
  refine quiet_step rfl (.bool true) (fun W hE => ?_) ?_
  · show Oper.quietUpon _ _ _ _ _
    go_simp
    try exact ⟨rfl, rfl⟩
  simp only [Act.put, List.setIfInBounds_toArray, List.set_cons_succ, List.set_cons_zero]
  refine quiet_step rfl (.bool true) (fun W hE => ?_) ?_
  · show Oper.quietUpon _ _ _ _ _
    go_simp
    try exact ⟨rfl, rfl⟩
  simp only [Act.put, List.setIfInBounds_toArray, List.set_cons_succ, List.set_cons_zero]
  refine quiet_step rfl (.agg #[.int .i64 50500, .int .i64 63000, .int .i64 19000, .int .i64 29200, .int .i64 100, .int .i64 300, .bool false]) (fun W hE => ?_) ?_
  · show Oper.quietUpon _ _ _ _ _
    obtain ⟨_, _, -, _⟩ := keep_row hE (rpW20 : rowOf _ _ = _)
    obtain ⟨_, _, -, _⟩ := keep_row hE (rqW20 : rowOf _ _ = _)
    obtain ⟨_, _, -, _⟩ := keep_row hE (rrW20 : rowOf _ _ = _)
    obtain ⟨_, _, -, _⟩ := keep_row hE (rsW20 : rowOf _ _ = _)
    obtain ⟨_, _, -, _⟩ := keep_row hE (ruW20 : rowOf _ _ = _)
    obtain ⟨_, _, -, _⟩ := keep_row hE (rvW20 : rowOf _ _ = _)
    go_simp
    try exact ⟨rfl, rfl⟩
  simp only [Act.put, List.setIfInBounds_toArray, List.set_cons_succ, List.set_cons_zero]
  refine quiet_step rfl (.agg #[.int .i64 50500, .int .i64 63000]) (fun W hE => ?_) ?_
  · show Oper.quietUpon _ _ _ _ _
    go_simp
    first | exact ⟨rfl, (span_any 50500 63000 W).mono fun e w'' ⟨he, hB⟩ => ⟨he, Ext.trans hE hB⟩⟩ | exact (span_any 50500 63000 W).mono fun e w'' ⟨he, hB⟩ => ⟨he, Ext.trans hE hB⟩
  simp only [Act.put, List.setIfInBounds_toArray, List.set_cons_succ, List.set_cons_zero]
  refine quiet_step rfl (.agg #[.int .i64 19000, .int .i64 29200]) (fun W hE => ?_) ?_
  · show Oper.quietUpon _ _ _ _ _
    go_simp
    first | exact ⟨rfl, (span_any 19000 29200 W).mono fun e w'' ⟨he, hB⟩ => ⟨he, Ext.trans hE hB⟩⟩ | exact (span_any 19000 29200 W).mono fun e w'' ⟨he, hB⟩ => ⟨he, Ext.trans hE hB⟩
  simp only [Act.put, List.setIfInBounds_toArray, List.set_cons_succ, List.set_cons_zero]
  refine quiet_step rfl (.agg #[.int .i64 100, .int .i64 300]) (fun W hE => ?_) ?_
  · show Oper.quietUpon _ _ _ _ _
    go_simp
    first | exact ⟨rfl, (span_any 100 300 W).mono fun e w'' ⟨he, hB⟩ => ⟨he, Ext.trans hE hB⟩⟩ | exact (span_any 100 300 W).mono fun e w'' ⟨he, hB⟩ => ⟨he, Ext.trans hE hB⟩
  simp only [Act.put, List.setIfInBounds_toArray, List.set_cons_succ, List.set_cons_zero]
  refine quiet_step rfl (.agg #[.int .i64 50500, .int .i64 63000, .int .i64 19000, .int .i64 29200, .int .i64 100, .int .i64 300, .bool false]) (fun W hE => ?_) ?_
  · show Oper.quietUpon _ _ _ _ _
    go_simp
    try exact ⟨rfl, rfl⟩
  simp only [Act.put, List.setIfInBounds_toArray, List.set_cons_succ, List.set_cons_zero]
  refine quiet_step rfl (.bool true) (fun W hE => ?_) ?_
  · show Oper.quietUpon _ _ _ _ _
    go_simp
    try exact ⟨rfl, rfl⟩
  simp only [Act.put, List.setIfInBounds_toArray, List.set_cons_succ, List.set_cons_zero]
  refine quiet_step rfl (.bool true) (fun W hE => ?_) ?_
  · show Oper.quietUpon _ _ _ _ _
    go_simp
    try exact ⟨rfl, rfl⟩
  simp only [Act.put, List.setIfInBounds_toArray, List.set_cons_succ, List.set_cons_zero]
  refine quiet_step rfl (.bool true) (fun W hE => ?_) ?_
  · show Oper.quietUpon _ _ _ _ _
    go_simp
    try exact ⟨rfl, rfl⟩
  simp only [Act.put, List.setIfInBounds_toArray, List.set_cons_succ, List.set_cons_zero]
  refine quiet_step rfl (.int .i64 0) (fun W hE => ?_) ?_
  · show Oper.quietUpon _ _ _ _ _
    go_simp
    try exact ⟨rfl, rfl⟩
  simp only [Act.put, List.setIfInBounds_toArray, List.set_cons_succ, List.set_cons_zero]
  refine quiet_step rfl (.bool true) (fun W hE => ?_) ?_
  · show Oper.quietUpon _ _ _ _ _
    go_simp
    try exact ⟨rfl, rfl⟩
  simp only [Act.put, List.setIfInBounds_toArray, List.set_cons_succ, List.set_cons_zero]
  refine quiet_step rfl (.bool true) (fun W hE => ?_) ?_
  · show Oper.quietUpon _ _ _ _ _
    go_simp
    try exact ⟨rfl, rfl⟩
  simp only [Act.put, List.setIfInBounds_toArray, List.set_cons_succ, List.set_cons_zero]
  refine quiet_step rfl (.bool true) (fun W hE => ?_) ?_
  · show Oper.quietUpon _ _ _ _ _
    go_simp
    try exact ⟨rfl, rfl⟩
  simp only [Act.put, List.setIfInBounds_toArray, List.set_cons_succ, List.set_cons_zero]
  refine quiet_step rfl (.agg #[.int .i64 6, .int .i64 10]) (fun W hE => ?_) ?_
  · show Oper.quietUpon _ _ _ _ _
    obtain ⟨_, _, -, _⟩ := keep_row hE (rpW20 : rowOf _ _ = _)
    obtain ⟨_, _, -, _⟩ := keep_row hE (rqW20 : rowOf _ _ = _)
    obtain ⟨_, _, -, _⟩ := keep_row hE (rrW20 : rowOf _ _ = _)
    obtain ⟨_, _, -, _⟩ := keep_row hE (rsW20 : rowOf _ _ = _)
    obtain ⟨_, _, -, _⟩ := keep_row hE (ruW20 : rowOf _ _ = _)
    obtain ⟨_, _, -, _⟩ := keep_row hE (rvW20 : rowOf _ _ = _)
    go_simp
    try exact ⟨rfl, rfl⟩
  simp only [Act.put, List.setIfInBounds_toArray, List.set_cons_succ, List.set_cons_zero]
  refine quiet_step rfl (.agg #[.int .i64 6, .int .i64 10]) (fun W hE => ?_) ?_
  · show Oper.quietUpon _ _ _ _ _
    go_simp
    first | exact ⟨rfl, (span_any 6 10 W).mono fun e w'' ⟨he, hB⟩ => ⟨he, Ext.trans hE hB⟩⟩ | exact (span_any 6 10 W).mono fun e w'' ⟨he, hB⟩ => ⟨he, Ext.trans hE hB⟩
  simp only [Act.put, List.setIfInBounds_toArray, List.set_cons_succ, List.set_cons_zero]
  refine quiet_step rfl (.bool true) (fun W hE => ?_) ?_
  · show Oper.quietUpon _ _ _ _ _
    go_simp
    try exact ⟨rfl, rfl⟩
  simp only [Act.put, List.setIfInBounds_toArray, List.set_cons_succ, List.set_cons_zero]
  refine quiet_step rfl (.bool true) (fun W hE => ?_) ?_
  · show Oper.quietUpon _ _ _ _ _
    go_simp
    try exact ⟨rfl, rfl⟩
  simp only [Act.put, List.setIfInBounds_toArray, List.set_cons_succ, List.set_cons_zero]
  refine quiet_step rfl (.bool true) (fun W hE => ?_) ?_
  · show Oper.quietUpon _ _ _ _ _
    go_simp
    try exact ⟨rfl, rfl⟩
  simp only [Act.put, List.setIfInBounds_toArray, List.set_cons_succ, List.set_cons_zero]
  refine quiet_step rfl (.int .i64 0) (fun W hE => ?_) ?_
  · show Oper.quietUpon _ _ _ _ _
    go_simp
    try exact ⟨rfl, rfl⟩
  simp only [Act.put, List.setIfInBounds_toArray, List.set_cons_succ, List.set_cons_zero]
  refine quiet_step rfl (.bool true) (fun W hE => ?_) ?_
  · show Oper.quietUpon _ _ _ _ _
    go_simp
    try exact ⟨rfl, rfl⟩
  simp only [Act.put, List.setIfInBounds_toArray, List.set_cons_succ, List.set_cons_zero]
  refine quiet_step rfl (.bool true) (fun W hE => ?_) ?_
  · show Oper.quietUpon _ _ _ _ _
    go_simp
    try exact ⟨rfl, rfl⟩
  simp only [Act.put, List.setIfInBounds_toArray, List.set_cons_succ, List.set_cons_zero]
  refine quiet_step rfl (.bool true) (fun W hE => ?_) ?_
  · show Oper.quietUpon _ _ _ _ _
    go_simp
    try exact ⟨rfl, rfl⟩
  simp only [Act.put, List.setIfInBounds_toArray, List.set_cons_succ, List.set_cons_zero]
  refine quiet_step rfl (vv) (fun W hE => ?_) ?_
  · show Oper.quietUpon _ _ _ _ _
    go_simp
    try exact ⟨rfl, rfl⟩
  simp only [Act.put, List.setIfInBounds_toArray, List.set_cons_succ, List.set_cons_zero]
  refine quiet_step rfl (.string ⟨#[2, 1, 0]⟩) (fun W hE => ?_) ?_
  · show Oper.quietUpon _ _ _ _ _
    have cv := (T20.out.ext hE).conv
    go_simp
    try exact ⟨rfl, rfl⟩
  simp only [Act.put, List.setIfInBounds_toArray, List.set_cons_succ, List.set_cons_zero]
  refine quiet_step rfl (.bool true) (fun W hE => ?_) ?_
  · show Oper.quietUpon _ _ _ _ _
    go_simp
    try exact ⟨rfl, rfl⟩
  simp only [Act.put, List.setIfInBounds_toArray, List.set_cons_succ, List.set_cons_zero]
  refine quiet_step rfl (.bool true) (fun W hE => ?_) ?_
  · show Oper.quietUpon _ _ _ _ _
    go_simp
    try exact ⟨rfl, rfl⟩
  simp only [Act.put, List.setIfInBounds_toArray, List.set_cons_succ, List.set_cons_zero]
  refine quiet_step rfl (.bool true) (fun W hE => ?_) ?_
  · show Oper.quietUpon _ _ _ _ _
    go_simp
    try exact ⟨rfl, rfl⟩
  simp only [Act.put, List.setIfInBounds_toArray, List.set_cons_succ, List.set_cons_zero]
  refine wpQuiet_nil ?_
  intro W hE
  have hWQ : Below w.heap.size w W := hW20.trans (Below.mono hE zW20)
  clear hE T20
  go_wp2
  go_returns
  exact ⟨rfl, hWQ⟩
end Go.Proofs.Ytafdcbdbllpcnaa
