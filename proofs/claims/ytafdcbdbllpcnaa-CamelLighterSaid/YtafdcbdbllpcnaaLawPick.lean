/- Contract of package camel's Lasts. -/
import Derived.Test.YtafdcbdbllpcnaaLeafQ
import Derived.Test.YtafdcbdbllpcnaaIter
import Derived.Test.YtafdcbdbllpcnaaDaysL
import Derived.Test.YtafdcbdbllpcnaaLeafI
import Derived.Test.YtafdcbdbllpcnaaLasS
import Derived.Test.YtafdcbdbllpcnaaRefA
import Derived.Test.YtafdcbdbllpcnaaLeafE
import Derived.Test.YtafdcbdbllpcnaaBigT
set_option linter.unusedVariables false
set_option linter.unusedSimpArgs false
namespace Go.Proofs.Ytafdcbdbllpcnaa
open Go.RowKit Go.Shelf
open Go.Proofs

attribute [local go_sem ↓] exec36l exec112l exec36s exec112s exec31s run_min2 run_max2
attribute [local go_sem] load36 load112 store36 store112 store31 build112 rowOf_alloc rowOf_drew setRow_alloc one_int one_bool run_min4
attribute [local go_sem ↓] exec126s exec45s exec39s
attribute [local go_sem] store126 store45 build126 load112at cut_mo cut_ev store39 rowOf_setCell_if Option.map_some
attribute [local go_sem] Oper.semAt_some

theorem chk1 (b : Br) (c : Cm) (m : Mr) (x : Int) (hx : chkT b c [m] = x) (w : World) (g cap : Nat) (h : rowOf w g = some #[.int .i64 m.hours, .int .i64 m.load, .int .i64 m.heat.1, .int .i64 m.heat.2, .int .i64 m.grass.1, .int .i64 m.grass.2, .int .i64 m.drinks.1, .int .i64 m.drinks.2]) (hb : g < w.heap.size) :
    Calls Try.prog 57 #[.agg #[.int .i64 b.full, .int .i64 b.fed, .int .i64 b.rest.1, .int .i64 b.rest.2, .int .i64 b.heat.1, .int .i64 b.heat.2, .int .i64 b.toil.1, .int .i64 b.toil.2, .int .i64 b.burn.1, .int .i64 b.burn.2, .int .i64 b.rub.1, .int .i64 b.rub.2, .int .i64 b.milk.1, .int .i64 b.milk.2, .int .i64 b.heal, .int .i64 b.strong.1, .int .i64 b.strong.2], .agg #[.int .i64 c.water.1, .int .i64 c.water.2, .int .i64 c.fat.1, .int .i64 c.fat.2, .int .i64 c.sore.1, .int .i64 c.sore.2, .bool c.milks], .slice (some ⟨g, 0, none⟩) 1 cap] w fun e w' => e = .returned (.int .i64 x) ∧ Below w.heap.size w w' := by
  subst hx
  have := checkTrip_any b c (some ⟨g, 0, none⟩) cap [m] w (.inr ⟨g, 0, rfl, marches1 h, hb⟩) (by simp)
  simpa using this

theorem rep_get {cs : List Value} {N : Nat} {i : Nat} (hi : i < cs.length) : ∀ (n : Nat), n < N → (rep cs N)[n * cs.length + i]? = cs[i]? := by
  intro n hn
  have e : rep cs N = rep cs n ++ (cs ++ rep cs (N - n - 1)) := by
    rw [← rep_succ, ← rep_add]
    congr 1
    omega
  rw [e, List.getElem?_append_right (by rw [rep_length]; omega), rep_length, Nat.add_sub_cancel_left, List.getElem?_append_left hi]
theorem marches_rep {W : World} {g : Nat} {m : Mr} (h : rowOf W g = some (rep (marCells m) 60).toArray) (ms : List Mr) (hlen : ms.length = 60) (hget : ∀ k, k < 60 → mdS ms k = m) : MarchesAt W g 0 ms := by
  intro k hk
  have hk' : k < 60 := by omega
  have em : ms[k] = m := by rw [mdS_get hk]; exact hget k hk'
  rw [em]
  have key : ∀ i v, (marCells m)[i]? = some v → W.cell? ⟨g, 0 + k * 8 + i, none⟩ = some v := by
    intro i v hv
    have hi : i < (marCells m).length := (List.getElem?_eq_some_iff.1 hv).1
    rw [(cell_of_rowOf h).1, ← hv, ← rep_get (N := 60) hi k hk', List.getElem?_toArray]
    congr 1
    simp [marCells]
  exact ⟨key 0 _ rfl, key 1 _ rfl, key 2 _ rfl, key 3 _ rfl, key 4 _ rfl, key 5 _ rfl, key 6 _ rfl, key 7 _ rfl⟩

set_option maxRecDepth 100000 in
theorem Lasts_bad (b : Br) (c : Cm) (m : Mr) (x : Int) (w : World) (hx : chkT b c [m] = x) (h0 : x ≠ 0) :
    Calls Try.prog 37 #[.agg #[.int .i64 b.full, .int .i64 b.fed, .int .i64 b.rest.1, .int .i64 b.rest.2, .int .i64 b.heat.1, .int .i64 b.heat.2, .int .i64 b.toil.1, .int .i64 b.toil.2, .int .i64 b.burn.1, .int .i64 b.burn.2, .int .i64 b.rub.1, .int .i64 b.rub.2, .int .i64 b.milk.1, .int .i64 b.milk.2, .int .i64 b.heal, .int .i64 b.strong.1, .int .i64 b.strong.2], .agg #[.int .i64 c.water.1, .int .i64 c.water.2, .int .i64 c.fat.1, .int .i64 c.fat.2, .int .i64 c.sore.1, .int .i64 c.sore.2, .bool c.milks], .agg #[.int .i64 m.hours, .int .i64 m.load, .int .i64 m.heat.1, .int .i64 m.heat.2, .int .i64 m.grass.1, .int .i64 m.grass.2, .int .i64 m.drinks.1, .int .i64 m.drinks.2]] w fun e w' => e = .returned (.tuple #[.agg #[.int .i64 0, .int .i64 0], .int .i64 x]) ∧ Below w.heap.size w w' := by
  have HC := Lib.hid hx
  have hne : (x == 0) = false := by simpa using h0
  clear hx
  go_enter Try.func37, Try.ntmps37
  go_wp2_with fail
  refine (chk1 b c m _ HC.out _ (w.heap.size + 1 + 1 + 1 + 1) _ (by rw [rowOf_alloc, if_pos (by simp)]) (by simp)).mono ?_
  rintro e W1 ⟨rfl, hB⟩
  have hW1 : Below w.heap.size w W1 := Below.trans (by go_grown) (hB.mono (by simp; try omega))
  have zW1 := hW1.size
  obtain ⟨rdW1, cdW1, gdW1, zdW1⟩ := keep_row hB (g := w.heap.size + 1 + 1 + 1) (by repeat (first | with_reducible assumption | with_reducible apply row_here0 | with_reducible apply row_here1 | with_reducible apply row_here2 | with_reducible apply row_here3 | with_reducible apply rowSkip))
  clear hB
  go_wp2
  exact bodyPost_ret (results_row2 Try.results37 rfl (stored_setRow rdW1 _).row rfl (v := .int .i64 x) rfl) rfl ⟨rfl, Below_setRow hW1 (by omega) _⟩

set_option maxRecDepth 100000 in
set_option maxHeartbeats 8000000 in
theorem Lasts_ok (b : Br) (c : Cm) (m : Mr) (w : World) (hx : chkT b c [m] = 0) :
    Calls Try.prog 37 #[.agg #[.int .i64 b.full, .int .i64 b.fed, .int .i64 b.rest.1, .int .i64 b.rest.2, .int .i64 b.heat.1, .int .i64 b.heat.2, .int .i64 b.toil.1, .int .i64 b.toil.2, .int .i64 b.burn.1, .int .i64 b.burn.2, .int .i64 b.rub.1, .int .i64 b.rub.2, .int .i64 b.milk.1, .int .i64 b.milk.2, .int .i64 b.heal, .int .i64 b.strong.1, .int .i64 b.strong.2], .agg #[.int .i64 c.water.1, .int .i64 c.water.2, .int .i64 c.fat.1, .int .i64 c.fat.2, .int .i64 c.sore.1, .int .i64 c.sore.2, .bool c.milks], .agg #[.int .i64 m.hours, .int .i64 m.load, .int .i64 m.heat.1, .int .i64 m.heat.2, .int .i64 m.grass.1, .int .i64 m.grass.2, .int .i64 m.drinks.1, .int .i64 m.drinks.2]] w fun e w' => e = .returned (.tuple #[.agg #[.int .i64 (lastsGo b m 60 0 c 60).1, .int .i64 (lastsGo b m 60 0 c 60).2], .int .i64 0]) ∧ Below w.heap.size w w' := by
  obtain ⟨r, hrr⟩ : ∃ r, lastsGo b m 60 0 c 60 = r := ⟨_, rfl⟩
  rw [hrr]
  have HRR := Lib.hid hrr
  have HC := Lib.hid hx
  have HB := Lib.hid (chkT1 hx)
  clear hx hrr
  refine (callsIn_wide (n := 0)).1 ?_
  refine callsIn_of_wp_marks Try.func37 rfl trivial ?_ rfl
  simp only [Try.ntmps37, List.size_toArray, List.length_cons, List.length_nil, Nat.reduceAdd, Nat.reduceSub, Array.replicate_succ, Array.replicate_zero, List.push_toArray, List.append_toArray, List.nil_append, List.cons_append]
  gi_wp2_with (fail)
  refine ⟨trivial, rfl, (callsIn_wide.2 (chk1 b c m _ HC.out _ (w.heap.size + 1 + 1 + 1 + 1) _ (by rw [rowOf_alloc, if_pos (by simp)]) (by simp))).mono ?_⟩
  rintro e W1 ⟨rfl, hB⟩
  have hW1 : Below w.heap.size w W1 := Below.trans (by go_grown) (hB.mono (by simp; try omega))
  have zW1 := hW1.size
  obtain ⟨raW1, caW1, gaW1, zaW1⟩ := keep_row hB (g := w.heap.size) (by repeat (first | with_reducible assumption | with_reducible apply row_here0 | with_reducible apply row_here1 | with_reducible apply row_here2 | with_reducible apply row_here3 | with_reducible apply row_here4 | with_reducible apply row_here5 | with_reducible apply row_here6 | with_reducible apply rowSkip))
  obtain ⟨rbW1, cbW1, gbW1, zbW1⟩ := keep_row hB (g := w.heap.size + 1) (by repeat (first | with_reducible assumption | with_reducible apply row_here0 | with_reducible apply row_here1 | with_reducible apply row_here2 | with_reducible apply row_here3 | with_reducible apply row_here4 | with_reducible apply row_here5 | with_reducible apply row_here6 | with_reducible apply rowSkip))
  obtain ⟨rmW1, cmW1, gmW1, zmW1⟩ := keep_row hB (g := w.heap.size + 1 + 1) (by repeat (first | with_reducible assumption | with_reducible apply row_here0 | with_reducible apply row_here1 | with_reducible apply row_here2 | with_reducible apply row_here3 | with_reducible apply row_here4 | with_reducible apply row_here5 | with_reducible apply row_here6 | with_reducible apply rowSkip))
  obtain ⟨rdW1, cdW1, gdW1, zdW1⟩ := keep_row hB (g := w.heap.size + 1 + 1 + 1) (by repeat (first | with_reducible assumption | with_reducible apply row_here0 | with_reducible apply row_here1 | with_reducible apply row_here2 | with_reducible apply row_here3 | with_reducible apply row_here4 | with_reducible apply row_here5 | with_reducible apply row_here6 | with_reducible apply rowSkip))
  clear hB
  gi_wp2_with (fail)
  refine ⟨trivial, rfl, (callsIn_wide.2 (exactly_any 60 _)).mono ?_⟩
  rintro e W2 ⟨rfl, hB⟩
  have hW2 : Below w.heap.size w W2 := hW1.trans (Below.trans (by have := hW1.size; go_grown) (hB.mono (by have := hW1.size; simp; try omega)))
  have zW2 := hW2.size
  obtain ⟨raW2, caW2, gaW2, zaW2⟩ := keep_row hB (g := w.heap.size) (by repeat (first | with_reducible assumption | with_reducible apply row_here0 | with_reducible apply row_here1 | with_reducible apply row_here2 | with_reducible apply row_here3 | with_reducible apply rowSkip))
  obtain ⟨rbW2, cbW2, gbW2, zbW2⟩ := keep_row hB (g := w.heap.size + 1) (by repeat (first | with_reducible assumption | with_reducible apply row_here0 | with_reducible apply row_here1 | with_reducible apply row_here2 | with_reducible apply row_here3 | with_reducible apply rowSkip))
  obtain ⟨rmW2, cmW2, gmW2, zmW2⟩ := keep_row hB (g := w.heap.size + 1 + 1) (by repeat (first | with_reducible assumption | with_reducible apply row_here0 | with_reducible apply row_here1 | with_reducible apply row_here2 | with_reducible apply row_here3 | with_reducible apply rowSkip))
  obtain ⟨rdW2, cdW2, gdW2, zdW2⟩ := keep_row hB (g := w.heap.size + 1 + 1 + 1) (by repeat (first | with_reducible assumption | with_reducible apply row_here0 | with_reducible apply row_here1 | with_reducible apply row_here2 | with_reducible apply row_here3 | with_reducible apply rowSkip))
  clear hB
  clear raW1 caW1 gaW1 rbW1 cbW1 gbW1 rmW1 cmW1 gmW1 rdW1 cdW1 gdW1
  gi_wp2_with (fail)
  have hW3 : Below w.heap.size w (W2.alloc (.cells #[.int .i64 60, .int .i64 60] 31)) := by go_grown
  have raW3 := rowSkip (o := .cells #[.int .i64 60, .int .i64 60] 31) raW2
  have rbW3 := rowSkip (o := .cells #[.int .i64 60, .int .i64 60] 31) rbW2
  have rmW3 := rowSkip (o := .cells #[.int .i64 60, .int .i64 60] 31) rmW2
  have rdW3 := rowSkip (o := .cells #[.int .i64 60, .int .i64 60] 31) rdW2
  have rtW3 : rowOf (W2.alloc (.cells #[.int .i64 60, .int .i64 60] 31)) W2.heap.size = some #[.int .i64 60, .int .i64 60] := row_here0 _ _ _
  generalize (W2.alloc (.cells #[.int .i64 60, .int .i64 60] 31)) = W3 at hW3 raW3 rbW3 rmW3 rdW3 rtW3 ⊢
  clear raW2 caW2 gaW2 rbW2 cbW2 gbW2 rmW2 cmW2 gmW2 rdW2 cdW2 gdW2
  have zW3 := hW3.size
  have zt3 := (cell_of_rowOf rtW3).2.2
  refine wpIn_wide.2 ?_
  refine wp_drawsR (by kernel_rfl) [] [some 22, some 23, some 24, some 25, some 26, some 27] (by kernel_rfl) (fun ix v W => match ix with
    | 0 => v = .agg #[.int .i64 b.full, .int .i64 b.fed, .int .i64 b.rest.1, .int .i64 b.rest.2, .int .i64 b.heat.1, .int .i64 b.heat.2, .int .i64 b.toil.1, .int .i64 b.toil.2, .int .i64 b.burn.1, .int .i64 b.burn.2, .int .i64 b.rub.1, .int .i64 b.rub.2, .int .i64 b.milk.1, .int .i64 b.milk.2, .int .i64 b.heal, .int .i64 b.strong.1, .int .i64 b.strong.2]
    | 1 => v = .agg #[.int .i64 c.water.1, .int .i64 c.water.2, .int .i64 c.fat.1, .int .i64 c.fat.2, .int .i64 c.sore.1, .int .i64 c.sore.2, .bool c.milks]
    | 2 => v = .agg #[.int .i64 b.full, .int .i64 b.fed, .int .i64 b.rest.1, .int .i64 b.rest.2, .int .i64 b.heat.1, .int .i64 b.heat.2, .int .i64 b.toil.1, .int .i64 b.toil.2, .int .i64 b.burn.1, .int .i64 b.burn.2, .int .i64 b.rub.1, .int .i64 b.rub.2, .int .i64 b.milk.1, .int .i64 b.milk.2, .int .i64 b.heal, .int .i64 b.strong.1, .int .i64 b.strong.2, .int .i64 c.water.1, .int .i64 c.water.2, .int .i64 c.fat.1, .int .i64 c.fat.2, .int .i64 c.sore.1, .int .i64 c.sore.2, .bool c.milks]
    | 3 => v = .agg #[.int .i64 m.hours, .int .i64 m.load, .int .i64 m.heat.1, .int .i64 m.heat.2, .int .i64 m.grass.1, .int .i64 m.grass.2, .int .i64 m.drinks.1, .int .i64 m.drinks.2]
    | 4 => SL v 1 #[.int .i64 m.hours, .int .i64 m.load, .int .i64 m.heat.1, .int .i64 m.heat.2, .int .i64 m.grass.1, .int .i64 m.grass.2, .int .i64 m.drinks.1, .int .i64 m.drinks.2] W
    | 5 => SN v 60 (rep (marCells m) 60).toArray (W3.heap.size) W
    | _ => True) ⟨⟨?_, ?_⟩, ⟨?_, ?_⟩, ⟨?_, ?_⟩, ⟨?_, ?_⟩, ⟨?_, ?_⟩, ⟨?_, ?_⟩, ?_⟩
  · intro g h; cases h
  · intro b' W hE hb hdep K hK
    have e3 : b'.tmps[3]?.getD undef = .pointer (some ⟨w.heap.size, 0, none⟩) := hb 3 (by decide)
    clear hdep hb
    obtain ⟨_, _, -, _⟩ := row_facts (hE.row ((rowOf_drew _ _).trans raW3) (by first | (simp; done) | (simp; omega)))
    obtain ⟨_, _, -, _⟩ := row_facts (hE.row ((rowOf_drew _ _).trans rbW3) (by first | (simp; done) | (simp; omega)))
    obtain ⟨_, _, -, _⟩ := row_facts (hE.row ((rowOf_drew _ _).trans rmW3) (by first | (simp; done) | (simp; omega)))
    go_wp2
    exact hK _ _ (XT.refl _ _) rfl
  · intro g h; cases h
  · intro b' W hE hb hdep K hK
    have e4 : b'.tmps[4]?.getD undef = .pointer (some ⟨w.heap.size + 1, 0, none⟩) := hb 4 (by decide)
    clear hdep hb
    obtain ⟨_, _, -, _⟩ := row_facts (hE.row ((rowOf_drew _ _).trans raW3) (by first | (simp; done) | (simp; omega)))
    obtain ⟨_, _, -, _⟩ := row_facts (hE.row ((rowOf_drew _ _).trans rbW3) (by first | (simp; done) | (simp; omega)))
    obtain ⟨_, _, -, _⟩ := row_facts (hE.row ((rowOf_drew _ _).trans rmW3) (by first | (simp; done) | (simp; omega)))
    go_wp2
    exact hK _ _ (XT.refl _ _) rfl
  · intro g h; cases h
  · intro b' W hE hb hdep K hK
    have e22 : b'.tmps[22]?.getD undef = .agg #[.int .i64 b.full, .int .i64 b.fed, .int .i64 b.rest.1, .int .i64 b.rest.2, .int .i64 b.heat.1, .int .i64 b.heat.2, .int .i64 b.toil.1, .int .i64 b.toil.2, .int .i64 b.burn.1, .int .i64 b.burn.2, .int .i64 b.rub.1, .int .i64 b.rub.2, .int .i64 b.milk.1, .int .i64 b.milk.2, .int .i64 b.heal, .int .i64 b.strong.1, .int .i64 b.strong.2] := pureX (hdep 0 (some 22) (by kernel_rfl) rfl)
    have e23 : b'.tmps[23]?.getD undef = .agg #[.int .i64 c.water.1, .int .i64 c.water.2, .int .i64 c.fat.1, .int .i64 c.fat.2, .int .i64 c.sore.1, .int .i64 c.sore.2, .bool c.milks] := pureX (hdep 1 (some 23) (by kernel_rfl) rfl)
    clear hdep hb
    go_wp2_with fail
    refine (atWork_any b c _).mono ?_
    rintro e W' ⟨rfl, hB⟩
    exact hK _ _ (Ext.xt hB) rfl
  · intro g h; cases h
  · intro b' W hE hb hdep K hK
    have e5 : b'.tmps[5]?.getD undef = .pointer (some ⟨w.heap.size + 1 + 1, 0, none⟩) := hb 5 (by decide)
    clear hdep hb
    obtain ⟨_, _, -, _⟩ := row_facts (hE.row ((rowOf_drew _ _).trans raW3) (by first | (simp; done) | (simp; omega)))
    obtain ⟨_, _, -, _⟩ := row_facts (hE.row ((rowOf_drew _ _).trans rbW3) (by first | (simp; done) | (simp; omega)))
    obtain ⟨_, _, -, _⟩ := row_facts (hE.row ((rowOf_drew _ _).trans rmW3) (by first | (simp; done) | (simp; omega)))
    go_wp2
    exact hK _ _ (XT.refl _ _) rfl
  · intro g h; cases h
  · intro b' W hE hb hdep K hK
    have e25 : b'.tmps[25]?.getD undef = .agg #[.int .i64 m.hours, .int .i64 m.load, .int .i64 m.heat.1, .int .i64 m.heat.2, .int .i64 m.grass.1, .int .i64 m.grass.2, .int .i64 m.drinks.1, .int .i64 m.drinks.2] := pureX (hdep 3 (some 25) (by kernel_rfl) rfl)
    clear hdep hb
    go_wp2
    exact hK _ _ (Ext.xt (ext_alloc _ _)) ⟨rfl, row_here0 _ _ _⟩
  · intro g h; cases h
  · intro b' W hE hb hdep K hK
    have s26 : SL (b'.tmps[26]?.getD undef) 1 #[.int .i64 m.hours, .int .i64 m.load, .int .i64 m.heat.1, .int .i64 m.heat.2, .int .i64 m.grass.1, .int .i64 m.grass.2, .int .i64 m.drinks.1, .int .i64 m.drinks.2] W := sliceX (by simp) (hdep 4 (some 26) (by kernel_rfl) rfl)
    have e26 := s26.eq
    have r26 := s26.row
    clear s26
    generalize blk (b'.tmps[26]?.getD undef) = g26 at e26 r26
    clear hdep hb
    go_wp2_with fail
    refine (Repeat_m m _ 1 _ r26).mono ?_
    rintro e W' ⟨⟨rr, rfl, hbr, hrr⟩, hB⟩
    have := hE.size
    simp only [World.size_drew] at this
    exact hK _ _ (Ext.xt hB) ⟨rfl, hrr, by simp only [blk]; omega⟩
  intro f W hE hR
  have e22 : f 22 = .agg #[.int .i64 b.full, .int .i64 b.fed, .int .i64 b.rest.1, .int .i64 b.rest.2, .int .i64 b.heat.1, .int .i64 b.heat.2, .int .i64 b.toil.1, .int .i64 b.toil.2, .int .i64 b.burn.1, .int .i64 b.burn.2, .int .i64 b.rub.1, .int .i64 b.rub.2, .int .i64 b.milk.1, .int .i64 b.milk.2, .int .i64 b.heal, .int .i64 b.strong.1, .int .i64 b.strong.2] := pureX (hR 0 (some 22) rfl)
  have e23 : f 23 = .agg #[.int .i64 c.water.1, .int .i64 c.water.2, .int .i64 c.fat.1, .int .i64 c.fat.2, .int .i64 c.sore.1, .int .i64 c.sore.2, .bool c.milks] := pureX (hR 1 (some 23) rfl)
  have e24 : f 24 = .agg #[.int .i64 b.full, .int .i64 b.fed, .int .i64 b.rest.1, .int .i64 b.rest.2, .int .i64 b.heat.1, .int .i64 b.heat.2, .int .i64 b.toil.1, .int .i64 b.toil.2, .int .i64 b.burn.1, .int .i64 b.burn.2, .int .i64 b.rub.1, .int .i64 b.rub.2, .int .i64 b.milk.1, .int .i64 b.milk.2, .int .i64 b.heal, .int .i64 b.strong.1, .int .i64 b.strong.2, .int .i64 c.water.1, .int .i64 c.water.2, .int .i64 c.fat.1, .int .i64 c.fat.2, .int .i64 c.sore.1, .int .i64 c.sore.2, .bool c.milks] := pureX (hR 2 (some 24) rfl)
  have e25 : f 25 = .agg #[.int .i64 m.hours, .int .i64 m.load, .int .i64 m.heat.1, .int .i64 m.heat.2, .int .i64 m.grass.1, .int .i64 m.grass.2, .int .i64 m.drinks.1, .int .i64 m.drinks.2] := pureX (hR 3 (some 25) rfl)
  have q27 : SN (f 27) 60 (rep (marCells m) 60).toArray (W3.heap.size) W := snX (hR 5 (some 27) rfl)
  clear hR
  have raW := hE.row ((rowOf_drew _ _).trans raW3) (by simp)
  have rbW := hE.row ((rowOf_drew _ _).trans rbW3) (by simp)
  have rmW := hE.row ((rowOf_drew _ _).trans rmW3) (by simp)
  have rdW := hE.row ((rowOf_drew _ _).trans rdW3) (by simp)
  have rtW := hE.row ((rowOf_drew _ _).trans rtW3) (by simp)
  have hW4 : Below w.heap.size w W := hE.below hW3.drew zW3 (by simp)
  have e27 := q27.eq
  have r27 := q27.row
  have b27 := q27.base
  clear q27 hE raW3 rbW3 rmW3 rdW3 rtW3
  generalize blk (f 27) = rb at e27 r27 b27
  simp only [List.filterMap_cons, List.filterMap_nil, id, puts, Act.put, List.setIfInBounds_toArray, List.set_cons_succ, List.set_cons_zero, e22, e23, e24, e25, e27]
  go_wp2_with fail
  refine (days_any b c (some ⟨rb, 0, none⟩) 60 60 _).mono ?_
  rintro e W5 ⟨rfl, hW5'⟩
  have rwW5 : rowOf W5 W.heap.size = some #[.int .i64 b.full, .int .i64 b.fed, .int .i64 b.rest.1, .int .i64 b.rest.2, .int .i64 b.heat.1, .int .i64 b.heat.2, .int .i64 b.toil.1, .int .i64 b.toil.2, .int .i64 b.burn.1, .int .i64 b.burn.2, .int .i64 b.rub.1, .int .i64 b.rub.2, .int .i64 b.milk.1, .int .i64 b.milk.2, .int .i64 b.heal, .int .i64 b.strong.1, .int .i64 b.strong.2, .int .i64 c.water.1, .int .i64 c.water.2, .int .i64 c.fat.1, .int .i64 c.fat.2, .int .i64 c.sore.1, .int .i64 c.sore.2, .bool c.milks] := by rw [hW5']; exact rowSkip (row_here0 _ _ _)
  have rlW5 : rowOf W5 (W.heap.size + 1) = some #[.slice (some ⟨rb, 0, none⟩) 60 60] := by rw [hW5']; exact row_here1 _ _ _ _
  have hE5 : Ext W W5 := by rw [hW5']; exact (ext_alloc _ _).trans (ext_alloc _ _)
  have zz5 : W5.heap.size = W.heap.size + 2 := by rw [hW5']; simp
  clear hW5'
  go_wp2_with fail
  try gi_wp2_with (fail)
  obtain ⟨ms, hms⟩ : ∃ ms, List.replicate 60 m = ms := ⟨_, rfl⟩
  have hlen : ms.length = 60 := by rw [← hms, List.length_replicate]
  have hget : ∀ k, k < 60 → mdS ms k = m := by
    intro k hk
    rw [← hms, mdS, List.getElem?_replicate, if_pos hk]; rfl
  have hall : ms.all okM = true := by
    rw [List.all_eq_true]
    intro x hx
    rw [← hms] at hx
    rw [List.eq_of_mem_replicate hx]
    have := HC.out
    unfold chkT at this
    by_cases h0 : chkC b c = 0
    · simp only [h0, if_true] at this
      cases hm : okM m with
      | true => rfl
      | false => simp [hm] at this
    · simp only [h0, if_false] at this
  have zrb := (cell_of_rowOf r27).2.2
  have r275 := (keep_row hE5 r27).1
  have zW4 := hW4.size
  have zt4 := (cell_of_rowOf rtW).2.2
  have zd4 := (cell_of_rowOf rdW).2.2
  have hDL : DaysLow W5 (fun i => i = rb) (some ⟨rb, 0, none⟩) ms := .inr ⟨rb, 0, rfl, marches_rep r275 ms hlen hget, by omega, rfl⟩
  have hIT := days_it b c ms HB.out.1 HB.out.2.1 hall (by omega) W.heap.size (W.heap.size + 1) (fun i => i = rb) (some ⟨rb, 0, none⟩) 60 W5 rwW5 (by rw [hlen]; exact rlW5) hDL
  have hW5 : Below w.heap.size w W5 := hW4.trans (Below.mono hE5 zW4)
  have rd5 := (keep_row hE5 rdW).1
  have rt5 := (keep_row hE5 rtW).1
  have HLE := Lib.hid hlen
  have HGE := Lib.hid hget
  clear hms hget hall r27 r275 rwW5 rlW5 hDL hE5 raW rbW rmW rdW rtW hW4 hW3 e22 e23 e24 e25 e27 hW1 hW2
  generalize W5 = B4 at *
  generalize (Value.agg #[.int .i64 b.full, .int .i64 b.fed, .int .i64 b.rest.1, .int .i64 b.rest.2, .int .i64 b.heat.1, .int .i64 b.heat.2, .int .i64 b.toil.1, .int .i64 b.toil.2, .int .i64 b.burn.1, .int .i64 b.burn.2, .int .i64 b.rub.1, .int .i64 b.rub.2, .int .i64 b.milk.1, .int .i64 b.milk.2, .int .i64 b.heal, .int .i64 b.strong.1, .int .i64 b.strong.2]) = vB
  generalize (Value.agg #[.int .i64 c.water.1, .int .i64 c.water.2, .int .i64 c.fat.1, .int .i64 c.fat.2, .int .i64 c.sore.1, .int .i64 c.sore.2, .bool c.milks]) = vC
  generalize (Value.agg #[.int .i64 m.hours, .int .i64 m.load, .int .i64 m.heat.1, .int .i64 m.heat.2, .int .i64 m.grass.1, .int .i64 m.grass.2, .int .i64 m.drinks.1, .int .i64 m.drinks.2]) = vM
  generalize (Value.agg #[.int .i64 b.full, .int .i64 b.fed, .int .i64 b.rest.1, .int .i64 b.rest.2, .int .i64 b.heat.1, .int .i64 b.heat.2, .int .i64 b.toil.1, .int .i64 b.toil.2, .int .i64 b.burn.1, .int .i64 b.burn.2, .int .i64 b.rub.1, .int .i64 b.rub.2, .int .i64 b.milk.1, .int .i64 b.milk.2, .int .i64 b.heal, .int .i64 b.strong.1, .int .i64 b.strong.2, .int .i64 c.water.1, .int .i64 c.water.2, .int .i64 c.fat.1, .int .i64 c.fat.2, .int .i64 c.sore.1, .int .i64 c.sore.2, .bool c.milks]) = vW
  generalize f 26 = v26
  generalize hgt : W2.heap.size = gt at *
  generalize hgw : W.heap.size = gw at *
  have zB : gw + 2 ≤ B4.heap.size := by omega
  clear zz5
  refine wpIn_iter (gf := 90) (lb := #[.pointer (some ⟨gw, 0, none⟩), .pointer (some ⟨gw + 1, 0, none⟩)]) rfl (enters_of Try.func90 (by kernel_rfl) rfl) (fun _ => rfl) hIT (fun i hi => by omega)
    (fun k W => rowOf W (w.heap.size + 1 + 1 + 1) = some #[.int .i64 0, .int .i64 0] ∧ rowOf W gt = some #[.int .i64 (loK b c ms k), .int .i64 (hiK b c ms k)] ∧ Below w.heap.size w W)
    (fun cd k W => False)
    ?hI ?hIx ?h0 (fun k => .cells (dayRow b c ms k) 126) (fun k s => { tmps := #[vB, vC, vM, .pointer (some ⟨w.heap.size, 0, none⟩), .pointer (some ⟨w.heap.size + 1, 0, none⟩), .pointer (some ⟨w.heap.size + 1 + 1, 0, none⟩), .pointer (some ⟨w.heap.size + 1 + 1 + 1, 0, none⟩), .int .i64 0, .int .i64 0, .pointer (some ⟨gt, 0, none⟩), .int .i64 (k : Int), .pointer (some ⟨s, 0, none⟩), vB, vC, vM, .slice (some ⟨w.heap.size + 1 + 1 + 1 + 1, 0, none⟩) 1 1, .int .i64 0, .int .i64 0, .bool false, undef, undef, .agg #[.int .i64 60, .int .i64 60], vB, vC, vW, vM, v26, .slice (some ⟨rb, 0, none⟩) 60 60, .func (.func 90) #[] #[.pointer (some ⟨gw, 0, none⟩), .pointer (some ⟨gw + 1, 0, none⟩)], .int .i64 (k : Int), .agg (dayRow b c ms k), undef, undef, undef, undef, undef, undef, undef, undef, undef, undef, undef, undef, undef, undef], defers := [] }) ?assign ?body ?done ?stop
  case hI =>
    rintro k A A' r ⟨h1, h4, h7⟩ hg hr1 hr2
    exact ⟨row_grown h1 hg (by omega), row_grown h4 hg (by omega), below_grown h7 hg h7.size (by omega)⟩
  case hIx =>
    rintro cd k A A' r h
    exact h.elim
  case h0 => exact ⟨rd5, rt5, hW5⟩
  case assign =>
    intro l k W K hK
    have d1 := dayRow_size b c ms k
    have d2 := dayRow_one b c ms k
    simp only [dayEnc]
    gi_wp2
    exact hK
  case body =>
    rintro l k W0 D1 W2' hk hs0 hs01 - ⟨hd, ht, hBl⟩ hg2 hsm
    have hdr : rowOf W2' D1.heap.size = some (dayRow b c ms k) := row_grown (row_here0 _ _ _) hg2 (by omega)
    clear hg2 hsm
    obtain ⟨mo, hmo⟩ : ∃ mo, mornC b c ms k = mo := ⟨_, rfl⟩
    obtain ⟨md, hmd⟩ : ∃ md, mdS ms k = md := ⟨_, rfl⟩
    obtain ⟨be, hb'⟩ : ∃ be, eB b mo md = be := ⟨_, rfl⟩
    obtain ⟨ce, hc'⟩ : ∃ ce, eC b mo md = ce := ⟨_, rfl⟩
    obtain ⟨ff, hff⟩ : ∃ ff, fatK b c ms k = ff := ⟨_, rfl⟩
    obtain ⟨lo, hlo⟩ : ∃ lo, loK b c ms k = lo := ⟨_, rfl⟩
    obtain ⟨hi, hhi⟩ : ∃ hi, hiK b c ms k = hi := ⟨_, rfl⟩
    have hdd : dayRow b c ms k = #[.int .i64 md.hours, .int .i64 md.load, .int .i64 md.heat.1, .int .i64 md.heat.2, .int .i64 md.grass.1, .int .i64 md.grass.2, .int .i64 md.drinks.1, .int .i64 md.drinks.2, .int .i64 b.full, .int .i64 b.fed, .int .i64 b.rest.1, .int .i64 b.rest.2, .int .i64 b.heat.1, .int .i64 b.heat.2, .int .i64 b.toil.1, .int .i64 b.toil.2, .int .i64 b.burn.1, .int .i64 b.burn.2, .int .i64 b.rub.1, .int .i64 b.rub.2, .int .i64 b.milk.1, .int .i64 b.milk.2, .int .i64 b.heal, .int .i64 b.strong.1, .int .i64 b.strong.2, .int .i64 mo.water.1, .int .i64 mo.water.2, .int .i64 mo.fat.1, .int .i64 mo.fat.2, .int .i64 mo.sore.1, .int .i64 mo.sore.2, .bool mo.milks, .int .i64 be.full, .int .i64 be.fed, .int .i64 be.rest.1, .int .i64 be.rest.2, .int .i64 be.heat.1, .int .i64 be.heat.2, .int .i64 be.toil.1, .int .i64 be.toil.2, .int .i64 be.burn.1, .int .i64 be.burn.2, .int .i64 be.rub.1, .int .i64 be.rub.2, .int .i64 be.milk.1, .int .i64 be.milk.2, .int .i64 be.heal, .int .i64 be.strong.1, .int .i64 be.strong.2, .int .i64 ce.water.1, .int .i64 ce.water.2, .int .i64 ce.fat.1, .int .i64 ce.fat.2, .int .i64 ce.sore.1, .int .i64 ce.sore.2, .bool ce.milks, .int .u8 ff] := by subst hff hb' hc' hmd hmo; rfl
    rw [hdd] at hdr
    rw [hlo, hhi] at ht
    have HLO := Lib.hid hlo
    have HHI := Lib.hid hhi
    have HF := Lib.hid hff
    have z2 := hBl.size
    obtain ⟨rtE, ctE, gtE, ztE⟩ := row_facts ht
    obtain ⟨rdE, cdE, gdE, zdE⟩ := row_facts hdr
    have hF3 := fat012 b c ms k
    rw [hff] at hF3
    clear hmo hmd hb' hc' hff hlo hhi hdd ht hdr rd5 rt5 hIT hW5
    rcases hF3 with rfl | rfl | rfl
    · gi_wp2_with (fail)
      exact ⟨Kept.refl _ _ _ _, hd, by rw [loK_zero HF.out, hiK_less (by rw [HF.out]; omega), HLO.out, HHI.out]; exact rtE, hBl⟩
    · gi_wp2_with (fail)
      have g1 : W2'.grownBy _ (some gt) := grown_setCell W2' ⟨gt, 0, none⟩ (.int .i64 (mn lo (k : Int)))
      have q1 := rowOf_setCell_same (off := 0) rtE (.int .i64 (mn lo (k : Int)))
      have k1 : Kept (fun i => i = rb) B4.heap.size W0.heap.size W2' _ := Kept.ofGrown g1 (fun r e => by cases e; exact ⟨by omega, by omega, by omega⟩)
      have d1 := row_grown hd g1 (by omega)
      have b1 := below_grown hBl g1 hBl.size (by omega)
      exact ⟨k1, d1, by rw [loK_more (by rw [HF.out]; omega), hiK_less (by rw [HF.out]; omega), HLO.out, HHI.out]; exact q1, b1⟩
    · gi_wp2_with (fail)
      have g1 : W2'.grownBy _ (some gt) := grown_setCell W2' ⟨gt, 0, none⟩ (.int .i64 (mn lo (k : Int)))
      have q1 := rowOf_setCell_same (off := 0) rtE (.int .i64 (mn lo (k : Int)))
      have k1 : Kept (fun i => i = rb) B4.heap.size W0.heap.size W2' _ := Kept.ofGrown g1 (fun r e => by cases e; exact ⟨by omega, by omega, by omega⟩)
      have d1 := row_grown hd g1 (by omega)
      have b1 := below_grown hBl g1 hBl.size (by omega)
      have g2 : (W2'.setCell ⟨gt, 0, none⟩ (.int .i64 (mn lo (k : Int)))).grownBy _ (some gt) := grown_setCell (W2'.setCell ⟨gt, 0, none⟩ (.int .i64 (mn lo (k : Int)))) ⟨gt, 1, none⟩ (.int .i64 (k : Int))
      have q2 := rowOf_setCell_same (off := 1) q1 (.int .i64 (k : Int))
      have k2 := k1.trans (Kept.ofGrown g2 (fun r e => by cases e; exact ⟨by omega, by omega, by omega⟩))
      exact ⟨k2, row_grown d1 g2 (by omega), by rw [loK_more (by rw [HF.out]; omega), hiK_two HF.out, HLO.out]; exact q2, below_grown b1 g2 b1.size (by omega)⟩
  case done =>
    rintro K X hS ⟨hd, ht, hBl⟩ hDf
    have hr := lasts_eq HLE.out HGE.out hS
    rw [HRR.out] at hr
    rw [show loK b c ms K = r.1 by rw [hr], show hiK b c ms K = r.2 by rw [hr]] at ht
    obtain ⟨rtE, ctE, gtE, ztE⟩ := row_facts ht
    obtain ⟨rdE, cdE, gdE, zdE⟩ := row_facts hd
    have HDF := Lib.hid hDf
    clear hr HRR hS hDf rd5 rt5 hIT hW5 HLE HGE ht hd
    gi_wp2_with (fail)
    have hD : (X.setRow (w.heap.size + 1 + 1 + 1) #[.int .i64 r.1, .int .i64 r.2]).heap[B4.heap.size]? = some (.deferred (some [])) := (setRow_other _ _ _ _ (by omega)).trans HDF.out
    refine ⟨by simp, .inl ⟨_, _, rfl, run_takeDeferred hD, ?_⟩⟩
    have hg := grownBy_putObj' (X.setRow (w.heap.size + 1 + 1 + 1) #[.int .i64 r.1, .int .i64 r.2]) B4.heap.size (.deferred none)
    have hb := Below_setRow hBl (g := w.heap.size + 1 + 1 + 1) (by omega) #[.int .i64 r.1, .int .i64 r.2]
    exact ⟨_, results_row2 Try.results37 rfl (row_grown (stored_setRow rdE _).row hg (by omega)) rfl (v := .int .i64 0) rfl, rfl, below_grown hb hg hb.size (by omega)⟩
  case stop =>
    rintro cd k W _ h
    exact h.elim
end Go.Proofs.Ytafdcbdbllpcnaa
/- Days, and the reference's Days, in one form; lists of animals that are the same; Lasts. -/
namespace Go.Proofs.Ytafdcbdbllpcnaa
open Go.RowKit
open Go.Proofs

/-- The first day on which it dies for sure; the worst fate, the day, the error, the animals of Days. -/
def firstDie (b : Br) (c : Cm) (ms : List Mr) : Option Nat := (List.range ms.length).find? (dieK b c ms)
def outF (b : Br) (c : Cm) (ms : List Mr) : Int := if chkT b c ms = 0 then (match firstDie b c ms with | none => fatN b c ms ms.length | some _ => 2) else 0
def outA (b : Br) (c : Cm) (ms : List Mr) : Int := if chkT b c ms = 0 then (match firstDie b c ms with | none => 0 | some k => (k : Int)) else 0
def outE (b : Br) (c : Cm) (ms : List Mr) : Int := if chkT b c ms = 0 then (match firstDie b c ms with | none => 0 | some _ => 13) else chkT b c ms
def outL (b : Br) (c : Cm) (ms : List Mr) : List Cm := if chkT b c ms = 0 then (match firstDie b c ms with | none => (List.range ms.length).map fun k => mornC b c ms (k + 1) | some _ => []) else []

theorem firstDie_none {b : Br} {c : Cm} {ms : List Mr} (h : ∀ j, j < ms.length → dieK b c ms j = false) : firstDie b c ms = none := by
  unfold firstDie
  rw [List.find?_eq_none]
  intro j hj
  rw [h j (List.mem_range.1 hj)]
  simp
theorem firstDie_some {b : Br} {c : Cm} {ms : List Mr} {k : Nat} (hk : k < ms.length) (hd : dieK b c ms k = true) (h : ∀ j, j < k → dieK b c ms j = false) : firstDie b c ms = some k := by
  unfold firstDie
  rw [List.find?_range_eq_some]
  exact ⟨hd, List.mem_range.2 hk, fun j hj => by rw [h j hj]; rfl⟩

/-- v is a list of animals: nil, or so many that lie one behind the other. -/
def CamList (W : World) (v : Value) (cs : List Cm) : Prop :=
  (v = .slice none 0 0 ∧ cs = []) ∨ ∃ g cap, v = .slice (some ⟨g, 0, none⟩) cs.length cap ∧ CamelsAt W g 0 cs ∧ g < W.heap.size ∧ cs ≠ []
theorem CamList.ext {W W' : World} {v : Value} {cs : List Cm} (h : CamList W v cs) (hE : Ext W W') : CamList W' v cs := by
  rcases h with h | ⟨g, cap, h1, h2, h3, h4⟩
  · exact .inl h
  · exact .inr ⟨g, cap, h1, fun k hk => camel_below hE h3 (h2 k hk), Nat.lt_of_lt_of_le h3 hE.size, h4⟩

theorem flat_get {cs : List Cm} : ∀ {k i : Nat} (hk : k < cs.length), i < 7 → (cs.flatMap camCells)[k * 7 + i]? = (camCells cs[k])[i]? := by
  induction cs with
  | nil => intro k i hk; simp at hk
  | cons c cs ih =>
    intro k i hk hi
    rw [List.flatMap_cons]
    cases k with
    | zero =>
      rw [List.getElem?_append_left (by simp [camCells]; omega)]
      simp
    | succ k =>
      rw [List.getElem?_append_right (by simp [camCells]; omega)]
      have : (k + 1) * 7 + i - (camCells c).length = k * 7 + i := by simp [camCells]; omega
      rw [this, ih (by simpa using hk) hi]
      rfl
theorem camels_of_owns {W : World} {base n : Nat} {v : Value} {cs : List Cm} (hn : cs.length = n) (h : W.ownsRow base 39 7 v n (cs.flatMap camCells)) (hnil : v = .slice none 0 0 ↔ n = 0) : CamList W v cs := by
  obtain ⟨h1, h2 | ⟨g, cap, cur, q1, q2, q3, q4, q5, q6, q7⟩⟩ := h
  · exact .inl ⟨h2.1, List.eq_nil_of_length_eq_zero (by omega)⟩
  · refine .inr ⟨g, cap, by rw [hn]; exact q1, ?_, (Array.getElem?_eq_some_iff.1 q3).1, fun h => by rw [h] at hn; have h0 : n = 0 := hn.symm; rw [hnil.2 h0] at q1; cases q1⟩
    intro k hk
    have key : ∀ i u, (camCells cs[k])[i]? = some u → W.cell? ⟨g, 0 + k * 7 + i, none⟩ = some u := by
      intro i u hu
      have hi : i < 7 := (List.getElem?_eq_some_iff.1 hu).1
      rw [cell_of_row W g _ cur 39 _ q3]
      have e := flat_get (cs := cs) hk hi
      rw [hu, ← q7, List.getElem?_take] at e
      split at e
      · rw [← e, Array.getElem?_toList, Nat.zero_add]
      · cases e
    exact ⟨key 0 _ rfl, key 1 _ rfl, key 2 _ rfl, key 3 _ rfl, key 4 _ rfl, key 5 _ rfl, key 6 _ rfl⟩
theorem evs_flat (b : Br) (c : Cm) (ms : List Mr) (n : Nat) : evs b c ms n = ((List.range n).map fun k => mornC b c ms (k + 1)).flatMap camCells := by
  unfold evs
  rw [List.flatMap_map]

theorem Days_any (b : Br) (c : Cm) (a : Option Addr) (cap : Nat) (ms : List Mr) (w : World) (h : DaysIn w a cap ms) (hl : ms.length ≤ 100000) :
    Calls Try.prog 26 #[.agg #[.int .i64 b.full, .int .i64 b.fed, .int .i64 b.rest.1, .int .i64 b.rest.2, .int .i64 b.heat.1, .int .i64 b.heat.2, .int .i64 b.toil.1, .int .i64 b.toil.2, .int .i64 b.burn.1, .int .i64 b.burn.2, .int .i64 b.rub.1, .int .i64 b.rub.2, .int .i64 b.milk.1, .int .i64 b.milk.2, .int .i64 b.heal, .int .i64 b.strong.1, .int .i64 b.strong.2], .agg #[.int .i64 c.water.1, .int .i64 c.water.2, .int .i64 c.fat.1, .int .i64 c.fat.2, .int .i64 c.sore.1, .int .i64 c.sore.2, .bool c.milks], .slice a ms.length cap] w fun e w' => (∃ v, e = .returned (.tuple #[v, .int .u8 (outF b c ms), .int .i64 (outA b c ms), .int .i64 (outE b c ms)]) ∧ CamList w' v (outL b c ms)) ∧ Below w.heap.size w w' := by
  by_cases h0 : chkT b c ms = 0
  · refine (Days_ok b c a cap ms w h hl h0).mono fun e w' ⟨h1, hB⟩ => ⟨?_, hB⟩
    rcases h1 with ⟨hal, v, he, hown, hnil⟩ | ⟨k, hk, hd, hal, he⟩
    · have hf := firstDie_none hal
      refine ⟨v, ?_, ?_⟩
      · simp only [outF, outA, outE, h0, hf, if_true]; exact he
      · simp only [outL, h0, hf, if_true]
        rw [evs_flat] at hown
        exact camels_of_owns (by simp) hown hnil
    · have hf := firstDie_some hk hd hal
      refine ⟨_, ?_, .inl ⟨rfl, ?_⟩⟩
      · simp only [outF, outA, outE, h0, hf, if_true]; exact he
      · simp only [outL, h0, hf, if_true]
  · refine (Days_bad b c a cap ms _ w h hl rfl h0).mono fun e w' ⟨he, hB⟩ => ⟨⟨_, ?_, .inl ⟨rfl, ?_⟩⟩, hB⟩
    · simp only [outF, outA, outE, h0, if_false]; exact he
    · simp only [outL, h0, if_false]
theorem outF_bd (b : Br) (c : Cm) (ms : List Mr) : 0 ≤ outF b c ms ∧ outF b c ms ≤ 2 := by
  unfold outF
  split
  · split
    · have := fatN_01 b c ms ms.length; omega
    · omega
  · omega

theorem Lasts_any (b : Br) (c : Cm) (m : Mr) (w : World) :
    Calls Try.prog 37 #[.agg #[.int .i64 b.full, .int .i64 b.fed, .int .i64 b.rest.1, .int .i64 b.rest.2, .int .i64 b.heat.1, .int .i64 b.heat.2, .int .i64 b.toil.1, .int .i64 b.toil.2, .int .i64 b.burn.1, .int .i64 b.burn.2, .int .i64 b.rub.1, .int .i64 b.rub.2, .int .i64 b.milk.1, .int .i64 b.milk.2, .int .i64 b.heal, .int .i64 b.strong.1, .int .i64 b.strong.2], .agg #[.int .i64 c.water.1, .int .i64 c.water.2, .int .i64 c.fat.1, .int .i64 c.fat.2, .int .i64 c.sore.1, .int .i64 c.sore.2, .bool c.milks], .agg #[.int .i64 m.hours, .int .i64 m.load, .int .i64 m.heat.1, .int .i64 m.heat.2, .int .i64 m.grass.1, .int .i64 m.grass.2, .int .i64 m.drinks.1, .int .i64 m.drinks.2]] w fun e w' => e = .returned (.tuple #[.agg #[.int .i64 (lasR b c m).1, .int .i64 (lasR b c m).2], .int .i64 (chkT b c [m])]) ∧ Below w.heap.size w w' := by
  by_cases h : chkT b c [m] = 0
  · have h1 : lasR b c m = lastsGo b m 60 0 c 60 := by rw [lasR, if_pos h]
    rw [h, h1]
    exact Lasts_ok b c m w h
  · have h1 : lasR b c m = (0, 0) := by rw [lasR, if_neg h]
    rw [h1]
    exact Lasts_bad b c m _ w rfl h

theorem sameCamels_nil (w : World) :
    Calls Try.prog 39 #[.slice none 0 0, .slice none 0 0] w fun e w' => e = .returned (.bool true) ∧ Below w.heap.size w w' := by
  go_enter Try.func39, Try.ntmps39
  go_wp2
  go_rounds 1
  all_goals go_returns
  all_goals exact ⟨rfl, Below.refl _ _⟩
theorem same_any {w : World} {v1 v2 : Value} {cs : List Cm} (h1 : CamList w v1 cs) (h2 : CamList w v2 cs) (hl : cs.length ≤ 100000) :
    Calls Try.prog 39 #[v1, v2] w fun e w' => e = .returned (.bool true) ∧ Below w.heap.size w w' := by
  rcases h1 with ⟨rfl, h1⟩ | ⟨g1, p1, rfl, q1, l1, n1⟩
  · rcases h2 with ⟨rfl, h2⟩ | ⟨g2, p2, rfl, q2, l2, n2⟩
    · exact sameCamels_nil w
    · exact absurd h1 n2
  · rcases h2 with ⟨rfl, h2⟩ | ⟨g2, p2, rfl, q2, l2, n2⟩
    · exact absurd h2 n1
    · exact sameCamels_some g1 0 p1 g2 0 p2 cs w q1 q2 l1 l2 hl
theorem outL_len (b : Br) (c : Cm) (ms : List Mr) : (outL b c ms).length ≤ ms.length := by
  unfold outL
  split
  · split <;> simp
  · simp
end Go.Proofs.Ytafdcbdbllpcnaa
/- Contracts of the outright properties' helpers over numbers: at, pick, part, inner. -/
namespace Go.Proofs.Ytafdcbdbllpcnaa
open Go.RowKit
open Go.Proofs

attribute [local go_sem ↓] exec36l exec112l exec36s exec112s exec31s run_min2 run_max2
attribute [local go_sem] load36 load112 store36 store112 store31 build112 rowOf_alloc rowOf_drew setRow_alloc one_int one_bool run_min4

theorem span_any (a b : Int) (w : World) :
    Calls Try.prog 17 #[.int .i64 a, .int .i64 b] w fun e w' => e = .returned (.agg #[.int .i64 a, .int .i64 b]) ∧ Below w.heap.size w w' := by
  go_enter Try.func17, Try.ntmps17
  go_wp2
  exact bodyPost_ret (res31 Try.results17 rfl (cs := #[.int .i64 a, .int .i64 b]) (by simp [rowOf_alloc]) rfl) rfl ⟨rfl, by go_grown⟩
/-- A list of numbers that was handed over: nil, or so many that lie one behind the other. -/
def WordsIn (w : World) (a : Option Addr) (cap : Nat) (xs : List Int) : Prop := (a = none ∧ cap = 0 ∧ xs = []) ∨ ∃ g off, a = some ⟨g, off, none⟩ ∧ (∀ k (h : k < xs.length), w.cell? ⟨g, off + k, none⟩ = some (.int .u32 xs[k])) ∧ g < w.heap.size
theorem WordsIn.below {B : Nat} {W W' : World} {a : Option Addr} {cap : Nat} {xs : List Int} (h : WordsIn W a cap xs) (hE : Below B W W') (hs : W.heap.size ≤ B) : WordsIn W' a cap xs := by
  rcases h with h | ⟨g, off, h1, h2, h3⟩
  · exact .inl h
  · exact .inr ⟨g, off, h1, fun k hk => at_belowb hE (by omega) (h2 k hk), Nat.lt_of_lt_of_le h3 hE.size⟩
theorem xt_ext2 {W W' : World} (h : XT [] W W') : Ext W W' := ⟨h.os, h.tape, h.output, h.size, fun k hk => h.block k hk (by simp)⟩
theorem WordsIn.behind {w X W : World} {a : Option Addr} {cap : Nat} {xs : List Int} (h : WordsIn w a cap xs) (hX : Below w.heap.size w X) (hE : Ext X.drew W) : WordsIn W a cap xs :=
  h.below (hX.drew.trans (Below.mono hE (by simpa using hX.size))) (Nat.le_refl _)
theorem WordsIn.behindQ {w X W : World} {a : Option Addr} {cap : Nat} {xs : List Int} (h : WordsIn w a cap xs) (hX : Below w.heap.size w X) (hE : Ext X W) : WordsIn W a cap xs :=
  h.below (hX.trans (Below.mono hE hX.size)) (Nat.le_refl _)
/-- The number of a list with an index, which goes round. -/
def atS (xs : List Int) (i : Nat) : Int := if xs.length = 0 then 0 else xs.getD (i % xs.length) 0
def inU (v : Int) : Prop := 0 ≤ v ∧ v < 4294967296
theorem atS_in {xs : List Int} (h : ∀ x ∈ xs, inU x) (i : Nat) : inU (atS xs i) := by
  unfold atS
  split
  · exact ⟨by omega, by omega⟩
  · have hk : i % xs.length < xs.length := Nat.mod_lt _ (by omega)
    rw [show xs.getD (i % xs.length) 0 = xs[i % xs.length] by simp [hk]]
    exact h _ (List.getElem_mem hk)
set_option maxHeartbeats 1000000 in
theorem at_any (a : Option Addr) (cap n : Nat) (xs : List Int) (i : Nat) (v : Int) (w : World) (hn : n = xs.length) (h : WordsIn w a cap xs) (hi : i < 100000) (hv : atS xs i = v) :
    Calls Try.prog 50 #[.slice a n cap, .int .i64 (i : Int)] w fun e w' => e = .returned (.int .u32 v) ∧ Below w.heap.size w w' := by
  by_cases h0 : n = 0
  · subst h0
    have hv0 : v = 0 := by rw [← hv, atS, if_pos hn.symm]
    subst hv0
    clear h hn
    go_enter Try.func50, Try.ntmps50
    go_wp2
    go_returns
    exact ⟨rfl, by go_grown⟩
  · rcases h with ⟨-, -, h3⟩ | ⟨g, off, rfl, h2, h3⟩
    · rw [h3] at hn; exact absurd hn h0
    · have hk : i % n < xs.length := by rw [← hn]; exact Nat.mod_lt _ (by omega)
      have c0 := h2 _ hk
      have hx : xs[i % n] = v := by rw [← hv, atS, if_neg (by omega), ← hn]; simp only [List.getD]; rw [List.getElem?_eq_getElem hk]; rfl
      rw [hx] at c0
      have hm : Int.tmod (i : Int) (n : Int) = ((i % n : Nat) : Int) := rfl
      have hlt : i % n < n := by omega
      have hle : i % n ≤ i := Nat.mod_le _ _
      have hne : (n : Int) ≠ 0 := by omega
      clear h2 hx hv hn hk
      generalize i % n = r at *
      go_enter Try.func50, Try.ntmps50
      go_wp2
      go_returns
      exact ⟨rfl, by go_grown⟩
/-- The number of a span that is chosen by another one. -/
def pickS (s : Int × Int) (n : Int) : Int := s.1 + n % (s.2 - s.1 + 1)
theorem pickS_in {s : Int × Int} (h : s.1 ≤ s.2) (n : Int) : s.1 ≤ pickS s n ∧ pickS s n ≤ s.2 := by
  unfold pickS
  have h1 := Int.emod_nonneg n (show s.2 - s.1 + 1 ≠ 0 by omega)
  have h2 := Int.emod_lt_of_pos n (show 0 < s.2 - s.1 + 1 by omega)
  omega
set_option maxHeartbeats 1000000 in
theorem pick_any (s : Int × Int) (n v : Int) (w : World) (hs : s.1 ≤ s.2) (h1 : -1000000000 ≤ s.1) (h2 : s.2 ≤ 1000000000) (hn : inU n) (hv : pickS s n = v) :
    Calls Try.prog 49 #[.agg #[.int .i64 s.1, .int .i64 s.2], .int .u32 n] w fun e w' => e = .returned (.int .i64 v) ∧ Below w.heap.size w w' := by
  obtain ⟨n1, n2⟩ := hn
  have hm : Int.tmod n (s.2 - s.1 + 1) = n % (s.2 - s.1 + 1) := Int.tmod_eq_emod_of_nonneg n1
  have k1 := Int.emod_nonneg n (show s.2 - s.1 + 1 ≠ 0 by omega)
  have k2 := Int.emod_lt_of_pos n (show 0 < s.2 - s.1 + 1 by omega)
  have hne : s.2 - s.1 + 1 ≠ 0 := by omega
  subst hv
  unfold pickS
  generalize n % (s.2 - s.1 + 1) = r at *
  go_enter Try.func49, Try.ntmps49
  go_wp2
  go_quiet (fail)
  go_wp2
  go_returns
  exact ⟨rfl, below_drewN (by go_grown) nq⟩
/-- A span within another one. -/
def partS (s : Int × Int) (x y : Int) : Int × Int := (pickS s x, pickS s x + y % (s.2 - pickS s x + 1))
theorem partS_in {s : Int × Int} (h : s.1 ≤ s.2) (x y : Int) : s.1 ≤ (partS s x y).1 ∧ (partS s x y).1 ≤ (partS s x y).2 ∧ (partS s x y).2 ≤ s.2 := by
  obtain ⟨p1, p2⟩ := pickS_in h x
  unfold partS
  have h1 := Int.emod_nonneg y (show s.2 - pickS s x + 1 ≠ 0 by omega)
  have h2 := Int.emod_lt_of_pos y (show 0 < s.2 - pickS s x + 1 by omega)
  simp only
  omega
set_option maxHeartbeats 2000000 in
theorem part_any (s : Int × Int) (x y : Int) (t : Int × Int) (w : World) (hs : s.1 ≤ s.2) (h1 : -1000000000 ≤ s.1) (h2 : s.2 ≤ 1000000000) (hx : inU x) (hy : inU y) (ht : partS s x y = t) :
    Calls Try.prog 52 #[.agg #[.int .i64 s.1, .int .i64 s.2], .int .u32 x, .int .u32 y] w fun e w' => e = .returned (.agg #[.int .i64 t.1, .int .i64 t.2]) ∧ Below w.heap.size w w' := by
  obtain ⟨y1, y2⟩ := hy
  obtain ⟨p, hp⟩ : ∃ p, pickS s x = p := ⟨_, rfl⟩
  have HP := Lib.hid hp
  have HX := Lib.hid hx
  obtain ⟨p1, p2⟩ := pickS_in hs x
  rw [hp] at p1 p2
  have hm : Int.tmod y (s.2 - p + 1) = y % (s.2 - p + 1) := Int.tmod_eq_emod_of_nonneg y1
  have k1 := Int.emod_nonneg y (show s.2 - p + 1 ≠ 0 by omega)
  have k2 := Int.emod_lt_of_pos y (show 0 < s.2 - p + 1 by omega)
  have hne : s.2 - p + 1 ≠ 0 := by omega
  unfold partS at ht
  rw [hp] at ht
  subst ht
  generalize y % (s.2 - p + 1) = r at *
  clear hp hx
  go_enter Try.func52, Try.ntmps52
  go_wp2_with fail
  refine (pick_any s x p _ hs h1 h2 HX.out HP.out).mono ?_
  rintro e W1 ⟨rfl, hB⟩
  have hW1 : Below w.heap.size w W1 := Below.trans (by go_grown) (hB.mono (by simp; try omega))
  have zW1 := hW1.size
  obtain ⟨rsW1, csW1, gsW1, zsW1⟩ := keep_row hB (g := w.heap.size) (by repeat (first | with_reducible assumption | with_reducible apply row_here0 | with_reducible apply row_here1 | with_reducible apply row_here2 | with_reducible apply row_here3 | with_reducible apply rowSkip))
  obtain ⟨rrW1, crW1, grW1, zrW1⟩ := keep_row hB (g := w.heap.size + 1) (by repeat (first | with_reducible assumption | with_reducible apply row_here0 | with_reducible apply row_here1 | with_reducible apply row_here2 | with_reducible apply row_here3 | with_reducible apply rowSkip))
  clear hB
  go_wp2_with fail
  refine (span_any p (p + r) _).mono ?_
  rintro e W2 ⟨rfl, hB⟩
  have hW2 : Below w.heap.size w W2 := hW1.trans (Below.trans (by have := hW1.size; go_grown) (hB.mono (by have := hW1.size; simp; try omega)))
  have zW2 := hW2.size
  obtain ⟨rrW2, crW2, grW2, zrW2⟩ := keep_row hB (g := w.heap.size + 1) (by repeat (first | with_reducible assumption | with_reducible apply row_here0 | with_reducible apply row_here1 | with_reducible apply row_here2 | with_reducible apply row_here3 | with_reducible apply rowSkip))
  clear hB
  go_wp2
  exact bodyPost_ret (res31 Try.results52 rfl (stored_setRow rrW2 _).row rfl) rfl ⟨rfl, Below_setRow hW2 (by omega) _⟩
set_option maxHeartbeats 1000000 in
theorem inner_any (s t : Int × Int) (v : Bool) (w : World) (hv : (decide (t.1 ≤ s.1) && decide (s.2 ≤ t.2)) = v) :
    Calls Try.prog 53 #[.agg #[.int .i64 s.1, .int .i64 s.2], .agg #[.int .i64 t.1, .int .i64 t.2]] w fun e w' => e = .returned (.bool v) ∧ Below w.heap.size w w' := by
  subst hv
  by_cases h1 : t.1 ≤ s.1
  · by_cases h2 : s.2 ≤ t.2
    · rw [show (decide (t.1 ≤ s.1) && decide (s.2 ≤ t.2)) = true by simp [h1, h2]]
      go_enter Try.func53, Try.ntmps53
      go_wp2
      go_returns
      exact ⟨rfl, by go_grown⟩
    · rw [show (decide (t.1 ≤ s.1) && decide (s.2 ≤ t.2)) = false by simp [h2]]
      have h3 : ¬ s.2 ≤ t.2 := h2
      go_enter Try.func53, Try.ntmps53
      go_wp2
      go_returns
      exact ⟨rfl, by go_grown⟩
  · rw [show (decide (t.1 ≤ s.1) && decide (s.2 ≤ t.2)) = false by simp [h1]]
    go_enter Try.func53, Try.ntmps53
    go_wp2
    go_returns
    exact ⟨rfl, by go_grown⟩
end Go.Proofs.Ytafdcbdbllpcnaa
