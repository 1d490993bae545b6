/- Contracts of package camel's fitness and carries: what they return, for every valid animal. -/
import Derived.Test.YtafdcbdbllpcnaaLeafD
import Derived.Test.YtafdcbdbllpcnaaSpec2
namespace Go.Proofs.Ytafdcbdbllpcnaa
open Go.RowKit
open Go.Proofs

attribute [local go_sem ↓] exec36l exec112l exec36s exec112s exec31s run_min2 run_max2
attribute [local go_sem] load36 load112 store36 store112 store31 build112 rowOf_alloc rowOf_drew setRow_alloc one_int one_bool run_min4

theorem scaled2 (d : Int) (s t : Int × Int) (w : World) (g cap : Nat) (h : rowOf w g = some #[.int .i64 s.1, .int .i64 s.2, .int .i64 t.1, .int .i64 t.2])
    (hd : 1 ≤ d) (hd' : d ≤ 1000000000000000)
    (ha1 : 0 ≤ s.1) (ha1' : s.1 ≤ 1000000000000000) (ha2 : 0 ≤ s.2) (ha2' : s.2 ≤ 1000000000000000)
    (hp1 : 0 ≤ s.1 * t.1) (hp1' : s.1 * t.1 ≤ 1000000000000000) (hp2 : 0 ≤ s.2 * t.2) (hp2' : s.2 * t.2 ≤ 1000000000000000) :
    Calls Try.prog 86 #[.int .i64 d, .slice (some ⟨g, 0, none⟩) 2 cap] w fun e w' => e = .returned (.agg #[.int .i64 (s.1 * t.1 / d), .int .i64 ((s.2 * t.2 + d - 1) / d)]) ∧ Below w.heap.size w w' := by
  obtain ⟨c, -, hb⟩ := cell_of_rowOf h
  exact scaled2_any d s.1 s.2 t.1 t.2 g cap w hb (c 0) (c 1) (c 2) (c 3) hd hd' ha1 ha1' ha2 ha2' hp1 hp1' hp2 hp2'

theorem at_belowb {B b o : Nat} {w w' : World} {v : Value} (hB : Below B w w') (h : b < B) (hc : w.cell? ⟨b, o, none⟩ = some v) : w'.cell? ⟨b, o, none⟩ = some v := (hB.cell (p := ⟨b, o, none⟩) h).trans hc
theorem sc2 (d : Int) (s t : Int × Int) (x y : Int) (w : World) (g cap : Nat) (h : rowOf w g = some #[.int .i64 s.1, .int .i64 s.2, .int .i64 t.1, .int .i64 t.2]) (hd : 1 ≤ d) (hd' : d ≤ 1000000000000000)
    (s1 : 0 ≤ s.1) (s2 : s.1 ≤ s.2) (s3 : s.2 ≤ x) (t1 : 0 ≤ t.1) (t2 : t.1 ≤ y) (t3 : 0 ≤ t.2) (t4 : t.2 ≤ y) (hx : x ≤ 1000000000000000) (hxy : x * y ≤ 1000000000000000) :
    Calls Try.prog 86 #[.int .i64 d, .slice (some ⟨g, 0, none⟩) 2 cap] w fun e w' => e = .returned (.agg #[.int .i64 (sc d s t).1, .int .i64 (sc d s t).2]) ∧ Below w.heap.size w w' := by
  obtain ⟨a1, a2, a3, a4, -⟩ := sc_bd hd s1 s2 s3 t1 t2 t3 t4
  exact scaled2 d s t w g cap h hd hd' s1 (by omega) (by omega) (by omega) a1 (by omega) a3 (by omega)
theorem ad2 (s t : Int × Int) (w : World) (g cap : Nat) (h : rowOf w g = some #[.int .i64 s.1, .int .i64 s.2, .int .i64 t.1, .int .i64 t.2]) (s1 : 0 ≤ s.1) (s1' : s.1 ≤ 1000000000000000) (s2 : 0 ≤ s.2) (s2' : s.2 ≤ 1000000000000000) (t1 : 0 ≤ t.1) (t1' : t.1 ≤ 1000000000000000) (t2 : 0 ≤ t.2) (t2' : t.2 ≤ 1000000000000000) :
    Calls Try.prog 85 #[.slice (some ⟨g, 0, none⟩) 2 cap] w fun e w' => e = .returned (.agg #[.int .i64 (ad s t).1, .int .i64 (ad s t).2]) ∧ Below w.heap.size w w' := by
  obtain ⟨c, -, hb⟩ := cell_of_rowOf h
  exact sum2_any s.1 s.2 t.1 t.2 g cap w hb (c 0) (c 1) (c 2) (c 3) (by omega) s1' (by omega) s2' (by omega) t1' (by omega) t2'
theorem ad3 (s t u : Int × Int) (w : World) (g cap : Nat) (h : rowOf w g = some #[.int .i64 s.1, .int .i64 s.2, .int .i64 t.1, .int .i64 t.2, .int .i64 u.1, .int .i64 u.2]) (s1 : 0 ≤ s.1) (s1' : s.1 ≤ 1000000000000000) (s2 : 0 ≤ s.2) (s2' : s.2 ≤ 1000000000000000) (t1 : 0 ≤ t.1) (t1' : t.1 ≤ 1000000000000000) (t2 : 0 ≤ t.2) (t2' : t.2 ≤ 1000000000000000)
    (u1 : 0 ≤ u.1) (u1' : u.1 ≤ 1000000000000000) (u2 : 0 ≤ u.2) (u2' : u.2 ≤ 1000000000000000) :
    Calls Try.prog 85 #[.slice (some ⟨g, 0, none⟩) 3 cap] w fun e w' => e = .returned (.agg #[.int .i64 (ad (ad s t) u).1, .int .i64 (ad (ad s t) u).2]) ∧ Below w.heap.size w w' := by
  obtain ⟨c, -, hb⟩ := cell_of_rowOf h
  exact sum3_any s.1 s.2 t.1 t.2 u.1 u.2 g cap w hb (c 0) (c 1) (c 2) (c 3) (c 4) (c 5) (by omega) s1' (by omega) s2' (by omega) t1' (by omega) t2' (by omega) u1' (by omega) u2'

set_option maxHeartbeats 1000000 in
theorem fitness_any (b : Br) (c : Cm) (w : World) (hb : BdB b) (hc : BdC b c) :
    Calls Try.prog 62 #[.agg #[.int .i64 b.full, .int .i64 b.fed, .int .i64 b.rest.1, .int .i64 b.rest.2, .int .i64 b.heat.1, .int .i64 b.heat.2, .int .i64 b.toil.1, .int .i64 b.toil.2, .int .i64 b.burn.1, .int .i64 b.burn.2, .int .i64 b.rub.1, .int .i64 b.rub.2, .int .i64 b.milk.1, .int .i64 b.milk.2, .int .i64 b.heal, .int .i64 b.strong.1, .int .i64 b.strong.2, .int .i64 c.water.1, .int .i64 c.water.2, .int .i64 c.fat.1, .int .i64 c.fat.2, .int .i64 c.sore.1, .int .i64 c.sore.2, .bool c.milks]] w fun e w' => e = .returned (.agg #[.int .i64 (fitS b c).1, .int .i64 (fitS b c).2]) ∧ Below w.heap.size w w' := by
  obtain ⟨f1, f2⟩ := hb.full
  obtain ⟨d1, d2⟩ := hb.fed
  obtain ⟨w1, w2, w3⟩ := hc.water
  obtain ⟨t1, t2, t3⟩ := hc.fat
  obtain ⟨s1, s2, s3⟩ := hc.sore
  clear hb hc
  go_enter Try.func62, Try.ntmps62
  go_wp2_with fail
  refine (exactly_any _ _).mono ?_
  rintro e W1 ⟨rfl, hB⟩
  have hW1 : Below w.heap.size w W1 := Below.trans (by go_grown) (hB.mono (by simp; try omega))
  have zW1 := hW1.size
  obtain ⟨raW1, caW1, gaW1, zaW1⟩ := keep_row hB (g := w.heap.size) (by repeat (first | with_reducible assumption | with_reducible apply row_here0 | with_reducible apply row_here1 | with_reducible apply row_here2 | with_reducible apply row_here3 | with_reducible apply rowSkip))
  obtain ⟨rbW1, cbW1, gbW1, zbW1⟩ := keep_row hB (g := w.heap.size + 1) (by repeat (first | with_reducible assumption | with_reducible apply row_here0 | with_reducible apply row_here1 | with_reducible apply row_here2 | with_reducible apply row_here3 | with_reducible apply rowSkip))
  clear hB
  go_wp2_with fail
  refine (scaled2 _ c.water (2000, 2000) _ _ _ (by repeat (first | with_reducible assumption | with_reducible apply row_here0 | with_reducible apply row_here1 | with_reducible apply row_here2 | with_reducible apply row_here3 | with_reducible apply rowSkip)) (by omega) (by omega) (by omega) (by omega) (by omega) (by omega) (by omega) (by omega) (by omega) (by omega)).mono ?_
  rintro e W2 ⟨rfl, hB⟩
  have hW2 : Below w.heap.size w W2 := hW1.trans (Below.trans (by have := hW1.size; go_grown) (hB.mono (by have := hW1.size; simp; try omega)))
  have zW2 := hW2.size
  obtain ⟨raW2, caW2, gaW2, zaW2⟩ := keep_row hB (g := w.heap.size) (by repeat (first | with_reducible assumption | with_reducible apply row_here0 | with_reducible apply row_here1 | with_reducible apply row_here2 | with_reducible apply row_here3 | with_reducible apply rowSkip))
  obtain ⟨rbW2, cbW2, gbW2, zbW2⟩ := keep_row hB (g := w.heap.size + 1) (by repeat (first | with_reducible assumption | with_reducible apply row_here0 | with_reducible apply row_here1 | with_reducible apply row_here2 | with_reducible apply row_here3 | with_reducible apply rowSkip))
  obtain ⟨rtW2, ctW2, gtW2, ztW2⟩ := keep_row hB (g := W1.heap.size) (by repeat (first | with_reducible assumption | with_reducible apply row_here0 | with_reducible apply row_here1 | with_reducible apply row_here2 | with_reducible apply row_here3 | with_reducible apply rowSkip))
  clear hB
  go_wp2_with fail
  refine (scaled2 _ c.fat (2000, 2000) _ _ _ (by repeat (first | with_reducible assumption | with_reducible apply row_here0 | with_reducible apply row_here1 | with_reducible apply row_here2 | with_reducible apply row_here3 | with_reducible apply rowSkip)) (by omega) (by omega) (by omega) (by omega) (by omega) (by omega) (by omega) (by omega) (by omega) (by omega)).mono ?_
  rintro e W3 ⟨rfl, hB⟩
  have hW3 : Below w.heap.size w W3 := hW2.trans (Below.trans (by have := hW2.size; go_grown) (hB.mono (by have := hW2.size; simp; try omega)))
  have zW3 := hW3.size
  obtain ⟨raW3, caW3, gaW3, zaW3⟩ := keep_row hB (g := w.heap.size) (by repeat (first | with_reducible assumption | with_reducible apply row_here0 | with_reducible apply row_here1 | with_reducible apply row_here2 | with_reducible apply row_here3 | with_reducible apply rowSkip))
  obtain ⟨rbW3, cbW3, gbW3, zbW3⟩ := keep_row hB (g := w.heap.size + 1) (by repeat (first | with_reducible assumption | with_reducible apply row_here0 | with_reducible apply row_here1 | with_reducible apply row_here2 | with_reducible apply row_here3 | with_reducible apply rowSkip))
  obtain ⟨rvW3, cvW3, gvW3, zvW3⟩ := keep_row hB (g := W2.heap.size) (by repeat (first | with_reducible assumption | with_reducible apply row_here0 | with_reducible apply row_here1 | with_reducible apply row_here2 | with_reducible apply row_here3 | with_reducible apply rowSkip))
  clear hB
  go_wp2_with fail
  clear raW1 caW1 gaW1 rbW1 cbW1 gbW1 raW2 caW2 gaW2 rbW2 cbW2 gbW2 rtW2 ctW2 gtW2
  refine wp_drawn_list (by kernel_rfl) [26, 27, 28, 29, 30, 6] (by kernel_rfl) rfl (fun ix v W => match ix with
    | 0 => v = .agg #[.int .i64 1000, .int .i64 1000]
    | 1 => v = .pointer (some ⟨w.heap.size, 17, none⟩)
    | 2 => v = .pointer (some ⟨w.heap.size, 21, none⟩)
    | 3 => v = .agg #[.int .i64 c.sore.1, .int .i64 c.sore.2]
    | 4 => v = .agg #[.int .i64 (1000 - c.sore.2), .int .i64 (1000 - c.sore.1)]
    | 5 => PT v #[.int .i64 0, .int .i64 0] (W3.heap.size + 1) W
    | _ => True) ⟨?_, ?_, ?_, ?_, ?_, ?_, ?_⟩
  · intro b' W hE hb hdep K hK
    clear hdep hb
    go_wp2_with fail
    refine (exactly_any _ _).mono ?_
    rintro e W' ⟨rfl, hB⟩
    exact hK _ _ hB rfl
  · intro b' W hE hb hdep K hK
    have e1 : b'.tmps[1]?.getD undef = .pointer (some ⟨w.heap.size, 0, none⟩) := hb 1 (by decide)
    clear hdep hb
    go_wp2
    exact hK _ _ (Ext.refl _) rfl
  · intro b' W hE hb hdep K hK
    have e27 : b'.tmps[27]?.getD undef = .pointer (some ⟨w.heap.size, 17, none⟩) := pureR (hdep 1 27 (by kernel_rfl) rfl)
    clear hdep hb
    go_wp2
    exact hK _ _ (Ext.refl _) rfl
  · intro b' W hE hb hdep K hK
    have e28 : b'.tmps[28]?.getD undef = .pointer (some ⟨w.heap.size, 21, none⟩) := pureR (hdep 2 28 (by kernel_rfl) rfl)
    clear hdep hb
    obtain ⟨_, _, -, _⟩ := keep_row hE ((rowSkip raW3 : rowOf _ _ = _))
    go_wp2
    exact hK _ _ (Ext.refl _) rfl
  · intro b' W hE hb hdep K hK
    have e26 : b'.tmps[26]?.getD undef = .agg #[.int .i64 1000, .int .i64 1000] := pureR (hdep 0 26 (by kernel_rfl) rfl)
    have e29 : b'.tmps[29]?.getD undef = .agg #[.int .i64 c.sore.1, .int .i64 c.sore.2] := pureR (hdep 3 29 (by kernel_rfl) rfl)
    clear hdep hb
    go_wp2_with fail
    refine (less_any 1000 1000 c.sore.1 c.sore.2 _ (by omega) (by omega) (by omega) (by omega)).mono ?_
    rintro e W' ⟨rfl, hB⟩
    exact hK _ _ hB rfl
  · intro b' W hE hb hdep K hK
    clear hdep hb
    go_wp2
    exact hK _ _ (ext_alloc _ _) ⟨rfl, row_here0 _ _ _, by have := hE.size; simp at this; simp [blk]; omega⟩
  intro f W hE hR
  have e26 : f 26 = .agg #[.int .i64 1000, .int .i64 1000] := pureR (hR 0 26 rfl)
  have e27 : f 27 = .pointer (some ⟨w.heap.size, 17, none⟩) := pureR (hR 1 27 rfl)
  have e28 : f 28 = .pointer (some ⟨w.heap.size, 21, none⟩) := pureR (hR 2 28 rfl)
  have e29 : f 29 = .agg #[.int .i64 c.sore.1, .int .i64 c.sore.2] := pureR (hR 3 29 rfl)
  have e30 : f 30 = .agg #[.int .i64 (1000 - c.sore.2), .int .i64 (1000 - c.sore.1)] := pureR (hR 4 30 rfl)
  have hp : PT (f 6) #[.int .i64 0, .int .i64 0] (W3.heap.size + 1) W := pointR (hR 5 6 rfl)
  clear hR
  refine wpL_store_pt rfl 31 (.tmp 6) (.tmp 30) rfl (vs := #[.int .i64 (1000 - c.sore.2), .int .i64 (1000 - c.sore.1)]) ((puts_eval (by decide) rfl).trans e30) (puts_eval (by decide) rfl) hp (by kernel_rfl) rfl (by simp [one_int, one_bool]) ?_
  intro h W4 hbase e6 hlt hS
  clear hp
  simp only [puts, Act.put, List.setIfInBounds_toArray, List.set_cons_succ, List.set_cons_zero, e26, e27, e28, e29, e30, e6]
  have zE := hE.size
  simp only [World.size_alloc, World.size_drew] at zE
  obtain ⟨rbW4, cbW4, gbW4, zbW4⟩ := row_facts (hS.keeps (g := w.heap.size + 1) (by omega) (hE.row ((rowOf_drew _ _).trans (by repeat (first | with_reducible assumption | with_reducible apply row_here0 | with_reducible apply row_here1 | with_reducible apply row_here2 | with_reducible apply row_here3 | with_reducible apply rowSkip)))))
  obtain ⟨rvW4, cvW4, gvW4, zvW4⟩ := row_facts (hS.keeps (g := W2.heap.size) (by omega) (hE.row ((rowOf_drew _ _).trans (by repeat (first | with_reducible assumption | with_reducible apply row_here0 | with_reducible apply row_here1 | with_reducible apply row_here2 | with_reducible apply row_here3 | with_reducible apply rowSkip)))))
  obtain ⟨rtW4, ctW4, gtW4, ztW4⟩ := row_facts (hS.keeps (g := W3.heap.size) (by omega) (hE.row ((rowOf_drew _ _).trans (by repeat (first | with_reducible assumption | with_reducible apply row_here0 | with_reducible apply row_here1 | with_reducible apply row_here2 | with_reducible apply row_here3 | with_reducible apply rowSkip)))))
  obtain ⟨rhW4, chW4, ghW4, zhW4⟩ := row_facts hS.row
  have hW4 : Below w.heap.size w W4 := ((drew_ext hE).below (by have := hW3.size; go_grown) (by have := hW3.size; simp; try omega)).trans (hS.below _ (by omega))
  have zW4 := hW4.size
  clear hS hE zE
  clear raW3 caW3 gaW3 rbW3 cbW3 gbW3 rvW3 cvW3 gvW3
  go_wp2
  refine bodyPost_ret (v := .agg #[.int .i64 (fitS b c).1, .int .i64 (fitS b c).2]) (res31 Try.results62 rfl (cs := #[.int .i64 (fitS b c).1, .int .i64 (fitS b c).2]) ?_ rfl) rfl ⟨rfl, Below_setRow hW4 (by omega) _⟩
  rw [(stored_setRow rbW4 _).row, fitS, Int.mul_comm 2000, Int.mul_comm 2000, Int.mul_comm 2000, Int.mul_comm 2000]

set_option maxHeartbeats 1000000 in
theorem carries_any (b : Br) (c : Cm) (w : World) (hb : BdB b) (hc : BdC b c) :
    Calls Try.prog 69 #[.agg #[.int .i64 b.full, .int .i64 b.fed, .int .i64 b.rest.1, .int .i64 b.rest.2, .int .i64 b.heat.1, .int .i64 b.heat.2, .int .i64 b.toil.1, .int .i64 b.toil.2, .int .i64 b.burn.1, .int .i64 b.burn.2, .int .i64 b.rub.1, .int .i64 b.rub.2, .int .i64 b.milk.1, .int .i64 b.milk.2, .int .i64 b.heal, .int .i64 b.strong.1, .int .i64 b.strong.2, .int .i64 c.water.1, .int .i64 c.water.2, .int .i64 c.fat.1, .int .i64 c.fat.2, .int .i64 c.sore.1, .int .i64 c.sore.2, .bool c.milks]] w fun e w' => e = .returned (.agg #[.int .i64 (carS b c).1, .int .i64 (carS b c).2]) ∧ Below w.heap.size w w' := by
  obtain ⟨s1, s2, s3⟩ := hb.strong
  obtain ⟨q1, q2, q3, q4⟩ := fitS_bd hb hc
  obtain ⟨m1, m2⟩ := mul_le s1 q1 (by omega : b.strong.1 ≤ 1000000) q2
  obtain ⟨m3, m4⟩ := mul_le (by omega : 0 ≤ b.strong.2) q3 s3 q4
  go_enter Try.func69, Try.ntmps69
  go_wp2_with fail
  have hW0 : Below w.heap.size w ((w.alloc (.cells #[.int .i64 b.full, .int .i64 b.fed, .int .i64 b.rest.1, .int .i64 b.rest.2, .int .i64 b.heat.1, .int .i64 b.heat.2, .int .i64 b.toil.1, .int .i64 b.toil.2, .int .i64 b.burn.1, .int .i64 b.burn.2, .int .i64 b.rub.1, .int .i64 b.rub.2, .int .i64 b.milk.1, .int .i64 b.milk.2, .int .i64 b.heal, .int .i64 b.strong.1, .int .i64 b.strong.2, .int .i64 c.water.1, .int .i64 c.water.2, .int .i64 c.fat.1, .int .i64 c.fat.2, .int .i64 c.sore.1, .int .i64 c.sore.2, .bool c.milks] 112)).alloc (.cells #[.int .i64 0, .int .i64 0] 31)) := by go_grown
  have raW0 : rowOf ((w.alloc (.cells #[.int .i64 b.full, .int .i64 b.fed, .int .i64 b.rest.1, .int .i64 b.rest.2, .int .i64 b.heat.1, .int .i64 b.heat.2, .int .i64 b.toil.1, .int .i64 b.toil.2, .int .i64 b.burn.1, .int .i64 b.burn.2, .int .i64 b.rub.1, .int .i64 b.rub.2, .int .i64 b.milk.1, .int .i64 b.milk.2, .int .i64 b.heal, .int .i64 b.strong.1, .int .i64 b.strong.2, .int .i64 c.water.1, .int .i64 c.water.2, .int .i64 c.fat.1, .int .i64 c.fat.2, .int .i64 c.sore.1, .int .i64 c.sore.2, .bool c.milks] 112)).alloc (.cells #[.int .i64 0, .int .i64 0] 31)) w.heap.size = some #[.int .i64 b.full, .int .i64 b.fed, .int .i64 b.rest.1, .int .i64 b.rest.2, .int .i64 b.heat.1, .int .i64 b.heat.2, .int .i64 b.toil.1, .int .i64 b.toil.2, .int .i64 b.burn.1, .int .i64 b.burn.2, .int .i64 b.rub.1, .int .i64 b.rub.2, .int .i64 b.milk.1, .int .i64 b.milk.2, .int .i64 b.heal, .int .i64 b.strong.1, .int .i64 b.strong.2, .int .i64 c.water.1, .int .i64 c.water.2, .int .i64 c.fat.1, .int .i64 c.fat.2, .int .i64 c.sore.1, .int .i64 c.sore.2, .bool c.milks] := (by repeat (first | with_reducible assumption | with_reducible apply row_here0 | with_reducible apply row_here1 | with_reducible apply row_here2 | with_reducible apply row_here3 | with_reducible apply rowSkip))
  have rbW0 : rowOf ((w.alloc (.cells #[.int .i64 b.full, .int .i64 b.fed, .int .i64 b.rest.1, .int .i64 b.rest.2, .int .i64 b.heat.1, .int .i64 b.heat.2, .int .i64 b.toil.1, .int .i64 b.toil.2, .int .i64 b.burn.1, .int .i64 b.burn.2, .int .i64 b.rub.1, .int .i64 b.rub.2, .int .i64 b.milk.1, .int .i64 b.milk.2, .int .i64 b.heal, .int .i64 b.strong.1, .int .i64 b.strong.2, .int .i64 c.water.1, .int .i64 c.water.2, .int .i64 c.fat.1, .int .i64 c.fat.2, .int .i64 c.sore.1, .int .i64 c.sore.2, .bool c.milks] 112)).alloc (.cells #[.int .i64 0, .int .i64 0] 31)) (w.heap.size + 1) = some #[.int .i64 0, .int .i64 0] := (by repeat (first | with_reducible assumption | with_reducible apply row_here0 | with_reducible apply row_here1 | with_reducible apply row_here2 | with_reducible apply row_here3 | with_reducible apply rowSkip))
  generalize (w.alloc (.cells #[.int .i64 b.full, .int .i64 b.fed, .int .i64 b.rest.1, .int .i64 b.rest.2, .int .i64 b.heat.1, .int .i64 b.heat.2, .int .i64 b.toil.1, .int .i64 b.toil.2, .int .i64 b.burn.1, .int .i64 b.burn.2, .int .i64 b.rub.1, .int .i64 b.rub.2, .int .i64 b.milk.1, .int .i64 b.milk.2, .int .i64 b.heal, .int .i64 b.strong.1, .int .i64 b.strong.2, .int .i64 c.water.1, .int .i64 c.water.2, .int .i64 c.fat.1, .int .i64 c.fat.2, .int .i64 c.sore.1, .int .i64 c.sore.2, .bool c.milks] 112)).alloc (.cells #[.int .i64 0, .int .i64 0] 31) = W0 at hW0 raW0 rbW0 ⊢
  refine wp_drawn_list (by kernel_rfl) [3, 4, 5, 6, 7, 8, 9] (by kernel_rfl) rfl (fun ix v W => match ix with
    | 0 => v = .pointer (some ⟨w.heap.size, 0, none⟩)
    | 1 => v = .pointer (some ⟨w.heap.size, 15, none⟩)
    | 2 => v = .agg #[.int .i64 b.strong.1, .int .i64 b.strong.2]
    | 3 => v = .agg #[.int .i64 b.full, .int .i64 b.fed, .int .i64 b.rest.1, .int .i64 b.rest.2, .int .i64 b.heat.1, .int .i64 b.heat.2, .int .i64 b.toil.1, .int .i64 b.toil.2, .int .i64 b.burn.1, .int .i64 b.burn.2, .int .i64 b.rub.1, .int .i64 b.rub.2, .int .i64 b.milk.1, .int .i64 b.milk.2, .int .i64 b.heal, .int .i64 b.strong.1, .int .i64 b.strong.2, .int .i64 c.water.1, .int .i64 c.water.2, .int .i64 c.fat.1, .int .i64 c.fat.2, .int .i64 c.sore.1, .int .i64 c.sore.2, .bool c.milks]
    | 4 => v = .agg #[.int .i64 (fitS b c).1, .int .i64 (fitS b c).2]
    | 5 => SL v 2 #[.int .i64 b.strong.1, .int .i64 b.strong.2, .int .i64 (fitS b c).1, .int .i64 (fitS b c).2] W
    | 6 => v = .agg #[.int .i64 (carS b c).1, .int .i64 (carS b c).2]
    | _ => True) ⟨?_, ?_, ?_, ?_, ?_, ?_, ?_, ?_⟩
  · intro b' W hE hb hdep K hK
    have e1 : b'.tmps[1]?.getD undef = .pointer (some ⟨w.heap.size, 0, none⟩) := hb 1 (by decide)
    clear hdep hb
    go_wp2
    exact hK _ _ (Ext.refl _) rfl
  · intro b' W hE hb hdep K hK
    have e3 : b'.tmps[3]?.getD undef = .pointer (some ⟨w.heap.size, 0, none⟩) := pureR (hdep 0 3 (by kernel_rfl) rfl)
    clear hdep hb
    go_wp2
    exact hK _ _ (Ext.refl _) rfl
  · intro b' W hE hb hdep K hK
    have e4 : b'.tmps[4]?.getD undef = .pointer (some ⟨w.heap.size, 15, none⟩) := pureR (hdep 1 4 (by kernel_rfl) rfl)
    clear hdep hb
    obtain ⟨_, _, -, _⟩ := keep_row hE ((raW0 : rowOf _ _ = _))
    go_wp2
    exact hK _ _ (Ext.refl _) rfl
  · intro b' W hE hb hdep K hK
    have e1 : b'.tmps[1]?.getD undef = .pointer (some ⟨w.heap.size, 0, none⟩) := hb 1 (by decide)
    clear hdep hb
    obtain ⟨_, _, -, _⟩ := keep_row hE ((raW0 : rowOf _ _ = _))
    go_wp2
    exact hK _ _ (Ext.refl _) rfl
  · intro b' W hE hb hdep K hK
    have e6 : b'.tmps[6]?.getD undef = .agg #[.int .i64 b.full, .int .i64 b.fed, .int .i64 b.rest.1, .int .i64 b.rest.2, .int .i64 b.heat.1, .int .i64 b.heat.2, .int .i64 b.toil.1, .int .i64 b.toil.2, .int .i64 b.burn.1, .int .i64 b.burn.2, .int .i64 b.rub.1, .int .i64 b.rub.2, .int .i64 b.milk.1, .int .i64 b.milk.2, .int .i64 b.heal, .int .i64 b.strong.1, .int .i64 b.strong.2, .int .i64 c.water.1, .int .i64 c.water.2, .int .i64 c.fat.1, .int .i64 c.fat.2, .int .i64 c.sore.1, .int .i64 c.sore.2, .bool c.milks] := pureR (hdep 3 6 (by kernel_rfl) rfl)
    clear hdep hb
    go_wp2_with fail
    refine (fitness_any b c _ hb hc).mono ?_
    rintro e W' ⟨rfl, hB⟩
    exact hK _ _ hB rfl
  · intro b' W hE hb hdep K hK
    have e5 : b'.tmps[5]?.getD undef = .agg #[.int .i64 b.strong.1, .int .i64 b.strong.2] := pureR (hdep 2 5 (by kernel_rfl) rfl)
    have e7 : b'.tmps[7]?.getD undef = .agg #[.int .i64 (fitS b c).1, .int .i64 (fitS b c).2] := pureR (hdep 4 7 (by kernel_rfl) rfl)
    clear hdep hb
    go_wp2
    exact hK _ _ (ext_alloc _ _) ⟨rfl, row_here0 _ _ _⟩
  · intro b' W hE hb hdep K hK
    have s8 : SL (b'.tmps[8]?.getD undef) 2 #[.int .i64 b.strong.1, .int .i64 b.strong.2, .int .i64 (fitS b c).1, .int .i64 (fitS b c).2] W := sliceR (hdep 5 8 (by kernel_rfl) rfl)
    have e8 := s8.eq
    have r8 := s8.row
    clear s8
    generalize blk (b'.tmps[8]?.getD undef) = g8 at e8 r8
    clear hdep hb
    go_wp2_with fail
    refine (scaled2 _ b.strong (fitS b c) _ _ _ r8 (by omega) (by omega) (by omega) (by omega) (by omega) (by omega) (by omega) (by omega) (by omega) (by omega)).mono ?_
    rintro e W' ⟨rfl, hB⟩
    exact hK _ _ hB rfl
  intro f W hE hR
  have e3 : f 3 = .pointer (some ⟨w.heap.size, 0, none⟩) := pureR (hR 0 3 rfl)
  have e4 : f 4 = .pointer (some ⟨w.heap.size, 15, none⟩) := pureR (hR 1 4 rfl)
  have e5 : f 5 = .agg #[.int .i64 b.strong.1, .int .i64 b.strong.2] := pureR (hR 2 5 rfl)
  have e6 : f 6 = .agg #[.int .i64 b.full, .int .i64 b.fed, .int .i64 b.rest.1, .int .i64 b.rest.2, .int .i64 b.heat.1, .int .i64 b.heat.2, .int .i64 b.toil.1, .int .i64 b.toil.2, .int .i64 b.burn.1, .int .i64 b.burn.2, .int .i64 b.rub.1, .int .i64 b.rub.2, .int .i64 b.milk.1, .int .i64 b.milk.2, .int .i64 b.heal, .int .i64 b.strong.1, .int .i64 b.strong.2, .int .i64 c.water.1, .int .i64 c.water.2, .int .i64 c.fat.1, .int .i64 c.fat.2, .int .i64 c.sore.1, .int .i64 c.sore.2, .bool c.milks] := pureR (hR 3 6 rfl)
  have e7 : f 7 = .agg #[.int .i64 (fitS b c).1, .int .i64 (fitS b c).2] := pureR (hR 4 7 rfl)
  have e9 : f 9 = .agg #[.int .i64 (carS b c).1, .int .i64 (carS b c).2] := pureR (hR 6 9 rfl)
  clear hR
  refine wpL_store_known rfl 31 (.tmp 2) (.tmp 9) rfl (vs := #[.int .i64 (carS b c).1, .int .i64 (carS b c).2]) (h := w.heap.size + 1) ((puts_eval (by decide) rfl).trans e9) (puts_other (by decide)) (hE.row ((rowOf_drew _ _).trans rbW0)) (by kernel_rfl) rfl (by simp [one_int, one_bool]) ?_
  intro W4 hS
  simp only [puts, Act.put, List.setIfInBounds_toArray, List.set_cons_succ, List.set_cons_zero, e3, e4, e5, e6, e7, e9]
  have zE := hE.size
  simp only [World.size_alloc, World.size_drew] at zE
  obtain ⟨rhW4, chW4, ghW4, zhW4⟩ := row_facts hS.row
  have hW4 : Below w.heap.size w W4 := ((drew_ext hE).below (by have := hW0.size; go_grown) (by have := hW0.size; simp; try omega)).trans (hS.below _ (by omega))
  have zW4 := hW4.size
  clear hS hE zE
  go_wp2
  exact bodyPost_ret (res31 Try.results69 rfl rhW4 rfl) rfl ⟨rfl, hW4⟩
end Go.Proofs.Ytafdcbdbllpcnaa
