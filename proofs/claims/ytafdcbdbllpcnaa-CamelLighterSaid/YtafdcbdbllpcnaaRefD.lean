/- Contracts of the reference's up and fitness: what they return, for every valid animal. -/
import Derived.Test.YtafdcbdbllpcnaaLeafE
import Derived.Test.YtafdcbdbllpcnaaRefA
import Derived.Test.YtafdcbdbllpcnaaLeafH
import Derived.Test.YtafdcbdbllpcnaaPart
set_option linter.unusedVariables false
set_option linter.unusedSimpArgs false
namespace Go.Proofs.Ytafdcbdbllpcnaa
open Go.RowKit
open Go.Proofs

attribute [local go_sem ↓] exec36l exec112l exec36s exec112s exec31s run_min2 run_max2
attribute [local go_sem] load36 load112 store36 store112 store31 build112 rowOf_alloc rowOf_drew setRow_alloc one_int one_bool run_min4

theorem up_any (a b : Int) (w : World) (h1 : 0 ≤ a) (h2 : a ≤ 1000000000000000) (h3 : 1 ≤ b) (h4 : b ≤ 1000000000000000) :
    Calls Try.prog 70 #[.int .i64 a, .int .i64 b] w fun e w' => e = .returned (.int .i64 ((a + b - 1) / b)) ∧ Below w.heap.size w w' := by
  go_enter Try.func70, Try.ntmps70
  go_wp2
  go_returns
  exact ⟨rfl, Below.refl _ _⟩

set_option maxHeartbeats 4000000 in
theorem rfitness_any (b : Br) (c : Cm) (w : World) (hb : BdB b) (hc : BdC b c) :
    Calls Try.prog 68 #[.agg #[.int .i64 b.full, .int .i64 b.fed, .int .i64 b.rest.1, .int .i64 b.rest.2, .int .i64 b.heat.1, .int .i64 b.heat.2, .int .i64 b.toil.1, .int .i64 b.toil.2, .int .i64 b.burn.1, .int .i64 b.burn.2, .int .i64 b.rub.1, .int .i64 b.rub.2, .int .i64 b.milk.1, .int .i64 b.milk.2, .int .i64 b.heal, .int .i64 b.strong.1, .int .i64 b.strong.2], .agg #[.int .i64 c.water.1, .int .i64 c.water.2, .int .i64 c.fat.1, .int .i64 c.fat.2, .int .i64 c.sore.1, .int .i64 c.sore.2, .bool c.milks]] w fun e w' => e = .returned (.agg #[.int .i64 (fitS b c).1, .int .i64 (fitS b c).2]) ∧ Below w.heap.size w w' := by
  obtain ⟨f1, f2⟩ := hb.full
  obtain ⟨d1, d2⟩ := hb.fed
  obtain ⟨w1, w2, w3⟩ := hc.water
  obtain ⟨t1, t2, t3⟩ := hc.fat
  obtain ⟨s1, s2, s3⟩ := hc.sore
  clear hb hc
  go_enter Try.func68, Try.ntmps68
  go_wp2_with fail
  have hW0 : Below w.heap.size w (((w.alloc (.cells #[.int .i64 b.full, .int .i64 b.fed, .int .i64 b.rest.1, .int .i64 b.rest.2, .int .i64 b.heat.1, .int .i64 b.heat.2, .int .i64 b.toil.1, .int .i64 b.toil.2, .int .i64 b.burn.1, .int .i64 b.burn.2, .int .i64 b.rub.1, .int .i64 b.rub.2, .int .i64 b.milk.1, .int .i64 b.milk.2, .int .i64 b.heal, .int .i64 b.strong.1, .int .i64 b.strong.2] 36)).alloc (.cells #[.int .i64 c.water.1, .int .i64 c.water.2, .int .i64 c.fat.1, .int .i64 c.fat.2, .int .i64 c.sore.1, .int .i64 c.sore.2, .bool c.milks] 39)).alloc (.cells #[.int .i64 0, .int .i64 0] 31)) := by go_grown
  have raW0 : rowOf (((w.alloc (.cells #[.int .i64 b.full, .int .i64 b.fed, .int .i64 b.rest.1, .int .i64 b.rest.2, .int .i64 b.heat.1, .int .i64 b.heat.2, .int .i64 b.toil.1, .int .i64 b.toil.2, .int .i64 b.burn.1, .int .i64 b.burn.2, .int .i64 b.rub.1, .int .i64 b.rub.2, .int .i64 b.milk.1, .int .i64 b.milk.2, .int .i64 b.heal, .int .i64 b.strong.1, .int .i64 b.strong.2] 36)).alloc (.cells #[.int .i64 c.water.1, .int .i64 c.water.2, .int .i64 c.fat.1, .int .i64 c.fat.2, .int .i64 c.sore.1, .int .i64 c.sore.2, .bool c.milks] 39)).alloc (.cells #[.int .i64 0, .int .i64 0] 31)) w.heap.size = some #[.int .i64 b.full, .int .i64 b.fed, .int .i64 b.rest.1, .int .i64 b.rest.2, .int .i64 b.heat.1, .int .i64 b.heat.2, .int .i64 b.toil.1, .int .i64 b.toil.2, .int .i64 b.burn.1, .int .i64 b.burn.2, .int .i64 b.rub.1, .int .i64 b.rub.2, .int .i64 b.milk.1, .int .i64 b.milk.2, .int .i64 b.heal, .int .i64 b.strong.1, .int .i64 b.strong.2] := (by repeat (first | with_reducible assumption | with_reducible apply row_here0 | with_reducible apply row_here1 | with_reducible apply row_here2 | with_reducible apply row_here3 | with_reducible apply rowSkip))
  have rbW0 : rowOf (((w.alloc (.cells #[.int .i64 b.full, .int .i64 b.fed, .int .i64 b.rest.1, .int .i64 b.rest.2, .int .i64 b.heat.1, .int .i64 b.heat.2, .int .i64 b.toil.1, .int .i64 b.toil.2, .int .i64 b.burn.1, .int .i64 b.burn.2, .int .i64 b.rub.1, .int .i64 b.rub.2, .int .i64 b.milk.1, .int .i64 b.milk.2, .int .i64 b.heal, .int .i64 b.strong.1, .int .i64 b.strong.2] 36)).alloc (.cells #[.int .i64 c.water.1, .int .i64 c.water.2, .int .i64 c.fat.1, .int .i64 c.fat.2, .int .i64 c.sore.1, .int .i64 c.sore.2, .bool c.milks] 39)).alloc (.cells #[.int .i64 0, .int .i64 0] 31)) (w.heap.size + 1) = some #[.int .i64 c.water.1, .int .i64 c.water.2, .int .i64 c.fat.1, .int .i64 c.fat.2, .int .i64 c.sore.1, .int .i64 c.sore.2, .bool c.milks] := (by repeat (first | with_reducible assumption | with_reducible apply row_here0 | with_reducible apply row_here1 | with_reducible apply row_here2 | with_reducible apply row_here3 | with_reducible apply rowSkip))
  have rcW0 : rowOf (((w.alloc (.cells #[.int .i64 b.full, .int .i64 b.fed, .int .i64 b.rest.1, .int .i64 b.rest.2, .int .i64 b.heat.1, .int .i64 b.heat.2, .int .i64 b.toil.1, .int .i64 b.toil.2, .int .i64 b.burn.1, .int .i64 b.burn.2, .int .i64 b.rub.1, .int .i64 b.rub.2, .int .i64 b.milk.1, .int .i64 b.milk.2, .int .i64 b.heal, .int .i64 b.strong.1, .int .i64 b.strong.2] 36)).alloc (.cells #[.int .i64 c.water.1, .int .i64 c.water.2, .int .i64 c.fat.1, .int .i64 c.fat.2, .int .i64 c.sore.1, .int .i64 c.sore.2, .bool c.milks] 39)).alloc (.cells #[.int .i64 0, .int .i64 0] 31)) (w.heap.size + 1 + 1) = some #[.int .i64 0, .int .i64 0] := (by repeat (first | with_reducible assumption | with_reducible apply row_here0 | with_reducible apply row_here1 | with_reducible apply row_here2 | with_reducible apply row_here3 | with_reducible apply rowSkip))
  generalize (((w.alloc (.cells #[.int .i64 b.full, .int .i64 b.fed, .int .i64 b.rest.1, .int .i64 b.rest.2, .int .i64 b.heat.1, .int .i64 b.heat.2, .int .i64 b.toil.1, .int .i64 b.toil.2, .int .i64 b.burn.1, .int .i64 b.burn.2, .int .i64 b.rub.1, .int .i64 b.rub.2, .int .i64 b.milk.1, .int .i64 b.milk.2, .int .i64 b.heal, .int .i64 b.strong.1, .int .i64 b.strong.2] 36)).alloc (.cells #[.int .i64 c.water.1, .int .i64 c.water.2, .int .i64 c.fat.1, .int .i64 c.fat.2, .int .i64 c.sore.1, .int .i64 c.sore.2, .bool c.milks] 39)).alloc (.cells #[.int .i64 0, .int .i64 0] 31)) = W0 at hW0 raW0 rbW0 rcW0 ⊢
  refine wp_drawn_list (by kernel_rfl) [5, 6, 7, 8, 9, 10, 11, 12, 13, 14, 15, 16, 17, 18, 19, 20, 21, 22, 23, 24, 25, 26, 27, 28, 29, 30, 31, 32, 33, 34, 35, 36, 37, 38, 39, 40, 41, 42, 43] (by kernel_rfl) rfl (fun ix v W => match ix with
    | 0 => v = .pointer (some ⟨w.heap.size + 1, 0, none⟩)
    | 1 => v = .pointer (some ⟨w.heap.size + 1, 0, none⟩)
    | 2 => v = .int .i64 (c.water.1)
    | 3 => v = .int .i64 (2000 * c.water.1)
    | 4 => v = .pointer (some ⟨w.heap.size, 0, none⟩)
    | 5 => v = .int .i64 (b.full)
    | 6 => v = .int .i64 (2000 * c.water.1 / b.full)
    | 7 => v = .pointer (some ⟨w.heap.size + 1, 2, none⟩)
    | 8 => v = .pointer (some ⟨w.heap.size + 1, 2, none⟩)
    | 9 => v = .int .i64 (c.fat.1)
    | 10 => v = .int .i64 (2000 * c.fat.1)
    | 11 => v = .pointer (some ⟨w.heap.size, 1, none⟩)
    | 12 => v = .int .i64 (b.fed)
    | 13 => v = .int .i64 (2000 * c.fat.1 / b.fed)
    | 14 => v = .pointer (some ⟨w.heap.size + 1, 4, none⟩)
    | 15 => v = .pointer (some ⟨w.heap.size + 1, 5, none⟩)
    | 16 => v = .int .i64 (c.sore.2)
    | 17 => v = .int .i64 (1000 - c.sore.2)
    | 18 => v = .int .i64 ((fitS b c).1)
    | 19 => v = .pointer (some ⟨w.heap.size + 1, 0, none⟩)
    | 20 => v = .pointer (some ⟨w.heap.size + 1, 1, none⟩)
    | 21 => v = .int .i64 (c.water.2)
    | 22 => v = .int .i64 (2000 * c.water.2)
    | 23 => v = .pointer (some ⟨w.heap.size, 0, none⟩)
    | 24 => v = .int .i64 (b.full)
    | 25 => v = .int .i64 ((2000 * c.water.2 + b.full - 1) / b.full)
    | 26 => v = .pointer (some ⟨w.heap.size + 1, 2, none⟩)
    | 27 => v = .pointer (some ⟨w.heap.size + 1, 3, none⟩)
    | 28 => v = .int .i64 (c.fat.2)
    | 29 => v = .int .i64 (2000 * c.fat.2)
    | 30 => v = .pointer (some ⟨w.heap.size, 1, none⟩)
    | 31 => v = .int .i64 (b.fed)
    | 32 => v = .int .i64 ((2000 * c.fat.2 + b.fed - 1) / b.fed)
    | 33 => v = .pointer (some ⟨w.heap.size + 1, 4, none⟩)
    | 34 => v = .pointer (some ⟨w.heap.size + 1, 4, none⟩)
    | 35 => v = .int .i64 (c.sore.1)
    | 36 => v = .int .i64 (1000 - c.sore.1)
    | 37 => v = .int .i64 ((fitS b c).2)
    | 38 => v = .agg #[.int .i64 (fitS b c).1, .int .i64 (fitS b c).2]
    | _ => True) ⟨?_, ?_, ?_, ?_, ?_, ?_, ?_, ?_, ?_, ?_, ?_, ?_, ?_, ?_, ?_, ?_, ?_, ?_, ?_, ?_, ?_, ?_, ?_, ?_, ?_, ?_, ?_, ?_, ?_, ?_, ?_, ?_, ?_, ?_, ?_, ?_, ?_, ?_, ?_, ?_⟩
  · intro b' W hE hb hdep K hK
    have e3 : b'.tmps[3]?.getD undef = .pointer (some ⟨w.heap.size + 1, 0, none⟩) := hb 3 (by decide)
    clear hdep hb
    go_wp2
    exact hK _ _ (Ext.refl _) rfl
  · intro b' W hE hb hdep K hK
    have e5 : b'.tmps[5]?.getD undef = .pointer (some ⟨w.heap.size + 1, 0, none⟩) := pureR (hdep 0 5 (by kernel_rfl) rfl)
    clear hdep hb
    go_wp2
    exact hK _ _ (Ext.refl _) rfl
  · intro b' W hE hb hdep K hK
    have e6 : b'.tmps[6]?.getD undef = .pointer (some ⟨w.heap.size + 1, 0, none⟩) := pureR (hdep 1 6 (by kernel_rfl) rfl)
    clear hdep hb
    obtain ⟨_, _, -, _⟩ := keep_row hE ((raW0 : rowOf _ _ = _))
    obtain ⟨_, _, -, _⟩ := keep_row hE ((rbW0 : rowOf _ _ = _))
    go_wp2
    exact hK _ _ (Ext.refl _) rfl
  · intro b' W hE hb hdep K hK
    have e7 : b'.tmps[7]?.getD undef = .int .i64 (c.water.1) := pureR (hdep 2 7 (by kernel_rfl) rfl)
    clear hdep hb
    go_wp2
    exact hK _ _ (Ext.refl _) rfl
  · intro b' W hE hb hdep K hK
    have e2 : b'.tmps[2]?.getD undef = .pointer (some ⟨w.heap.size, 0, none⟩) := hb 2 (by decide)
    clear hdep hb
    go_wp2
    exact hK _ _ (Ext.refl _) rfl
  · intro b' W hE hb hdep K hK
    have e9 : b'.tmps[9]?.getD undef = .pointer (some ⟨w.heap.size, 0, none⟩) := pureR (hdep 4 9 (by kernel_rfl) rfl)
    clear hdep hb
    obtain ⟨_, _, -, _⟩ := keep_row hE ((raW0 : rowOf _ _ = _))
    obtain ⟨_, _, -, _⟩ := keep_row hE ((rbW0 : rowOf _ _ = _))
    go_wp2
    exact hK _ _ (Ext.refl _) rfl
  · intro b' W hE hb hdep K hK
    have e8 : b'.tmps[8]?.getD undef = .int .i64 (2000 * c.water.1) := pureR (hdep 3 8 (by kernel_rfl) rfl)
    have e10 : b'.tmps[10]?.getD undef = .int .i64 (b.full) := pureR (hdep 5 10 (by kernel_rfl) rfl)
    clear hdep hb
    go_wp2
    exact hK _ _ (Ext.refl _) rfl
  · intro b' W hE hb hdep K hK
    have e3 : b'.tmps[3]?.getD undef = .pointer (some ⟨w.heap.size + 1, 0, none⟩) := hb 3 (by decide)
    clear hdep hb
    go_wp2
    exact hK _ _ (Ext.refl _) rfl
  · intro b' W hE hb hdep K hK
    have e12 : b'.tmps[12]?.getD undef = .pointer (some ⟨w.heap.size + 1, 2, none⟩) := pureR (hdep 7 12 (by kernel_rfl) rfl)
    clear hdep hb
    go_wp2
    exact hK _ _ (Ext.refl _) rfl
  · intro b' W hE hb hdep K hK
    have e13 : b'.tmps[13]?.getD undef = .pointer (some ⟨w.heap.size + 1, 2, none⟩) := pureR (hdep 8 13 (by kernel_rfl) rfl)
    clear hdep hb
    obtain ⟨_, _, -, _⟩ := keep_row hE ((raW0 : rowOf _ _ = _))
    obtain ⟨_, _, -, _⟩ := keep_row hE ((rbW0 : rowOf _ _ = _))
    go_wp2
    exact hK _ _ (Ext.refl _) rfl
  · intro b' W hE hb hdep K hK
    have e14 : b'.tmps[14]?.getD undef = .int .i64 (c.fat.1) := pureR (hdep 9 14 (by kernel_rfl) rfl)
    clear hdep hb
    go_wp2
    exact hK _ _ (Ext.refl _) rfl
  · intro b' W hE hb hdep K hK
    have e2 : b'.tmps[2]?.getD undef = .pointer (some ⟨w.heap.size, 0, none⟩) := hb 2 (by decide)
    clear hdep hb
    go_wp2
    exact hK _ _ (Ext.refl _) rfl
  · intro b' W hE hb hdep K hK
    have e16 : b'.tmps[16]?.getD undef = .pointer (some ⟨w.heap.size, 1, none⟩) := pureR (hdep 11 16 (by kernel_rfl) rfl)
    clear hdep hb
    obtain ⟨_, _, -, _⟩ := keep_row hE ((raW0 : rowOf _ _ = _))
    obtain ⟨_, _, -, _⟩ := keep_row hE ((rbW0 : rowOf _ _ = _))
    go_wp2
    exact hK _ _ (Ext.refl _) rfl
  · intro b' W hE hb hdep K hK
    have e15 : b'.tmps[15]?.getD undef = .int .i64 (2000 * c.fat.1) := pureR (hdep 10 15 (by kernel_rfl) rfl)
    have e17 : b'.tmps[17]?.getD undef = .int .i64 (b.fed) := pureR (hdep 12 17 (by kernel_rfl) rfl)
    clear hdep hb
    go_wp2
    exact hK _ _ (Ext.refl _) rfl
  · intro b' W hE hb hdep K hK
    have e3 : b'.tmps[3]?.getD undef = .pointer (some ⟨w.heap.size + 1, 0, none⟩) := hb 3 (by decide)
    clear hdep hb
    go_wp2
    exact hK _ _ (Ext.refl _) rfl
  · intro b' W hE hb hdep K hK
    have e19 : b'.tmps[19]?.getD undef = .pointer (some ⟨w.heap.size + 1, 4, none⟩) := pureR (hdep 14 19 (by kernel_rfl) rfl)
    clear hdep hb
    go_wp2
    exact hK _ _ (Ext.refl _) rfl
  · intro b' W hE hb hdep K hK
    have e20 : b'.tmps[20]?.getD undef = .pointer (some ⟨w.heap.size + 1, 5, none⟩) := pureR (hdep 15 20 (by kernel_rfl) rfl)
    clear hdep hb
    obtain ⟨_, _, -, _⟩ := keep_row hE ((raW0 : rowOf _ _ = _))
    obtain ⟨_, _, -, _⟩ := keep_row hE ((rbW0 : rowOf _ _ = _))
    go_wp2
    exact hK _ _ (Ext.refl _) rfl
  · intro b' W hE hb hdep K hK
    have e21 : b'.tmps[21]?.getD undef = .int .i64 (c.sore.2) := pureR (hdep 16 21 (by kernel_rfl) rfl)
    clear hdep hb
    go_wp2
    exact hK _ _ (Ext.refl _) rfl
  · intro b' W hE hb hdep K hK
    have e11 : b'.tmps[11]?.getD undef = .int .i64 (2000 * c.water.1 / b.full) := pureR (hdep 6 11 (by kernel_rfl) rfl)
    have e18 : b'.tmps[18]?.getD undef = .int .i64 (2000 * c.fat.1 / b.fed) := pureR (hdep 13 18 (by kernel_rfl) rfl)
    have e22 : b'.tmps[22]?.getD undef = .int .i64 (1000 - c.sore.2) := pureR (hdep 17 22 (by kernel_rfl) rfl)
    clear hdep hb
    go_wp2
    exact hK _ _ (Ext.refl _) rfl
  · intro b' W hE hb hdep K hK
    have e3 : b'.tmps[3]?.getD undef = .pointer (some ⟨w.heap.size + 1, 0, none⟩) := hb 3 (by decide)
    clear hdep hb
    go_wp2
    exact hK _ _ (Ext.refl _) rfl
  · intro b' W hE hb hdep K hK
    have e24 : b'.tmps[24]?.getD undef = .pointer (some ⟨w.heap.size + 1, 0, none⟩) := pureR (hdep 19 24 (by kernel_rfl) rfl)
    clear hdep hb
    go_wp2
    exact hK _ _ (Ext.refl _) rfl
  · intro b' W hE hb hdep K hK
    have e25 : b'.tmps[25]?.getD undef = .pointer (some ⟨w.heap.size + 1, 1, none⟩) := pureR (hdep 20 25 (by kernel_rfl) rfl)
    clear hdep hb
    obtain ⟨_, _, -, _⟩ := keep_row hE ((raW0 : rowOf _ _ = _))
    obtain ⟨_, _, -, _⟩ := keep_row hE ((rbW0 : rowOf _ _ = _))
    go_wp2
    exact hK _ _ (Ext.refl _) rfl
  · intro b' W hE hb hdep K hK
    have e26 : b'.tmps[26]?.getD undef = .int .i64 (c.water.2) := pureR (hdep 21 26 (by kernel_rfl) rfl)
    clear hdep hb
    go_wp2
    exact hK _ _ (Ext.refl _) rfl
  · intro b' W hE hb hdep K hK
    have e2 : b'.tmps[2]?.getD undef = .pointer (some ⟨w.heap.size, 0, none⟩) := hb 2 (by decide)
    clear hdep hb
    go_wp2
    exact hK _ _ (Ext.refl _) rfl
  · intro b' W hE hb hdep K hK
    have e28 : b'.tmps[28]?.getD undef = .pointer (some ⟨w.heap.size, 0, none⟩) := pureR (hdep 23 28 (by kernel_rfl) rfl)
    clear hdep hb
    obtain ⟨_, _, -, _⟩ := keep_row hE ((raW0 : rowOf _ _ = _))
    obtain ⟨_, _, -, _⟩ := keep_row hE ((rbW0 : rowOf _ _ = _))
    go_wp2
    exact hK _ _ (Ext.refl _) rfl
  · intro b' W hE hb hdep K hK
    have e27 : b'.tmps[27]?.getD undef = .int .i64 (2000 * c.water.2) := pureR (hdep 22 27 (by kernel_rfl) rfl)
    have e29 : b'.tmps[29]?.getD undef = .int .i64 (b.full) := pureR (hdep 24 29 (by kernel_rfl) rfl)
    clear hdep hb
    go_wp2_with fail
    refine (up_any _ _ _ (by omega) (by omega) (by omega) (by omega)).mono ?_
    rintro e W' ⟨rfl, hB⟩
    exact hK _ _ hB rfl
  · intro b' W hE hb hdep K hK
    have e3 : b'.tmps[3]?.getD undef = .pointer (some ⟨w.heap.size + 1, 0, none⟩) := hb 3 (by decide)
    clear hdep hb
    go_wp2
    exact hK _ _ (Ext.refl _) rfl
  · intro b' W hE hb hdep K hK
    have e31 : b'.tmps[31]?.getD undef = .pointer (some ⟨w.heap.size + 1, 2, none⟩) := pureR (hdep 26 31 (by kernel_rfl) rfl)
    clear hdep hb
    go_wp2
    exact hK _ _ (Ext.refl _) rfl
  · intro b' W hE hb hdep K hK
    have e32 : b'.tmps[32]?.getD undef = .pointer (some ⟨w.heap.size + 1, 3, none⟩) := pureR (hdep 27 32 (by kernel_rfl) rfl)
    clear hdep hb
    obtain ⟨_, _, -, _⟩ := keep_row hE ((raW0 : rowOf _ _ = _))
    obtain ⟨_, _, -, _⟩ := keep_row hE ((rbW0 : rowOf _ _ = _))
    go_wp2
    exact hK _ _ (Ext.refl _) rfl
  · intro b' W hE hb hdep K hK
    have e33 : b'.tmps[33]?.getD undef = .int .i64 (c.fat.2) := pureR (hdep 28 33 (by kernel_rfl) rfl)
    clear hdep hb
    go_wp2
    exact hK _ _ (Ext.refl _) rfl
  · intro b' W hE hb hdep K hK
    have e2 : b'.tmps[2]?.getD undef = .pointer (some ⟨w.heap.size, 0, none⟩) := hb 2 (by decide)
    clear hdep hb
    go_wp2
    exact hK _ _ (Ext.refl _) rfl
  · intro b' W hE hb hdep K hK
    have e35 : b'.tmps[35]?.getD undef = .pointer (some ⟨w.heap.size, 1, none⟩) := pureR (hdep 30 35 (by kernel_rfl) rfl)
    clear hdep hb
    obtain ⟨_, _, -, _⟩ := keep_row hE ((raW0 : rowOf _ _ = _))
    obtain ⟨_, _, -, _⟩ := keep_row hE ((rbW0 : rowOf _ _ = _))
    go_wp2
    exact hK _ _ (Ext.refl _) rfl
  · intro b' W hE hb hdep K hK
    have e34 : b'.tmps[34]?.getD undef = .int .i64 (2000 * c.fat.2) := pureR (hdep 29 34 (by kernel_rfl) rfl)
    have e36 : b'.tmps[36]?.getD undef = .int .i64 (b.fed) := pureR (hdep 31 36 (by kernel_rfl) rfl)
    clear hdep hb
    go_wp2_with fail
    refine (up_any _ _ _ (by omega) (by omega) (by omega) (by omega)).mono ?_
    rintro e W' ⟨rfl, hB⟩
    exact hK _ _ hB rfl
  · intro b' W hE hb hdep K hK
    have e3 : b'.tmps[3]?.getD undef = .pointer (some ⟨w.heap.size + 1, 0, none⟩) := hb 3 (by decide)
    clear hdep hb
    go_wp2
    exact hK _ _ (Ext.refl _) rfl
  · intro b' W hE hb hdep K hK
    have e38 : b'.tmps[38]?.getD undef = .pointer (some ⟨w.heap.size + 1, 4, none⟩) := pureR (hdep 33 38 (by kernel_rfl) rfl)
    clear hdep hb
    go_wp2
    exact hK _ _ (Ext.refl _) rfl
  · intro b' W hE hb hdep K hK
    have e39 : b'.tmps[39]?.getD undef = .pointer (some ⟨w.heap.size + 1, 4, none⟩) := pureR (hdep 34 39 (by kernel_rfl) rfl)
    clear hdep hb
    obtain ⟨_, _, -, _⟩ := keep_row hE ((raW0 : rowOf _ _ = _))
    obtain ⟨_, _, -, _⟩ := keep_row hE ((rbW0 : rowOf _ _ = _))
    go_wp2
    exact hK _ _ (Ext.refl _) rfl
  · intro b' W hE hb hdep K hK
    have e40 : b'.tmps[40]?.getD undef = .int .i64 (c.sore.1) := pureR (hdep 35 40 (by kernel_rfl) rfl)
    clear hdep hb
    go_wp2
    exact hK _ _ (Ext.refl _) rfl
  · intro b' W hE hb hdep K hK
    have e30 : b'.tmps[30]?.getD undef = .int .i64 ((2000 * c.water.2 + b.full - 1) / b.full) := pureR (hdep 25 30 (by kernel_rfl) rfl)
    have e37 : b'.tmps[37]?.getD undef = .int .i64 ((2000 * c.fat.2 + b.fed - 1) / b.fed) := pureR (hdep 32 37 (by kernel_rfl) rfl)
    have e41 : b'.tmps[41]?.getD undef = .int .i64 (1000 - c.sore.1) := pureR (hdep 36 41 (by kernel_rfl) rfl)
    clear hdep hb
    go_wp2
    exact hK _ _ (Ext.refl _) rfl
  · intro b' W hE hb hdep K hK
    have e23 : b'.tmps[23]?.getD undef = .int .i64 ((fitS b c).1) := pureR (hdep 18 23 (by kernel_rfl) rfl)
    have e42 : b'.tmps[42]?.getD undef = .int .i64 ((fitS b c).2) := pureR (hdep 37 42 (by kernel_rfl) rfl)
    clear hdep hb
    go_wp2
    exact hK _ _ (Ext.refl _) rfl
  intro f W hE hR
  have e5 : f 5 = .pointer (some ⟨w.heap.size + 1, 0, none⟩) := pureR (hR 0 5 rfl)
  have e6 : f 6 = .pointer (some ⟨w.heap.size + 1, 0, none⟩) := pureR (hR 1 6 rfl)
  have e7 : f 7 = .int .i64 (c.water.1) := pureR (hR 2 7 rfl)
  have e8 : f 8 = .int .i64 (2000 * c.water.1) := pureR (hR 3 8 rfl)
  have e9 : f 9 = .pointer (some ⟨w.heap.size, 0, none⟩) := pureR (hR 4 9 rfl)
  have e10 : f 10 = .int .i64 (b.full) := pureR (hR 5 10 rfl)
  have e11 : f 11 = .int .i64 (2000 * c.water.1 / b.full) := pureR (hR 6 11 rfl)
  have e12 : f 12 = .pointer (some ⟨w.heap.size + 1, 2, none⟩) := pureR (hR 7 12 rfl)
  have e13 : f 13 = .pointer (some ⟨w.heap.size + 1, 2, none⟩) := pureR (hR 8 13 rfl)
  have e14 : f 14 = .int .i64 (c.fat.1) := pureR (hR 9 14 rfl)
  have e15 : f 15 = .int .i64 (2000 * c.fat.1) := pureR (hR 10 15 rfl)
  have e16 : f 16 = .pointer (some ⟨w.heap.size, 1, none⟩) := pureR (hR 11 16 rfl)
  have e17 : f 17 = .int .i64 (b.fed) := pureR (hR 12 17 rfl)
  have e18 : f 18 = .int .i64 (2000 * c.fat.1 / b.fed) := pureR (hR 13 18 rfl)
  have e19 : f 19 = .pointer (some ⟨w.heap.size + 1, 4, none⟩) := pureR (hR 14 19 rfl)
  have e20 : f 20 = .pointer (some ⟨w.heap.size + 1, 5, none⟩) := pureR (hR 15 20 rfl)
  have e21 : f 21 = .int .i64 (c.sore.2) := pureR (hR 16 21 rfl)
  have e22 : f 22 = .int .i64 (1000 - c.sore.2) := pureR (hR 17 22 rfl)
  have e23 : f 23 = .int .i64 ((fitS b c).1) := pureR (hR 18 23 rfl)
  have e24 : f 24 = .pointer (some ⟨w.heap.size + 1, 0, none⟩) := pureR (hR 19 24 rfl)
  have e25 : f 25 = .pointer (some ⟨w.heap.size + 1, 1, none⟩) := pureR (hR 20 25 rfl)
  have e26 : f 26 = .int .i64 (c.water.2) := pureR (hR 21 26 rfl)
  have e27 : f 27 = .int .i64 (2000 * c.water.2) := pureR (hR 22 27 rfl)
  have e28 : f 28 = .pointer (some ⟨w.heap.size, 0, none⟩) := pureR (hR 23 28 rfl)
  have e29 : f 29 = .int .i64 (b.full) := pureR (hR 24 29 rfl)
  have e30 : f 30 = .int .i64 ((2000 * c.water.2 + b.full - 1) / b.full) := pureR (hR 25 30 rfl)
  have e31 : f 31 = .pointer (some ⟨w.heap.size + 1, 2, none⟩) := pureR (hR 26 31 rfl)
  have e32 : f 32 = .pointer (some ⟨w.heap.size + 1, 3, none⟩) := pureR (hR 27 32 rfl)
  have e33 : f 33 = .int .i64 (c.fat.2) := pureR (hR 28 33 rfl)
  have e34 : f 34 = .int .i64 (2000 * c.fat.2) := pureR (hR 29 34 rfl)
  have e35 : f 35 = .pointer (some ⟨w.heap.size, 1, none⟩) := pureR (hR 30 35 rfl)
  have e36 : f 36 = .int .i64 (b.fed) := pureR (hR 31 36 rfl)
  have e37 : f 37 = .int .i64 ((2000 * c.fat.2 + b.fed - 1) / b.fed) := pureR (hR 32 37 rfl)
  have e38 : f 38 = .pointer (some ⟨w.heap.size + 1, 4, none⟩) := pureR (hR 33 38 rfl)
  have e39 : f 39 = .pointer (some ⟨w.heap.size + 1, 4, none⟩) := pureR (hR 34 39 rfl)
  have e40 : f 40 = .int .i64 (c.sore.1) := pureR (hR 35 40 rfl)
  have e41 : f 41 = .int .i64 (1000 - c.sore.1) := pureR (hR 36 41 rfl)
  have e42 : f 42 = .int .i64 ((fitS b c).2) := pureR (hR 37 42 rfl)
  have e43 : f 43 = .agg #[.int .i64 (fitS b c).1, .int .i64 (fitS b c).2] := pureR (hR 38 43 rfl)
  clear hR
  refine wpL_store_known rfl 31 (.tmp 4) (.tmp 43) rfl (vs := #[.int .i64 (fitS b c).1, .int .i64 (fitS b c).2]) (h := w.heap.size + 1 + 1) ((puts_eval (by decide) rfl).trans e43) (puts_other (by decide)) (hE.row ((rowOf_drew _ _).trans rcW0)) (by kernel_rfl) rfl (by simp [one_int, one_bool]) ?_
  intro W4 hS
  simp only [puts, Act.put, List.setIfInBounds_toArray, List.set_cons_succ, List.set_cons_zero, e5, e6, e7, e8, e9, e10, e11, e12, e13, e14, e15, e16, e17, e18, e19, e20, e21, e22, e23, e24, e25, e26, e27, e28, e29, e30, e31, e32, e33, e34, e35, e36, e37, e38, e39, e40, e41, e42, e43]
  have zE := hE.size
  simp only [World.size_alloc, World.size_drew] at zE
  obtain ⟨rhW4, chW4, ghW4, zhW4⟩ := row_facts hS.row
  have hW4 : Below w.heap.size w W4 := ((drew_ext hE).below (by have := hW0.size; go_grown) (by have := hW0.size; simp; try omega)).trans (hS.below _ (by omega))
  have zW4 := hW4.size
  clear hS hE zE
  go_wp2
  exact bodyPost_ret (res31 Try.results68 rfl rhW4 rfl) rfl ⟨rfl, hW4⟩
end Go.Proofs.Ytafdcbdbllpcnaa
/- Contracts of the reference's CheckBreed, Camel, CheckCamel, Fitness and Carries. -/
namespace Go.Proofs.Ytafdcbdbllpcnaa
open Go.RowKit
open Go.Proofs

attribute [local go_sem ↓] exec36l exec112l exec36s exec112s exec31s run_min2 run_max2
attribute [local go_sem] load36 load112 store36 store112 store31 build112 rowOf_alloc rowOf_drew setRow_alloc one_int one_bool run_min4

theorem rBreed_okB (b : Br) (x : Bool) (hx : okB b = x) (w : World) :
    Calls Try.prog 71 #[.agg #[.int .i64 b.full, .int .i64 b.fed, .int .i64 b.rest.1, .int .i64 b.rest.2, .int .i64 b.heat.1, .int .i64 b.heat.2, .int .i64 b.toil.1, .int .i64 b.toil.2, .int .i64 b.burn.1, .int .i64 b.burn.2, .int .i64 b.rub.1, .int .i64 b.rub.2, .int .i64 b.milk.1, .int .i64 b.milk.2, .int .i64 b.heal, .int .i64 b.strong.1, .int .i64 b.strong.2]] w fun e w' => e = .returned (.bool x) ∧ Below w.heap.size w w' := by
  subst hx; rw [← refB_eq]; exact rBreed_any b w

set_option maxHeartbeats 1000000 in
theorem rCheckBreed_any (b : Br) (w : World) :
    Calls Try.prog 32 #[.agg #[.int .i64 b.full, .int .i64 b.fed, .int .i64 b.rest.1, .int .i64 b.rest.2, .int .i64 b.heat.1, .int .i64 b.heat.2, .int .i64 b.toil.1, .int .i64 b.toil.2, .int .i64 b.burn.1, .int .i64 b.burn.2, .int .i64 b.rub.1, .int .i64 b.rub.2, .int .i64 b.milk.1, .int .i64 b.milk.2, .int .i64 b.heal, .int .i64 b.strong.1, .int .i64 b.strong.2]] w fun e w' => e = .returned (.int .i64 (if okB b = true then 0 else 10)) ∧ Below w.heap.size w w' := by
  cases hb : okB b
  all_goals
    have H := Lib.hid hb
    clear hb
    simp only [Bool.false_eq_true, if_false, if_true]
    go_enter Try.func32, Try.ntmps32
    go_wp2_with fail
    refine (rBreed_okB b _ H.out _).mono ?_
    rintro e W ⟨rfl, hB⟩
    have hw : Below w.heap.size w W := Below.trans (by go_grown) (hB.mono (by go_size))
    clear hB
    go_wp2
    go_returns
    exact ⟨rfl, hw⟩

set_option maxHeartbeats 2000000 in
theorem rCamel_any (b : Br) (c : Cm) (w : World) :
    Calls Try.prog 47 #[.agg #[.int .i64 b.full, .int .i64 b.fed, .int .i64 b.rest.1, .int .i64 b.rest.2, .int .i64 b.heat.1, .int .i64 b.heat.2, .int .i64 b.toil.1, .int .i64 b.toil.2, .int .i64 b.burn.1, .int .i64 b.burn.2, .int .i64 b.rub.1, .int .i64 b.rub.2, .int .i64 b.milk.1, .int .i64 b.milk.2, .int .i64 b.heal, .int .i64 b.strong.1, .int .i64 b.strong.2], .agg #[.int .i64 c.water.1, .int .i64 c.water.2, .int .i64 c.fat.1, .int .i64 c.fat.2, .int .i64 c.sore.1, .int .i64 c.sore.2, .bool c.milks]] w fun e w' => e = .returned (.bool (okC b c)) ∧ Below w.heap.size w w' := by
  go_enter Try.func47, Try.ntmps47
  go_wp2_with (go_at_call 81; refine (spanned_any _ _ _).mono ?_; rintro e W ⟨rfl, hB⟩; obtain ⟨r1, c1, -, s1⟩ := keep_row hB (g := w.heap.size) (by repeat (first | with_reducible assumption | with_reducible apply row_here0 | with_reducible apply row_here1 | with_reducible apply row_here2 | with_reducible apply row_here3 | with_reducible apply rowSkip)); obtain ⟨r2, c2, -, s2⟩ := keep_row hB (g := w.heap.size + 1) (by repeat (first | with_reducible assumption | with_reducible apply row_here0 | with_reducible apply row_here1 | with_reducible apply row_here2 | with_reducible apply row_here3 | with_reducible apply rowSkip)); have hw : Below w.heap.size w W := Below.trans (by go_grown) (hB.mono (by go_size)); clear hB)
  all_goals go_returns
  all_goals refine ⟨ret_bool ?_, by first | assumption | go_grown⟩
  all_goals try simp only [Bool.not_eq_true', Bool.not_eq_false', Bool.not_eq_true] at *
  all_goals simp [okC, *]

theorem rCamel_okC (b : Br) (c : Cm) (x : Bool) (hx : okC b c = x) (w : World) :
    Calls Try.prog 47 #[.agg #[.int .i64 b.full, .int .i64 b.fed, .int .i64 b.rest.1, .int .i64 b.rest.2, .int .i64 b.heat.1, .int .i64 b.heat.2, .int .i64 b.toil.1, .int .i64 b.toil.2, .int .i64 b.burn.1, .int .i64 b.burn.2, .int .i64 b.rub.1, .int .i64 b.rub.2, .int .i64 b.milk.1, .int .i64 b.milk.2, .int .i64 b.heal, .int .i64 b.strong.1, .int .i64 b.strong.2], .agg #[.int .i64 c.water.1, .int .i64 c.water.2, .int .i64 c.fat.1, .int .i64 c.fat.2, .int .i64 c.sore.1, .int .i64 c.sore.2, .bool c.milks]] w fun e w' => e = .returned (.bool x) ∧ Below w.heap.size w w' := by
  subst hx; exact rCamel_any b c w

set_option maxHeartbeats 2000000 in
theorem rCheckCamel_any (b : Br) (c : Cm) (w : World) :
    Calls Try.prog 34 #[.agg #[.int .i64 b.full, .int .i64 b.fed, .int .i64 b.rest.1, .int .i64 b.rest.2, .int .i64 b.heat.1, .int .i64 b.heat.2, .int .i64 b.toil.1, .int .i64 b.toil.2, .int .i64 b.burn.1, .int .i64 b.burn.2, .int .i64 b.rub.1, .int .i64 b.rub.2, .int .i64 b.milk.1, .int .i64 b.milk.2, .int .i64 b.heal, .int .i64 b.strong.1, .int .i64 b.strong.2], .agg #[.int .i64 c.water.1, .int .i64 c.water.2, .int .i64 c.fat.1, .int .i64 c.fat.2, .int .i64 c.sore.1, .int .i64 c.sore.2, .bool c.milks]] w fun e w' => e = .returned (.int .i64 (chkC b c)) ∧ Below w.heap.size w w' := by
  cases hb : okB b with
  | false =>
    have hv : chkC b c = 10 := by simp [chkC, hb]
    rw [hv]
    have H := Lib.hid hb
    clear hb hv
    go_enter Try.func34, Try.ntmps34
    go_wp2_with fail
    refine (rBreed_okB b _ H.out _).mono ?_
    rintro e W ⟨rfl, hB⟩
    have hw : Below w.heap.size w W := Below.trans (by go_grown) (hB.mono (by go_size))
    clear hB
    go_wp2
    go_returns
    exact ⟨rfl, hw⟩
  | true =>
    cases hc : okC b c
    all_goals
      obtain ⟨x, hx⟩ : ∃ x, chkC b c = x := ⟨_, rfl⟩
      have hx' := hx
      simp only [chkC, hb, hc, if_true, Bool.false_eq_true, if_false] at hx'
      rw [hx, ← hx']
      have H := Lib.hid hb
      have H2 := Lib.hid hc
      clear hb hc hx hx'
      go_enter Try.func34, Try.ntmps34
      go_wp2_with fail
      refine (rBreed_okB b _ H.out _).mono ?_
      rintro e W1 ⟨rfl, hB⟩
      have hW1 : Below w.heap.size w W1 := Below.trans (by go_grown) (hB.mono (by simp; try omega))
      have zW1 := hW1.size
      obtain ⟨raW1, caW1, gaW1, zaW1⟩ := keep_row hB (g := w.heap.size) (by repeat (first | with_reducible assumption | with_reducible apply row_here0 | with_reducible apply row_here1 | with_reducible apply row_here2 | with_reducible apply row_here3 | with_reducible apply rowSkip))
      obtain ⟨rbW1, cbW1, gbW1, zbW1⟩ := keep_row hB (g := w.heap.size + 1) (by repeat (first | with_reducible assumption | with_reducible apply row_here0 | with_reducible apply row_here1 | with_reducible apply row_here2 | with_reducible apply row_here3 | with_reducible apply rowSkip))
      clear hB
      go_wp2_with fail
      refine (rCamel_okC b c _ H2.out _).mono ?_
      rintro e W2 ⟨rfl, hB⟩
      have hW2 : Below w.heap.size w W2 := hW1.trans (Below.trans (by have := hW1.size; go_grown) (hB.mono (by have := hW1.size; simp; try omega)))
      have zW2 := hW2.size
      clear hB
      go_wp2
      go_returns
      exact ⟨rfl, hW2⟩

set_option maxHeartbeats 4000000 in
theorem rFitness_any (b : Br) (c : Cm) (w : World) :
    Calls Try.prog 27 #[.agg #[.int .i64 b.full, .int .i64 b.fed, .int .i64 b.rest.1, .int .i64 b.rest.2, .int .i64 b.heat.1, .int .i64 b.heat.2, .int .i64 b.toil.1, .int .i64 b.toil.2, .int .i64 b.burn.1, .int .i64 b.burn.2, .int .i64 b.rub.1, .int .i64 b.rub.2, .int .i64 b.milk.1, .int .i64 b.milk.2, .int .i64 b.heal, .int .i64 b.strong.1, .int .i64 b.strong.2], .agg #[.int .i64 c.water.1, .int .i64 c.water.2, .int .i64 c.fat.1, .int .i64 c.fat.2, .int .i64 c.sore.1, .int .i64 c.sore.2, .bool c.milks]] w fun e w' => e = .returned (.tuple #[.agg #[.int .i64 (fitR b c).1, .int .i64 (fitR b c).2], .int .i64 (chkC b c)]) ∧ Below w.heap.size w w' := by
  by_cases h0 : chkC b c = 0
  · obtain ⟨hb, hc⟩ := chkC_ok h0
    have hv : fitR b c = fitS b c := by rw [fitR, if_pos h0]
    rw [hv, h0]
    have hcall := fun w => rCheckCamel_any b c w
    simp only [h0] at hcall
    have HC := Lib.hid hcall
    clear hcall hv h0
    go_enter Try.func27, Try.ntmps27
    go_wp2_with fail
    refine (HC.out _).mono ?_
    rintro e W1 ⟨rfl, hB⟩
    have hW1 : Below w.heap.size w W1 := Below.trans (by go_grown) (hB.mono (by simp; try omega))
    have zW1 := hW1.size
    obtain ⟨raW1, caW1, gaW1, zaW1⟩ := keep_row hB (g := w.heap.size) (by repeat (first | with_reducible assumption | with_reducible apply row_here0 | with_reducible apply row_here1 | with_reducible apply row_here2 | with_reducible apply row_here3 | with_reducible apply rowSkip))
    obtain ⟨rbW1, cbW1, gbW1, zbW1⟩ := keep_row hB (g := w.heap.size + 1) (by repeat (first | with_reducible assumption | with_reducible apply row_here0 | with_reducible apply row_here1 | with_reducible apply row_here2 | with_reducible apply row_here3 | with_reducible apply rowSkip))
    obtain ⟨rcW1, ccW1, gcW1, zcW1⟩ := keep_row hB (g := w.heap.size + 1 + 1) (by repeat (first | with_reducible assumption | with_reducible apply row_here0 | with_reducible apply row_here1 | with_reducible apply row_here2 | with_reducible apply row_here3 | with_reducible apply rowSkip))
    clear hB
    go_wp2_with fail
    refine (rfitness_any b c _ hb hc).mono ?_
    rintro e W3 ⟨rfl, hB⟩
    have hW3 : Below w.heap.size w W3 := hW1.trans (Below.trans (by have := hW1.size; go_grown) (hB.mono (by have := hW1.size; simp; try omega)))
    have zW3 := hW3.size
    obtain ⟨rcW3, ccW3, gcW3, zcW3⟩ := keep_row hB (g := w.heap.size + 1 + 1) (by repeat (first | with_reducible assumption | with_reducible apply row_here0 | with_reducible apply row_here1 | with_reducible apply row_here2 | with_reducible apply row_here3 | with_reducible apply rowSkip))
    clear hB
    go_wp2
    exact bodyPost_ret (results_row2 Try.results27 rfl (stored_setRow rcW3 _).row rfl (v := .int .i64 0) rfl) rfl ⟨rfl, Below_setRow hW3 (by omega) _⟩
  · have hv : fitR b c = (0, 0) := by rw [fitR, if_neg h0]
    rw [hv]
    obtain ⟨x, hx⟩ : ∃ x, chkC b c = x := ⟨_, rfl⟩
    rw [hx] at h0
    have hcall := fun w => rCheckCamel_any b c w
    simp only [hx] at hcall ⊢
    have HC := Lib.hid hcall
    have hne : (x == 0) = false := by simpa using h0
    clear hcall hv h0 hx
    go_enter Try.func27, Try.ntmps27
    go_wp2_with fail
    refine (HC.out _).mono ?_
    rintro e W1 ⟨rfl, hB⟩
    have hW1 : Below w.heap.size w W1 := Below.trans (by go_grown) (hB.mono (by simp; try omega))
    have zW1 := hW1.size
    obtain ⟨raW1, caW1, gaW1, zaW1⟩ := keep_row hB (g := w.heap.size) (by repeat (first | with_reducible assumption | with_reducible apply row_here0 | with_reducible apply row_here1 | with_reducible apply row_here2 | with_reducible apply row_here3 | with_reducible apply rowSkip))
    obtain ⟨rbW1, cbW1, gbW1, zbW1⟩ := keep_row hB (g := w.heap.size + 1) (by repeat (first | with_reducible assumption | with_reducible apply row_here0 | with_reducible apply row_here1 | with_reducible apply row_here2 | with_reducible apply row_here3 | with_reducible apply rowSkip))
    obtain ⟨rcW1, ccW1, gcW1, zcW1⟩ := keep_row hB (g := w.heap.size + 1 + 1) (by repeat (first | with_reducible assumption | with_reducible apply row_here0 | with_reducible apply row_here1 | with_reducible apply row_here2 | with_reducible apply row_here3 | with_reducible apply rowSkip))
    clear hB
    go_wp2
    exact bodyPost_ret (results_row2 Try.results27 rfl (stored_setRow rcW1 _).row rfl (v := .int .i64 x) rfl) rfl ⟨rfl, Below_setRow hW1 (by omega) _⟩

end Go.Proofs.Ytafdcbdbllpcnaa
