/- Contract of package camel's after: an animal at work in the evening of a valid day, and its fate. -/
import Derived.Test.YtafdcbdbllpcnaaLeafJ
import Derived.Test.YtafdcbdbllpcnaaPart
import Derived.Deep.QuietTactic
import Derived.BigQuiet
set_option linter.unusedVariables false
set_option linter.unusedSimpArgs false
namespace Go.Proofs.Ytafdcbdbllpcnaa
open Go.RowKit
open Go.Proofs

attribute [local go_sem ↓] exec36l exec112l exec36s exec112s exec31s run_min2 run_max2
attribute [local go_sem] load36 load112 store36 store112 store31 build112 rowOf_alloc rowOf_drew setRow_alloc one_int one_bool run_min4

theorem exec110s : ∀ ρ dst x y ty pos after guard, execOp ρ { dst, op := .store 110 x y, type := ty, pos, after, guard } = wideStore 110 (ρ x) (ρ y) := execOp_wideStore 110
theorem info110 : (Try.prog.info? 110).map (·.size) = some 6 := by kernel_rfl
theorem store110 (g : Nat) (vs : Array Value) (w : World) : (wideStore 110 (.pointer (some ⟨g, 0, none⟩)) (.agg vs)).run Try.prog w = match rowOf w g with
      | some cs => if cs.size = 6 ∧ vs.size = 6 ∧ vs.all (·.oneCell') = true then .ok .skip (w.setRow g vs) else wideStoreElse Try.prog 110 g (.agg vs) w
      | none => wideStoreElse Try.prog 110 g (.agg vs) w := run_wideStore (P := Try.prog) 6 info110 g vs w
theorem build112z (w : World) : (Instr.build 112 #[]).run Try.prog w = .ok (.agg #[.int .i64 0, .int .i64 0, .int .i64 0, .int .i64 0, .int .i64 0, .int .i64 0, .int .i64 0, .int .i64 0, .int .i64 0, .int .i64 0, .int .i64 0, .int .i64 0, .int .i64 0, .int .i64 0, .int .i64 0, .int .i64 0, .int .i64 0, .int .i64 0, .int .i64 0, .int .i64 0, .int .i64 0, .int .i64 0, .int .i64 0, .bool false]) w := by kernel_rfl
attribute [local go_sem ↓] exec110s
attribute [local go_sem] store110 build112z

/-- An animal at work in the evening: nothing, if it died. -/
def aftW (b : Br) (c : Cm) (m : Mr) : Array Value := if diesS b c m = true then #[.int .i64 0, .int .i64 0, .int .i64 0, .int .i64 0, .int .i64 0, .int .i64 0, .int .i64 0, .int .i64 0, .int .i64 0, .int .i64 0, .int .i64 0, .int .i64 0, .int .i64 0, .int .i64 0, .int .i64 0, .int .i64 0, .int .i64 0, .int .i64 0, .int .i64 0, .int .i64 0, .int .i64 0, .int .i64 0, .int .i64 0, .bool false] else #[.int .i64 b.full, .int .i64 b.fed, .int .i64 b.rest.1, .int .i64 b.rest.2, .int .i64 b.heat.1, .int .i64 b.heat.2, .int .i64 b.toil.1, .int .i64 b.toil.2, .int .i64 b.burn.1, .int .i64 b.burn.2, .int .i64 b.rub.1, .int .i64 b.rub.2, .int .i64 b.milk.1, .int .i64 b.milk.2, .int .i64 b.heal, .int .i64 b.strong.1, .int .i64 b.strong.2, .int .i64 (eveC b c m).water.1, .int .i64 (eveC b c m).water.2, .int .i64 (eveC b c m).fat.1, .int .i64 (eveC b c m).fat.2, .int .i64 (eveC b c m).sore.1, .int .i64 (eveC b c m).sore.2, .bool (eveC b c m).milks]

theorem results112_2 {fn : Func} {p q : Tmp} (h : fn.results = #[.cell p 112, .tmp q]) {tmps : Array Value} {w : World} {g : Nat} (hp : tmps.getD p undef = .pointer (some ⟨g, 0, none⟩)) {cs : Array Value} (hg : rowOf w g = some cs) (hs : cs.size = 24) {v : Value} (hq : tmps.getD q undef = v) :
    (results fn tmps).run Try.prog w = .ok (.tuple #[.agg cs, v]) w := by
  obtain ⟨t', hg'⟩ := rowOf_some hg
  have hp' : tmps[p]?.getD undef = .pointer (some ⟨g, 0, none⟩) := by simpa using hp
  have hq' : tmps[q]?.getD undef = v := by simpa using hq
  have hl := run_loadVar_row (P := Try.prog) w g t' 112 cs (0, 0) _ hg' Try.underlying112 rfl (by rw [hs]; exact info112)
  simp [results, h, hp', hq', asAddr, hl]

theorem rowOf_drewN (w : World) (n g : Nat) : rowOf (w.drewN n) g = rowOf w g := rfl
attribute [local go_sem] rowOf_drewN
theorem ls_n (s : Int × Int) (n : Int) (w : World) (h1 : -1000000000000000 ≤ s.1 - n) (h2 : s.1 - n ≤ 1000000000000000) (h3 : -1000000000000000 ≤ s.2 - n) (h4 : s.2 - n ≤ 1000000000000000) :
    Calls Try.prog 87 #[.agg #[.int .i64 s.1, .int .i64 s.2], .agg #[.int .i64 n, .int .i64 n]] w fun e w' => e = .returned (.agg #[.int .i64 (ls s (n, n)).1, .int .i64 (ls s (n, n)).2]) ∧ Below w.heap.size w w' :=
  less_any s.1 s.2 n n w h1 h2 h3 h4
theorem aftW_dies {b : Br} {c : Cm} {m : Mr} (h : diesS b c m = true) : aftW b c m = #[.int .i64 0, .int .i64 0, .int .i64 0, .int .i64 0, .int .i64 0, .int .i64 0, .int .i64 0, .int .i64 0, .int .i64 0, .int .i64 0, .int .i64 0, .int .i64 0, .int .i64 0, .int .i64 0, .int .i64 0, .int .i64 0, .int .i64 0, .int .i64 0, .int .i64 0, .int .i64 0, .int .i64 0, .int .i64 0, .int .i64 0, .bool false] ∧ fateS b c m = 2 := by simp [aftW, fateS, h]
theorem aftW_lives {b : Br} {c : Cm} {m : Mr} (h : diesS b c m = false) : aftW b c m = #[.int .i64 b.full, .int .i64 b.fed, .int .i64 b.rest.1, .int .i64 b.rest.2, .int .i64 b.heat.1, .int .i64 b.heat.2, .int .i64 b.toil.1, .int .i64 b.toil.2, .int .i64 b.burn.1, .int .i64 b.burn.2, .int .i64 b.rub.1, .int .i64 b.rub.2, .int .i64 b.milk.1, .int .i64 b.milk.2, .int .i64 b.heal, .int .i64 b.strong.1, .int .i64 b.strong.2, .int .i64 (eveC b c m).water.1, .int .i64 (eveC b c m).water.2, .int .i64 (eveC b c m).fat.1, .int .i64 (eveC b c m).fat.2, .int .i64 (eveC b c m).sore.1, .int .i64 (eveC b c m).sore.2, .bool (eveC b c m).milks] ∧ fateS b c m = if openS b c m = true then 1 else 0 := by simp [aftW, fateS, h]

set_option maxRecDepth 100000 in
set_option maxHeartbeats 8000000 in
theorem after_any (b : Br) (c : Cm) (m : Mr) (w : World) (hb : BdB b) (hc : BdC b c) (hm : BdM m) :
    Calls Try.prog 65 #[.agg #[.int .i64 b.full, .int .i64 b.fed, .int .i64 b.rest.1, .int .i64 b.rest.2, .int .i64 b.heat.1, .int .i64 b.heat.2, .int .i64 b.toil.1, .int .i64 b.toil.2, .int .i64 b.burn.1, .int .i64 b.burn.2, .int .i64 b.rub.1, .int .i64 b.rub.2, .int .i64 b.milk.1, .int .i64 b.milk.2, .int .i64 b.heal, .int .i64 b.strong.1, .int .i64 b.strong.2, .int .i64 c.water.1, .int .i64 c.water.2, .int .i64 c.fat.1, .int .i64 c.fat.2, .int .i64 c.sore.1, .int .i64 c.sore.2, .bool c.milks], .agg #[.int .i64 m.hours, .int .i64 m.load, .int .i64 m.heat.1, .int .i64 m.heat.2, .int .i64 m.grass.1, .int .i64 m.grass.2, .int .i64 m.drinks.1, .int .i64 m.drinks.2]] w fun e w' => e = .returned (.tuple #[.agg (aftW b c m), .int .u8 (fateS b c m)]) ∧ Below w.heap.size w w' := by
  obtain ⟨ra, hra⟩ : ∃ r, aftW b c m = r := ⟨_, rfl⟩
  obtain ⟨rf, hrf⟩ : ∃ r, fateS b c m = r := ⟨_, rfl⟩
  rw [hra, hrf]
  have HA := Lib.hid hra
  have HF := Lib.hid hrf
  have HB := Lib.hid hb
  have HC := Lib.hid hc
  have HM := Lib.hid hm
  clear hra hrf hb hc hm
  go_enter Try.func65, Try.ntmps65
  go_wp2_with fail
  refine (cost_any b c m _ HB.out HM.out).mono ?_
  rintro e W1 ⟨rfl, hB⟩
  have hW1 : Below w.heap.size w W1 := Below.trans (by go_grown) (hB.mono (by simp; try omega))
  have zW1 := hW1.size
  obtain ⟨raW1, caW1, gaW1, zaW1⟩ := keep_row hB (g := w.heap.size) (by repeat (first | with_reducible assumption | with_reducible apply row_here0 | with_reducible apply row_here1 | with_reducible apply row_here2 | with_reducible apply row_here3 | with_reducible apply rowSkip))
  obtain ⟨rbW1, cbW1, gbW1, zbW1⟩ := keep_row hB (g := w.heap.size + 1) (by repeat (first | with_reducible assumption | with_reducible apply row_here0 | with_reducible apply row_here1 | with_reducible apply row_here2 | with_reducible apply row_here3 | with_reducible apply rowSkip))
  obtain ⟨rcW1, ccW1, gcW1, zcW1⟩ := keep_row hB (g := w.heap.size + 1 + 1) (by repeat (first | with_reducible assumption | with_reducible apply row_here0 | with_reducible apply row_here1 | with_reducible apply row_here2 | with_reducible apply row_here3 | with_reducible apply rowSkip))
  clear hB
  go_wp2_with fail
  have hW2 : Below w.heap.size w (W1.alloc (.cells #[.int .i64 (waS b c.milks m).1, .int .i64 (waS b c.milks m).2, .int .i64 (faS b m).1, .int .i64 (faS b m).2, .int .i64 (soS b m).1, .int .i64 (soS b m).2] 110)) := by go_grown
  have raW2 : rowOf (W1.alloc (.cells #[.int .i64 (waS b c.milks m).1, .int .i64 (waS b c.milks m).2, .int .i64 (faS b m).1, .int .i64 (faS b m).2, .int .i64 (soS b m).1, .int .i64 (soS b m).2] 110)) w.heap.size = some #[.int .i64 b.full, .int .i64 b.fed, .int .i64 b.rest.1, .int .i64 b.rest.2, .int .i64 b.heat.1, .int .i64 b.heat.2, .int .i64 b.toil.1, .int .i64 b.toil.2, .int .i64 b.burn.1, .int .i64 b.burn.2, .int .i64 b.rub.1, .int .i64 b.rub.2, .int .i64 b.milk.1, .int .i64 b.milk.2, .int .i64 b.heal, .int .i64 b.strong.1, .int .i64 b.strong.2, .int .i64 c.water.1, .int .i64 c.water.2, .int .i64 c.fat.1, .int .i64 c.fat.2, .int .i64 c.sore.1, .int .i64 c.sore.2, .bool c.milks] := rowSkip raW1
  have rbW2 : rowOf (W1.alloc (.cells #[.int .i64 (waS b c.milks m).1, .int .i64 (waS b c.milks m).2, .int .i64 (faS b m).1, .int .i64 (faS b m).2, .int .i64 (soS b m).1, .int .i64 (soS b m).2] 110)) (w.heap.size + 1) = some #[.int .i64 m.hours, .int .i64 m.load, .int .i64 m.heat.1, .int .i64 m.heat.2, .int .i64 m.grass.1, .int .i64 m.grass.2, .int .i64 m.drinks.1, .int .i64 m.drinks.2] := rowSkip rbW1
  have rcW2 : rowOf (W1.alloc (.cells #[.int .i64 (waS b c.milks m).1, .int .i64 (waS b c.milks m).2, .int .i64 (faS b m).1, .int .i64 (faS b m).2, .int .i64 (soS b m).1, .int .i64 (soS b m).2] 110)) (w.heap.size + 1 + 1) = some #[.int .i64 0, .int .i64 0, .int .i64 0, .int .i64 0, .int .i64 0, .int .i64 0, .int .i64 0, .int .i64 0, .int .i64 0, .int .i64 0, .int .i64 0, .int .i64 0, .int .i64 0, .int .i64 0, .int .i64 0, .int .i64 0, .int .i64 0, .int .i64 0, .int .i64 0, .int .i64 0, .int .i64 0, .int .i64 0, .int .i64 0, .bool false] := rowSkip rcW1
  have rtW2 : rowOf (W1.alloc (.cells #[.int .i64 (waS b c.milks m).1, .int .i64 (waS b c.milks m).2, .int .i64 (faS b m).1, .int .i64 (faS b m).2, .int .i64 (soS b m).1, .int .i64 (soS b m).2] 110)) W1.heap.size = some #[.int .i64 (waS b c.milks m).1, .int .i64 (waS b c.milks m).2, .int .i64 (faS b m).1, .int .i64 (faS b m).2, .int .i64 (soS b m).1, .int .i64 (soS b m).2] := row_here0 _ _ _
  have zW2 := hW2.size
  have zz : w.heap.size + 1 + 1 < W1.heap.size := zcW1
  generalize (W1.alloc (.cells #[.int .i64 (waS b c.milks m).1, .int .i64 (waS b c.milks m).2, .int .i64 (faS b m).1, .int .i64 (faS b m).2, .int .i64 (soS b m).1, .int .i64 (soS b m).2] 110)) = W2 at hW2 raW2 rbW2 rcW2 rtW2 zW2 ⊢
  clear raW1 caW1 gaW1 rbW1 cbW1 gbW1 rcW1 ccW1 gcW1
  go_loopw [5, 12] (fun f i wr => Ext W2 wr ∧ ((i = .int .i64 0 ∧ f = .int .u8 0) ∨ (∃ x, i = .int .i64 1 ∧ f = .int .u8 x ∧ Hid (¬ c.water.2 < (waS b c.milks m).1) ∧ Hid (x = if c.water.1 < (waS b c.milks m).2 then 1 else 0)) ∨ (∃ x, i = .int .i64 2 ∧ f = .int .u8 x ∧ Hid (¬ c.water.2 < (waS b c.milks m).1) ∧ Hid (¬ c.fat.2 < (faS b m).1) ∧ Hid (x = if c.water.1 < (waS b c.milks m).2 ∨ c.fat.1 < (faS b m).2 then 1 else 0)))) (fun _ i _ => 2 - (intOf i).toNat)
  case atStart => exact ⟨Ext.refl _, .inl ⟨rfl, rfl⟩⟩
  case round =>
    obtain ⟨hE, hk⟩ := hrel
    obtain ⟨raR, caR, gaR, zaR⟩ := row_facts (hE.row raW2)
    obtain ⟨rbR, cbR, gbR, zbR⟩ := row_facts (hE.row rbW2)
    obtain ⟨rcR, ccR, gcR, zcR⟩ := row_facts (hE.row rcW2)
    obtain ⟨rtR, ctR, gtR, ztR⟩ := row_facts (hE.row rtW2)
    rcases hk with ⟨rfl, rfl⟩ | ⟨x, rfl, rfl, hA, hx⟩ | ⟨x, rfl, rfl, hA, hB, hx⟩
    · by_cases hA : c.water.2 < (waS b c.milks m).1
      · go_wp2_with fail
        go_quiet (fail)
        go_wp2
        obtain ⟨d1, d2⟩ := aftW_dies (b := b) (c := c) (m := m) (by simp [diesS, hA])
        exact bodyPost_ret (results112_2 Try.results65 rfl (stored_setRow ((rowOf_drewN _ _ _).trans rcR) _).row rfl (v := .int .u8 2) rfl) rfl ⟨by rw [← HA.out, ← HF.out, d1, d2], Below_setRow (below_drewN (hW2.trans (Below.mono hE zW2)) _) (by omega) _⟩
      · have hA' := Lib.hid hA
        by_cases hC : c.water.1 < (waS b c.milks m).2
        · go_wp2_with fail
          go_quiet (fail)
          go_wp2_with fail
          go_quiet (fail)
          go_wp2
          exact ⟨⟨below_drewN hE _, .inr (.inl ⟨1, rfl, rfl, (by have h := hA'.out; simp only [Hid] at *; omega), by simp [Hid, hC]⟩)⟩, by simp [intOf]⟩
        · go_wp2_with fail
          go_quiet (fail)
          go_wp2_with fail
          go_quiet (fail)
          go_wp2
          exact ⟨⟨below_drewN hE _, .inr (.inl ⟨0, rfl, rfl, (by have h := hA'.out; simp only [Hid] at *; omega), by simp [Hid]; omega⟩)⟩, by simp [intOf]⟩
    · by_cases hB : c.fat.2 < (faS b m).1
      · go_wp2_with fail
        go_quiet (fail)
        go_wp2
        obtain ⟨d1, d2⟩ := aftW_dies (b := b) (c := c) (m := m) (by simp [diesS, hB])
        exact bodyPost_ret (results112_2 Try.results65 rfl (stored_setRow ((rowOf_drewN _ _ _).trans rcR) _).row rfl (v := .int .u8 2) rfl) rfl ⟨by rw [← HA.out, ← HF.out, d1, d2], Below_setRow (below_drewN (hW2.trans (Below.mono hE zW2)) _) (by omega) _⟩
      · have hB' := Lib.hid hB
        by_cases hD : c.fat.1 < (faS b m).2
        · go_wp2_with fail
          go_quiet (fail)
          go_wp2_with fail
          go_quiet (fail)
          go_wp2
          exact ⟨⟨below_drewN hE _, .inr (.inr ⟨1, rfl, rfl, (by have h := hA.out; simp only [Hid] at *; omega), (by have h := hB'.out; simp only [Hid] at *; omega), by simp [Hid, hD]⟩)⟩, by simp [intOf]⟩
        · have hD' := Lib.hid hD
          go_wp2_with fail
          go_quiet (fail)
          go_wp2_with fail
          go_quiet (fail)
          go_wp2
          exact ⟨⟨below_drewN hE _, .inr (.inr ⟨x, rfl, rfl, (by have h := hA.out; simp only [Hid] at *; omega), (by have h := hB'.out; simp only [Hid] at *; omega), by have h1 := hx.out; have h2 := hD'.out; show x = _; rw [h1]; (repeat' split) <;> omega⟩)⟩, by simp [intOf]⟩
    · have hd : diesS b c m = false := by
        have := hA.out
        have := hB.out
        simp_all [diesS]
      obtain ⟨d1, d2⟩ := aftW_lives hd
      have HX : Hid (x = rf) := by
        have := hx.out
        show x = rf
        rw [← HF.out, d2, this]
        simp [openS]
      have HR := Lib.hid (d1.symm.trans HA.out)
      clear hx hA hB hd d1 d2 HA HF
      obtain ⟨w1, w2, w3⟩ := waS_bd c.milks HB.out HM.out
      obtain ⟨f1, f2, f3⟩ := faS_bd HB.out HM.out
      obtain ⟨s1, s2, s3⟩ := soS_bd HB.out HM.out
      obtain ⟨x1, x2, x3⟩ := HC.out.water
      obtain ⟨y1, y2, y3⟩ := HC.out.fat
      obtain ⟨z1, z2, z3⟩ := HC.out.sore
      obtain ⟨p1, p2, p3⟩ := HM.out.grass
      obtain ⟨q1, q2, q3⟩ := HM.out.drinks
      obtain ⟨l1, l2⟩ := HB.out.full
      obtain ⟨k1, k2⟩ := HB.out.fed
      obtain ⟨e1, e2⟩ := HB.out.heal
      obtain ⟨o1, o2, o3, o4⟩ : 0 ≤ (ad c.sore (soS b m)).1 ∧ (ad c.sore (soS b m)).1 ≤ 200000000000000 ∧ 0 ≤ (ad c.sore (soS b m)).2 ∧ (ad c.sore (soS b m)).2 ≤ 200000000000000 := by simp only [ad]; omega
      have hWR : Below w.heap.size w wr := hW2.trans (Below.mono hE zW2)
      have hS := stored_setRow rcR #[.int .i64 b.full, .int .i64 b.fed, .int .i64 b.rest.1, .int .i64 b.rest.2, .int .i64 b.heat.1, .int .i64 b.heat.2, .int .i64 b.toil.1, .int .i64 b.toil.2, .int .i64 b.burn.1, .int .i64 b.burn.2, .int .i64 b.rub.1, .int .i64 b.rub.2, .int .i64 b.milk.1, .int .i64 b.milk.2, .int .i64 b.heal, .int .i64 b.strong.1, .int .i64 b.strong.2, .int .i64 c.water.1, .int .i64 c.water.2, .int .i64 c.fat.1, .int .i64 c.fat.2, .int .i64 c.sore.1, .int .i64 c.sore.2, .bool c.milks]
      have hW5 : Below w.heap.size w (wr.setRow (w.heap.size + 1 + 1) #[.int .i64 b.full, .int .i64 b.fed, .int .i64 b.rest.1, .int .i64 b.rest.2, .int .i64 b.heat.1, .int .i64 b.heat.2, .int .i64 b.toil.1, .int .i64 b.toil.2, .int .i64 b.burn.1, .int .i64 b.burn.2, .int .i64 b.rub.1, .int .i64 b.rub.2, .int .i64 b.milk.1, .int .i64 b.milk.2, .int .i64 b.heal, .int .i64 b.strong.1, .int .i64 b.strong.2, .int .i64 c.water.1, .int .i64 c.water.2, .int .i64 c.fat.1, .int .i64 c.fat.2, .int .i64 c.sore.1, .int .i64 c.sore.2, .bool c.milks]) := hWR.trans (hS.below _ (by omega))
      have raW5 := hS.keeps (g := w.heap.size) (by omega) raR
      have rbW5 := hS.keeps (g := w.heap.size + 1) (by omega) rbR
      have rtW5 := hS.keeps (g := W1.heap.size) (by omega) rtR
      have rcW5 := hS.row
      clear hS raW2 rbW2 rcW2 rtW2
      by_cases hh : m.hours = 0
      · go_wp2_with fail
        generalize wr.setRow (w.heap.size + 1 + 1) #[.int .i64 b.full, .int .i64 b.fed, .int .i64 b.rest.1, .int .i64 b.rest.2, .int .i64 b.heat.1, .int .i64 b.heat.2, .int .i64 b.toil.1, .int .i64 b.toil.2, .int .i64 b.burn.1, .int .i64 b.burn.2, .int .i64 b.rub.1, .int .i64 b.rub.2, .int .i64 b.milk.1, .int .i64 b.milk.2, .int .i64 b.heal, .int .i64 b.strong.1, .int .i64 b.strong.2, .int .i64 c.water.1, .int .i64 c.water.2, .int .i64 c.fat.1, .int .i64 c.fat.2, .int .i64 c.sore.1, .int .i64 c.sore.2, .bool c.milks] = W5 at hW5 raW5 rbW5 rtW5 rcW5 ⊢
        clear raR caR gaR rbR cbR gbR rcR ccR gcR rtR ctR gtR
        have zW5 := hW5.size
        refine wp_draws (by kernel_rfl) [] [some 44, some 45, some 46, some 47, some 48, some 49, some 50, some 51, some 52, some 53, some 54, some 55, some 56, some 57, some 58, some 59, some 60, some 61, some 62, some 63, some 64, some 65, some 66, some 67, some 68, some 69, some 70, some 71, some 72, some 73, some 74, some 75, some 76, some 77, some 78] (by kernel_rfl) (fun ix v W => match ix with
          | 0 => v = .pointer (some ⟨w.heap.size, 17, none⟩)
          | 1 => v = .pointer (some ⟨w.heap.size, 17, none⟩)
          | 2 => v = .agg #[.int .i64 c.water.1, .int .i64 c.water.2]
          | 3 => v = .pointer (some ⟨W1.heap.size, 0, none⟩)
          | 4 => v = .agg #[.int .i64 (waS b c.milks m).1, .int .i64 (waS b c.milks m).2]
          | 5 => v = .pointer (some ⟨w.heap.size + 1, 6, none⟩)
          | 6 => v = .agg #[.int .i64 m.drinks.1, .int .i64 m.drinks.2]
          | 7 => v = .pointer (some ⟨w.heap.size, 0, none⟩)
          | 8 => v = .pointer (some ⟨w.heap.size, 0, none⟩)
          | 9 => v = .int .i64 b.full
          | 10 => v = .agg #[.int .i64 (refS b.full c.water (waS b c.milks m) m.drinks).1, .int .i64 (refS b.full c.water (waS b c.milks m) m.drinks).2]
          | 11 => v = .pointer (some ⟨w.heap.size, 17, none⟩)
          | 12 => v = .pointer (some ⟨w.heap.size, 19, none⟩)
          | 13 => v = .agg #[.int .i64 c.fat.1, .int .i64 c.fat.2]
          | 14 => v = .pointer (some ⟨W1.heap.size, 2, none⟩)
          | 15 => v = .agg #[.int .i64 (faS b m).1, .int .i64 (faS b m).2]
          | 16 => v = .pointer (some ⟨w.heap.size + 1, 4, none⟩)
          | 17 => v = .agg #[.int .i64 m.grass.1, .int .i64 m.grass.2]
          | 18 => v = .pointer (some ⟨w.heap.size, 0, none⟩)
          | 19 => v = .pointer (some ⟨w.heap.size, 1, none⟩)
          | 20 => v = .int .i64 b.fed
          | 21 => v = .agg #[.int .i64 (refS b.fed c.fat (faS b m) m.grass).1, .int .i64 (refS b.fed c.fat (faS b m) m.grass).2]
          | 22 => v = .pointer (some ⟨w.heap.size, 17, none⟩)
          | 23 => v = .pointer (some ⟨w.heap.size, 21, none⟩)
          | 24 => v = .agg #[.int .i64 c.sore.1, .int .i64 c.sore.2]
          | 25 => v = .pointer (some ⟨W1.heap.size, 4, none⟩)
          | 26 => v = .agg #[.int .i64 (soS b m).1, .int .i64 (soS b m).2]
          | 27 => SL v 2 #[.int .i64 c.sore.1, .int .i64 c.sore.2, .int .i64 (soS b m).1, .int .i64 (soS b m).2] W
          | 28 => v = .agg #[.int .i64 (ad c.sore (soS b m)).1, .int .i64 (ad c.sore (soS b m)).2]
          | 29 => v = .int .i64 b.heal
          | 30 => v = .agg #[.int .i64 b.heal, .int .i64 b.heal]
          | 31 => v = .agg #[.int .i64 (ls (ad c.sore (soS b m)) (b.heal, b.heal)).1, .int .i64 (ls (ad c.sore (soS b m)) (b.heal, b.heal)).2]
          | 32 => v = .agg #[.int .i64 (cl 1000 (ls (ad c.sore (soS b m)) (b.heal, b.heal))).1, .int .i64 (cl 1000 (ls (ad c.sore (soS b m)) (b.heal, b.heal))).2]
          | 33 => v = .agg #[.int .i64 (refS b.full c.water (waS b c.milks m) m.drinks).1, .int .i64 (refS b.full c.water (waS b c.milks m) m.drinks).2, .int .i64 (refS b.fed c.fat (faS b m) m.grass).1, .int .i64 (refS b.fed c.fat (faS b m) m.grass).2, .int .i64 (cl 1000 (ls (ad c.sore (soS b m)) (b.heal, b.heal))).1, .int .i64 (cl 1000 (ls (ad c.sore (soS b m)) (b.heal, b.heal))).2]
          | 34 => v = .pointer (some ⟨w.heap.size + 1 + 1, 17, none⟩)
          | _ => True) ⟨⟨?_, ?_⟩, ⟨?_, ?_⟩, ⟨?_, ?_⟩, ⟨?_, ?_⟩, ⟨?_, ?_⟩, ⟨?_, ?_⟩, ⟨?_, ?_⟩, ⟨?_, ?_⟩, ⟨?_, ?_⟩, ⟨?_, ?_⟩, ⟨?_, ?_⟩, ⟨?_, ?_⟩, ⟨?_, ?_⟩, ⟨?_, ?_⟩, ⟨?_, ?_⟩, ⟨?_, ?_⟩, ⟨?_, ?_⟩, ⟨?_, ?_⟩, ⟨?_, ?_⟩, ⟨?_, ?_⟩, ⟨?_, ?_⟩, ⟨?_, ?_⟩, ⟨?_, ?_⟩, ⟨?_, ?_⟩, ⟨?_, ?_⟩, ⟨?_, ?_⟩, ⟨?_, ?_⟩, ⟨?_, ?_⟩, ⟨?_, ?_⟩, ⟨?_, ?_⟩, ⟨?_, ?_⟩, ⟨?_, ?_⟩, ⟨?_, ?_⟩, ⟨?_, ?_⟩, ⟨?_, ?_⟩, ?_⟩
        · intro g h; cases h
        · intro b' W hE hb hdep K hK
          have e2 : b'.tmps[2]?.getD undef = .pointer (some ⟨w.heap.size, 0, none⟩) := hb 2 (by decide)
          clear hdep hb
          go_wp2
          exact hK _ _ (XT.refl _ _) rfl
        · intro g h; cases h
        · intro b' W hE hb hdep K hK
          have e44 : b'.tmps[44]?.getD undef = .pointer (some ⟨w.heap.size, 17, none⟩) := pureX (hdep 0 (some 44) (by kernel_rfl) rfl)
          clear hdep hb
          go_wp2
          exact hK _ _ (XT.refl _ _) rfl
        · intro g h; cases h
        · intro b' W hE hb hdep K hK
          have e45 : b'.tmps[45]?.getD undef = .pointer (some ⟨w.heap.size, 17, none⟩) := pureX (hdep 1 (some 45) (by kernel_rfl) rfl)
          clear hdep hb
          obtain ⟨_, _, -, _⟩ := row_facts (hE.row ((rowOf_drew _ _).trans raW5) (by first | (simp; done) | (simp; omega)))
          obtain ⟨_, _, -, _⟩ := row_facts (hE.row ((rowOf_drew _ _).trans rbW5) (by first | (simp; done) | (simp; omega)))
          obtain ⟨_, _, -, _⟩ := row_facts (hE.row ((rowOf_drew _ _).trans rtW5) (by first | (simp; done) | (simp; omega)))
          go_wp2
          exact hK _ _ (XT.refl _ _) rfl
        · intro g h; cases h
        · intro b' W hE hb hdep K hK
          have e6 : b'.tmps[6]?.getD undef = .pointer (some ⟨W1.heap.size, 0, none⟩) := hb 6 (by decide)
          clear hdep hb
          go_wp2
          exact hK _ _ (XT.refl _ _) rfl
        · intro g h; cases h
        · intro b' W hE hb hdep K hK
          have e47 : b'.tmps[47]?.getD undef = .pointer (some ⟨W1.heap.size, 0, none⟩) := pureX (hdep 3 (some 47) (by kernel_rfl) rfl)
          clear hdep hb
          obtain ⟨_, _, -, _⟩ := row_facts (hE.row ((rowOf_drew _ _).trans raW5) (by first | (simp; done) | (simp; omega)))
          obtain ⟨_, _, -, _⟩ := row_facts (hE.row ((rowOf_drew _ _).trans rbW5) (by first | (simp; done) | (simp; omega)))
          obtain ⟨_, _, -, _⟩ := row_facts (hE.row ((rowOf_drew _ _).trans rtW5) (by first | (simp; done) | (simp; omega)))
          go_wp2
          exact hK _ _ (XT.refl _ _) rfl
        · intro g h; cases h
        · intro b' W hE hb hdep K hK
          have e3 : b'.tmps[3]?.getD undef = .pointer (some ⟨w.heap.size + 1, 0, none⟩) := hb 3 (by decide)
          clear hdep hb
          go_wp2
          exact hK _ _ (XT.refl _ _) rfl
        · intro g h; cases h
        · intro b' W hE hb hdep K hK
          have e49 : b'.tmps[49]?.getD undef = .pointer (some ⟨w.heap.size + 1, 6, none⟩) := pureX (hdep 5 (some 49) (by kernel_rfl) rfl)
          clear hdep hb
          obtain ⟨_, _, -, _⟩ := row_facts (hE.row ((rowOf_drew _ _).trans raW5) (by first | (simp; done) | (simp; omega)))
          obtain ⟨_, _, -, _⟩ := row_facts (hE.row ((rowOf_drew _ _).trans rbW5) (by first | (simp; done) | (simp; omega)))
          obtain ⟨_, _, -, _⟩ := row_facts (hE.row ((rowOf_drew _ _).trans rtW5) (by first | (simp; done) | (simp; omega)))
          go_wp2
          exact hK _ _ (XT.refl _ _) rfl
        · intro g h; cases h
        · intro b' W hE hb hdep K hK
          have e2 : b'.tmps[2]?.getD undef = .pointer (some ⟨w.heap.size, 0, none⟩) := hb 2 (by decide)
          clear hdep hb
          go_wp2
          exact hK _ _ (XT.refl _ _) rfl
        · intro g h; cases h
        · intro b' W hE hb hdep K hK
          have e51 : b'.tmps[51]?.getD undef = .pointer (some ⟨w.heap.size, 0, none⟩) := pureX (hdep 7 (some 51) (by kernel_rfl) rfl)
          clear hdep hb
          go_wp2
          exact hK _ _ (XT.refl _ _) rfl
        · intro g h; cases h
        · intro b' W hE hb hdep K hK
          have e52 : b'.tmps[52]?.getD undef = .pointer (some ⟨w.heap.size, 0, none⟩) := pureX (hdep 8 (some 52) (by kernel_rfl) rfl)
          clear hdep hb
          obtain ⟨_, _, -, _⟩ := row_facts (hE.row ((rowOf_drew _ _).trans raW5) (by first | (simp; done) | (simp; omega)))
          obtain ⟨_, _, -, _⟩ := row_facts (hE.row ((rowOf_drew _ _).trans rbW5) (by first | (simp; done) | (simp; omega)))
          obtain ⟨_, _, -, _⟩ := row_facts (hE.row ((rowOf_drew _ _).trans rtW5) (by first | (simp; done) | (simp; omega)))
          go_wp2
          exact hK _ _ (XT.refl _ _) rfl
        · intro g h; cases h
        · intro b' W hE hb hdep K hK
          have e46 : b'.tmps[46]?.getD undef = .agg #[.int .i64 c.water.1, .int .i64 c.water.2] := pureX (hdep 2 (some 46) (by kernel_rfl) rfl)
          have e48 : b'.tmps[48]?.getD undef = .agg #[.int .i64 (waS b c.milks m).1, .int .i64 (waS b c.milks m).2] := pureX (hdep 4 (some 48) (by kernel_rfl) rfl)
          have e50 : b'.tmps[50]?.getD undef = .agg #[.int .i64 m.drinks.1, .int .i64 m.drinks.2] := pureX (hdep 6 (some 50) (by kernel_rfl) rfl)
          have e53 : b'.tmps[53]?.getD undef = .int .i64 b.full := pureX (hdep 9 (some 53) (by kernel_rfl) rfl)
          clear hdep hb
          go_wp2_with fail
          refine (refilled_any c.water (waS b c.milks m) m.drinks b.full _ (by omega) (by omega) (by omega) (by omega) (by omega) (by omega) (by omega) (by omega) (by omega) (by omega) (by omega) (by omega) (by omega) (by omega)).mono ?_
          rintro e W' ⟨rfl, hB⟩
          exact hK _ _ (Ext.xt hB) rfl
        · intro g h; cases h
        · intro b' W hE hb hdep K hK
          have e2 : b'.tmps[2]?.getD undef = .pointer (some ⟨w.heap.size, 0, none⟩) := hb 2 (by decide)
          clear hdep hb
          go_wp2
          exact hK _ _ (XT.refl _ _) rfl
        · intro g h; cases h
        · intro b' W hE hb hdep K hK
          have e55 : b'.tmps[55]?.getD undef = .pointer (some ⟨w.heap.size, 17, none⟩) := pureX (hdep 11 (some 55) (by kernel_rfl) rfl)
          clear hdep hb
          go_wp2
          exact hK _ _ (XT.refl _ _) rfl
        · intro g h; cases h
        · intro b' W hE hb hdep K hK
          have e56 : b'.tmps[56]?.getD undef = .pointer (some ⟨w.heap.size, 19, none⟩) := pureX (hdep 12 (some 56) (by kernel_rfl) rfl)
          clear hdep hb
          obtain ⟨_, _, -, _⟩ := row_facts (hE.row ((rowOf_drew _ _).trans raW5) (by first | (simp; done) | (simp; omega)))
          obtain ⟨_, _, -, _⟩ := row_facts (hE.row ((rowOf_drew _ _).trans rbW5) (by first | (simp; done) | (simp; omega)))
          obtain ⟨_, _, -, _⟩ := row_facts (hE.row ((rowOf_drew _ _).trans rtW5) (by first | (simp; done) | (simp; omega)))
          go_wp2
          exact hK _ _ (XT.refl _ _) rfl
        · intro g h; cases h
        · intro b' W hE hb hdep K hK
          have e6 : b'.tmps[6]?.getD undef = .pointer (some ⟨W1.heap.size, 0, none⟩) := hb 6 (by decide)
          clear hdep hb
          go_wp2
          exact hK _ _ (XT.refl _ _) rfl
        · intro g h; cases h
        · intro b' W hE hb hdep K hK
          have e58 : b'.tmps[58]?.getD undef = .pointer (some ⟨W1.heap.size, 2, none⟩) := pureX (hdep 14 (some 58) (by kernel_rfl) rfl)
          clear hdep hb
          obtain ⟨_, _, -, _⟩ := row_facts (hE.row ((rowOf_drew _ _).trans raW5) (by first | (simp; done) | (simp; omega)))
          obtain ⟨_, _, -, _⟩ := row_facts (hE.row ((rowOf_drew _ _).trans rbW5) (by first | (simp; done) | (simp; omega)))
          obtain ⟨_, _, -, _⟩ := row_facts (hE.row ((rowOf_drew _ _).trans rtW5) (by first | (simp; done) | (simp; omega)))
          go_wp2
          exact hK _ _ (XT.refl _ _) rfl
        · intro g h; cases h
        · intro b' W hE hb hdep K hK
          have e3 : b'.tmps[3]?.getD undef = .pointer (some ⟨w.heap.size + 1, 0, none⟩) := hb 3 (by decide)
          clear hdep hb
          go_wp2
          exact hK _ _ (XT.refl _ _) rfl
        · intro g h; cases h
        · intro b' W hE hb hdep K hK
          have e60 : b'.tmps[60]?.getD undef = .pointer (some ⟨w.heap.size + 1, 4, none⟩) := pureX (hdep 16 (some 60) (by kernel_rfl) rfl)
          clear hdep hb
          obtain ⟨_, _, -, _⟩ := row_facts (hE.row ((rowOf_drew _ _).trans raW5) (by first | (simp; done) | (simp; omega)))
          obtain ⟨_, _, -, _⟩ := row_facts (hE.row ((rowOf_drew _ _).trans rbW5) (by first | (simp; done) | (simp; omega)))
          obtain ⟨_, _, -, _⟩ := row_facts (hE.row ((rowOf_drew _ _).trans rtW5) (by first | (simp; done) | (simp; omega)))
          go_wp2
          exact hK _ _ (XT.refl _ _) rfl
        · intro g h; cases h
        · intro b' W hE hb hdep K hK
          have e2 : b'.tmps[2]?.getD undef = .pointer (some ⟨w.heap.size, 0, none⟩) := hb 2 (by decide)
          clear hdep hb
          go_wp2
          exact hK _ _ (XT.refl _ _) rfl
        · intro g h; cases h
        · intro b' W hE hb hdep K hK
          have e62 : b'.tmps[62]?.getD undef = .pointer (some ⟨w.heap.size, 0, none⟩) := pureX (hdep 18 (some 62) (by kernel_rfl) rfl)
          clear hdep hb
          go_wp2
          exact hK _ _ (XT.refl _ _) rfl
        · intro g h; cases h
        · intro b' W hE hb hdep K hK
          have e63 : b'.tmps[63]?.getD undef = .pointer (some ⟨w.heap.size, 1, none⟩) := pureX (hdep 19 (some 63) (by kernel_rfl) rfl)
          clear hdep hb
          obtain ⟨_, _, -, _⟩ := row_facts (hE.row ((rowOf_drew _ _).trans raW5) (by first | (simp; done) | (simp; omega)))
          obtain ⟨_, _, -, _⟩ := row_facts (hE.row ((rowOf_drew _ _).trans rbW5) (by first | (simp; done) | (simp; omega)))
          obtain ⟨_, _, -, _⟩ := row_facts (hE.row ((rowOf_drew _ _).trans rtW5) (by first | (simp; done) | (simp; omega)))
          go_wp2
          exact hK _ _ (XT.refl _ _) rfl
        · intro g h; cases h
        · intro b' W hE hb hdep K hK
          have e57 : b'.tmps[57]?.getD undef = .agg #[.int .i64 c.fat.1, .int .i64 c.fat.2] := pureX (hdep 13 (some 57) (by kernel_rfl) rfl)
          have e59 : b'.tmps[59]?.getD undef = .agg #[.int .i64 (faS b m).1, .int .i64 (faS b m).2] := pureX (hdep 15 (some 59) (by kernel_rfl) rfl)
          have e61 : b'.tmps[61]?.getD undef = .agg #[.int .i64 m.grass.1, .int .i64 m.grass.2] := pureX (hdep 17 (some 61) (by kernel_rfl) rfl)
          have e64 : b'.tmps[64]?.getD undef = .int .i64 b.fed := pureX (hdep 20 (some 64) (by kernel_rfl) rfl)
          clear hdep hb
          go_wp2_with fail
          refine (refilled_any c.fat (faS b m) m.grass b.fed _ (by omega) (by omega) (by omega) (by omega) (by omega) (by omega) (by omega) (by omega) (by omega) (by omega) (by omega) (by omega) (by omega) (by omega)).mono ?_
          rintro e W' ⟨rfl, hB⟩
          exact hK _ _ (Ext.xt hB) rfl
        · intro g h; cases h
        · intro b' W hE hb hdep K hK
          have e2 : b'.tmps[2]?.getD undef = .pointer (some ⟨w.heap.size, 0, none⟩) := hb 2 (by decide)
          clear hdep hb
          go_wp2
          exact hK _ _ (XT.refl _ _) rfl
        · intro g h; cases h
        · intro b' W hE hb hdep K hK
          have e66 : b'.tmps[66]?.getD undef = .pointer (some ⟨w.heap.size, 17, none⟩) := pureX (hdep 22 (some 66) (by kernel_rfl) rfl)
          clear hdep hb
          go_wp2
          exact hK _ _ (XT.refl _ _) rfl
        · intro g h; cases h
        · intro b' W hE hb hdep K hK
          have e67 : b'.tmps[67]?.getD undef = .pointer (some ⟨w.heap.size, 21, none⟩) := pureX (hdep 23 (some 67) (by kernel_rfl) rfl)
          clear hdep hb
          obtain ⟨_, _, -, _⟩ := row_facts (hE.row ((rowOf_drew _ _).trans raW5) (by first | (simp; done) | (simp; omega)))
          obtain ⟨_, _, -, _⟩ := row_facts (hE.row ((rowOf_drew _ _).trans rbW5) (by first | (simp; done) | (simp; omega)))
          obtain ⟨_, _, -, _⟩ := row_facts (hE.row ((rowOf_drew _ _).trans rtW5) (by first | (simp; done) | (simp; omega)))
          go_wp2
          exact hK _ _ (XT.refl _ _) rfl
        · intro g h; cases h
        · intro b' W hE hb hdep K hK
          have e6 : b'.tmps[6]?.getD undef = .pointer (some ⟨W1.heap.size, 0, none⟩) := hb 6 (by decide)
          clear hdep hb
          go_wp2
          exact hK _ _ (XT.refl _ _) rfl
        · intro g h; cases h
        · intro b' W hE hb hdep K hK
          have e69 : b'.tmps[69]?.getD undef = .pointer (some ⟨W1.heap.size, 4, none⟩) := pureX (hdep 25 (some 69) (by kernel_rfl) rfl)
          clear hdep hb
          obtain ⟨_, _, -, _⟩ := row_facts (hE.row ((rowOf_drew _ _).trans raW5) (by first | (simp; done) | (simp; omega)))
          obtain ⟨_, _, -, _⟩ := row_facts (hE.row ((rowOf_drew _ _).trans rbW5) (by first | (simp; done) | (simp; omega)))
          obtain ⟨_, _, -, _⟩ := row_facts (hE.row ((rowOf_drew _ _).trans rtW5) (by first | (simp; done) | (simp; omega)))
          go_wp2
          exact hK _ _ (XT.refl _ _) rfl
        · intro g h; cases h
        · intro b' W hE hb hdep K hK
          have e68 : b'.tmps[68]?.getD undef = .agg #[.int .i64 c.sore.1, .int .i64 c.sore.2] := pureX (hdep 24 (some 68) (by kernel_rfl) rfl)
          have e70 : b'.tmps[70]?.getD undef = .agg #[.int .i64 (soS b m).1, .int .i64 (soS b m).2] := pureX (hdep 26 (some 70) (by kernel_rfl) rfl)
          clear hdep hb
          go_wp2
          exact hK _ _ (Ext.xt (ext_alloc _ _)) ⟨rfl, row_here0 _ _ _⟩
        · intro g h; cases h
        · intro b' W hE hb hdep K hK
          have s71 : SL (b'.tmps[71]?.getD undef) 2 #[.int .i64 c.sore.1, .int .i64 c.sore.2, .int .i64 (soS b m).1, .int .i64 (soS b m).2] W := sliceX (by simp) (hdep 27 (some 71) (by kernel_rfl) rfl)
          have e71 := s71.eq
          have r71 := s71.row
          clear s71
          generalize blk (b'.tmps[71]?.getD undef) = g71 at e71 r71
          clear hdep hb
          go_wp2_with fail
          refine (ad2 c.sore (soS b m) _ _ _ r71 (by omega) (by omega) (by omega) (by omega) (by omega) (by omega) (by omega) (by omega)).mono ?_
          rintro e W' ⟨rfl, hB⟩
          exact hK _ _ (Ext.xt hB) rfl
        · intro g h; cases h
        · intro b' W hE hb hdep K hK
          have e8 : b'.tmps[8]?.getD undef = .int .i64 b.heal := hb 8 (by decide)
          clear hdep hb
          go_wp2
          exact hK _ _ (XT.refl _ _) rfl
        · intro g h; cases h
        · intro b' W hE hb hdep K hK
          have e73 : b'.tmps[73]?.getD undef = .int .i64 b.heal := pureX (hdep 29 (some 73) (by kernel_rfl) rfl)
          clear hdep hb
          go_wp2_with fail
          refine (exactly_any _ _).mono ?_
          rintro e W' ⟨rfl, hB⟩
          exact hK _ _ (Ext.xt hB) rfl
        · intro g h; cases h
        · intro b' W hE hb hdep K hK
          have e72 : b'.tmps[72]?.getD undef = .agg #[.int .i64 (ad c.sore (soS b m)).1, .int .i64 (ad c.sore (soS b m)).2] := pureX (hdep 28 (some 72) (by kernel_rfl) rfl)
          have e74 : b'.tmps[74]?.getD undef = .agg #[.int .i64 b.heal, .int .i64 b.heal] := pureX (hdep 30 (some 74) (by kernel_rfl) rfl)
          clear hdep hb
          go_wp2_with fail
          refine (ls_n (ad c.sore (soS b m)) b.heal _ (by omega) (by omega) (by omega) (by omega)).mono ?_
          rintro e W' ⟨rfl, hB⟩
          exact hK _ _ (Ext.xt hB) rfl
        · intro g h; cases h
        · intro b' W hE hb hdep K hK
          have e75 : b'.tmps[75]?.getD undef = .agg #[.int .i64 (ls (ad c.sore (soS b m)) (b.heal, b.heal)).1, .int .i64 (ls (ad c.sore (soS b m)) (b.heal, b.heal)).2] := pureX (hdep 31 (some 75) (by kernel_rfl) rfl)
          clear hdep hb
          go_wp2_with fail
          refine (clamped_any (ls (ad c.sore (soS b m)) (b.heal, b.heal)) 1000 _).mono ?_
          rintro e W' ⟨rfl, hB⟩
          exact hK _ _ (Ext.xt hB) rfl
        · intro g h; cases h
        · intro b' W hE hb hdep K hK
          have e54 : b'.tmps[54]?.getD undef = .agg #[.int .i64 (refS b.full c.water (waS b c.milks m) m.drinks).1, .int .i64 (refS b.full c.water (waS b c.milks m) m.drinks).2] := pureX (hdep 10 (some 54) (by kernel_rfl) rfl)
          have e65 : b'.tmps[65]?.getD undef = .agg #[.int .i64 (refS b.fed c.fat (faS b m) m.grass).1, .int .i64 (refS b.fed c.fat (faS b m) m.grass).2] := pureX (hdep 21 (some 65) (by kernel_rfl) rfl)
          have e76 : b'.tmps[76]?.getD undef = .agg #[.int .i64 (cl 1000 (ls (ad c.sore (soS b m)) (b.heal, b.heal))).1, .int .i64 (cl 1000 (ls (ad c.sore (soS b m)) (b.heal, b.heal))).2] := pureX (hdep 32 (some 76) (by kernel_rfl) rfl)
          clear hdep hb
          go_wp2
          exact hK _ _ (XT.refl _ _) rfl
        · intro g h; cases h
        · intro b' W hE hb hdep K hK
          have e4 : b'.tmps[4]?.getD undef = .pointer (some ⟨w.heap.size + 1 + 1, 0, none⟩) := hb 4 (by decide)
          clear hdep hb
          go_wp2
          exact hK _ _ (XT.refl _ _) rfl
        intro f W hE hR
        have e44 : f 44 = .pointer (some ⟨w.heap.size, 17, none⟩) := pureX (hR 0 (some 44) rfl)
        have e45 : f 45 = .pointer (some ⟨w.heap.size, 17, none⟩) := pureX (hR 1 (some 45) rfl)
        have e46 : f 46 = .agg #[.int .i64 c.water.1, .int .i64 c.water.2] := pureX (hR 2 (some 46) rfl)
        have e47 : f 47 = .pointer (some ⟨W1.heap.size, 0, none⟩) := pureX (hR 3 (some 47) rfl)
        have e48 : f 48 = .agg #[.int .i64 (waS b c.milks m).1, .int .i64 (waS b c.milks m).2] := pureX (hR 4 (some 48) rfl)
        have e49 : f 49 = .pointer (some ⟨w.heap.size + 1, 6, none⟩) := pureX (hR 5 (some 49) rfl)
        have e50 : f 50 = .agg #[.int .i64 m.drinks.1, .int .i64 m.drinks.2] := pureX (hR 6 (some 50) rfl)
        have e51 : f 51 = .pointer (some ⟨w.heap.size, 0, none⟩) := pureX (hR 7 (some 51) rfl)
        have e52 : f 52 = .pointer (some ⟨w.heap.size, 0, none⟩) := pureX (hR 8 (some 52) rfl)
        have e53 : f 53 = .int .i64 b.full := pureX (hR 9 (some 53) rfl)
        have e54 : f 54 = .agg #[.int .i64 (refS b.full c.water (waS b c.milks m) m.drinks).1, .int .i64 (refS b.full c.water (waS b c.milks m) m.drinks).2] := pureX (hR 10 (some 54) rfl)
        have e55 : f 55 = .pointer (some ⟨w.heap.size, 17, none⟩) := pureX (hR 11 (some 55) rfl)
        have e56 : f 56 = .pointer (some ⟨w.heap.size, 19, none⟩) := pureX (hR 12 (some 56) rfl)
        have e57 : f 57 = .agg #[.int .i64 c.fat.1, .int .i64 c.fat.2] := pureX (hR 13 (some 57) rfl)
        have e58 : f 58 = .pointer (some ⟨W1.heap.size, 2, none⟩) := pureX (hR 14 (some 58) rfl)
        have e59 : f 59 = .agg #[.int .i64 (faS b m).1, .int .i64 (faS b m).2] := pureX (hR 15 (some 59) rfl)
        have e60 : f 60 = .pointer (some ⟨w.heap.size + 1, 4, none⟩) := pureX (hR 16 (some 60) rfl)
        have e61 : f 61 = .agg #[.int .i64 m.grass.1, .int .i64 m.grass.2] := pureX (hR 17 (some 61) rfl)
        have e62 : f 62 = .pointer (some ⟨w.heap.size, 0, none⟩) := pureX (hR 18 (some 62) rfl)
        have e63 : f 63 = .pointer (some ⟨w.heap.size, 1, none⟩) := pureX (hR 19 (some 63) rfl)
        have e64 : f 64 = .int .i64 b.fed := pureX (hR 20 (some 64) rfl)
        have e65 : f 65 = .agg #[.int .i64 (refS b.fed c.fat (faS b m) m.grass).1, .int .i64 (refS b.fed c.fat (faS b m) m.grass).2] := pureX (hR 21 (some 65) rfl)
        have e66 : f 66 = .pointer (some ⟨w.heap.size, 17, none⟩) := pureX (hR 22 (some 66) rfl)
        have e67 : f 67 = .pointer (some ⟨w.heap.size, 21, none⟩) := pureX (hR 23 (some 67) rfl)
        have e68 : f 68 = .agg #[.int .i64 c.sore.1, .int .i64 c.sore.2] := pureX (hR 24 (some 68) rfl)
        have e69 : f 69 = .pointer (some ⟨W1.heap.size, 4, none⟩) := pureX (hR 25 (some 69) rfl)
        have e70 : f 70 = .agg #[.int .i64 (soS b m).1, .int .i64 (soS b m).2] := pureX (hR 26 (some 70) rfl)
        have e72 : f 72 = .agg #[.int .i64 (ad c.sore (soS b m)).1, .int .i64 (ad c.sore (soS b m)).2] := pureX (hR 28 (some 72) rfl)
        have e73 : f 73 = .int .i64 b.heal := pureX (hR 29 (some 73) rfl)
        have e74 : f 74 = .agg #[.int .i64 b.heal, .int .i64 b.heal] := pureX (hR 30 (some 74) rfl)
        have e75 : f 75 = .agg #[.int .i64 (ls (ad c.sore (soS b m)) (b.heal, b.heal)).1, .int .i64 (ls (ad c.sore (soS b m)) (b.heal, b.heal)).2] := pureX (hR 31 (some 75) rfl)
        have e76 : f 76 = .agg #[.int .i64 (cl 1000 (ls (ad c.sore (soS b m)) (b.heal, b.heal))).1, .int .i64 (cl 1000 (ls (ad c.sore (soS b m)) (b.heal, b.heal))).2] := pureX (hR 32 (some 76) rfl)
        have e77 : f 77 = .agg #[.int .i64 (refS b.full c.water (waS b c.milks m) m.drinks).1, .int .i64 (refS b.full c.water (waS b c.milks m) m.drinks).2, .int .i64 (refS b.fed c.fat (faS b m) m.grass).1, .int .i64 (refS b.fed c.fat (faS b m) m.grass).2, .int .i64 (cl 1000 (ls (ad c.sore (soS b m)) (b.heal, b.heal))).1, .int .i64 (cl 1000 (ls (ad c.sore (soS b m)) (b.heal, b.heal))).2] := pureX (hR 33 (some 77) rfl)
        have e78 : f 78 = .pointer (some ⟨w.heap.size + 1 + 1, 17, none⟩) := pureX (hR 34 (some 78) rfl)
        clear hR
        have hw : Below w.heap.size w W := hE.below hW5.drew zW5 (by simp)
        refine wpL_store_part rfl 110 (.tmp 78) (.tmp 77) rfl (h := w.heap.size + 1 + 1) (off := 17) ((puts_eval (by decide) rfl).trans e77) ((puts_eval (by decide) rfl).trans e78) (hE.row ((rowOf_drew _ _).trans rcW5) (by simp)) info110 (by simp) (by simp [one_int]) ?_
        intro W6 hS
        have hw6 : Below w.heap.size w W6 := hw.trans (hS.below _ (by omega))
        have r6 : rowOf W6 (w.heap.size + 1 + 1) = some #[.int .i64 b.full, .int .i64 b.fed, .int .i64 b.rest.1, .int .i64 b.rest.2, .int .i64 b.heat.1, .int .i64 b.heat.2, .int .i64 b.toil.1, .int .i64 b.toil.2, .int .i64 b.burn.1, .int .i64 b.burn.2, .int .i64 b.rub.1, .int .i64 b.rub.2, .int .i64 b.milk.1, .int .i64 b.milk.2, .int .i64 b.heal, .int .i64 b.strong.1, .int .i64 b.strong.2, .int .i64 (refS b.full c.water (waS b c.milks m) m.drinks).1, .int .i64 (refS b.full c.water (waS b c.milks m) m.drinks).2, .int .i64 (refS b.fed c.fat (faS b m) m.grass).1, .int .i64 (refS b.fed c.fat (faS b m) m.grass).2, .int .i64 (cl 1000 (ls (ad c.sore (soS b m)) (b.heal, b.heal))).1, .int .i64 (cl 1000 (ls (ad c.sore (soS b m)) (b.heal, b.heal))).2, .bool c.milks] := hS.row
        clear hS hE hw
        simp only [List.filterMap_cons, List.filterMap_nil, id, puts, Act.put, List.setIfInBounds_toArray, List.set_cons_succ, List.set_cons_zero, e44, e45, e46, e47, e48, e49, e50, e51, e52, e53, e54, e55, e56, e57, e58, e59, e60, e61, e62, e63, e64, e65, e66, e67, e68, e69, e70, e72, e73, e74, e75, e76, e77, e78]
        go_wp2
        exact bodyPost_ret (results112_2 Try.results65 rfl (stored_setRow r6 _).row rfl (v := .int .u8 x) rfl) rfl ⟨by rw [← HR.out, HX.out]; simp [eveC, soreS, healS, hh], Below_setRow hw6 (by omega) _⟩
      · go_wp2_with fail
        generalize wr.setRow (w.heap.size + 1 + 1) #[.int .i64 b.full, .int .i64 b.fed, .int .i64 b.rest.1, .int .i64 b.rest.2, .int .i64 b.heat.1, .int .i64 b.heat.2, .int .i64 b.toil.1, .int .i64 b.toil.2, .int .i64 b.burn.1, .int .i64 b.burn.2, .int .i64 b.rub.1, .int .i64 b.rub.2, .int .i64 b.milk.1, .int .i64 b.milk.2, .int .i64 b.heal, .int .i64 b.strong.1, .int .i64 b.strong.2, .int .i64 c.water.1, .int .i64 c.water.2, .int .i64 c.fat.1, .int .i64 c.fat.2, .int .i64 c.sore.1, .int .i64 c.sore.2, .bool c.milks] = W5 at hW5 raW5 rbW5 rtW5 rcW5 ⊢
        clear raR caR gaR rbR cbR gbR rcR ccR gcR rtR ctR gtR
        have zW5 := hW5.size
        refine wp_draws (by kernel_rfl) [] [some 44, some 45, some 46, some 47, some 48, some 49, some 50, some 51, some 52, some 53, some 54, some 55, some 56, some 57, some 58, some 59, some 60, some 61, some 62, some 63, some 64, some 65, some 66, some 67, some 68, some 69, some 70, some 71, some 72, some 73, some 74, some 75, some 76, some 77, some 78] (by kernel_rfl) (fun ix v W => match ix with
          | 0 => v = .pointer (some ⟨w.heap.size, 17, none⟩)
          | 1 => v = .pointer (some ⟨w.heap.size, 17, none⟩)
          | 2 => v = .agg #[.int .i64 c.water.1, .int .i64 c.water.2]
          | 3 => v = .pointer (some ⟨W1.heap.size, 0, none⟩)
          | 4 => v = .agg #[.int .i64 (waS b c.milks m).1, .int .i64 (waS b c.milks m).2]
          | 5 => v = .pointer (some ⟨w.heap.size + 1, 6, none⟩)
          | 6 => v = .agg #[.int .i64 m.drinks.1, .int .i64 m.drinks.2]
          | 7 => v = .pointer (some ⟨w.heap.size, 0, none⟩)
          | 8 => v = .pointer (some ⟨w.heap.size, 0, none⟩)
          | 9 => v = .int .i64 b.full
          | 10 => v = .agg #[.int .i64 (refS b.full c.water (waS b c.milks m) m.drinks).1, .int .i64 (refS b.full c.water (waS b c.milks m) m.drinks).2]
          | 11 => v = .pointer (some ⟨w.heap.size, 17, none⟩)
          | 12 => v = .pointer (some ⟨w.heap.size, 19, none⟩)
          | 13 => v = .agg #[.int .i64 c.fat.1, .int .i64 c.fat.2]
          | 14 => v = .pointer (some ⟨W1.heap.size, 2, none⟩)
          | 15 => v = .agg #[.int .i64 (faS b m).1, .int .i64 (faS b m).2]
          | 16 => v = .pointer (some ⟨w.heap.size + 1, 4, none⟩)
          | 17 => v = .agg #[.int .i64 m.grass.1, .int .i64 m.grass.2]
          | 18 => v = .pointer (some ⟨w.heap.size, 0, none⟩)
          | 19 => v = .pointer (some ⟨w.heap.size, 1, none⟩)
          | 20 => v = .int .i64 b.fed
          | 21 => v = .agg #[.int .i64 (refS b.fed c.fat (faS b m) m.grass).1, .int .i64 (refS b.fed c.fat (faS b m) m.grass).2]
          | 22 => v = .pointer (some ⟨w.heap.size, 17, none⟩)
          | 23 => v = .pointer (some ⟨w.heap.size, 21, none⟩)
          | 24 => v = .agg #[.int .i64 c.sore.1, .int .i64 c.sore.2]
          | 25 => v = .pointer (some ⟨W1.heap.size, 4, none⟩)
          | 26 => v = .agg #[.int .i64 (soS b m).1, .int .i64 (soS b m).2]
          | 27 => SL v 2 #[.int .i64 c.sore.1, .int .i64 c.sore.2, .int .i64 (soS b m).1, .int .i64 (soS b m).2] W
          | 28 => v = .agg #[.int .i64 (ad c.sore (soS b m)).1, .int .i64 (ad c.sore (soS b m)).2]
          | 29 => v = .int .i64 0
          | 30 => v = .agg #[.int .i64 0, .int .i64 0]
          | 31 => v = .agg #[.int .i64 (ls (ad c.sore (soS b m)) (0, 0)).1, .int .i64 (ls (ad c.sore (soS b m)) (0, 0)).2]
          | 32 => v = .agg #[.int .i64 (cl 1000 (ls (ad c.sore (soS b m)) (0, 0))).1, .int .i64 (cl 1000 (ls (ad c.sore (soS b m)) (0, 0))).2]
          | 33 => v = .agg #[.int .i64 (refS b.full c.water (waS b c.milks m) m.drinks).1, .int .i64 (refS b.full c.water (waS b c.milks m) m.drinks).2, .int .i64 (refS b.fed c.fat (faS b m) m.grass).1, .int .i64 (refS b.fed c.fat (faS b m) m.grass).2, .int .i64 (cl 1000 (ls (ad c.sore (soS b m)) (0, 0))).1, .int .i64 (cl 1000 (ls (ad c.sore (soS b m)) (0, 0))).2]
          | 34 => v = .pointer (some ⟨w.heap.size + 1 + 1, 17, none⟩)
          | _ => True) ⟨⟨?_, ?_⟩, ⟨?_, ?_⟩, ⟨?_, ?_⟩, ⟨?_, ?_⟩, ⟨?_, ?_⟩, ⟨?_, ?_⟩, ⟨?_, ?_⟩, ⟨?_, ?_⟩, ⟨?_, ?_⟩, ⟨?_, ?_⟩, ⟨?_, ?_⟩, ⟨?_, ?_⟩, ⟨?_, ?_⟩, ⟨?_, ?_⟩, ⟨?_, ?_⟩, ⟨?_, ?_⟩, ⟨?_, ?_⟩, ⟨?_, ?_⟩, ⟨?_, ?_⟩, ⟨?_, ?_⟩, ⟨?_, ?_⟩, ⟨?_, ?_⟩, ⟨?_, ?_⟩, ⟨?_, ?_⟩, ⟨?_, ?_⟩, ⟨?_, ?_⟩, ⟨?_, ?_⟩, ⟨?_, ?_⟩, ⟨?_, ?_⟩, ⟨?_, ?_⟩, ⟨?_, ?_⟩, ⟨?_, ?_⟩, ⟨?_, ?_⟩, ⟨?_, ?_⟩, ⟨?_, ?_⟩, ?_⟩
        · intro g h; cases h
        · intro b' W hE hb hdep K hK
          have e2 : b'.tmps[2]?.getD undef = .pointer (some ⟨w.heap.size, 0, none⟩) := hb 2 (by decide)
          clear hdep hb
          go_wp2
          exact hK _ _ (XT.refl _ _) rfl
        · intro g h; cases h
        · intro b' W hE hb hdep K hK
          have e44 : b'.tmps[44]?.getD undef = .pointer (some ⟨w.heap.size, 17, none⟩) := pureX (hdep 0 (some 44) (by kernel_rfl) rfl)
          clear hdep hb
          go_wp2
          exact hK _ _ (XT.refl _ _) rfl
        · intro g h; cases h
        · intro b' W hE hb hdep K hK
          have e45 : b'.tmps[45]?.getD undef = .pointer (some ⟨w.heap.size, 17, none⟩) := pureX (hdep 1 (some 45) (by kernel_rfl) rfl)
          clear hdep hb
          obtain ⟨_, _, -, _⟩ := row_facts (hE.row ((rowOf_drew _ _).trans raW5) (by first | (simp; done) | (simp; omega)))
          obtain ⟨_, _, -, _⟩ := row_facts (hE.row ((rowOf_drew _ _).trans rbW5) (by first | (simp; done) | (simp; omega)))
          obtain ⟨_, _, -, _⟩ := row_facts (hE.row ((rowOf_drew _ _).trans rtW5) (by first | (simp; done) | (simp; omega)))
          go_wp2
          exact hK _ _ (XT.refl _ _) rfl
        · intro g h; cases h
        · intro b' W hE hb hdep K hK
          have e6 : b'.tmps[6]?.getD undef = .pointer (some ⟨W1.heap.size, 0, none⟩) := hb 6 (by decide)
          clear hdep hb
          go_wp2
          exact hK _ _ (XT.refl _ _) rfl
        · intro g h; cases h
        · intro b' W hE hb hdep K hK
          have e47 : b'.tmps[47]?.getD undef = .pointer (some ⟨W1.heap.size, 0, none⟩) := pureX (hdep 3 (some 47) (by kernel_rfl) rfl)
          clear hdep hb
          obtain ⟨_, _, -, _⟩ := row_facts (hE.row ((rowOf_drew _ _).trans raW5) (by first | (simp; done) | (simp; omega)))
          obtain ⟨_, _, -, _⟩ := row_facts (hE.row ((rowOf_drew _ _).trans rbW5) (by first | (simp; done) | (simp; omega)))
          obtain ⟨_, _, -, _⟩ := row_facts (hE.row ((rowOf_drew _ _).trans rtW5) (by first | (simp; done) | (simp; omega)))
          go_wp2
          exact hK _ _ (XT.refl _ _) rfl
        · intro g h; cases h
        · intro b' W hE hb hdep K hK
          have e3 : b'.tmps[3]?.getD undef = .pointer (some ⟨w.heap.size + 1, 0, none⟩) := hb 3 (by decide)
          clear hdep hb
          go_wp2
          exact hK _ _ (XT.refl _ _) rfl
        · intro g h; cases h
        · intro b' W hE hb hdep K hK
          have e49 : b'.tmps[49]?.getD undef = .pointer (some ⟨w.heap.size + 1, 6, none⟩) := pureX (hdep 5 (some 49) (by kernel_rfl) rfl)
          clear hdep hb
          obtain ⟨_, _, -, _⟩ := row_facts (hE.row ((rowOf_drew _ _).trans raW5) (by first | (simp; done) | (simp; omega)))
          obtain ⟨_, _, -, _⟩ := row_facts (hE.row ((rowOf_drew _ _).trans rbW5) (by first | (simp; done) | (simp; omega)))
          obtain ⟨_, _, -, _⟩ := row_facts (hE.row ((rowOf_drew _ _).trans rtW5) (by first | (simp; done) | (simp; omega)))
          go_wp2
          exact hK _ _ (XT.refl _ _) rfl
        · intro g h; cases h
        · intro b' W hE hb hdep K hK
          have e2 : b'.tmps[2]?.getD undef = .pointer (some ⟨w.heap.size, 0, none⟩) := hb 2 (by decide)
          clear hdep hb
          go_wp2
          exact hK _ _ (XT.refl _ _) rfl
        · intro g h; cases h
        · intro b' W hE hb hdep K hK
          have e51 : b'.tmps[51]?.getD undef = .pointer (some ⟨w.heap.size, 0, none⟩) := pureX (hdep 7 (some 51) (by kernel_rfl) rfl)
          clear hdep hb
          go_wp2
          exact hK _ _ (XT.refl _ _) rfl
        · intro g h; cases h
        · intro b' W hE hb hdep K hK
          have e52 : b'.tmps[52]?.getD undef = .pointer (some ⟨w.heap.size, 0, none⟩) := pureX (hdep 8 (some 52) (by kernel_rfl) rfl)
          clear hdep hb
          obtain ⟨_, _, -, _⟩ := row_facts (hE.row ((rowOf_drew _ _).trans raW5) (by first | (simp; done) | (simp; omega)))
          obtain ⟨_, _, -, _⟩ := row_facts (hE.row ((rowOf_drew _ _).trans rbW5) (by first | (simp; done) | (simp; omega)))
          obtain ⟨_, _, -, _⟩ := row_facts (hE.row ((rowOf_drew _ _).trans rtW5) (by first | (simp; done) | (simp; omega)))
          go_wp2
          exact hK _ _ (XT.refl _ _) rfl
        · intro g h; cases h
        · intro b' W hE hb hdep K hK
          have e46 : b'.tmps[46]?.getD undef = .agg #[.int .i64 c.water.1, .int .i64 c.water.2] := pureX (hdep 2 (some 46) (by kernel_rfl) rfl)
          have e48 : b'.tmps[48]?.getD undef = .agg #[.int .i64 (waS b c.milks m).1, .int .i64 (waS b c.milks m).2] := pureX (hdep 4 (some 48) (by kernel_rfl) rfl)
          have e50 : b'.tmps[50]?.getD undef = .agg #[.int .i64 m.drinks.1, .int .i64 m.drinks.2] := pureX (hdep 6 (some 50) (by kernel_rfl) rfl)
          have e53 : b'.tmps[53]?.getD undef = .int .i64 b.full := pureX (hdep 9 (some 53) (by kernel_rfl) rfl)
          clear hdep hb
          go_wp2_with fail
          refine (refilled_any c.water (waS b c.milks m) m.drinks b.full _ (by omega) (by omega) (by omega) (by omega) (by omega) (by omega) (by omega) (by omega) (by omega) (by omega) (by omega) (by omega) (by omega) (by omega)).mono ?_
          rintro e W' ⟨rfl, hB⟩
          exact hK _ _ (Ext.xt hB) rfl
        · intro g h; cases h
        · intro b' W hE hb hdep K hK
          have e2 : b'.tmps[2]?.getD undef = .pointer (some ⟨w.heap.size, 0, none⟩) := hb 2 (by decide)
          clear hdep hb
          go_wp2
          exact hK _ _ (XT.refl _ _) rfl
        · intro g h; cases h
        · intro b' W hE hb hdep K hK
          have e55 : b'.tmps[55]?.getD undef = .pointer (some ⟨w.heap.size, 17, none⟩) := pureX (hdep 11 (some 55) (by kernel_rfl) rfl)
          clear hdep hb
          go_wp2
          exact hK _ _ (XT.refl _ _) rfl
        · intro g h; cases h
        · intro b' W hE hb hdep K hK
          have e56 : b'.tmps[56]?.getD undef = .pointer (some ⟨w.heap.size, 19, none⟩) := pureX (hdep 12 (some 56) (by kernel_rfl) rfl)
          clear hdep hb
          obtain ⟨_, _, -, _⟩ := row_facts (hE.row ((rowOf_drew _ _).trans raW5) (by first | (simp; done) | (simp; omega)))
          obtain ⟨_, _, -, _⟩ := row_facts (hE.row ((rowOf_drew _ _).trans rbW5) (by first | (simp; done) | (simp; omega)))
          obtain ⟨_, _, -, _⟩ := row_facts (hE.row ((rowOf_drew _ _).trans rtW5) (by first | (simp; done) | (simp; omega)))
          go_wp2
          exact hK _ _ (XT.refl _ _) rfl
        · intro g h; cases h
        · intro b' W hE hb hdep K hK
          have e6 : b'.tmps[6]?.getD undef = .pointer (some ⟨W1.heap.size, 0, none⟩) := hb 6 (by decide)
          clear hdep hb
          go_wp2
          exact hK _ _ (XT.refl _ _) rfl
        · intro g h; cases h
        · intro b' W hE hb hdep K hK
          have e58 : b'.tmps[58]?.getD undef = .pointer (some ⟨W1.heap.size, 2, none⟩) := pureX (hdep 14 (some 58) (by kernel_rfl) rfl)
          clear hdep hb
          obtain ⟨_, _, -, _⟩ := row_facts (hE.row ((rowOf_drew _ _).trans raW5) (by first | (simp; done) | (simp; omega)))
          obtain ⟨_, _, -, _⟩ := row_facts (hE.row ((rowOf_drew _ _).trans rbW5) (by first | (simp; done) | (simp; omega)))
          obtain ⟨_, _, -, _⟩ := row_facts (hE.row ((rowOf_drew _ _).trans rtW5) (by first | (simp; done) | (simp; omega)))
          go_wp2
          exact hK _ _ (XT.refl _ _) rfl
        · intro g h; cases h
        · intro b' W hE hb hdep K hK
          have e3 : b'.tmps[3]?.getD undef = .pointer (some ⟨w.heap.size + 1, 0, none⟩) := hb 3 (by decide)
          clear hdep hb
          go_wp2
          exact hK _ _ (XT.refl _ _) rfl
        · intro g h; cases h
        · intro b' W hE hb hdep K hK
          have e60 : b'.tmps[60]?.getD undef = .pointer (some ⟨w.heap.size + 1, 4, none⟩) := pureX (hdep 16 (some 60) (by kernel_rfl) rfl)
          clear hdep hb
          obtain ⟨_, _, -, _⟩ := row_facts (hE.row ((rowOf_drew _ _).trans raW5) (by first | (simp; done) | (simp; omega)))
          obtain ⟨_, _, -, _⟩ := row_facts (hE.row ((rowOf_drew _ _).trans rbW5) (by first | (simp; done) | (simp; omega)))
          obtain ⟨_, _, -, _⟩ := row_facts (hE.row ((rowOf_drew _ _).trans rtW5) (by first | (simp; done) | (simp; omega)))
          go_wp2
          exact hK _ _ (XT.refl _ _) rfl
        · intro g h; cases h
        · intro b' W hE hb hdep K hK
          have e2 : b'.tmps[2]?.getD undef = .pointer (some ⟨w.heap.size, 0, none⟩) := hb 2 (by decide)
          clear hdep hb
          go_wp2
          exact hK _ _ (XT.refl _ _) rfl
        · intro g h; cases h
        · intro b' W hE hb hdep K hK
          have e62 : b'.tmps[62]?.getD undef = .pointer (some ⟨w.heap.size, 0, none⟩) := pureX (hdep 18 (some 62) (by kernel_rfl) rfl)
          clear hdep hb
          go_wp2
          exact hK _ _ (XT.refl _ _) rfl
        · intro g h; cases h
        · intro b' W hE hb hdep K hK
          have e63 : b'.tmps[63]?.getD undef = .pointer (some ⟨w.heap.size, 1, none⟩) := pureX (hdep 19 (some 63) (by kernel_rfl) rfl)
          clear hdep hb
          obtain ⟨_, _, -, _⟩ := row_facts (hE.row ((rowOf_drew _ _).trans raW5) (by first | (simp; done) | (simp; omega)))
          obtain ⟨_, _, -, _⟩ := row_facts (hE.row ((rowOf_drew _ _).trans rbW5) (by first | (simp; done) | (simp; omega)))
          obtain ⟨_, _, -, _⟩ := row_facts (hE.row ((rowOf_drew _ _).trans rtW5) (by first | (simp; done) | (simp; omega)))
          go_wp2
          exact hK _ _ (XT.refl _ _) rfl
        · intro g h; cases h
        · intro b' W hE hb hdep K hK
          have e57 : b'.tmps[57]?.getD undef = .agg #[.int .i64 c.fat.1, .int .i64 c.fat.2] := pureX (hdep 13 (some 57) (by kernel_rfl) rfl)
          have e59 : b'.tmps[59]?.getD undef = .agg #[.int .i64 (faS b m).1, .int .i64 (faS b m).2] := pureX (hdep 15 (some 59) (by kernel_rfl) rfl)
          have e61 : b'.tmps[61]?.getD undef = .agg #[.int .i64 m.grass.1, .int .i64 m.grass.2] := pureX (hdep 17 (some 61) (by kernel_rfl) rfl)
          have e64 : b'.tmps[64]?.getD undef = .int .i64 b.fed := pureX (hdep 20 (some 64) (by kernel_rfl) rfl)
          clear hdep hb
          go_wp2_with fail
          refine (refilled_any c.fat (faS b m) m.grass b.fed _ (by omega) (by omega) (by omega) (by omega) (by omega) (by omega) (by omega) (by omega) (by omega) (by omega) (by omega) (by omega) (by omega) (by omega)).mono ?_
          rintro e W' ⟨rfl, hB⟩
          exact hK _ _ (Ext.xt hB) rfl
        · intro g h; cases h
        · intro b' W hE hb hdep K hK
          have e2 : b'.tmps[2]?.getD undef = .pointer (some ⟨w.heap.size, 0, none⟩) := hb 2 (by decide)
          clear hdep hb
          go_wp2
          exact hK _ _ (XT.refl _ _) rfl
        · intro g h; cases h
        · intro b' W hE hb hdep K hK
          have e66 : b'.tmps[66]?.getD undef = .pointer (some ⟨w.heap.size, 17, none⟩) := pureX (hdep 22 (some 66) (by kernel_rfl) rfl)
          clear hdep hb
          go_wp2
          exact hK _ _ (XT.refl _ _) rfl
        · intro g h; cases h
        · intro b' W hE hb hdep K hK
          have e67 : b'.tmps[67]?.getD undef = .pointer (some ⟨w.heap.size, 21, none⟩) := pureX (hdep 23 (some 67) (by kernel_rfl) rfl)
          clear hdep hb
          obtain ⟨_, _, -, _⟩ := row_facts (hE.row ((rowOf_drew _ _).trans raW5) (by first | (simp; done) | (simp; omega)))
          obtain ⟨_, _, -, _⟩ := row_facts (hE.row ((rowOf_drew _ _).trans rbW5) (by first | (simp; done) | (simp; omega)))
          obtain ⟨_, _, -, _⟩ := row_facts (hE.row ((rowOf_drew _ _).trans rtW5) (by first | (simp; done) | (simp; omega)))
          go_wp2
          exact hK _ _ (XT.refl _ _) rfl
        · intro g h; cases h
        · intro b' W hE hb hdep K hK
          have e6 : b'.tmps[6]?.getD undef = .pointer (some ⟨W1.heap.size, 0, none⟩) := hb 6 (by decide)
          clear hdep hb
          go_wp2
          exact hK _ _ (XT.refl _ _) rfl
        · intro g h; cases h
        · intro b' W hE hb hdep K hK
          have e69 : b'.tmps[69]?.getD undef = .pointer (some ⟨W1.heap.size, 4, none⟩) := pureX (hdep 25 (some 69) (by kernel_rfl) rfl)
          clear hdep hb
          obtain ⟨_, _, -, _⟩ := row_facts (hE.row ((rowOf_drew _ _).trans raW5) (by first | (simp; done) | (simp; omega)))
          obtain ⟨_, _, -, _⟩ := row_facts (hE.row ((rowOf_drew _ _).trans rbW5) (by first | (simp; done) | (simp; omega)))
          obtain ⟨_, _, -, _⟩ := row_facts (hE.row ((rowOf_drew _ _).trans rtW5) (by first | (simp; done) | (simp; omega)))
          go_wp2
          exact hK _ _ (XT.refl _ _) rfl
        · intro g h; cases h
        · intro b' W hE hb hdep K hK
          have e68 : b'.tmps[68]?.getD undef = .agg #[.int .i64 c.sore.1, .int .i64 c.sore.2] := pureX (hdep 24 (some 68) (by kernel_rfl) rfl)
          have e70 : b'.tmps[70]?.getD undef = .agg #[.int .i64 (soS b m).1, .int .i64 (soS b m).2] := pureX (hdep 26 (some 70) (by kernel_rfl) rfl)
          clear hdep hb
          go_wp2
          exact hK _ _ (Ext.xt (ext_alloc _ _)) ⟨rfl, row_here0 _ _ _⟩
        · intro g h; cases h
        · intro b' W hE hb hdep K hK
          have s71 : SL (b'.tmps[71]?.getD undef) 2 #[.int .i64 c.sore.1, .int .i64 c.sore.2, .int .i64 (soS b m).1, .int .i64 (soS b m).2] W := sliceX (by simp) (hdep 27 (some 71) (by kernel_rfl) rfl)
          have e71 := s71.eq
          have r71 := s71.row
          clear s71
          generalize blk (b'.tmps[71]?.getD undef) = g71 at e71 r71
          clear hdep hb
          go_wp2_with fail
          refine (ad2 c.sore (soS b m) _ _ _ r71 (by omega) (by omega) (by omega) (by omega) (by omega) (by omega) (by omega) (by omega)).mono ?_
          rintro e W' ⟨rfl, hB⟩
          exact hK _ _ (Ext.xt hB) rfl
        · intro g h; cases h
        · intro b' W hE hb hdep K hK
          have e8 : b'.tmps[8]?.getD undef = .int .i64 0 := hb 8 (by decide)
          clear hdep hb
          go_wp2
          exact hK _ _ (XT.refl _ _) rfl
        · intro g h; cases h
        · intro b' W hE hb hdep K hK
          have e73 : b'.tmps[73]?.getD undef = .int .i64 0 := pureX (hdep 29 (some 73) (by kernel_rfl) rfl)
          clear hdep hb
          go_wp2_with fail
          refine (exactly_any _ _).mono ?_
          rintro e W' ⟨rfl, hB⟩
          exact hK _ _ (Ext.xt hB) rfl
        · intro g h; cases h
        · intro b' W hE hb hdep K hK
          have e72 : b'.tmps[72]?.getD undef = .agg #[.int .i64 (ad c.sore (soS b m)).1, .int .i64 (ad c.sore (soS b m)).2] := pureX (hdep 28 (some 72) (by kernel_rfl) rfl)
          have e74 : b'.tmps[74]?.getD undef = .agg #[.int .i64 0, .int .i64 0] := pureX (hdep 30 (some 74) (by kernel_rfl) rfl)
          clear hdep hb
          go_wp2_with fail
          refine (ls_n (ad c.sore (soS b m)) 0 _ (by omega) (by omega) (by omega) (by omega)).mono ?_
          rintro e W' ⟨rfl, hB⟩
          exact hK _ _ (Ext.xt hB) rfl
        · intro g h; cases h
        · intro b' W hE hb hdep K hK
          have e75 : b'.tmps[75]?.getD undef = .agg #[.int .i64 (ls (ad c.sore (soS b m)) (0, 0)).1, .int .i64 (ls (ad c.sore (soS b m)) (0, 0)).2] := pureX (hdep 31 (some 75) (by kernel_rfl) rfl)
          clear hdep hb
          go_wp2_with fail
          refine (clamped_any (ls (ad c.sore (soS b m)) (0, 0)) 1000 _).mono ?_
          rintro e W' ⟨rfl, hB⟩
          exact hK _ _ (Ext.xt hB) rfl
        · intro g h; cases h
        · intro b' W hE hb hdep K hK
          have e54 : b'.tmps[54]?.getD undef = .agg #[.int .i64 (refS b.full c.water (waS b c.milks m) m.drinks).1, .int .i64 (refS b.full c.water (waS b c.milks m) m.drinks).2] := pureX (hdep 10 (some 54) (by kernel_rfl) rfl)
          have e65 : b'.tmps[65]?.getD undef = .agg #[.int .i64 (refS b.fed c.fat (faS b m) m.grass).1, .int .i64 (refS b.fed c.fat (faS b m) m.grass).2] := pureX (hdep 21 (some 65) (by kernel_rfl) rfl)
          have e76 : b'.tmps[76]?.getD undef = .agg #[.int .i64 (cl 1000 (ls (ad c.sore (soS b m)) (0, 0))).1, .int .i64 (cl 1000 (ls (ad c.sore (soS b m)) (0, 0))).2] := pureX (hdep 32 (some 76) (by kernel_rfl) rfl)
          clear hdep hb
          go_wp2
          exact hK _ _ (XT.refl _ _) rfl
        · intro g h; cases h
        · intro b' W hE hb hdep K hK
          have e4 : b'.tmps[4]?.getD undef = .pointer (some ⟨w.heap.size + 1 + 1, 0, none⟩) := hb 4 (by decide)
          clear hdep hb
          go_wp2
          exact hK _ _ (XT.refl _ _) rfl
        intro f W hE hR
        have e44 : f 44 = .pointer (some ⟨w.heap.size, 17, none⟩) := pureX (hR 0 (some 44) rfl)
        have e45 : f 45 = .pointer (some ⟨w.heap.size, 17, none⟩) := pureX (hR 1 (some 45) rfl)
        have e46 : f 46 = .agg #[.int .i64 c.water.1, .int .i64 c.water.2] := pureX (hR 2 (some 46) rfl)
        have e47 : f 47 = .pointer (some ⟨W1.heap.size, 0, none⟩) := pureX (hR 3 (some 47) rfl)
        have e48 : f 48 = .agg #[.int .i64 (waS b c.milks m).1, .int .i64 (waS b c.milks m).2] := pureX (hR 4 (some 48) rfl)
        have e49 : f 49 = .pointer (some ⟨w.heap.size + 1, 6, none⟩) := pureX (hR 5 (some 49) rfl)
        have e50 : f 50 = .agg #[.int .i64 m.drinks.1, .int .i64 m.drinks.2] := pureX (hR 6 (some 50) rfl)
        have e51 : f 51 = .pointer (some ⟨w.heap.size, 0, none⟩) := pureX (hR 7 (some 51) rfl)
        have e52 : f 52 = .pointer (some ⟨w.heap.size, 0, none⟩) := pureX (hR 8 (some 52) rfl)
        have e53 : f 53 = .int .i64 b.full := pureX (hR 9 (some 53) rfl)
        have e54 : f 54 = .agg #[.int .i64 (refS b.full c.water (waS b c.milks m) m.drinks).1, .int .i64 (refS b.full c.water (waS b c.milks m) m.drinks).2] := pureX (hR 10 (some 54) rfl)
        have e55 : f 55 = .pointer (some ⟨w.heap.size, 17, none⟩) := pureX (hR 11 (some 55) rfl)
        have e56 : f 56 = .pointer (some ⟨w.heap.size, 19, none⟩) := pureX (hR 12 (some 56) rfl)
        have e57 : f 57 = .agg #[.int .i64 c.fat.1, .int .i64 c.fat.2] := pureX (hR 13 (some 57) rfl)
        have e58 : f 58 = .pointer (some ⟨W1.heap.size, 2, none⟩) := pureX (hR 14 (some 58) rfl)
        have e59 : f 59 = .agg #[.int .i64 (faS b m).1, .int .i64 (faS b m).2] := pureX (hR 15 (some 59) rfl)
        have e60 : f 60 = .pointer (some ⟨w.heap.size + 1, 4, none⟩) := pureX (hR 16 (some 60) rfl)
        have e61 : f 61 = .agg #[.int .i64 m.grass.1, .int .i64 m.grass.2] := pureX (hR 17 (some 61) rfl)
        have e62 : f 62 = .pointer (some ⟨w.heap.size, 0, none⟩) := pureX (hR 18 (some 62) rfl)
        have e63 : f 63 = .pointer (some ⟨w.heap.size, 1, none⟩) := pureX (hR 19 (some 63) rfl)
        have e64 : f 64 = .int .i64 b.fed := pureX (hR 20 (some 64) rfl)
        have e65 : f 65 = .agg #[.int .i64 (refS b.fed c.fat (faS b m) m.grass).1, .int .i64 (refS b.fed c.fat (faS b m) m.grass).2] := pureX (hR 21 (some 65) rfl)
        have e66 : f 66 = .pointer (some ⟨w.heap.size, 17, none⟩) := pureX (hR 22 (some 66) rfl)
        have e67 : f 67 = .pointer (some ⟨w.heap.size, 21, none⟩) := pureX (hR 23 (some 67) rfl)
        have e68 : f 68 = .agg #[.int .i64 c.sore.1, .int .i64 c.sore.2] := pureX (hR 24 (some 68) rfl)
        have e69 : f 69 = .pointer (some ⟨W1.heap.size, 4, none⟩) := pureX (hR 25 (some 69) rfl)
        have e70 : f 70 = .agg #[.int .i64 (soS b m).1, .int .i64 (soS b m).2] := pureX (hR 26 (some 70) rfl)
        have e72 : f 72 = .agg #[.int .i64 (ad c.sore (soS b m)).1, .int .i64 (ad c.sore (soS b m)).2] := pureX (hR 28 (some 72) rfl)
        have e73 : f 73 = .int .i64 0 := pureX (hR 29 (some 73) rfl)
        have e74 : f 74 = .agg #[.int .i64 0, .int .i64 0] := pureX (hR 30 (some 74) rfl)
        have e75 : f 75 = .agg #[.int .i64 (ls (ad c.sore (soS b m)) (0, 0)).1, .int .i64 (ls (ad c.sore (soS b m)) (0, 0)).2] := pureX (hR 31 (some 75) rfl)
        have e76 : f 76 = .agg #[.int .i64 (cl 1000 (ls (ad c.sore (soS b m)) (0, 0))).1, .int .i64 (cl 1000 (ls (ad c.sore (soS b m)) (0, 0))).2] := pureX (hR 32 (some 76) rfl)
        have e77 : f 77 = .agg #[.int .i64 (refS b.full c.water (waS b c.milks m) m.drinks).1, .int .i64 (refS b.full c.water (waS b c.milks m) m.drinks).2, .int .i64 (refS b.fed c.fat (faS b m) m.grass).1, .int .i64 (refS b.fed c.fat (faS b m) m.grass).2, .int .i64 (cl 1000 (ls (ad c.sore (soS b m)) (0, 0))).1, .int .i64 (cl 1000 (ls (ad c.sore (soS b m)) (0, 0))).2] := pureX (hR 33 (some 77) rfl)
        have e78 : f 78 = .pointer (some ⟨w.heap.size + 1 + 1, 17, none⟩) := pureX (hR 34 (some 78) rfl)
        clear hR
        have hw : Below w.heap.size w W := hE.below hW5.drew zW5 (by simp)
        refine wpL_store_part rfl 110 (.tmp 78) (.tmp 77) rfl (h := w.heap.size + 1 + 1) (off := 17) ((puts_eval (by decide) rfl).trans e77) ((puts_eval (by decide) rfl).trans e78) (hE.row ((rowOf_drew _ _).trans rcW5) (by simp)) info110 (by simp) (by simp [one_int]) ?_
        intro W6 hS
        have hw6 : Below w.heap.size w W6 := hw.trans (hS.below _ (by omega))
        have r6 : rowOf W6 (w.heap.size + 1 + 1) = some #[.int .i64 b.full, .int .i64 b.fed, .int .i64 b.rest.1, .int .i64 b.rest.2, .int .i64 b.heat.1, .int .i64 b.heat.2, .int .i64 b.toil.1, .int .i64 b.toil.2, .int .i64 b.burn.1, .int .i64 b.burn.2, .int .i64 b.rub.1, .int .i64 b.rub.2, .int .i64 b.milk.1, .int .i64 b.milk.2, .int .i64 b.heal, .int .i64 b.strong.1, .int .i64 b.strong.2, .int .i64 (refS b.full c.water (waS b c.milks m) m.drinks).1, .int .i64 (refS b.full c.water (waS b c.milks m) m.drinks).2, .int .i64 (refS b.fed c.fat (faS b m) m.grass).1, .int .i64 (refS b.fed c.fat (faS b m) m.grass).2, .int .i64 (cl 1000 (ls (ad c.sore (soS b m)) (0, 0))).1, .int .i64 (cl 1000 (ls (ad c.sore (soS b m)) (0, 0))).2, .bool c.milks] := hS.row
        clear hS hE hw
        simp only [List.filterMap_cons, List.filterMap_nil, id, puts, Act.put, List.setIfInBounds_toArray, List.set_cons_succ, List.set_cons_zero, e44, e45, e46, e47, e48, e49, e50, e51, e52, e53, e54, e55, e56, e57, e58, e59, e60, e61, e62, e63, e64, e65, e66, e67, e68, e69, e70, e72, e73, e74, e75, e76, e77, e78]
        go_wp2
        exact bodyPost_ret (results112_2 Try.results65 rfl (stored_setRow r6 _).row rfl (v := .int .u8 x) rfl) rfl ⟨by rw [← HR.out, HX.out]; simp [eveC, soreS, healS, hh], Below_setRow hw6 (by omega) _⟩
end Go.Proofs.Ytafdcbdbllpcnaa
