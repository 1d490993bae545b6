/- Contracts of package camel's days and of the iterator that it returns. -/
import Derived.Test.YtafdcbdbllpcnaaRefA
import Derived.Test.YtafdcbdbllpcnaaIter
import Derived.Test.YtafdcbdbllpcnaaMtCl
import Derived.Shelf.Abstract
import Derived.WalkKit
import Derived.OwnWalkIn
import Derived.TacticsInMore
import Derived.LoopNIn
import Derived.LoopIn
import Derived.Test.YtafdcbdbllpcnaaLeafL
import Derived.Test.YtafdcbdbllpcnaaLeafI
set_option linter.unusedVariables false
set_option linter.unusedSimpArgs false
namespace Go.Proofs.Ytafdcbdbllpcnaa
open Go.RowKit Go.Shelf
open Go.Proofs

attribute [local go_sem ↓] exec36l exec112l exec36s exec112s exec31s run_min2 run_max2
attribute [local go_sem] load36 load112 store36 store112 store31 build112 rowOf_alloc rowOf_drew setRow_alloc one_int one_bool run_min4
attribute [local go_sem ↓] exec126s exec45s
attribute [local go_sem] store126 store45 build126 load112at cut_mo cut_ev
attribute [local go_sem] Oper.semAt_some

/-- What a round of days gets: the day's number, and the day. -/
def dayEnc (b : Br) (c : Cm) (ms : List Mr) (k : Nat) : Array Value := #[.int .i64 (k : Int), .agg (dayRow b c ms k)]

theorem kept_cell {Kb : Nat → Prop} {B s0 : Nat} (W : World) {h : Nat} (v : Value) (h1 : ¬ Kb h) (h2 : h < s0) (h3 : h < B) : Kept Kb B s0 W (W.setCell ⟨h, 0, none⟩ v) :=
  Kept.ofGrown (grownBy_setCell' W h v) (fun r e => by cases e; exact ⟨h1, h2, .inl h3⟩)

theorem march_block {A W : World} {g o : Nat} {m : Mr} (hb : W.heap[g]? = A.heap[g]?) (h : MarchAt A g o m) : MarchAt W g o m := by
  obtain ⟨c0, c1, c2, c3, c4, c5, c6, c7⟩ := h
  have k := fun (j : Nat) => World.cell?_of_block (w := A) (w' := W) (a := ⟨g, j, none⟩) hb
  exact ⟨(k _).trans c0, (k _).trans c1, (k _).trans c2, (k _).trans c3, (k _).trans c4, (k _).trans c5, (k _).trans c6, (k _).trans c7⟩

set_option maxRecDepth 100000 in
set_option maxHeartbeats 8000000 in
theorem days1_in (b : Br) (c : Cm) (ms : List Mr) (hb : BdB b) (hc : BdC b c) (hall : ms.all okM = true) (hl6 : ms.length ≤ 100000) (l bw bl : Nat) (Kb : Nat → Prop) (a : Option Addr) (cap : Nat) (J Jx : Nat → World → Prop) (W : World)
    (hrow : rowOf W bw = some #[.int .i64 b.full, .int .i64 b.fed, .int .i64 b.rest.1, .int .i64 b.rest.2, .int .i64 b.heat.1, .int .i64 b.heat.2, .int .i64 b.toil.1, .int .i64 b.toil.2, .int .i64 b.burn.1, .int .i64 b.burn.2, .int .i64 b.rub.1, .int .i64 b.rub.2, .int .i64 b.milk.1, .int .i64 b.milk.2, .int .i64 b.heal, .int .i64 b.strong.1, .int .i64 b.strong.2, .int .i64 c.water.1, .int .i64 c.water.2, .int .i64 c.fat.1, .int .i64 c.fat.2, .int .i64 c.sore.1, .int .i64 c.sore.2, .bool c.milks]) (hsl : rowOf W bl = some #[.slice a ms.length cap]) (hD : ms = [] ∨ ∃ g off, a = some ⟨g, off, none⟩ ∧ MarchesAt W g off ms ∧ g < W.heap.size ∧ Kb g)
    (hJ : ∀ k A A', J k A → A.grownBy A' (some W.heap.size) → J k A')
    (hY : ∀ k W0 W1, k < ms.length → J k W0 → W.heap.size < W0.heap.size → W0.grownBy W1 (some W.heap.size) → YieldAt Fence.wide 0 Try.prog l (dayEnc b c ms k) W1 fun e W' =>
      (e = .returned (.bool true) ∧ J (k + 1) W' ∧ W1.heap.size ≤ W'.heap.size ∧ ∀ i, i < W1.heap.size → (Kb i ∨ i = W.heap.size ∨ W0.heap.size ≤ i) → W'.heap[i]? = W1.heap[i]?) ∨ (e = .returned (.bool false) ∧ Jx (k + 1) W'))
    (h0 : J 0 W) :
    CallsIn Fence.wide 0 Try.prog 90 (#[.func (.yield l) #[] #[]] ++ #[.pointer (some ⟨bw, 0, none⟩), .pointer (some ⟨bl, 0, none⟩)]) W fun e W' => (∃ v, e = .returned v) ∧ ((∃ k, SDay b c ms k ∧ J k W') ∨ (∃ k, SpDay b c ms k ∧ Jx k W')) := by
  have HB := Lib.hid hb
  have HM := Lib.hid (mornC_bd hb hc hall)
  have HO := Lib.hid (fun k hk => okM_bd (mdS_ok hall (k := k) hk))
  have HJ := Lib.hid hJ
  have HY := Lib.hid hY
  have H0 := Lib.hid h0
  have HD := Lib.hid hD
  obtain ⟨r1, c1, g1, z1⟩ := row_facts hrow
  obtain ⟨r2, c2, g2, z2⟩ := row_facts hsl
  clear hb hc hall hJ hY h0 hD hrow hsl
  refine callsIn_of_wp Try.func90 rfl trivial ?_ rfl
  simp only [Try.ntmps90, List.size_toArray, List.length_cons, List.length_nil, Nat.reduceAdd, Nat.reduceSub, Array.replicate_succ, Array.replicate_zero, List.push_toArray, List.append_toArray, List.nil_append, List.cons_append]
  gi_wp2_with (fail)
  gi_loopw [12] (fun i wr => ∃ k : Nat, k ≤ ms.length ∧ i = .int .i64 (k : Int) ∧ Hid (J k wr) ∧ rowOf wr W.heap.size = some #[.int .i64 b.full, .int .i64 b.fed, .int .i64 b.rest.1, .int .i64 b.rest.2, .int .i64 b.heat.1, .int .i64 b.heat.2, .int .i64 b.toil.1, .int .i64 b.toil.2, .int .i64 b.burn.1, .int .i64 b.burn.2, .int .i64 b.rub.1, .int .i64 b.rub.2, .int .i64 b.milk.1, .int .i64 b.milk.2, .int .i64 b.heal, .int .i64 b.strong.1, .int .i64 b.strong.2, .int .i64 (mornC b c ms k).water.1, .int .i64 (mornC b c ms k).water.2, .int .i64 (mornC b c ms k).fat.1, .int .i64 (mornC b c ms k).fat.2, .int .i64 (mornC b c ms k).sore.1, .int .i64 (mornC b c ms k).sore.2, .bool (mornC b c ms k).milks] ∧ W.heap.size < wr.heap.size ∧ Hid (∀ i, i < W.heap.size → Kb i → wr.heap[i]? = W.heap[i]?) ∧ Hid (∀ j, j < k → dieK b c ms j = false))
    (fun i _ => ms.length - (intOf i).toNat)
  case atStart =>
    refine ⟨0, Nat.zero_le _, rfl, ?_, row_here0 _ _ _, by simp, ?_, ?_⟩
    · exact HJ.out 0 _ _ H0.out (World.grownBy_alloc _ _ _)
    · exact fun i hi _ => Below.heap_alloc _ _ _ hi
    · exact fun j hj => by omega
  case round =>
    obtain ⟨k, hk, rfl, hJs, hrM, hzM, hlow, halive⟩ := hrel
    obtain ⟨rM, cM, gM, zM⟩ := row_facts hrM
    clear hrM hzM
    by_cases hlt : k < ms.length
    · obtain ⟨g, off, rfl, hMs, hg, hgK⟩ : ∃ g off, a = some ⟨g, off, none⟩ ∧ MarchesAt W g off ms ∧ g < W.heap.size ∧ Kb g := by
        rcases HD.out with h | h
        · subst h; simp at hlt
        · exact h
      have hm1 := march_block (hlow.out g hg hgK) (hMs k hlt)
      rw [mdS_get hlt] at hm1
      obtain ⟨c0, c1', c2', c3, c4, c5, c6, c7⟩ := hm1
      clear hMs r1 c1 g1 r2 c2 g2
      have hlt' : (k : Int) < (ms.length : Int) := by omega
      obtain ⟨mo, hmo⟩ : ∃ mo, mornC b c ms k = mo := ⟨_, rfl⟩
      obtain ⟨md, hmd⟩ : ∃ md, mdS ms k = md := ⟨_, rfl⟩
      obtain ⟨b', hb'⟩ : ∃ b', eB b mo md = b' := ⟨_, rfl⟩
      obtain ⟨c', hc'⟩ : ∃ c', eC b mo md = c' := ⟨_, rfl⟩
      obtain ⟨ff, hff⟩ : ∃ ff, fateS b mo md = ff := ⟨_, rfl⟩
      have HE := Lib.hid (show dayEnc b c ms k = #[.int .i64 (k : Int), .agg #[.int .i64 md.hours, .int .i64 md.load, .int .i64 md.heat.1, .int .i64 md.heat.2, .int .i64 md.grass.1, .int .i64 md.grass.2, .int .i64 md.drinks.1, .int .i64 md.drinks.2, .int .i64 b.full, .int .i64 b.fed, .int .i64 b.rest.1, .int .i64 b.rest.2, .int .i64 b.heat.1, .int .i64 b.heat.2, .int .i64 b.toil.1, .int .i64 b.toil.2, .int .i64 b.burn.1, .int .i64 b.burn.2, .int .i64 b.rub.1, .int .i64 b.rub.2, .int .i64 b.milk.1, .int .i64 b.milk.2, .int .i64 b.heal, .int .i64 b.strong.1, .int .i64 b.strong.2, .int .i64 mo.water.1, .int .i64 mo.water.2, .int .i64 mo.fat.1, .int .i64 mo.fat.2, .int .i64 mo.sore.1, .int .i64 mo.sore.2, .bool mo.milks, .int .i64 b'.full, .int .i64 b'.fed, .int .i64 b'.rest.1, .int .i64 b'.rest.2, .int .i64 b'.heat.1, .int .i64 b'.heat.2, .int .i64 b'.toil.1, .int .i64 b'.toil.2, .int .i64 b'.burn.1, .int .i64 b'.burn.2, .int .i64 b'.rub.1, .int .i64 b'.rub.2, .int .i64 b'.milk.1, .int .i64 b'.milk.2, .int .i64 b'.heal, .int .i64 b'.strong.1, .int .i64 b'.strong.2, .int .i64 c'.water.1, .int .i64 c'.water.2, .int .i64 c'.fat.1, .int .i64 c'.fat.2, .int .i64 c'.sore.1, .int .i64 c'.sore.2, .bool c'.milks, .int .u8 ff]] by subst hff hb' hc' hmd hmo; rfl)
      rw [hmo] at rM cM
      rw [hmd] at c0 c1' c2' c3 c4 c5 c6 c7
      have HMO := Lib.hid hmo
      have HMD := Lib.hid hmd
      have HB' := Lib.hid hb'
      have HC' := Lib.hid hc'
      have HF := Lib.hid hff
      clear hmo hmd hb' hc' hff
      have hbm : BdC b mo := by rw [← HMO.out]; exact HM.out k hk
      have hbd : BdM md := by rw [← HMD.out]; exact HO.out k hlt
      have HBM := Lib.hid hbm
      have HBD := Lib.hid hbd
      clear hbm hbd
      gi_wp2_with (fail)
      refine ⟨trivial, rfl, (callsIn_wide.2 (after_e b mo md b' c' ff HB'.out HC'.out HF.out _ HB.out HBM.out HBD.out)).mono ?_⟩
      rintro e W1 ⟨rfl, hB⟩
      obtain ⟨rMW1, cMW1, gMW1, zMW1⟩ := keep_row hB (g := W.heap.size) (rowSkip rM)
      obtain ⟨rdW1, cdW1, gdW1, zdW1⟩ := keep_row hB (g := wr.heap.size) (row_here0 _ _ _)
      have hgr : Ext wr (W1.alloc (.cells #[.int .i64 b'.full, .int .i64 b'.fed, .int .i64 b'.rest.1, .int .i64 b'.rest.2, .int .i64 b'.heat.1, .int .i64 b'.heat.2, .int .i64 b'.toil.1, .int .i64 b'.toil.2, .int .i64 b'.burn.1, .int .i64 b'.burn.2, .int .i64 b'.rub.1, .int .i64 b'.rub.2, .int .i64 b'.milk.1, .int .i64 b'.milk.2, .int .i64 b'.heal, .int .i64 b'.strong.1, .int .i64 b'.strong.2, .int .i64 c'.water.1, .int .i64 c'.water.2, .int .i64 c'.fat.1, .int .i64 c'.fat.2, .int .i64 c'.sore.1, .int .i64 c'.sore.2, .bool c'.milks] 112)) := (ext_alloc wr _).trans (Ext.trans hB (ext_alloc _ _))
      have hlow2 := Lib.hid (fun i (hi : i < W.heap.size) (hk : Kb i) => (hgr.block i (by have := zM; omega)).trans (hlow.out i hi hk))
      have HgrS := hgr.size
      obtain ⟨fn, tmps, assign, body, hy, hR⟩ := HY.out k wr _ hlt hJs.out zM (hgr.grown _)
      rw [HE.out] at hy
      have HR := Lib.hid hR
      clear hR hB rM cM gM
      have HX := Lib.hid (rowSkip (o := .cells #[.int .i64 b'.full, .int .i64 b'.fed, .int .i64 b'.rest.1, .int .i64 b'.rest.2, .int .i64 b'.heat.1, .int .i64 b'.heat.2, .int .i64 b'.toil.1, .int .i64 b'.toil.2, .int .i64 b'.burn.1, .int .i64 b'.burn.2, .int .i64 b'.rub.1, .int .i64 b'.rub.2, .int .i64 b'.milk.1, .int .i64 b'.milk.2, .int .i64 b'.heal, .int .i64 b'.strong.1, .int .i64 b'.strong.2, .int .i64 c'.water.1, .int .i64 c'.water.2, .int .i64 c'.fat.1, .int .i64 c'.fat.2, .int .i64 c'.sore.1, .int .i64 c'.sore.2, .bool c'.milks] 112) rMW1)
      have hle : wr.heap.size ≤ W1.heap.size := by omega
      clear hlow
      gi_wp2_with (fail)
      refine ⟨rfl, HR.out.mono ?_⟩
      rintro e W3 (⟨rfl, hJ3, hs3, hk3⟩ | ⟨rfl, hJx3⟩)
      · have rM3 : rowOf W3 W.heap.size = some #[.int .i64 b.full, .int .i64 b.fed, .int .i64 b.rest.1, .int .i64 b.rest.2, .int .i64 b.heat.1, .int .i64 b.heat.2, .int .i64 b.toil.1, .int .i64 b.toil.2, .int .i64 b.burn.1, .int .i64 b.burn.2, .int .i64 b.rub.1, .int .i64 b.rub.2, .int .i64 b.milk.1, .int .i64 b.milk.2, .int .i64 b.heal, .int .i64 b.strong.1, .int .i64 b.strong.2, .int .i64 mo.water.1, .int .i64 mo.water.2, .int .i64 mo.fat.1, .int .i64 mo.fat.2, .int .i64 mo.sore.1, .int .i64 mo.sore.2, .bool mo.milks] := row_of_block HX.out (hk3 _ (by simp; omega) (.inr (.inl rfl)))
        have rE3 : rowOf W3 W1.heap.size = some #[.int .i64 b'.full, .int .i64 b'.fed, .int .i64 b'.rest.1, .int .i64 b'.rest.2, .int .i64 b'.heat.1, .int .i64 b'.heat.2, .int .i64 b'.toil.1, .int .i64 b'.toil.2, .int .i64 b'.burn.1, .int .i64 b'.burn.2, .int .i64 b'.rub.1, .int .i64 b'.rub.2, .int .i64 b'.milk.1, .int .i64 b'.milk.2, .int .i64 b'.heal, .int .i64 b'.strong.1, .int .i64 b'.strong.2, .int .i64 c'.water.1, .int .i64 c'.water.2, .int .i64 c'.fat.1, .int .i64 c'.fat.2, .int .i64 c'.sore.1, .int .i64 c'.sore.2, .bool c'.milks] := row_of_block (row_here0 _ _ _) (hk3 W1.heap.size (by simp) (.inr (.inr hle)))
        have HL := Lib.hid (fun i (hi : i < W.heap.size) (hk : Kb i) => (hk3 i (by simp; omega) (.inl hk)).trans (hlow2.out i hi hk))
        have HJ3 := Lib.hid hJ3
        have HS3 := Lib.hid hs3
        clear rMW1 cMW1 gMW1 rdW1 cdW1 gdW1 hlow2 hJ3 hk3 hs3 c0 c1' c2' c3 c4 c5 c6 c7 hy hgr HX HR HE hJs HY
        by_cases hd : ff = 2
        · have HDI := Lib.hid (show dieK b c ms k = true by unfold dieK; rw [HMO.out, HMD.out]; exact fate2.1 (HF.out.trans hd))
          clear HF
          subst hd
          gi_wp2
          refine bodyPost_ret (results_none rfl _ _ _) rfl ?_
          exact ⟨⟨_, rfl⟩, .inl ⟨k + 1, ⟨hlt, fun j hj => halive.out j (by omega), .inr ⟨by omega, by simpa using HDI.out⟩⟩, HJ3.out⟩⟩
        · have hdd : diesS b mo md = false := by
            cases h : diesS b mo md with
            | false => rfl
            | true => exact absurd (HF.out.symm.trans (fate2.2 h)) hd
          have HDI := Lib.hid (show dieK b c ms k = false by unfold dieK; rw [HMO.out, HMD.out]; exact hdd)
          have e1 : b' = b := by rw [← HB'.out]; simp [eB, hdd]
          have e2 : c' = mornC b c ms (k + 1) := by rw [← HC'.out, mornC, HMO.out, HMD.out]; simp [eC, hdd]
          have E1 := Lib.hid e1
          have E2 := Lib.hid e2
          have hfn : (ff == 2) = false := by simpa using hd
          clear e1 e2 hdd HF
          gi_wp2
          go_roundw
          case rel =>
            refine ⟨k + 1, hlt, by simp, HJ.out _ _ _ HJ3.out (grown_setRow _ _ _), ?_, ?_, ?_, ?_⟩
            · rw [(stored_setRow rM3 _).row, E1.out, E2.out]
            · have := HS3.out; simp [World.setRow] at this ⊢; omega
            · intro i hi hk; exact (setRow_other _ _ _ _ (by omega)).trans (HL.out i hi hk)
            · intro j hj
              rcases Nat.lt_or_ge j k with h | h
              · exact halive.out j h
              · obtain rfl : j = k := by omega
                exact HDI.out
          case measure => simp [intOf]; omega
      · clear rMW1 cMW1 gMW1 rdW1 cdW1 gdW1 hlow2 c0 c1' c2' c3 c4 c5 c6 c7 hy hgr HX HR HE hJs HY
        have HJX := Lib.hid hJx3
        clear hJx3
        gi_wp2
        refine bodyPost_ret (results_none rfl _ _ _) rfl ?_
        exact ⟨⟨_, rfl⟩, .inr ⟨k + 1, ⟨hlt, fun j hj => halive.out j (by omega)⟩, HJX.out⟩⟩
    · obtain rfl : k = ms.length := by omega
      gi_wp2
      go_end0
      exact ⟨⟨_, rfl⟩, .inl ⟨_, ⟨Nat.le_refl _, fun j hj => halive.out j (by omega), .inl rfl⟩, hJs.out⟩⟩

/-- A list of days that lies in a kept block, or none. -/
def DaysLow (W : World) (Kb : Nat → Prop) (a : Option Addr) (ms : List Mr) : Prop := ms = [] ∨ ∃ g off, a = some ⟨g, off, none⟩ ∧ MarchesAt W g off ms ∧ g < W.heap.size ∧ Kb g

theorem days_it (b : Br) (c : Cm) (ms : List Mr) (hb : BdB b) (hc : BdC b c) (hall : ms.all okM = true) (hl6 : ms.length ≤ 100000) (bw bl : Nat) (Kb : Nat → Prop) (a : Option Addr) (cap : Nat) (w : World)
    (hrow : rowOf w bw = some #[.int .i64 b.full, .int .i64 b.fed, .int .i64 b.rest.1, .int .i64 b.rest.2, .int .i64 b.heat.1, .int .i64 b.heat.2, .int .i64 b.toil.1, .int .i64 b.toil.2, .int .i64 b.burn.1, .int .i64 b.burn.2, .int .i64 b.rub.1, .int .i64 b.rub.2, .int .i64 b.milk.1, .int .i64 b.milk.2, .int .i64 b.heal, .int .i64 b.strong.1, .int .i64 b.strong.2, .int .i64 c.water.1, .int .i64 c.water.2, .int .i64 c.fat.1, .int .i64 c.fat.2, .int .i64 c.sore.1, .int .i64 c.sore.2, .bool c.milks]) (hsl : rowOf w bl = some #[.slice a ms.length cap]) (hD : DaysLow w Kb a ms) :
    IterAt (P := Try.prog) 90 #[.pointer (some ⟨bw, 0, none⟩), .pointer (some ⟨bl, 0, none⟩)] (dayEnc b c ms) Kb ms.length (SDay b c ms) (SpDay b c ms) w := by
  intro l J Jx W hW hz hJ _ hY h0
  have k1 := keep_row hW hrow
  have k2 := keep_row hW hsl
  refine days1_in b c ms hb hc hall hl6 l bw bl Kb a cap J Jx W k1.1 k2.1 ?_ hJ hY h0
  rcases hD with h | ⟨g, off, h1, h2, h3, h4⟩
  · exact .inl h
  · exact .inr ⟨g, off, h1, marches_below hW (by omega) h2, by omega, h4⟩

set_option maxRecDepth 100000 in
theorem days_any (b : Br) (c : Cm) (a : Option Addr) (n cap : Nat) (w : World) :
    Calls Try.prog 67 #[.agg #[.int .i64 b.full, .int .i64 b.fed, .int .i64 b.rest.1, .int .i64 b.rest.2, .int .i64 b.heat.1, .int .i64 b.heat.2, .int .i64 b.toil.1, .int .i64 b.toil.2, .int .i64 b.burn.1, .int .i64 b.burn.2, .int .i64 b.rub.1, .int .i64 b.rub.2, .int .i64 b.milk.1, .int .i64 b.milk.2, .int .i64 b.heal, .int .i64 b.strong.1, .int .i64 b.strong.2, .int .i64 c.water.1, .int .i64 c.water.2, .int .i64 c.fat.1, .int .i64 c.fat.2, .int .i64 c.sore.1, .int .i64 c.sore.2, .bool c.milks], .slice a n cap] w fun e w' => e = .returned (.func (.func 90) #[] #[.pointer (some ⟨w.heap.size, 0, none⟩), .pointer (some ⟨w.heap.size + 1, 0, none⟩)]) ∧
      w' = (w.alloc (.cells #[.int .i64 b.full, .int .i64 b.fed, .int .i64 b.rest.1, .int .i64 b.rest.2, .int .i64 b.heat.1, .int .i64 b.heat.2, .int .i64 b.toil.1, .int .i64 b.toil.2, .int .i64 b.burn.1, .int .i64 b.burn.2, .int .i64 b.rub.1, .int .i64 b.rub.2, .int .i64 b.milk.1, .int .i64 b.milk.2, .int .i64 b.heal, .int .i64 b.strong.1, .int .i64 b.strong.2, .int .i64 c.water.1, .int .i64 c.water.2, .int .i64 c.fat.1, .int .i64 c.fat.2, .int .i64 c.sore.1, .int .i64 c.sore.2, .bool c.milks] 112)).alloc (.cells #[.slice a n cap] 47) := by
  go_enter Try.func67, Try.ntmps67
  go_wp2
  go_returns
  exact ⟨rfl, rfl⟩
end Go.Proofs.Ytafdcbdbllpcnaa
/- Contract of package camel's Days. -/
namespace Go.Proofs.Ytafdcbdbllpcnaa
open Go.RowKit Go.Shelf
open Go.Proofs

attribute [local go_sem ↓] exec36l exec112l exec36s exec112s exec31s run_min2 run_max2
attribute [local go_sem] load36 load112 store36 store112 store31 build112 rowOf_alloc rowOf_drew setRow_alloc one_int one_bool run_min4
attribute [local go_sem ↓] exec126s exec45s exec39s
attribute [local go_sem] store126 store45 build126 load112at cut_mo cut_ev store39 rowOf_setCell_if Option.map_some
attribute [local go_sem] Oper.semAt_some

theorem chkT_x (b : Br) (c : Cm) (a : Option Addr) (cap : Nat) (ms : List Mr) (x : Int) (hx : chkT b c ms = x) (w : World) (h : DaysIn w a cap ms) (hl : ms.length ≤ 100000) :
    Calls Try.prog 57 #[.agg #[.int .i64 b.full, .int .i64 b.fed, .int .i64 b.rest.1, .int .i64 b.rest.2, .int .i64 b.heat.1, .int .i64 b.heat.2, .int .i64 b.toil.1, .int .i64 b.toil.2, .int .i64 b.burn.1, .int .i64 b.burn.2, .int .i64 b.rub.1, .int .i64 b.rub.2, .int .i64 b.milk.1, .int .i64 b.milk.2, .int .i64 b.heal, .int .i64 b.strong.1, .int .i64 b.strong.2], .agg #[.int .i64 c.water.1, .int .i64 c.water.2, .int .i64 c.fat.1, .int .i64 c.fat.2, .int .i64 c.sore.1, .int .i64 c.sore.2, .bool c.milks], .slice a ms.length cap] w fun e w' => e = .returned (.int .i64 x) ∧ Below w.heap.size w w' := by
  subst hx; exact checkTrip_any b c a cap ms w h hl

theorem chkT_ok {b : Br} {c : Cm} {ms : List Mr} (h : chkT b c ms = 0) : BdB b ∧ BdC b c ∧ ms.all okM = true ∧ ms.length ≤ 60 := by
  unfold chkT at h
  by_cases h0 : chkC b c = 0
  · simp only [h0, if_true] at h
    by_cases h6 : 60 < ms.length
    · simp [h6] at h
    · simp only [h6, if_false] at h
      cases hm : ms.all okM with
      | false => simp [hm] at h
      | true => exact ⟨(chkC_ok h0).1, (chkC_ok h0).2, rfl, by omega⟩
  · simp only [h0, if_false] at h
/-- What Days returns: the animal after each day, its worst fate; or the first day on which it dies. -/
def DaysOut (b : Br) (c : Cm) (ms : List Mr) (n₀ : Nat) (e : Ending) (W : World) : Prop :=
  ((∀ j, j < ms.length → dieK b c ms j = false) ∧ ∃ v, e = .returned (.tuple #[v, .int .u8 (fatN b c ms ms.length), .int .i64 0, .int .i64 0]) ∧ W.ownsRow n₀ 39 7 v ms.length (evs b c ms ms.length) ∧ (v = .slice none 0 0 ↔ ms.length = 0)) ∨
  (∃ k, k < ms.length ∧ dieK b c ms k = true ∧ (∀ j, j < k → dieK b c ms j = false) ∧ e = .returned (.tuple #[.slice none 0 0, .int .u8 2, .int .i64 (k : Int), .int .i64 13]))

theorem loadVar_cell {t : TypeId} {d : TypeDesc} (hu : Try.prog.underlying t = some d) (hd : (match d with | .struct _ | .array _ _ => true | _ => false) = false) {W : World} {g : Nat} {v : Value} (h : rowOf W g = some #[v]) : (loadVar t ⟨g, 0, none⟩).run Try.prog W = .ok v W := by
  have hc : W.cell? ⟨g, 0, none⟩ = some v := (cell_of_rowOf h).1 0
  have hagg : (isAgg t).run Try.prog W = .ok false W := by
    unfold isAgg
    rw [Sem.run_bind, run_underlying hu W]
    cases d <;> simp_all
  have hl := run_load (P := Try.prog) (w := W) ⟨g, 0, none⟩ .plain
  rw [hc] at hl
  simp only [loadVar, Sem.run_bind, hagg, Result.andThen_ok]
  exact hl
theorem results_cells4 {fn : Func} {p q r s : Tmp} (h : fn.results = #[.cell p 41, .cell q 5, .cell r 3, .cell s 24]) {tmps : Array Value} {W : World} {g1 g2 g3 g4 : Nat} {v1 v2 v3 v4 : Value}
    (h1 : tmps.getD p undef = .pointer (some ⟨g1, 0, none⟩)) (r1 : rowOf W g1 = some #[v1]) (h2 : tmps.getD q undef = .pointer (some ⟨g2, 0, none⟩)) (r2 : rowOf W g2 = some #[v2])
    (h3 : tmps.getD r undef = .pointer (some ⟨g3, 0, none⟩)) (r3 : rowOf W g3 = some #[v3]) (h4 : tmps.getD s undef = .pointer (some ⟨g4, 0, none⟩)) (r4 : rowOf W g4 = some #[v4]) :
    (results fn tmps).run Try.prog W = .ok (.tuple #[v1, v2, v3, v4]) W := by
  have e1 : tmps[p]?.getD undef = .pointer (some ⟨g1, 0, none⟩) := by simpa using h1
  have e2 : tmps[q]?.getD undef = .pointer (some ⟨g2, 0, none⟩) := by simpa using h2
  have e3 : tmps[r]?.getD undef = .pointer (some ⟨g3, 0, none⟩) := by simpa using h3
  have e4 : tmps[s]?.getD undef = .pointer (some ⟨g4, 0, none⟩) := by simpa using h4
  simp [results, h, e1, e2, e3, e4, asAddr, loadVar_cell Try.underlying41 rfl r1, loadVar_cell Try.underlying5 rfl r2, loadVar_cell Try.underlying3 rfl r3, loadVar_cell Try.underlying24 rfl r4]
theorem info39z : (Try.prog.info? 39).map (fun i => (i.zero, i.size, i.bytes)) = some (some (.agg #[.int .i64 0, .int .i64 0, .int .i64 0, .int .i64 0, .int .i64 0, .int .i64 0, .bool false]), 7, 56) := by kernel_rfl

set_option maxRecDepth 100000 in
set_option maxHeartbeats 8000000 in
theorem Days_ok (b : Br) (c : Cm) (a : Option Addr) (cap : Nat) (ms : List Mr) (w : World) (h : DaysIn w a cap ms) (hl : ms.length ≤ 100000) (hx : chkT b c ms = 0) :
    Calls Try.prog 26 #[.agg #[.int .i64 b.full, .int .i64 b.fed, .int .i64 b.rest.1, .int .i64 b.rest.2, .int .i64 b.heat.1, .int .i64 b.heat.2, .int .i64 b.toil.1, .int .i64 b.toil.2, .int .i64 b.burn.1, .int .i64 b.burn.2, .int .i64 b.rub.1, .int .i64 b.rub.2, .int .i64 b.milk.1, .int .i64 b.milk.2, .int .i64 b.heal, .int .i64 b.strong.1, .int .i64 b.strong.2], .agg #[.int .i64 c.water.1, .int .i64 c.water.2, .int .i64 c.fat.1, .int .i64 c.fat.2, .int .i64 c.sore.1, .int .i64 c.sore.2, .bool c.milks], .slice a ms.length cap] w fun e w' => DaysOut b c ms w.heap.size e w' ∧ Below w.heap.size w w' := by
  have HX := Lib.hid hx
  have HD := Lib.hid h
  clear hx h
  refine (callsIn_wide (n := 0)).1 ?_
  refine callsIn_of_wp_marks Try.func26 rfl trivial ?_ rfl
  simp only [Try.ntmps26, List.size_toArray, List.length_cons, List.length_nil, Nat.reduceAdd, Nat.reduceSub, Array.replicate_succ, Array.replicate_zero, List.push_toArray, List.append_toArray, List.nil_append, List.cons_append]
  gi_wp2_with (fail)
  refine ⟨trivial, rfl, (callsIn_wide.2 (chkT_x b c a cap ms 0 HX.out _ (HD.out.below (B := w.heap.size) (by go_grown) (Nat.le_refl _) (by simp; omega)) hl)).mono ?_⟩
  rintro e W1 ⟨rfl, hB⟩
  have hW1 : Below w.heap.size w W1 := Below.trans (by go_grown) (hB.mono (by simp; try omega))
  have zW1 := hW1.size
  obtain ⟨raW1, caW1, gaW1, zaW1⟩ := keep_row hB (g := w.heap.size) (by repeat (first | with_reducible assumption | with_reducible apply row_here0 | with_reducible apply row_here1 | with_reducible apply row_here2 | with_reducible apply row_here3 | with_reducible apply row_here4 | with_reducible apply row_here5 | with_reducible apply row_here6 | with_reducible apply rowSkip))
  obtain ⟨rbW1, cbW1, gbW1, zbW1⟩ := keep_row hB (g := w.heap.size + 1) (by repeat (first | with_reducible assumption | with_reducible apply row_here0 | with_reducible apply row_here1 | with_reducible apply row_here2 | with_reducible apply row_here3 | with_reducible apply row_here4 | with_reducible apply row_here5 | with_reducible apply row_here6 | with_reducible apply rowSkip))
  obtain ⟨rrW1, crW1, grW1, zrW1⟩ := keep_row hB (g := w.heap.size + 1 + 1) (by repeat (first | with_reducible assumption | with_reducible apply row_here0 | with_reducible apply row_here1 | with_reducible apply row_here2 | with_reducible apply row_here3 | with_reducible apply row_here4 | with_reducible apply row_here5 | with_reducible apply row_here6 | with_reducible apply rowSkip))
  obtain ⟨rfW1, cfW1, gfW1, zfW1⟩ := keep_row hB (g := w.heap.size + 1 + 1 + 1) (by repeat (first | with_reducible assumption | with_reducible apply row_here0 | with_reducible apply row_here1 | with_reducible apply row_here2 | with_reducible apply row_here3 | with_reducible apply row_here4 | with_reducible apply row_here5 | with_reducible apply row_here6 | with_reducible apply rowSkip))
  obtain ⟨riW1, ciW1, giW1, ziW1⟩ := keep_row hB (g := w.heap.size + 1 + 1 + 1 + 1) (by repeat (first | with_reducible assumption | with_reducible apply row_here0 | with_reducible apply row_here1 | with_reducible apply row_here2 | with_reducible apply row_here3 | with_reducible apply row_here4 | with_reducible apply row_here5 | with_reducible apply row_here6 | with_reducible apply rowSkip))
  obtain ⟨reW1, ceW1, geW1, zeW1⟩ := keep_row hB (g := w.heap.size + 1 + 1 + 1 + 1 + 1) (by repeat (first | with_reducible assumption | with_reducible apply row_here0 | with_reducible apply row_here1 | with_reducible apply row_here2 | with_reducible apply row_here3 | with_reducible apply row_here4 | with_reducible apply row_here5 | with_reducible apply row_here6 | with_reducible apply rowSkip))
  clear hB
  gi_wp2_with (fail)
  have hS := stored_cell rfW1 (.int .u8 0)
  have hW2 : Below w.heap.size w (W1.setCell ⟨w.heap.size + 1 + 1 + 1, 0, none⟩ (.int .u8 0)) := hW1.trans (hS.below _ (by omega))
  have raW2 := hS.keeps (g := w.heap.size) (by omega) raW1
  have rbW2 := hS.keeps (g := w.heap.size + 1) (by omega) rbW1
  have rrW2 := hS.keeps (g := w.heap.size + 1 + 1) (by omega) rrW1
  have rfW2 := hS.row
  have riW2 := hS.keeps (g := w.heap.size + 1 + 1 + 1 + 1) (by omega) riW1
  have reW2 := hS.keeps (g := w.heap.size + 1 + 1 + 1 + 1 + 1) (by omega) reW1
  clear hS
  generalize W1.setCell ⟨w.heap.size + 1 + 1 + 1, 0, none⟩ (.int .u8 0) = W2 at hW2 raW2 rbW2 rrW2 rfW2 riW2 reW2 ⊢
  have caW2 := (cell_of_rowOf raW2).1
  have gaW2 := (cell_of_rowOf raW2).2.1
  have zaW2 := (cell_of_rowOf raW2).2.2
  clear raW1 caW1 gaW1
  have cbW2 := (cell_of_rowOf rbW2).1
  have gbW2 := (cell_of_rowOf rbW2).2.1
  have zbW2 := (cell_of_rowOf rbW2).2.2
  clear rbW1 cbW1 gbW1
  have crW2 := (cell_of_rowOf rrW2).1
  have grW2 := (cell_of_rowOf rrW2).2.1
  have zrW2 := (cell_of_rowOf rrW2).2.2
  clear rrW1 crW1 grW1
  have cfW2 := (cell_of_rowOf rfW2).1
  have gfW2 := (cell_of_rowOf rfW2).2.1
  have zfW2 := (cell_of_rowOf rfW2).2.2
  clear rfW1 cfW1 gfW1
  have ciW2 := (cell_of_rowOf riW2).1
  have giW2 := (cell_of_rowOf riW2).2.1
  have ziW2 := (cell_of_rowOf riW2).2.2
  clear riW1 ciW1 giW1
  have ceW2 := (cell_of_rowOf reW2).1
  have geW2 := (cell_of_rowOf reW2).2.1
  have zeW2 := (cell_of_rowOf reW2).2.2
  clear reW1 ceW1 geW1
  have zW2 := hW2.size
  refine ⟨trivial, rfl, (callsIn_wide.2 (atWork_any b c _)).mono ?_⟩
  rintro e W3 ⟨rfl, hB⟩
  have hW3 : Below w.heap.size w W3 := hW2.trans (Below.trans (by have := hW2.size; go_grown) (hB.mono (by have := hW2.size; simp; try omega)))
  have zW3 := hW3.size
  obtain ⟨raW3, caW3, gaW3, zaW3⟩ := keep_row hB (g := w.heap.size) (by repeat (first | with_reducible assumption | with_reducible apply row_here0 | with_reducible apply row_here1 | with_reducible apply row_here2 | with_reducible apply row_here3 | with_reducible apply rowSkip))
  obtain ⟨rbW3, cbW3, gbW3, zbW3⟩ := keep_row hB (g := w.heap.size + 1) (by repeat (first | with_reducible assumption | with_reducible apply row_here0 | with_reducible apply row_here1 | with_reducible apply row_here2 | with_reducible apply row_here3 | with_reducible apply rowSkip))
  obtain ⟨rrW3, crW3, grW3, zrW3⟩ := keep_row hB (g := w.heap.size + 1 + 1) (by repeat (first | with_reducible assumption | with_reducible apply row_here0 | with_reducible apply row_here1 | with_reducible apply row_here2 | with_reducible apply row_here3 | with_reducible apply rowSkip))
  obtain ⟨rfW3, cfW3, gfW3, zfW3⟩ := keep_row hB (g := w.heap.size + 1 + 1 + 1) (by repeat (first | with_reducible assumption | with_reducible apply row_here0 | with_reducible apply row_here1 | with_reducible apply row_here2 | with_reducible apply row_here3 | with_reducible apply rowSkip))
  obtain ⟨riW3, ciW3, giW3, ziW3⟩ := keep_row hB (g := w.heap.size + 1 + 1 + 1 + 1) (by repeat (first | with_reducible assumption | with_reducible apply row_here0 | with_reducible apply row_here1 | with_reducible apply row_here2 | with_reducible apply row_here3 | with_reducible apply rowSkip))
  obtain ⟨reW3, ceW3, geW3, zeW3⟩ := keep_row hB (g := w.heap.size + 1 + 1 + 1 + 1 + 1) (by repeat (first | with_reducible assumption | with_reducible apply row_here0 | with_reducible apply row_here1 | with_reducible apply row_here2 | with_reducible apply row_here3 | with_reducible apply rowSkip))
  clear hB
  have hD3 := Lib.hid (HD.out.below hW3 (Nat.le_refl _) zW3)
  clear raW2 caW2 gaW2 rbW2 cbW2 gbW2 rrW2 crW2 grW2 rfW2 cfW2 gfW2 riW2 ciW2 giW2 reW2 ceW2 geW2
  gi_wp2_with (fail)
  refine ⟨trivial, rfl, (callsIn_wide.2 (days_any b c a ms.length cap _)).mono ?_⟩
  rintro e W4' ⟨rfl, hW4'⟩
  have rwW4 : rowOf W4' W3.heap.size = some #[.int .i64 b.full, .int .i64 b.fed, .int .i64 b.rest.1, .int .i64 b.rest.2, .int .i64 b.heat.1, .int .i64 b.heat.2, .int .i64 b.toil.1, .int .i64 b.toil.2, .int .i64 b.burn.1, .int .i64 b.burn.2, .int .i64 b.rub.1, .int .i64 b.rub.2, .int .i64 b.milk.1, .int .i64 b.milk.2, .int .i64 b.heal, .int .i64 b.strong.1, .int .i64 b.strong.2, .int .i64 c.water.1, .int .i64 c.water.2, .int .i64 c.fat.1, .int .i64 c.fat.2, .int .i64 c.sore.1, .int .i64 c.sore.2, .bool c.milks] := by rw [hW4']; exact rowSkip (row_here0 _ _ _)
  have rlW4 : rowOf W4' (W3.heap.size + 1) = some #[.slice a ms.length cap] := by rw [hW4']; exact row_here1 _ _ _ _
  have hE4 : Ext W3 W4' := by rw [hW4']; exact (ext_alloc _ _).trans (ext_alloc _ _)
  have zz4 : W4'.heap.size = W3.heap.size + 2 := by rw [hW4']; simp
  clear hW4'
  gi_wp2_with (fail)
  obtain ⟨hb, hc, hall, h6⟩ := chkT_ok HX.out
  have hW4 : Below w.heap.size w W4' := hW3.trans (Below.mono hE4 zW3)
  have zB : w.heap.size + 6 ≤ W4'.heap.size := by omega
  have hDL : DaysLow W4' (fun i => i < w.heap.size) a ms := by
    rcases HD.out with ⟨-, -, h⟩ | ⟨g, off, h1, h2, h3⟩
    · exact .inl h
    · exact .inr ⟨g, off, h1, marches_below hW4 h3 h2, by omega, h3⟩
  have hIT := days_it b c ms hb hc hall hl W3.heap.size (W3.heap.size + 1) (fun i => i < w.heap.size) a cap W4' rwW4 rlW4 hDL
  have rr4 := (keep_row hE4 rrW3).1
  have rf4 := (keep_row hE4 rfW3).1
  have ri4 := (keep_row hE4 riW3).1
  have re4 := (keep_row hE4 reW3).1
  clear rwW4 rlW4 hDL hE4 zz4 raW3 caW3 gaW3 rbW3 cbW3 gbW3 rrW3 crW3 grW3 rfW3 cfW3 gfW3 riW3 ciW3 giW3 reW3 ceW3 geW3 hD3 hb hc hall hW3 hW2 hW1 HX HD
  generalize W4' = B4 at *
  generalize (Value.agg #[.int .i64 b.full, .int .i64 b.fed, .int .i64 b.rest.1, .int .i64 b.rest.2, .int .i64 b.heat.1, .int .i64 b.heat.2, .int .i64 b.toil.1, .int .i64 b.toil.2, .int .i64 b.burn.1, .int .i64 b.burn.2, .int .i64 b.rub.1, .int .i64 b.rub.2, .int .i64 b.milk.1, .int .i64 b.milk.2, .int .i64 b.heal, .int .i64 b.strong.1, .int .i64 b.strong.2]) = vB
  generalize (Value.agg #[.int .i64 c.water.1, .int .i64 c.water.2, .int .i64 c.fat.1, .int .i64 c.fat.2, .int .i64 c.sore.1, .int .i64 c.sore.2, .bool c.milks]) = vC
  generalize (Value.agg #[.int .i64 b.full, .int .i64 b.fed, .int .i64 b.rest.1, .int .i64 b.rest.2, .int .i64 b.heat.1, .int .i64 b.heat.2, .int .i64 b.toil.1, .int .i64 b.toil.2, .int .i64 b.burn.1, .int .i64 b.burn.2, .int .i64 b.rub.1, .int .i64 b.rub.2, .int .i64 b.milk.1, .int .i64 b.milk.2, .int .i64 b.heal, .int .i64 b.strong.1, .int .i64 b.strong.2, .int .i64 c.water.1, .int .i64 c.water.2, .int .i64 c.fat.1, .int .i64 c.fat.2, .int .i64 c.sore.1, .int .i64 c.sore.2, .bool c.milks]) = vW
  refine wpIn_iter (gf := 90) (lb := #[.pointer (some ⟨W3.heap.size, 0, none⟩), .pointer (some ⟨W3.heap.size + 1, 0, none⟩)]) rfl (enters_of Try.func90 (by kernel_rfl) rfl) (fun _ => rfl) hIT (fun i hi => by omega)
    (fun k W => (∃ v, rowOf W (w.heap.size + 1 + 1) = some #[v] ∧ W.ownsRow (B4.heap.size + 3) 39 7 v k (evs b c ms k) ∧ (v = .slice none 0 0 ↔ k = 0)) ∧ rowOf W (w.heap.size + 1 + 1 + 1) = some #[.int .u8 (fatN b c ms k)] ∧ rowOf W (w.heap.size + 1 + 1 + 1 + 1) = some #[.int .i64 0] ∧ rowOf W (w.heap.size + 1 + 1 + 1 + 1 + 1) = some #[.int .i64 0] ∧ Below w.heap.size w W ∧ (∀ j, j < k → dieK b c ms j = false))
    (fun cd k W => cd = Code.ret ∧ rowOf W (w.heap.size + 1 + 1) = some #[.slice none 0 0] ∧ rowOf W (w.heap.size + 1 + 1 + 1) = some #[.int .u8 2] ∧ rowOf W (w.heap.size + 1 + 1 + 1 + 1) = some #[.int .i64 ((k : Int) - 1)] ∧ rowOf W (w.heap.size + 1 + 1 + 1 + 1 + 1) = some #[.int .i64 13] ∧ Below w.heap.size w W ∧ 0 < k ∧ dieK b c ms (k - 1) = true ∧ (∀ j, j + 1 < k → dieK b c ms j = false))
    ?hI ?hIx ?h0 (fun k => .cells (dayRow b c ms k) 126) (fun k s => { tmps := #[vB, vC, .slice a ms.length cap, .pointer (some ⟨w.heap.size, 0, none⟩), .pointer (some ⟨w.heap.size + 1, 0, none⟩), undef, .pointer (some ⟨w.heap.size + 1 + 1, 0, none⟩), .pointer (some ⟨w.heap.size + 1 + 1 + 1, 0, none⟩), .pointer (some ⟨w.heap.size + 1 + 1 + 1 + 1, 0, none⟩), .pointer (some ⟨w.heap.size + 1 + 1 + 1 + 1 + 1, 0, none⟩), .int .i64 0, .int .i64 (k : Int), .pointer (some ⟨s, 0, none⟩), vB, vC, .slice a ms.length cap, .int .i64 0, .int .i64 0, .bool false, undef, vB, vC, vW, .slice a ms.length cap, .func (.func 90) #[] #[.pointer (some ⟨W3.heap.size, 0, none⟩), .pointer (some ⟨W3.heap.size + 1, 0, none⟩)], .int .i64 (k : Int), .agg (dayRow b c ms k), undef, undef, undef, undef, undef, undef, undef, undef, undef, undef, undef, undef, undef, undef, undef, undef], defers := [] }) ?assign ?body ?done ?stop
  case hI =>
    rintro k A A' r ⟨⟨v, h1, h2, h3⟩, h4, h5, h6, h7, h8⟩ hg hr1 hr2
    exact ⟨⟨v, row_grown h1 hg (by omega), owns_grown h2 hg hr2, h3⟩, row_grown h4 hg (by omega), row_grown h5 hg (by omega), row_grown h6 hg (by omega), below_grown h7 hg h7.size (by omega), h8⟩
  case hIx =>
    rintro cd k A A' r ⟨h0, h1, h4, h5, h6, h7, h8⟩ hg hr1 hr2
    exact ⟨h0, row_grown h1 hg (by omega), row_grown h4 hg (by omega), row_grown h5 hg (by omega), row_grown h6 hg (by omega), below_grown h7 hg h7.size (by omega), h8⟩
  case h0 =>
    exact ⟨⟨_, rr4, World.ownsRow_nil _ _ _ _, by simp⟩, by rw [rf4]; rfl, ri4, re4, hW4, fun j hj => by omega⟩
  case assign =>
    intro l k W K hK
    have d1 := dayRow_size b c ms k
    have d2 := dayRow_one b c ms k
    simp only [dayEnc]
    gi_wp2
    exact hK
  case body =>
    rintro l k W0 D1 W2 hk hs0 hs01 ⟨⟨v0, hr0, hown0, -⟩, -⟩ ⟨⟨v, hr, hown, hnil⟩, hf, hi, he, hBl, hal⟩ hg2 hsm
    have hv : v0 = v := by
      have h1 : rowOf W2 (w.heap.size + 1 + 1) = some #[v0] := row_of_block hr0 (hsm _ (by omega) (by omega) (by omega))
      rw [h1] at hr
      simpa using hr
    subst hv
    have hdr : rowOf W2 D1.heap.size = some (dayRow b c ms k) := row_grown (row_here0 _ _ _) hg2 (by omega)
    have hob : ∀ i, v0.ownBlock = some i → B4.heap.size + 3 ≤ i ∧ i < W0.heap.size := hown0.lt
    clear hr0 hown0 hg2 hsm
    obtain ⟨mo, hmo⟩ : ∃ mo, mornC b c ms k = mo := ⟨_, rfl⟩
    obtain ⟨md, hmd⟩ : ∃ md, mdS ms k = md := ⟨_, rfl⟩
    obtain ⟨be, hbe⟩ : ∃ be, eB b mo md = be := ⟨_, rfl⟩
    obtain ⟨ce, hce⟩ : ∃ ce, eC b mo md = ce := ⟨_, rfl⟩
    obtain ⟨ff, hff⟩ : ∃ ff, fatK b c ms k = ff := ⟨_, rfl⟩
    obtain ⟨fn, hfn⟩ : ∃ fn, fatN b c ms k = fn := ⟨_, rfl⟩
    have hdd : dayRow b c ms k = #[.int .i64 md.hours, .int .i64 md.load, .int .i64 md.heat.1, .int .i64 md.heat.2, .int .i64 md.grass.1, .int .i64 md.grass.2, .int .i64 md.drinks.1, .int .i64 md.drinks.2, .int .i64 b.full, .int .i64 b.fed, .int .i64 b.rest.1, .int .i64 b.rest.2, .int .i64 b.heat.1, .int .i64 b.heat.2, .int .i64 b.toil.1, .int .i64 b.toil.2, .int .i64 b.burn.1, .int .i64 b.burn.2, .int .i64 b.rub.1, .int .i64 b.rub.2, .int .i64 b.milk.1, .int .i64 b.milk.2, .int .i64 b.heal, .int .i64 b.strong.1, .int .i64 b.strong.2, .int .i64 mo.water.1, .int .i64 mo.water.2, .int .i64 mo.fat.1, .int .i64 mo.fat.2, .int .i64 mo.sore.1, .int .i64 mo.sore.2, .bool mo.milks, .int .i64 be.full, .int .i64 be.fed, .int .i64 be.rest.1, .int .i64 be.rest.2, .int .i64 be.heat.1, .int .i64 be.heat.2, .int .i64 be.toil.1, .int .i64 be.toil.2, .int .i64 be.burn.1, .int .i64 be.burn.2, .int .i64 be.rub.1, .int .i64 be.rub.2, .int .i64 be.milk.1, .int .i64 be.milk.2, .int .i64 be.heal, .int .i64 be.strong.1, .int .i64 be.strong.2, .int .i64 ce.water.1, .int .i64 ce.water.2, .int .i64 ce.fat.1, .int .i64 ce.fat.2, .int .i64 ce.sore.1, .int .i64 ce.sore.2, .bool ce.milks, .int .u8 ff] := by subst hff hbe hce hmd hmo; rfl
    rw [hdd] at hdr
    rw [hfn] at hf
    have HMO := Lib.hid hmo
    have HMD := Lib.hid hmd
    have HC' := Lib.hid hce
    have HF := Lib.hid hff
    have HN := Lib.hid hfn
    have HDD := Lib.hid hdd
    have HAL := Lib.hid hal
    have HOW := Lib.hid hown
    have HNI := Lib.hid hnil
    have HOB := Lib.hid hob
    have z2 := hBl.size
    obtain ⟨rrE, crE, grE, zrE⟩ := row_facts hr
    obtain ⟨rfE, cfE, gfE, zfE⟩ := row_facts hf
    obtain ⟨riE, ciE, giE, ziE⟩ := row_facts hi
    obtain ⟨reE, ceE, geE, zeE⟩ := row_facts he
    obtain ⟨rdE, cdE, gdE, zdE⟩ := row_facts hdr
    clear hmo hmd hbe hce hff hfn hdd hr hf hi he hdr hal hown hnil hob rr4 rf4 ri4 re4 hIT hW4
    by_cases hd : ff = 2
    · have HDI := Lib.hid (show dieK b c ms k = true from fate2.1 (HF.out.trans hd))
      subst hd
      gi_wp2_with (fail)
      have s1 := stored_cell rrE (.slice none 0 0)
      have s2 := stored_cell (s1.keeps (g := w.heap.size + 1 + 1 + 1) (by omega) rfE) (.int .u8 2)
      have s3 := stored_cell (s2.keeps (g := w.heap.size + 1 + 1 + 1 + 1) (by omega) (s1.keeps (by omega) riE)) (.int .i64 (k : Int))
      have s4 := stored_cell (s3.keeps (g := w.heap.size + 1 + 1 + 1 + 1 + 1) (by omega) (s2.keeps (by omega) (s1.keeps (by omega) reE))) (.int .i64 13)
      have ek : ((k + 1 : Nat) : Int) - 1 = (k : Int) := by omega
      refine ⟨((kept_cell _ _ (by omega) (by omega) (by omega)).trans (kept_cell _ _ (by omega) (by omega) (by omega))).trans ((kept_cell _ _ (by omega) (by omega) (by omega)).trans (kept_cell _ _ (by omega) (by omega) (by omega))),
        rfl, s4.keeps (by omega) (s3.keeps (by omega) (s2.keeps (by omega) s1.row)), s4.keeps (by omega) (s3.keeps (by omega) s2.row), ?_, s4.row, ?_, by omega, by simpa using HDI.out, fun j hj => HAL.out j (by omega)⟩
      · rw [ek]; exact s4.keeps (by omega) s3.row
      · exact (((hBl.trans (s1.below _ (by omega))).trans (s2.below _ (by omega))).trans (s3.below _ (by omega))).trans (s4.below _ (by omega))
    · have HDI := Lib.hid (show dieK b c ms k = false by
        cases h : dieK b c ms k with
        | false => rfl
        | true => exact absurd (HF.out.symm.trans (fatK_dies h)) hd)
      have HFN := Lib.hid (show mx fn ff = fatN b c ms (k + 1) by rw [← HN.out, ← HF.out]; exact fatN_succ HDI.out)
      have HCM := Lib.hid (show ce = mornC b c ms (k + 1) by
        have h1 := HDI.out
        unfold dieK at h1
        rw [← HC'.out, ← HMO.out, ← HMD.out]
        simp [eC, h1, mornC])
      have hfn2 : (ff == 2) = false := by simpa using hd
      clear HDD HMO HMD HC' HF HN
      gi_wp2_with (fail)
      have hS := stored_cell rfE (.int .u8 (mx fn ff))
      have hK5 := kept_cell (Kb := fun i => i < w.heap.size) (B := B4.heap.size) (s0 := W0.heap.size) (h := w.heap.size + 1 + 1 + 1) W2 (.int .u8 (mx fn ff)) (by omega) (by omega) (by omega)
      have hown5 := owns_grown HOW.out (grownBy_setCell' W2 (w.heap.size + 1 + 1 + 1) (.int .u8 (mx fn ff))) (by omega)
      have hB5 := hBl.trans (hS.below w.heap.size (by omega))
      have rrW5 := hS.keeps (g := w.heap.size + 1 + 1) (by omega) rrE
      have rfW5 := hS.row
      have riW5 := hS.keeps (g := w.heap.size + 1 + 1 + 1 + 1) (by omega) riE
      have reW5 := hS.keeps (g := w.heap.size + 1 + 1 + 1 + 1 + 1) (by omega) reE
      have rdW5 := hS.keeps (g := D1.heap.size) (by omega) rdE
      clear hS rrE crE grE rfE cfE gfE riE ciE giE reE ceE geE rdE cdE gdE
      generalize W2.setCell ⟨w.heap.size + 1 + 1 + 1, 0, none⟩ (.int .u8 (mx fn ff)) = W5 at hK5 hown5 hB5 rrW5 rfW5 riW5 reW5 rdW5 ⊢
      have HK5 := Lib.hid hK5
      have HO5 := Lib.hid hown5
      have zd5 := (cell_of_rowOf rdW5).2.2
      clear hK5 hown5 HOW
      apply region_round l 0 (by kernel_rfl) (by kernel_rfl)
      refine any_drawsR [] [some 35, some 36, some 37, some 38, some 39] (by kernel_rfl) (fun ix v W => match ix with
        | 0 => v = v0
        | 1 => v = .pointer (some ⟨D1.heap.size, 32, none⟩)
        | 2 => v = .agg #[.int .i64 be.full, .int .i64 be.fed, .int .i64 be.rest.1, .int .i64 be.rest.2, .int .i64 be.heat.1, .int .i64 be.heat.2, .int .i64 be.toil.1, .int .i64 be.toil.2, .int .i64 be.burn.1, .int .i64 be.burn.2, .int .i64 be.rub.1, .int .i64 be.rub.2, .int .i64 be.milk.1, .int .i64 be.milk.2, .int .i64 be.heal, .int .i64 be.strong.1, .int .i64 be.strong.2, .int .i64 ce.water.1, .int .i64 ce.water.2, .int .i64 ce.fat.1, .int .i64 ce.fat.2, .int .i64 ce.sore.1, .int .i64 ce.sore.2, .bool ce.milks]
        | 3 => v = .agg #[.int .i64 ce.water.1, .int .i64 ce.water.2, .int .i64 ce.fat.1, .int .i64 ce.fat.2, .int .i64 ce.sore.1, .int .i64 ce.sore.2, .bool ce.milks]
        | 4 => SL v 1 #[.int .i64 ce.water.1, .int .i64 ce.water.2, .int .i64 ce.fat.1, .int .i64 ce.fat.2, .int .i64 ce.sore.1, .int .i64 ce.sore.2, .bool ce.milks] W
        | _ => True) ⟨⟨?_, ?_⟩, ⟨?_, ?_⟩, ⟨?_, ?_⟩, ⟨?_, ?_⟩, ⟨?_, ?_⟩, ?_⟩
      · intro g h; cases h
      · intro b' W hE hb hdep K hK
        have e6 : b'.tmps[6]?.getD undef = .pointer (some ⟨w.heap.size + 1 + 1, 0, none⟩) := hb 6 (by decide)
        clear hdep hb
        obtain ⟨_, _, -, _⟩ := row_facts (hE.row ((rowOf_drew _ _).trans rrW5) (by first | (simp; done) | (simp; omega)))
        obtain ⟨_, _, -, _⟩ := row_facts (hE.row ((rowOf_drew _ _).trans rdW5) (by first | (simp; done) | (simp; omega)))
        go_wp2
        exact hK _ _ (XT.refl _ _) rfl
      · intro g h; cases h
      · intro b' W hE hb hdep K hK
        have e12 : b'.tmps[12]?.getD undef = .pointer (some ⟨D1.heap.size, 0, none⟩) := hb 12 (by decide)
        clear hdep hb
        go_wp2
        exact hK _ _ (XT.refl _ _) rfl
      · intro g h; cases h
      · intro b' W hE hb hdep K hK
        have e36 : b'.tmps[36]?.getD undef = .pointer (some ⟨D1.heap.size, 32, none⟩) := pureX (hdep 1 (some 36) (by kernel_rfl) rfl)
        clear hdep hb
        obtain ⟨_, _, -, _⟩ := row_facts (hE.row ((rowOf_drew _ _).trans rrW5) (by first | (simp; done) | (simp; omega)))
        obtain ⟨_, _, -, _⟩ := row_facts (hE.row ((rowOf_drew _ _).trans rdW5) (by first | (simp; done) | (simp; omega)))
        go_wp2
        exact hK _ _ (XT.refl _ _) rfl
      · intro g h; cases h
      · intro b' W hE hb hdep K hK
        have e37 : b'.tmps[37]?.getD undef = .agg #[.int .i64 be.full, .int .i64 be.fed, .int .i64 be.rest.1, .int .i64 be.rest.2, .int .i64 be.heat.1, .int .i64 be.heat.2, .int .i64 be.toil.1, .int .i64 be.toil.2, .int .i64 be.burn.1, .int .i64 be.burn.2, .int .i64 be.rub.1, .int .i64 be.rub.2, .int .i64 be.milk.1, .int .i64 be.milk.2, .int .i64 be.heal, .int .i64 be.strong.1, .int .i64 be.strong.2, .int .i64 ce.water.1, .int .i64 ce.water.2, .int .i64 ce.fat.1, .int .i64 ce.fat.2, .int .i64 ce.sore.1, .int .i64 ce.sore.2, .bool ce.milks] := pureX (hdep 2 (some 37) (by kernel_rfl) rfl)
        clear hdep hb
        go_wp2_with fail
        refine (camel_any be ce _).mono ?_
        rintro e W' ⟨rfl, hB⟩
        exact hK _ _ (Ext.xt hB) rfl
      · intro g h; cases h
      · intro b' W hE hb hdep K hK
        have e38 : b'.tmps[38]?.getD undef = .agg #[.int .i64 ce.water.1, .int .i64 ce.water.2, .int .i64 ce.fat.1, .int .i64 ce.fat.2, .int .i64 ce.sore.1, .int .i64 ce.sore.2, .bool ce.milks] := pureX (hdep 3 (some 38) (by kernel_rfl) rfl)
        clear hdep hb
        go_wp2
        exact hK _ _ (Ext.xt (ext_alloc _ _)) ⟨rfl, row_here0 _ _ _⟩
      intro f W hE hR
      have e35 : f 35 = v0 := pureX (hR 0 (some 35) rfl)
      have e36 : f 36 = .pointer (some ⟨D1.heap.size, 32, none⟩) := pureX (hR 1 (some 36) rfl)
      have e37 : f 37 = .agg #[.int .i64 be.full, .int .i64 be.fed, .int .i64 be.rest.1, .int .i64 be.rest.2, .int .i64 be.heat.1, .int .i64 be.heat.2, .int .i64 be.toil.1, .int .i64 be.toil.2, .int .i64 be.burn.1, .int .i64 be.burn.2, .int .i64 be.rub.1, .int .i64 be.rub.2, .int .i64 be.milk.1, .int .i64 be.milk.2, .int .i64 be.heal, .int .i64 be.strong.1, .int .i64 be.strong.2, .int .i64 ce.water.1, .int .i64 ce.water.2, .int .i64 ce.fat.1, .int .i64 ce.fat.2, .int .i64 ce.sore.1, .int .i64 ce.sore.2, .bool ce.milks] := pureX (hR 2 (some 37) rfl)
      have e38 : f 38 = .agg #[.int .i64 ce.water.1, .int .i64 ce.water.2, .int .i64 ce.fat.1, .int .i64 ce.fat.2, .int .i64 ce.sore.1, .int .i64 ce.sore.2, .bool ce.milks] := pureX (hR 3 (some 38) rfl)
      have s39 : SL (f 39) 1 #[.int .i64 ce.water.1, .int .i64 ce.water.2, .int .i64 ce.fat.1, .int .i64 ce.fat.2, .int .i64 ce.sore.1, .int .i64 ce.sore.2, .bool ce.milks] W := sliceX (by simp) (hR 4 (some 39) rfl)
      clear hR
      obtain ⟨i0, hi0, hz0, hz1, hz2⟩ := info_parts info39z
      have hgW := grown_trans (grown_drew W5) hE.grown0
      have hown6 := owns_grown0 HO5.out hgW
      have zW6 := hE.size
      refine wpList_append_own W rfl (.tmp 35) (.tmp 39) 41 rfl (B4.heap.size + 3) 39 i0 (.agg #[.int .i64 0, .int .i64 0, .int .i64 0, .int .i64 0, .int .i64 0, .int .i64 0, .bool false]) 7 56 Try.underlying41 hi0 hz0 hz1 hz2 rfl (by decide) v0 k (evs b c ms k) ((puts_eval (by decide) rfl).trans e35) hown6
        ⟨blk (f 39), 0, none⟩ 1 1 (camCells ce) ((puts_eval (by decide) rfl).trans s39.eq) rfl (camCells_at s39.row) (camCells_one ce) (by unfold maxLen; omega) (by omega) (by simp at zW6; omega) ?_
      intro v' W7 hown7 hgrow7 _
      obtain ⟨g', cap', rfl⟩ := ownsRow_succ hown7
      have hne : ∀ q, q < B4.heap.size → ∀ i, v0.ownBlock = some i → q ≠ i := fun q hq i e => by have := (HOB.out i e).1; omega
      have rr7 := row_grownO (hE.row ((rowOf_drew _ _).trans rrW5) (by simp)) hgrow7 (hne (w.heap.size + 1 + 1) (by omega))
      have rf7 := row_grownO (hE.row ((rowOf_drew _ _).trans rfW5) (by simp)) hgrow7 (hne (w.heap.size + 1 + 1 + 1) (by omega))
      have ri7 := row_grownO (hE.row ((rowOf_drew _ _).trans riW5) (by simp)) hgrow7 (hne (w.heap.size + 1 + 1 + 1 + 1) (by omega))
      have re7 := row_grownO (hE.row ((rowOf_drew _ _).trans reW5) (by simp)) hgrow7 (hne (w.heap.size + 1 + 1 + 1 + 1 + 1) (by omega))
      have hB7 : Below w.heap.size w W7 := (hE.below hB5.drew (hB5.size) (by simp)).grown hgrow7 (by have := hB5.size; simp at zW6; omega) (fun i e => by have := (HOB.out i e).1; omega)
      have hK7 : Kept (fun i => i < w.heap.size) B4.heap.size W0.heap.size W2 W7 := (HK5.out.trans (Kept.ofGrown hgW (fun r e => by cases e))).trans (Kept.ofGrown hgrow7 (fun i e => by have := HOB.out i e; exact ⟨by omega, by omega, by omega⟩))
      have HK7 := Lib.hid hK7
      have HO7 := Lib.hid hown7
      have HS5 := hown7.lt
      have c7 := (cell_of_rowOf rr7).1
      have g7 := (cell_of_rowOf rr7).2.1
      clear hK7 hown7 hgrow7 HK5 HO5 hown6 hgW hE s39 hB5 rrW5 rfW5 riW5 reW5 rdW5 hne hi0 hz0 hz1 hz2
      simp only [List.filterMap_cons, List.filterMap_nil, id, puts, Act.put, List.setIfInBounds_toArray, List.set_cons_succ, List.set_cons_zero, e35, e36, e37, e38]
      go_wp2_with fail
      have s8 := stored_cell rr7 (.slice (some ⟨g', 0, none⟩) (k + 1) cap')
      refine ⟨HK7.out.trans (kept_cell _ _ (by omega) (by omega) (by omega)), ⟨_, s8.row, ?_, by simp⟩, ?_, s8.keeps (by omega) ri7, s8.keeps (by omega) re7, hB7.trans (s8.below _ (by omega)), ?_⟩
      · rw [evs_succ, ← HCM.out]
        exact owns_grown HO7.out (grownBy_setCell' W7 (w.heap.size + 1 + 1) _) (by omega)
      · rw [← HFN.out]; exact s8.keeps (by omega) rf7
      · intro j hj
        rcases Nat.lt_or_ge j k with h | h
        · exact HAL.out j h
        · obtain rfl : j = k := by omega
          exact HDI.out
  case done =>
    rintro k W ⟨hk, hkd, hkl⟩ ⟨⟨vv, hr, hown, hnil⟩, hf, hi, he, hBl, hal⟩ hDf
    have hk' : k = ms.length := by
      rcases hkl with h | ⟨h1, h2⟩
      · exact h
      · rw [hal (k - 1) (by omega)] at h2; cases h2
    subst hk'
    have HAL := Lib.hid hal
    have HOW := Lib.hid hown
    have HNI := Lib.hid hnil
    have HDF := Lib.hid hDf
    have hv1 : vv.oneCell' = true ∧ vv.cells = #[vv] := by
      rcases hown.2 with ⟨rfl, -⟩ | ⟨g, cp, cur, rfl, -⟩ <;> exact ⟨rfl, rfl⟩
    obtain ⟨fn, hfn⟩ : ∃ fn, fatN b c ms ms.length = fn := ⟨_, rfl⟩
    rw [hfn] at hf
    have HN := Lib.hid hfn
    have HV := Lib.hid hv1
    clear hkl hkd hal hown hnil hDf hfn rr4 rf4 ri4 re4 hIT hW4 hv1
    gi_wp2_with (fail)
    refine wpIn_wide.2 ?_
    generalize W = WD at *
    refine wp_draws (by kernel_rfl) [((w.heap.size + 1 + 1), #[vv])] [some 41, some 42, none] (by kernel_rfl) (fun ix v W => match ix with
      | 0 => v = vv
      | 1 => v = .int .u8 fn
      | 2 => rowOf W (w.heap.size + 1 + 1) = some #[vv]
      | _ => True) ⟨⟨?_, ?_⟩, ⟨?_, ?_⟩, ⟨?_, ?_⟩, ?_⟩
    · intro g h; cases h
    · intro b' W hE hb hdep K hK
      have e6 : b'.tmps[6]?.getD undef = .pointer (some ⟨w.heap.size + 1 + 1, 0, none⟩) := hb 6 (by decide)
      clear hdep hb
      obtain ⟨_, _, -, _⟩ := row_facts (hE.last (_, _) (List.mem_singleton.2 rfl) ((rowOf_drew _ _).trans hr))
      go_wp2
      exact hK _ _ (XT.refl _ _) rfl
    · intro g h; cases h
    · intro b' W hE hb hdep K hK
      have e7 : b'.tmps[7]?.getD undef = .pointer (some ⟨w.heap.size + 1 + 1 + 1, 0, none⟩) := hb 7 (by decide)
      clear hdep hb
      obtain ⟨_, _, -, _⟩ := row_facts (hE.row ((rowOf_drew _ _).trans hf) (by simp))
      go_wp2
      exact hK _ _ (XT.refl _ _) rfl
    · intro g h; cases h
    · intro b' W hE hb hdep K hK
      have e6 : b'.tmps[6]?.getD undef = .pointer (some ⟨w.heap.size + 1 + 1, 0, none⟩) := hb 6 (by decide)
      have e41 : b'.tmps[41]?.getD undef = vv := pureX (hdep 0 (some 41) (by kernel_rfl) rfl)
      clear hdep hb
      exact wp_store_fin1 41 (.tmp 6) (.tmp 41) rfl rfl ((eval_tmp _ _).trans e6) ((eval_tmp _ _).trans e41) HV.out (hE.keep (w.heap.size + 1 + 1, #[vv]) (by simp) ⟨_, (rowOf_drew _ _).trans hr, rfl⟩) (by kernel_rfl) (by simp) (by simp <;> omega) (fun W' h1 h2 => hK W' h1 h2)
    intro f W hE hR
    have e41 : f 41 = vv := pureX (hR 0 (some 41) rfl)
    have e42 : f 42 = .int .u8 fn := pureX (hR 1 (some 42) rfl)
    have l2 : rowOf W (w.heap.size + 1 + 1) = some #[vv] := lastX (by simp) (hR 2 none rfl)
    clear hR
    obtain ⟨rf9, cf9, gf9, zf9⟩ := row_facts (hE.row ((rowOf_drew _ _).trans hf) (by simp))
    obtain ⟨ri9, ci9, gi9, zi9⟩ := row_facts (hE.row ((rowOf_drew _ _).trans hi) (by simp))
    obtain ⟨re9, ce9, ge9, ze9⟩ := row_facts (hE.row ((rowOf_drew _ _).trans he) (by simp))
    simp only [List.filterMap_cons, List.filterMap_nil, id, puts, Act.put, List.setIfInBounds_toArray, List.set_cons_succ, List.set_cons_zero, e41, e42]
    go_wp2_with fail
    gi_wp2_with (fail)
    have zD : B4.heap.size < WD.heap.size := (Array.getElem?_eq_some_iff.1 HDF.out).1
    have zW9 := hE.size
    have s1 := stored_cell rf9 (.int .u8 fn)
    have s2 := stored_cell (s1.keeps (g := w.heap.size + 1 + 1 + 1 + 1) (by omega) ri9) (.int .i64 0)
    have s3 := stored_cell (s2.keeps (g := w.heap.size + 1 + 1 + 1 + 1 + 1) (by omega) (s1.keeps (by omega) re9)) (.int .i64 0)
    have hD9 : W.heap[B4.heap.size]? = some (.deferred (some [])) := ((hE.block B4.heap.size (by simpa using zD) (by simp; omega)).trans rfl).trans HDF.out
    have hg9 := hE.grown1
    have hX := ((grownBy_setCell' W (w.heap.size + 1 + 1 + 1) (.int .u8 fn)))
    have hO1 := owns_grown (owns_grown (owns_grown (owns_grown (owns_grown0 HOW.out (grown_drew WD)) hg9 (by omega)) (grownBy_setCell' W (w.heap.size + 1 + 1 + 1) (.int .u8 fn)) (by omega)) (grownBy_setCell' _ (w.heap.size + 1 + 1 + 1 + 1) (.int .i64 0)) (by omega)) (grownBy_setCell' _ (w.heap.size + 1 + 1 + 1 + 1 + 1) (.int .i64 0)) (by omega)
    have hB9 := (((hE.below hBl.drew hBl.size (by simp; omega)).trans (s1.below w.heap.size (by omega))).trans (s2.below _ (by omega))).trans (s3.below _ (by omega))
    have rr10 := s3.keeps (by omega) (s2.keeps (by omega) (s1.keeps (by omega) l2))
    have rf10 := s3.keeps (by omega) (s2.keeps (by omega) s1.row)
    have ri10 := s3.keeps (by omega) s2.row
    have re10 := s3.row
    have hD10 := (heap_setCell_other ((W.setCell ⟨w.heap.size + 1 + 1 + 1, 0, none⟩ (.int .u8 fn)).setCell ⟨w.heap.size + 1 + 1 + 1 + 1, 0, none⟩ (.int .i64 0)) ⟨w.heap.size + 1 + 1 + 1 + 1 + 1, 0, none⟩ B4.heap.size (.int .i64 0) (by simp; omega)).trans
      ((heap_setCell_other (W.setCell ⟨w.heap.size + 1 + 1 + 1, 0, none⟩ (.int .u8 fn)) ⟨w.heap.size + 1 + 1 + 1 + 1, 0, none⟩ B4.heap.size (.int .i64 0) (by simp; omega)).trans ((heap_setCell_other W ⟨w.heap.size + 1 + 1 + 1, 0, none⟩ B4.heap.size (.int .u8 fn) (by simp; omega)).trans hD9))
    generalize ((W.setCell ⟨w.heap.size + 1 + 1 + 1, 0, none⟩ (.int .u8 fn)).setCell ⟨w.heap.size + 1 + 1 + 1 + 1, 0, none⟩ (.int .i64 0)).setCell ⟨w.heap.size + 1 + 1 + 1 + 1 + 1, 0, none⟩ (.int .i64 0) = X at hO1 hB9 rr10 rf10 ri10 re10 hD10 ⊢
    refine ⟨by simp, .inl ⟨_, _, rfl, run_takeDeferred hD10, ?_⟩⟩
    have hg := grownBy_putObj' X B4.heap.size (.deferred none)
    refine ⟨_, results_cells4 Try.results26 rfl (row_grown rr10 hg (by omega)) rfl (row_grown rf10 hg (by omega)) rfl (row_grown ri10 hg (by omega)) rfl (row_grown re10 hg (by omega)), .inl ⟨HAL.out, vv, by rw [HN.out], owns_mono (owns_grown hO1 hg (by omega)) (by omega), HNI.out⟩, below_grown hB9 hg hB9.size (by omega)⟩
  case stop =>
    rintro cd k W ⟨hk, hkd⟩ ⟨rfl, hr, hf, hi, he, hBl, hk0, hdk, hal⟩ hDf
    gi_wp2_with (fail)
    refine ⟨by simp, .inl ⟨_, _, rfl, run_takeDeferred hDf, ?_⟩⟩
    have hg := grownBy_putObj' W B4.heap.size (.deferred none)
    have ek : (k : Int) - 1 = ((k - 1 : Nat) : Int) := by omega
    refine ⟨_, results_cells4 Try.results26 rfl (row_grown hr hg (by omega)) rfl (row_grown hf hg (by omega)) rfl (row_grown hi hg (by omega)) rfl (row_grown he hg (by omega)), .inr ⟨k - 1, by omega, hdk, fun j hj => hal j (by omega), by rw [ek]⟩, below_grown hBl hg hBl.size (by omega)⟩
end Go.Proofs.Ytafdcbdbllpcnaa
