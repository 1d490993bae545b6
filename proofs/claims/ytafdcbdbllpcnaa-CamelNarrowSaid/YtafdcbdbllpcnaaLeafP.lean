/- Contracts of package camel's days and of the iterator that it returns. -/
import Derived.Test.YtafdcbdbllpcnaaDayT
import Derived.Test.YtafdcbdbllpcnaaIter
import Derived.Test.YtafdcbdbllpcnaaSpec3
import Derived.Shelf.Abstract
import Derived.WalkKit
import Derived.OwnWalkIn
import Derived.TacticsInMore
import Derived.LoopNIn
import Derived.LoopIn
namespace Go.Proofs.Ytafdcbdbllpcnaa
open Go.RowKit Go.Shelf
open Go.Proofs

attribute [local go_sem ↓] exec36l exec112l exec36s exec112s exec31s run_min2 run_max2
attribute [local go_sem] load36 load112 store36 store112 store31 build112 rowOf_alloc rowOf_drew setRow_alloc one_int one_bool run_min4
attribute [local go_sem ↓] exec126s exec45s
attribute [local go_sem] store126 store45 build126 load112at cut_mo cut_ev
attribute [local go_sem] Oper.semAt_some

/-- What a round of days gets: the day's number, and the day. -/
def dayEnc (b : Br) (c : Cm) (ms : List Mr) (k : Nat) : Array Value := #[.int .i64 (k : Int), .agg (dayRow b c ms k)]

theorem kept_cell {Kb : Nat → Prop} {B s0 : Nat} (W : World) {h : Nat} (v : Value) (h1 : ¬ Kb h) (h2 : h < s0) (h3 : h < B) : Kept Kb B s0 W (W.setCell ⟨h, 0, none⟩ v) :=
  Kept.ofGrown (grownBy_setCell' W h v) (fun r e => by cases e; exact ⟨h1, h2, .inl h3⟩)

theorem march_block {A W : World} {g o : Nat} {m : Mr} (hb : W.heap[g]? = A.heap[g]?) (h : MarchAt A g o m) : MarchAt W g o m := by
  obtain ⟨c0, c1, c2, c3, c4, c5, c6, c7⟩ := h
  have k := fun (j : Nat) => World.cell?_of_block (w := A) (w' := W) (a := ⟨g, j, none⟩) hb
  exact ⟨(k _).trans c0, (k _).trans c1, (k _).trans c2, (k _).trans c3, (k _).trans c4, (k _).trans c5, (k _).trans c6, (k _).trans c7⟩

set_option maxRecDepth 100000 in
set_option maxHeartbeats 8000000 in
theorem days1_in (b : Br) (c : Cm) (ms : List Mr) (hb : BdB b) (hc : BdC b c) (hall : ms.all okM = true) (hl6 : ms.length ≤ 100000) (l bw bl : Nat) (Kb : Nat → Prop) (a : Option Addr) (cap : Nat) (J Jx : Nat → World → Prop) (W : World)
    (hrow : rowOf W bw = some #[.int .i64 b.full, .int .i64 b.fed, .int .i64 b.rest.1, .int .i64 b.rest.2, .int .i64 b.heat.1, .int .i64 b.heat.2, .int .i64 b.toil.1, .int .i64 b.toil.2, .int .i64 b.burn.1, .int .i64 b.burn.2, .int .i64 b.rub.1, .int .i64 b.rub.2, .int .i64 b.milk.1, .int .i64 b.milk.2, .int .i64 b.heal, .int .i64 b.strong.1, .int .i64 b.strong.2, .int .i64 c.water.1, .int .i64 c.water.2, .int .i64 c.fat.1, .int .i64 c.fat.2, .int .i64 c.sore.1, .int .i64 c.sore.2, .bool c.milks]) (hsl : rowOf W bl = some #[.slice a ms.length cap]) (hD : ms = [] ∨ ∃ g off, a = some ⟨g, off, none⟩ ∧ MarchesAt W g off ms ∧ g < W.heap.size ∧ Kb g)
    (hJ : ∀ k A A', J k A → A.grownBy A' (some W.heap.size) → J k A')
    (hY : ∀ k W0 W1, k < ms.length → J k W0 → W.heap.size < W0.heap.size → W0.grownBy W1 (some W.heap.size) → YieldAt Fence.wide 0 Try.prog l (dayEnc b c ms k) W1 fun e W' =>
      (e = .returned (.bool true) ∧ J (k + 1) W' ∧ W1.heap.size ≤ W'.heap.size ∧ ∀ i, i < W1.heap.size → (Kb i ∨ i = W.heap.size ∨ W0.heap.size ≤ i) → W'.heap[i]? = W1.heap[i]?) ∨ (e = .returned (.bool false) ∧ Jx (k + 1) W'))
    (h0 : J 0 W) :
    CallsIn Fence.wide 0 Try.prog 90 (#[.func (.yield l) #[] #[]] ++ #[.pointer (some ⟨bw, 0, none⟩), .pointer (some ⟨bl, 0, none⟩)]) W fun e W' => (∃ v, e = .returned v) ∧ ((∃ k, SDay b c ms k ∧ J k W') ∨ (∃ k, SpDay b c ms k ∧ Jx k W')) := by
  have HB := Lib.hid hb
  have HM := Lib.hid (mornC_bd hb hc hall)
  have HO := Lib.hid (fun k hk => okM_bd (mdS_ok hall (k := k) hk))
  have HJ := Lib.hid hJ
  have HY := Lib.hid hY
  have H0 := Lib.hid h0
  have HD := Lib.hid hD
  obtain ⟨r1, c1, g1, z1⟩ := row_facts hrow
  obtain ⟨r2, c2, g2, z2⟩ := row_facts hsl
  clear hb hc hall hJ hY h0 hD hrow hsl
  refine callsIn_of_wp Try.func90 rfl trivial ?_ rfl
  simp only [Try.ntmps90, List.size_toArray, List.length_cons, List.length_nil, Nat.reduceAdd, Nat.reduceSub, Array.replicate_succ, Array.replicate_zero, List.push_toArray, List.append_toArray, List.nil_append, List.cons_append]
  gi_wp2_with (fail)
  gi_loopw [12] (fun i wr => ∃ k : Nat, k ≤ ms.length ∧ i = .int .i64 (k : Int) ∧ Hid (J k wr) ∧ rowOf wr W.heap.size = some #[.int .i64 b.full, .int .i64 b.fed, .int .i64 b.rest.1, .int .i64 b.rest.2, .int .i64 b.heat.1, .int .i64 b.heat.2, .int .i64 b.toil.1, .int .i64 b.toil.2, .int .i64 b.burn.1, .int .i64 b.burn.2, .int .i64 b.rub.1, .int .i64 b.rub.2, .int .i64 b.milk.1, .int .i64 b.milk.2, .int .i64 b.heal, .int .i64 b.strong.1, .int .i64 b.strong.2, .int .i64 (mornC b c ms k).water.1, .int .i64 (mornC b c ms k).water.2, .int .i64 (mornC b c ms k).fat.1, .int .i64 (mornC b c ms k).fat.2, .int .i64 (mornC b c ms k).sore.1, .int .i64 (mornC b c ms k).sore.2, .bool (mornC b c ms k).milks] ∧ W.heap.size < wr.heap.size ∧ Hid (∀ i, i < W.heap.size → Kb i → wr.heap[i]? = W.heap[i]?) ∧ Hid (∀ j, j < k → dieK b c ms j = false))
    (fun i _ => ms.length - (intOf i).toNat)
  case atStart =>
    refine ⟨0, Nat.zero_le _, rfl, ?_, row_here0 _ _ _, by simp, ?_, ?_⟩
    · exact HJ.out 0 _ _ H0.out (World.grownBy_alloc _ _ _)
    · exact fun i hi _ => Below.heap_alloc _ _ _ hi
    · exact fun j hj => by omega
  case round =>
    obtain ⟨k, hk, rfl, hJs, hrM, hzM, hlow, halive⟩ := hrel
    obtain ⟨rM, cM, gM, zM⟩ := row_facts hrM
    clear hrM hzM
    by_cases hlt : k < ms.length
    · obtain ⟨g, off, rfl, hMs, hg, hgK⟩ : ∃ g off, a = some ⟨g, off, none⟩ ∧ MarchesAt W g off ms ∧ g < W.heap.size ∧ Kb g := by
        rcases HD.out with h | h
        · subst h; simp at hlt
        · exact h
      have hm1 := march_block (hlow.out g hg hgK) (hMs k hlt)
      rw [mdS_get hlt] at hm1
      obtain ⟨c0, c1', c2', c3, c4, c5, c6, c7⟩ := hm1
      clear hMs r1 c1 g1 r2 c2 g2
      have hlt' : (k : Int) < (ms.length : Int) := by omega
      obtain ⟨mo, hmo⟩ : ∃ mo, mornC b c ms k = mo := ⟨_, rfl⟩
      obtain ⟨md, hmd⟩ : ∃ md, mdS ms k = md := ⟨_, rfl⟩
      obtain ⟨b', hb'⟩ : ∃ b', eB b mo md = b' := ⟨_, rfl⟩
      obtain ⟨c', hc'⟩ : ∃ c', eC b mo md = c' := ⟨_, rfl⟩
      obtain ⟨ff, hff⟩ : ∃ ff, fateS b mo md = ff := ⟨_, rfl⟩
      have HE := Lib.hid (show dayEnc b c ms k = #[.int .i64 (k : Int), .agg #[.int .i64 md.hours, .int .i64 md.load, .int .i64 md.heat.1, .int .i64 md.heat.2, .int .i64 md.grass.1, .int .i64 md.grass.2, .int .i64 md.drinks.1, .int .i64 md.drinks.2, .int .i64 b.full, .int .i64 b.fed, .int .i64 b.rest.1, .int .i64 b.rest.2, .int .i64 b.heat.1, .int .i64 b.heat.2, .int .i64 b.toil.1, .int .i64 b.toil.2, .int .i64 b.burn.1, .int .i64 b.burn.2, .int .i64 b.rub.1, .int .i64 b.rub.2, .int .i64 b.milk.1, .int .i64 b.milk.2, .int .i64 b.heal, .int .i64 b.strong.1, .int .i64 b.strong.2, .int .i64 mo.water.1, .int .i64 mo.water.2, .int .i64 mo.fat.1, .int .i64 mo.fat.2, .int .i64 mo.sore.1, .int .i64 mo.sore.2, .bool mo.milks, .int .i64 b'.full, .int .i64 b'.fed, .int .i64 b'.rest.1, .int .i64 b'.rest.2, .int .i64 b'.heat.1, .int .i64 b'.heat.2, .int .i64 b'.toil.1, .int .i64 b'.toil.2, .int .i64 b'.burn.1, .int .i64 b'.burn.2, .int .i64 b'.rub.1, .int .i64 b'.rub.2, .int .i64 b'.milk.1, .int .i64 b'.milk.2, .int .i64 b'.heal, .int .i64 b'.strong.1, .int .i64 b'.strong.2, .int .i64 c'.water.1, .int .i64 c'.water.2, .int .i64 c'.fat.1, .int .i64 c'.fat.2, .int .i64 c'.sore.1, .int .i64 c'.sore.2, .bool c'.milks, .int .u8 ff]] by subst hff hb' hc' hmd hmo; rfl)
      rw [hmo] at rM cM
      rw [hmd] at c0 c1' c2' c3 c4 c5 c6 c7
      have HMO := Lib.hid hmo
      have HMD := Lib.hid hmd
      have HB' := Lib.hid hb'
      have HC' := Lib.hid hc'
      have HF := Lib.hid hff
      clear hmo hmd hb' hc' hff
      have hbm : BdC b mo := by rw [← HMO.out]; exact HM.out k hk
      have hbd : BdM md := by rw [← HMD.out]; exact HO.out k hlt
      have HBM := Lib.hid hbm
      have HBD := Lib.hid hbd
      clear hbm hbd
      gi_wp2_with (fail)
      refine ⟨trivial, rfl, (callsIn_wide.2 (after_e b mo md b' c' ff HB'.out HC'.out HF.out _ HB.out HBM.out HBD.out)).mono ?_⟩
      rintro e W1 ⟨rfl, hB⟩
      obtain ⟨rMW1, cMW1, gMW1, zMW1⟩ := keep_row hB (g := W.heap.size) (rowSkip rM)
      obtain ⟨rdW1, cdW1, gdW1, zdW1⟩ := keep_row hB (g := wr.heap.size) (row_here0 _ _ _)
      have hgr : Ext wr (W1.alloc (.cells #[.int .i64 b'.full, .int .i64 b'.fed, .int .i64 b'.rest.1, .int .i64 b'.rest.2, .int .i64 b'.heat.1, .int .i64 b'.heat.2, .int .i64 b'.toil.1, .int .i64 b'.toil.2, .int .i64 b'.burn.1, .int .i64 b'.burn.2, .int .i64 b'.rub.1, .int .i64 b'.rub.2, .int .i64 b'.milk.1, .int .i64 b'.milk.2, .int .i64 b'.heal, .int .i64 b'.strong.1, .int .i64 b'.strong.2, .int .i64 c'.water.1, .int .i64 c'.water.2, .int .i64 c'.fat.1, .int .i64 c'.fat.2, .int .i64 c'.sore.1, .int .i64 c'.sore.2, .bool c'.milks] 112)) := (ext_alloc wr _).trans (Ext.trans hB (ext_alloc _ _))
      have hlow2 := Lib.hid (fun i (hi : i < W.heap.size) (hk : Kb i) => (hgr.block i (by have := zM; omega)).trans (hlow.out i hi hk))
      have HgrS := hgr.size
      obtain ⟨fn, tmps, assign, body, hy, hR⟩ := HY.out k wr _ hlt hJs.out zM (hgr.grown _)
      rw [HE.out] at hy
      have HR := Lib.hid hR
      clear hR hB rM cM gM
      have HX := Lib.hid (rowSkip (o := .cells #[.int .i64 b'.full, .int .i64 b'.fed, .int .i64 b'.rest.1, .int .i64 b'.rest.2, .int .i64 b'.heat.1, .int .i64 b'.heat.2, .int .i64 b'.toil.1, .int .i64 b'.toil.2, .int .i64 b'.burn.1, .int .i64 b'.burn.2, .int .i64 b'.rub.1, .int .i64 b'.rub.2, .int .i64 b'.milk.1, .int .i64 b'.milk.2, .int .i64 b'.heal, .int .i64 b'.strong.1, .int .i64 b'.strong.2, .int .i64 c'.water.1, .int .i64 c'.water.2, .int .i64 c'.fat.1, .int .i64 c'.fat.2, .int .i64 c'.sore.1, .int .i64 c'.sore.2, .bool c'.milks] 112) rMW1)
      have hle : wr.heap.size ≤ W1.heap.size := by omega
      clear hlow
      gi_wp2_with (fail)
      refine ⟨rfl, HR.out.mono ?_⟩
      rintro e W3 (⟨rfl, hJ3, hs3, hk3⟩ | ⟨rfl, hJx3⟩)
      · have rM3 : rowOf W3 W.heap.size = some #[.int .i64 b.full, .int .i64 b.fed, .int .i64 b.rest.1, .int .i64 b.rest.2, .int .i64 b.heat.1, .int .i64 b.heat.2, .int .i64 b.toil.1, .int .i64 b.toil.2, .int .i64 b.burn.1, .int .i64 b.burn.2, .int .i64 b.rub.1, .int .i64 b.rub.2, .int .i64 b.milk.1, .int .i64 b.milk.2, .int .i64 b.heal, .int .i64 b.strong.1, .int .i64 b.strong.2, .int .i64 mo.water.1, .int .i64 mo.water.2, .int .i64 mo.fat.1, .int .i64 mo.fat.2, .int .i64 mo.sore.1, .int .i64 mo.sore.2, .bool mo.milks] := row_of_block HX.out (hk3 _ (by simp; omega) (.inr (.inl rfl)))
        have rE3 : rowOf W3 W1.heap.size = some #[.int .i64 b'.full, .int .i64 b'.fed, .int .i64 b'.rest.1, .int .i64 b'.rest.2, .int .i64 b'.heat.1, .int .i64 b'.heat.2, .int .i64 b'.toil.1, .int .i64 b'.toil.2, .int .i64 b'.burn.1, .int .i64 b'.burn.2, .int .i64 b'.rub.1, .int .i64 b'.rub.2, .int .i64 b'.milk.1, .int .i64 b'.milk.2, .int .i64 b'.heal, .int .i64 b'.strong.1, .int .i64 b'.strong.2, .int .i64 c'.water.1, .int .i64 c'.water.2, .int .i64 c'.fat.1, .int .i64 c'.fat.2, .int .i64 c'.sore.1, .int .i64 c'.sore.2, .bool c'.milks] := row_of_block (row_here0 _ _ _) (hk3 W1.heap.size (by simp) (.inr (.inr hle)))
        have HL := Lib.hid (fun i (hi : i < W.heap.size) (hk : Kb i) => (hk3 i (by simp; omega) (.inl hk)).trans (hlow2.out i hi hk))
        have HJ3 := Lib.hid hJ3
        have HS3 := Lib.hid hs3
        clear rMW1 cMW1 gMW1 rdW1 cdW1 gdW1 hlow2 hJ3 hk3 hs3 c0 c1' c2' c3 c4 c5 c6 c7 hy hgr HX HR HE hJs HY
        by_cases hd : ff = 2
        · have HDI := Lib.hid (show dieK b c ms k = true by unfold dieK; rw [HMO.out, HMD.out]; exact fate2.1 (HF.out.trans hd))
          clear HF
          subst hd
          gi_wp2
          refine bodyPost_ret (results_none rfl _ _ _) rfl ?_
          exact ⟨⟨_, rfl⟩, .inl ⟨k + 1, ⟨hlt, fun j hj => halive.out j (by omega), .inr ⟨by omega, by simpa using HDI.out⟩⟩, HJ3.out⟩⟩
        · have hdd : diesS b mo md = false := by
            cases h : diesS b mo md with
            | false => rfl
            | true => exact absurd (HF.out.symm.trans (fate2.2 h)) hd
          have HDI := Lib.hid (show dieK b c ms k = false by unfold dieK; rw [HMO.out, HMD.out]; exact hdd)
          have e1 : b' = b := by rw [← HB'.out]; simp [eB, hdd]
          have e2 : c' = mornC b c ms (k + 1) := by rw [← HC'.out, mornC, HMO.out, HMD.out]; simp [eC, hdd]
          have E1 := Lib.hid e1
          have E2 := Lib.hid e2
          have hfn : (ff == 2) = false := by simpa using hd
          clear e1 e2 hdd HF
          gi_wp2
          go_roundw
          case rel =>
            refine ⟨k + 1, hlt, by simp, HJ.out _ _ _ HJ3.out (grown_setRow _ _ _), ?_, ?_, ?_, ?_⟩
            · rw [(stored_setRow rM3 _).row, E1.out, E2.out]
            · have := HS3.out; simp [World.setRow] at this ⊢; omega
            · intro i hi hk; exact (setRow_other _ _ _ _ (by omega)).trans (HL.out i hi hk)
            · intro j hj
              rcases Nat.lt_or_ge j k with h | h
              · exact halive.out j h
              · obtain rfl : j = k := by omega
                exact HDI.out
          case measure => simp [intOf]; omega
      · clear rMW1 cMW1 gMW1 rdW1 cdW1 gdW1 hlow2 c0 c1' c2' c3 c4 c5 c6 c7 hy hgr HX HR HE hJs HY
        have HJX := Lib.hid hJx3
        clear hJx3
        gi_wp2
        refine bodyPost_ret (results_none rfl _ _ _) rfl ?_
        exact ⟨⟨_, rfl⟩, .inr ⟨k + 1, ⟨hlt, fun j hj => halive.out j (by omega)⟩, HJX.out⟩⟩
    · obtain rfl : k = ms.length := by omega
      gi_wp2
      go_end0
      exact ⟨⟨_, rfl⟩, .inl ⟨_, ⟨Nat.le_refl _, fun j hj => halive.out j (by omega), .inl rfl⟩, hJs.out⟩⟩

/-- A list of days that lies in a kept block, or none. -/
def DaysLow (W : World) (Kb : Nat → Prop) (a : Option Addr) (ms : List Mr) : Prop := ms = [] ∨ ∃ g off, a = some ⟨g, off, none⟩ ∧ MarchesAt W g off ms ∧ g < W.heap.size ∧ Kb g

theorem days_it (b : Br) (c : Cm) (ms : List Mr) (hb : BdB b) (hc : BdC b c) (hall : ms.all okM = true) (hl6 : ms.length ≤ 100000) (bw bl : Nat) (Kb : Nat → Prop) (a : Option Addr) (cap : Nat) (w : World)
    (hrow : rowOf w bw = some #[.int .i64 b.full, .int .i64 b.fed, .int .i64 b.rest.1, .int .i64 b.rest.2, .int .i64 b.heat.1, .int .i64 b.heat.2, .int .i64 b.toil.1, .int .i64 b.toil.2, .int .i64 b.burn.1, .int .i64 b.burn.2, .int .i64 b.rub.1, .int .i64 b.rub.2, .int .i64 b.milk.1, .int .i64 b.milk.2, .int .i64 b.heal, .int .i64 b.strong.1, .int .i64 b.strong.2, .int .i64 c.water.1, .int .i64 c.water.2, .int .i64 c.fat.1, .int .i64 c.fat.2, .int .i64 c.sore.1, .int .i64 c.sore.2, .bool c.milks]) (hsl : rowOf w bl = some #[.slice a ms.length cap]) (hD : DaysLow w Kb a ms) :
    IterAt (P := Try.prog) 90 #[.pointer (some ⟨bw, 0, none⟩), .pointer (some ⟨bl, 0, none⟩)] (dayEnc b c ms) Kb ms.length (SDay b c ms) (SpDay b c ms) w := by
  intro l J Jx W hW hz hJ _ hY h0
  have k1 := keep_row hW hrow
  have k2 := keep_row hW hsl
  refine days1_in b c ms hb hc hall hl6 l bw bl Kb a cap J Jx W k1.1 k2.1 ?_ hJ hY h0
  rcases hD with h | ⟨g, off, h1, h2, h3, h4⟩
  · exact .inl h
  · exact .inr ⟨g, off, h1, marches_below hW (by omega) h2, by omega, h4⟩

set_option maxRecDepth 100000 in
theorem days_any (b : Br) (c : Cm) (a : Option Addr) (n cap : Nat) (w : World) :
    Calls Try.prog 67 #[.agg #[.int .i64 b.full, .int .i64 b.fed, .int .i64 b.rest.1, .int .i64 b.rest.2, .int .i64 b.heat.1, .int .i64 b.heat.2, .int .i64 b.toil.1, .int .i64 b.toil.2, .int .i64 b.burn.1, .int .i64 b.burn.2, .int .i64 b.rub.1, .int .i64 b.rub.2, .int .i64 b.milk.1, .int .i64 b.milk.2, .int .i64 b.heal, .int .i64 b.strong.1, .int .i64 b.strong.2, .int .i64 c.water.1, .int .i64 c.water.2, .int .i64 c.fat.1, .int .i64 c.fat.2, .int .i64 c.sore.1, .int .i64 c.sore.2, .bool c.milks], .slice a n cap] w fun e w' => e = .returned (.func (.func 90) #[] #[.pointer (some ⟨w.heap.size, 0, none⟩), .pointer (some ⟨w.heap.size + 1, 0, none⟩)]) ∧
      w' = (w.alloc (.cells #[.int .i64 b.full, .int .i64 b.fed, .int .i64 b.rest.1, .int .i64 b.rest.2, .int .i64 b.heat.1, .int .i64 b.heat.2, .int .i64 b.toil.1, .int .i64 b.toil.2, .int .i64 b.burn.1, .int .i64 b.burn.2, .int .i64 b.rub.1, .int .i64 b.rub.2, .int .i64 b.milk.1, .int .i64 b.milk.2, .int .i64 b.heal, .int .i64 b.strong.1, .int .i64 b.strong.2, .int .i64 c.water.1, .int .i64 c.water.2, .int .i64 c.fat.1, .int .i64 c.fat.2, .int .i64 c.sore.1, .int .i64 c.sore.2, .bool c.milks] 112)).alloc (.cells #[.slice a n cap] 47) := by
  go_enter Try.func67, Try.ntmps67
  go_wp2
  go_returns
  exact ⟨rfl, rfl⟩
end Go.Proofs.Ytafdcbdbllpcnaa
