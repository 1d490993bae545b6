/- A day with an animal as it is: by numbers. -/
import Derived.Test.YtafdcbdbllpcnaaLawBeg
import Derived.Test.YtafdcbdbllpcnaaRefA
set_option linter.unusedVariables false
set_option linter.unusedSimpArgs false
namespace Go.Proofs.Ytafdcbdbllpcnaa
open Go.RowKit
open Go.Proofs

attribute [local go_sem ↓] exec36s exec45s run_min2 run_max2
attribute [local go_sem] store36 store45 rowOf_alloc rowOf_drew setRow_alloc one_int one_bool
attribute [local irreducible] wpQuiet

/-- What is chosen for a day. -/
def chS (b : Br) (m : Mr) (xs : List Int) (i : Nat) : Ch :=
  ⟨pickS b.rest (atS xs (7 * i + 0)), pickS b.heat (atS xs (7 * i + 1)), pickS m.heat (atS xs (7 * i + 2)), pickS b.toil (atS xs (7 * i + 3)), pickS b.milk (atS xs (7 * i + 4)), pickS b.burn (atS xs (7 * i + 5)), pickS m.drinks (atS xs (7 * i + 6)), pickS m.grass (atS xs (7 * i + 1)), pickS b.rub (atS xs (7 * i + 2))⟩
theorem chS_in {b : Br} {m : Mr} (hb : BdB b) (hm : BdM m) (xs : List Int) (i : Nat) : ChIn b m (chS b m xs i) :=
  ⟨pickS_in hb.rest.2.1 _, pickS_in hb.heat.2.1 _, pickS_in hm.heat.2.1 _, pickS_in hb.toil.2.1 _, pickS_in hb.milk.2.1 _, pickS_in hb.burn.2.1 _, pickS_in hm.drinks.2.1 _, pickS_in hm.grass.2.1 _, pickS_in hb.rub.2.1 _⟩
theorem WordsIn.grown {W W' : World} {a : Option Addr} {cap : Nat} {xs : List Int} {gt : Nat} (h : WordsIn W a cap xs) (hg : W.grownBy W' (some gt)) (hne : ∀ ad, a = some ad → ad.block < gt) : WordsIn W' a cap xs := by
  rcases h with h | ⟨g, off, rfl, h2, h3⟩
  · exact .inl h
  · have hlt := hne _ rfl
    simp only at hlt
    exact .inr ⟨g, off, rfl, fun k hk => (World.cell?_of_block (a := ⟨g, off + k, none⟩) (hg.block g h3 (by simp; omega))).trans (h2 k hk), Nat.lt_of_lt_of_le h3 hg.size⟩
theorem WordsIn.ahead {X W : World} {a : Option Addr} {cap : Nat} {xs : List Int} (h : WordsIn X a cap xs) (hE : Ext X.drew W) : WordsIn W a cap xs := h.behind (Below.refl _ _) hE

set_option maxRecDepth 100000 in
set_option maxHeartbeats 16000000 in
theorem lives_false (b : Br) (m : Mr) (t : Tr) (h : Ch) (a : Option Addr) (cap n : Nat) (xs : List Int) (i gt : Nat) (w : World) (r : Bool) (hh : chS b m xs i = h) (hr : livT false m h t = r) (hi : i < 100) (hn : n = xs.length) (hw : WordsIn w a cap xs) (hu : ∀ x ∈ xs, inU x) (hne : ∀ ad, a = some ad → ad.block < gt) (rt : rowOf w gt = some #[.int .i64 t.water, .int .i64 t.fat, .int .i64 t.sore]) (hb : BdB b) (hm : BdM m) (c : Cm) (hc : BdC b c) (ht : Tin t c) :
    Calls Try.prog 46 #[.pointer (some ⟨gt, 0, none⟩), .agg #[.int .i64 b.full, .int .i64 b.fed, .int .i64 b.rest.1, .int .i64 b.rest.2, .int .i64 b.heat.1, .int .i64 b.heat.2, .int .i64 b.toil.1, .int .i64 b.toil.2, .int .i64 b.burn.1, .int .i64 b.burn.2, .int .i64 b.rub.1, .int .i64 b.rub.2, .int .i64 b.milk.1, .int .i64 b.milk.2, .int .i64 b.heal, .int .i64 b.strong.1, .int .i64 b.strong.2], .bool false, .agg #[.int .i64 m.hours, .int .i64 m.load, .int .i64 m.heat.1, .int .i64 m.heat.2, .int .i64 m.grass.1, .int .i64 m.grass.2, .int .i64 m.drinks.1, .int .i64 m.drinks.2], .slice a n cap, .int .i64 (i : Int)] w fun e w' => e = .returned (.bool r) ∧ (r = true → rowOf w' gt = some #[.int .i64 (w3T b false m h t), .int .i64 (f2T b m h t), .int .i64 (s2T b m h t)]) ∧ w.grownBy w' (some gt) := by
  have HN := Lib.hid hn
  have HW := Lib.hid hw
  have HNE := Lib.hid hne
  obtain ⟨x0, hx0⟩ : ∃ v, atS xs (7 * i + 0) = v := ⟨_, rfl⟩
  have U0 := Lib.hid (show inU x0 from hx0 ▸ atS_in hu (7 * i + 0))
  have X0 := Lib.hid hx0
  obtain ⟨x1, hx1⟩ : ∃ v, atS xs (7 * i + 1) = v := ⟨_, rfl⟩
  have U1 := Lib.hid (show inU x1 from hx1 ▸ atS_in hu (7 * i + 1))
  have X1 := Lib.hid hx1
  obtain ⟨x2, hx2⟩ : ∃ v, atS xs (7 * i + 2) = v := ⟨_, rfl⟩
  have U2 := Lib.hid (show inU x2 from hx2 ▸ atS_in hu (7 * i + 2))
  have X2 := Lib.hid hx2
  obtain ⟨x3, hx3⟩ : ∃ v, atS xs (7 * i + 3) = v := ⟨_, rfl⟩
  have U3 := Lib.hid (show inU x3 from hx3 ▸ atS_in hu (7 * i + 3))
  have X3 := Lib.hid hx3
  obtain ⟨x4, hx4⟩ : ∃ v, atS xs (7 * i + 4) = v := ⟨_, rfl⟩
  have U4 := Lib.hid (show inU x4 from hx4 ▸ atS_in hu (7 * i + 4))
  have X4 := Lib.hid hx4
  obtain ⟨x5, hx5⟩ : ∃ v, atS xs (7 * i + 5) = v := ⟨_, rfl⟩
  have U5 := Lib.hid (show inU x5 from hx5 ▸ atS_in hu (7 * i + 5))
  have X5 := Lib.hid hx5
  obtain ⟨x6, hx6⟩ : ∃ v, atS xs (7 * i + 6) = v := ⟨_, rfl⟩
  have U6 := Lib.hid (show inU x6 from hx6 ▸ atS_in hu (7 * i + 6))
  have X6 := Lib.hid hx6
  obtain ⟨pr, hpr⟩ : ∃ v, pickS b.rest x0 = v := ⟨_, rfl⟩
  have Ppr := Lib.hid hpr
  obtain ⟨ph, hph⟩ : ∃ v, pickS b.heat x1 = v := ⟨_, rfl⟩
  have Pph := Lib.hid hph
  obtain ⟨pw, hpw⟩ : ∃ v, pickS m.heat x2 = v := ⟨_, rfl⟩
  have Ppw := Lib.hid hpw
  obtain ⟨pt, hpt⟩ : ∃ v, pickS b.toil x3 = v := ⟨_, rfl⟩
  have Ppt := Lib.hid hpt
  obtain ⟨pm, hpm⟩ : ∃ v, pickS b.milk x4 = v := ⟨_, rfl⟩
  have Ppm := Lib.hid hpm
  obtain ⟨pb, hpb⟩ : ∃ v, pickS b.burn x5 = v := ⟨_, rfl⟩
  have Ppb := Lib.hid hpb
  obtain ⟨pd, hpd⟩ : ∃ v, pickS m.drinks x6 = v := ⟨_, rfl⟩
  have Ppd := Lib.hid hpd
  obtain ⟨pg, hpg⟩ : ∃ v, pickS m.grass x1 = v := ⟨_, rfl⟩
  have Ppg := Lib.hid hpg
  obtain ⟨pu, hpu⟩ : ∃ v, pickS b.rub x2 = v := ⟨_, rfl⟩
  have Ppu := Lib.hid hpu
  have HH := Lib.hid (show h = ⟨pr, ph, pw, pt, pm, pb, pd, pg, pu⟩ by rw [← hh, chS, hx0, hx1, hx2, hx3, hx4, hx5, hx6, hpr, hph, hpw, hpt, hpm, hpb, hpd, hpg, hpu])
  obtain ⟨brest1, brest2, brest3⟩ := hb.rest
  obtain ⟨bheat1, bheat2, bheat3⟩ := hb.heat
  obtain ⟨btoil1, btoil2, btoil3⟩ := hb.toil
  obtain ⟨bburn1, bburn2, bburn3⟩ := hb.burn
  obtain ⟨brub1, brub2, brub3⟩ := hb.rub
  obtain ⟨bmilk1, bmilk2, bmilk3⟩ := hb.milk
  obtain ⟨bstrong1, bstrong2, bstrong3⟩ := hb.strong
  obtain ⟨bheal1, bheal2⟩ := hb.heal
  obtain ⟨bfull1, bfull2⟩ := hb.full
  obtain ⟨bfed1, bfed2⟩ := hb.fed
  obtain ⟨mheat1, mheat2, mheat3⟩ := hm.heat
  obtain ⟨mgrass1, mgrass2, mgrass3⟩ := hm.grass
  obtain ⟨mdrinks1, mdrinks2, mdrinks3⟩ := hm.drinks
  obtain ⟨mh1, mh2⟩ := hm.hours
  obtain ⟨ml1, ml2⟩ := hm.load
  have ipr := pickS_in (s := b.rest) (by omega) x0
  rw [hpr] at ipr
  obtain ⟨ipr1, ipr2⟩ := ipr
  have iph := pickS_in (s := b.heat) (by omega) x1
  rw [hph] at iph
  obtain ⟨iph1, iph2⟩ := iph
  have ipw := pickS_in (s := m.heat) (by omega) x2
  rw [hpw] at ipw
  obtain ⟨ipw1, ipw2⟩ := ipw
  have ipt := pickS_in (s := b.toil) (by omega) x3
  rw [hpt] at ipt
  obtain ⟨ipt1, ipt2⟩ := ipt
  have ipm := pickS_in (s := b.milk) (by omega) x4
  rw [hpm] at ipm
  obtain ⟨ipm1, ipm2⟩ := ipm
  have ipb := pickS_in (s := b.burn) (by omega) x5
  rw [hpb] at ipb
  obtain ⟨ipb1, ipb2⟩ := ipb
  have ipd := pickS_in (s := m.drinks) (by omega) x6
  rw [hpd] at ipd
  obtain ⟨ipd1, ipd2⟩ := ipd
  have ipg := pickS_in (s := m.grass) (by omega) x1
  rw [hpg] at ipg
  obtain ⟨ipg1, ipg2⟩ := ipg
  have ipu := pickS_in (s := b.rub) (by omega) x2
  rw [hpu] at ipu
  obtain ⟨ipu1, ipu2⟩ := ipu
  obtain ⟨tw1, tw2⟩ : 0 ≤ t.water ∧ t.water ≤ 100000000000 := by have h1 := ht.w1; have h2 := ht.w2; have h3 := hc.water; omega
  obtain ⟨tf1, tf2⟩ : 0 ≤ t.fat ∧ t.fat ≤ 100000000000 := by have h1 := ht.f1; have h2 := ht.f2; have h3 := hc.fat; omega
  obtain ⟨ts1, ts2⟩ : 0 ≤ t.sore ∧ t.sore ≤ 1000000000 := by have h1 := ht.s1; have h2 := ht.s2; have h3 := hc.sore; omega
  obtain ⟨ww, hww⟩ : ∃ v, m.hours * (100000 + m.load) = v := ⟨_, rfl⟩
  obtain ⟨ww1, ww2⟩ : 0 ≤ ww ∧ ww ≤ 26400000 := by have := mul_le mh1 (show 0 ≤ 100000 + m.load by omega) mh2 (show 100000 + m.load ≤ 1100000 by omega); rw [hww] at this; exact this
  have yw := mul_le mh1 (show 0 ≤ 100000 + m.load by omega) mh2 (show 100000 + m.load ≤ 1100000 by omega)
  obtain ⟨yw1, yw2⟩ := yw
  obtain ⟨mxv, hmx⟩ : ∃ v, mx 0 (pw - 20) = v := ⟨_, rfl⟩
  obtain ⟨mx1, mx2⟩ : 0 ≤ mxv ∧ mxv ≤ 40 := by rw [← hmx, mx_max]; omega
  obtain ⟨y11, y12⟩ : 0 ≤ ph * mxv ∧ ph * mxv ≤ 4000000 := mul_le (a := 100000) (b := 40) (by omega) (by omega) (by omega) (by omega)
  obtain ⟨y21, y22⟩ : 0 ≤ pt * ww ∧ pt * ww ≤ 2640000000000 := mul_le (a := 100000) (b := 26400000) (by omega) (by omega) (by omega) (by omega)
  obtain ⟨y31, y32⟩ : 0 ≤ pb * ww ∧ pb * ww ≤ 2640000000000 := mul_le (a := 100000) (b := 26400000) (by omega) (by omega) (by omega) (by omega)
  obtain ⟨y41, y42⟩ : 0 ≤ pu * m.hours ∧ pu * m.hours ≤ 2400000 := mul_le (a := 100000) (b := 24) (by omega) (by omega) (by omega) (by omega)
  obtain ⟨y51, y52⟩ : 0 ≤ pu * m.hours * m.load ∧ pu * m.hours * m.load ≤ 2400000000000 := mul_le (a := 2400000) (b := 1000000) y41 ml1 y42 ml2
  have HMX := Lib.hid hmx
  have HWW := Lib.hid hww
  have HR := Lib.hid hr
  clear hh hr hn hw hu hne hb hm hc ht hmx hww hx0 hx1 hx2 hx3 hx4 hx5 hx6 hpr hph hpw hpt hpm hpb hpd hpg hpu
  obtain ⟨rtE, ctE, gtE, ztE⟩ := row_facts rt
  have hgb : gt ≠ w.heap.size := by omega
  have hgm : gt ≠ w.heap.size + 1 := by omega
  go_enter Try.func46, Try.ntmps46
  go_wp2_with fail
  have rbW0 : rowOf ((w.alloc (.cells #[.int .i64 b.full, .int .i64 b.fed, .int .i64 b.rest.1, .int .i64 b.rest.2, .int .i64 b.heat.1, .int .i64 b.heat.2, .int .i64 b.toil.1, .int .i64 b.toil.2, .int .i64 b.burn.1, .int .i64 b.burn.2, .int .i64 b.rub.1, .int .i64 b.rub.2, .int .i64 b.milk.1, .int .i64 b.milk.2, .int .i64 b.heal, .int .i64 b.strong.1, .int .i64 b.strong.2] 36)).alloc (.cells #[.int .i64 m.hours, .int .i64 m.load, .int .i64 m.heat.1, .int .i64 m.heat.2, .int .i64 m.grass.1, .int .i64 m.grass.2, .int .i64 m.drinks.1, .int .i64 m.drinks.2] 45)) w.heap.size = some #[.int .i64 b.full, .int .i64 b.fed, .int .i64 b.rest.1, .int .i64 b.rest.2, .int .i64 b.heat.1, .int .i64 b.heat.2, .int .i64 b.toil.1, .int .i64 b.toil.2, .int .i64 b.burn.1, .int .i64 b.burn.2, .int .i64 b.rub.1, .int .i64 b.rub.2, .int .i64 b.milk.1, .int .i64 b.milk.2, .int .i64 b.heal, .int .i64 b.strong.1, .int .i64 b.strong.2] := (by repeat (first | with_reducible assumption | with_reducible apply row_here0 | with_reducible apply row_here1 | with_reducible apply row_here2 | with_reducible apply row_here3 | with_reducible apply rowSkip))
  have rmW0 : rowOf ((w.alloc (.cells #[.int .i64 b.full, .int .i64 b.fed, .int .i64 b.rest.1, .int .i64 b.rest.2, .int .i64 b.heat.1, .int .i64 b.heat.2, .int .i64 b.toil.1, .int .i64 b.toil.2, .int .i64 b.burn.1, .int .i64 b.burn.2, .int .i64 b.rub.1, .int .i64 b.rub.2, .int .i64 b.milk.1, .int .i64 b.milk.2, .int .i64 b.heal, .int .i64 b.strong.1, .int .i64 b.strong.2] 36)).alloc (.cells #[.int .i64 m.hours, .int .i64 m.load, .int .i64 m.heat.1, .int .i64 m.heat.2, .int .i64 m.grass.1, .int .i64 m.grass.2, .int .i64 m.drinks.1, .int .i64 m.drinks.2] 45)) (w.heap.size + 1) = some #[.int .i64 m.hours, .int .i64 m.load, .int .i64 m.heat.1, .int .i64 m.heat.2, .int .i64 m.grass.1, .int .i64 m.grass.2, .int .i64 m.drinks.1, .int .i64 m.drinks.2] := (by repeat (first | with_reducible assumption | with_reducible apply row_here0 | with_reducible apply row_here1 | with_reducible apply row_here2 | with_reducible apply row_here3 | with_reducible apply rowSkip))
  have rtW0 : rowOf ((w.alloc (.cells #[.int .i64 b.full, .int .i64 b.fed, .int .i64 b.rest.1, .int .i64 b.rest.2, .int .i64 b.heat.1, .int .i64 b.heat.2, .int .i64 b.toil.1, .int .i64 b.toil.2, .int .i64 b.burn.1, .int .i64 b.burn.2, .int .i64 b.rub.1, .int .i64 b.rub.2, .int .i64 b.milk.1, .int .i64 b.milk.2, .int .i64 b.heal, .int .i64 b.strong.1, .int .i64 b.strong.2] 36)).alloc (.cells #[.int .i64 m.hours, .int .i64 m.load, .int .i64 m.heat.1, .int .i64 m.heat.2, .int .i64 m.grass.1, .int .i64 m.grass.2, .int .i64 m.drinks.1, .int .i64 m.drinks.2] 45)) gt = some #[.int .i64 t.water, .int .i64 t.fat, .int .i64 t.sore] := rowSkip (rowSkip rt)
  have hgW0 : w.grownBy ((w.alloc (.cells #[.int .i64 b.full, .int .i64 b.fed, .int .i64 b.rest.1, .int .i64 b.rest.2, .int .i64 b.heat.1, .int .i64 b.heat.2, .int .i64 b.toil.1, .int .i64 b.toil.2, .int .i64 b.burn.1, .int .i64 b.burn.2, .int .i64 b.rub.1, .int .i64 b.rub.2, .int .i64 b.milk.1, .int .i64 b.milk.2, .int .i64 b.heal, .int .i64 b.strong.1, .int .i64 b.strong.2] 36)).alloc (.cells #[.int .i64 m.hours, .int .i64 m.load, .int .i64 m.heat.1, .int .i64 m.heat.2, .int .i64 m.grass.1, .int .i64 m.grass.2, .int .i64 m.drinks.1, .int .i64 m.drinks.2] 45)) (some gt) := grown_trans (World.grownBy_alloc _ _ _) (World.grownBy_alloc _ _ _)
  have hwW0 := Lib.hid (HW.out.grown hgW0 HNE.out)
  rw [HWW.out]
  clear rt rtE ctE gtE
  generalize ((w.alloc (.cells #[.int .i64 b.full, .int .i64 b.fed, .int .i64 b.rest.1, .int .i64 b.rest.2, .int .i64 b.heat.1, .int .i64 b.heat.2, .int .i64 b.toil.1, .int .i64 b.toil.2, .int .i64 b.burn.1, .int .i64 b.burn.2, .int .i64 b.rub.1, .int .i64 b.rub.2, .int .i64 b.milk.1, .int .i64 b.milk.2, .int .i64 b.heal, .int .i64 b.strong.1, .int .i64 b.strong.2] 36)).alloc (.cells #[.int .i64 m.hours, .int .i64 m.load, .int .i64 m.heat.1, .int .i64 m.heat.2, .int .i64 m.grass.1, .int .i64 m.grass.2, .int .i64 m.drinks.1, .int .i64 m.drinks.2] 45)) = W0 at *
  refine wp_drawsR (by kernel_rfl) [] [some 23, some 24, some 25, some 26, some 27, some 28, some 29, some 30, some 31, some 32, some 33, some 34, some 35, some 36, some 37, some 38, some 39, some 40, some 41, some 42, some 43, some 44, some 45, some 46, some 47, some 48, some 49, some 50, some 51, some 52, some 53, some 54, some 55, some 56, some 57, some 58, some 59, some 60, some 61, some 62, some 63, some 64] (by kernel_rfl) (fun ix v W => match ix with
    | 0 => v = .pointer (some ⟨gt, 0, none⟩)
    | 1 => v = .pointer (some ⟨gt, 0, none⟩)
    | 2 => v = .pointer (some ⟨gt, 0, none⟩)
    | 3 => v = .int .i64 t.water
    | 4 => v = .pointer (some ⟨w.heap.size, 2, none⟩)
    | 5 => v = .agg #[.int .i64 b.rest.1, .int .i64 b.rest.2]
    | 6 => v = .slice a n cap
    | 7 => v = .int .i64 (7 * (i : Int))
    | 8 => v = .int .u32 x0
    | 9 => v = .int .i64 pr
    | 10 => v = .pointer (some ⟨w.heap.size, 4, none⟩)
    | 11 => v = .agg #[.int .i64 b.heat.1, .int .i64 b.heat.2]
    | 12 => v = .slice a n cap
    | 13 => v = .int .i64 (7 * (i : Int))
    | 14 => v = .int .i64 (7 * (i : Int) + 1)
    | 15 => v = .int .u32 x1
    | 16 => v = .int .i64 ph
    | 17 => v = .pointer (some ⟨(w.heap.size + 1), 2, none⟩)
    | 18 => v = .agg #[.int .i64 m.heat.1, .int .i64 m.heat.2]
    | 19 => v = .slice a n cap
    | 20 => v = .int .i64 (7 * (i : Int))
    | 21 => v = .int .i64 (7 * (i : Int) + 2)
    | 22 => v = .int .u32 x2
    | 23 => v = .int .i64 pw
    | 24 => v = .int .i64 (pw - 20)
    | 25 => v = .int .i64 mxv
    | 26 => v = .int .i64 (ph * mxv)
    | 27 => v = .int .i64 (pr + ph * mxv)
    | 28 => v = .int .i64 (100000 * (pr + ph * mxv))
    | 29 => v = .pointer (some ⟨w.heap.size, 6, none⟩)
    | 30 => v = .agg #[.int .i64 b.toil.1, .int .i64 b.toil.2]
    | 31 => v = .slice a n cap
    | 32 => v = .int .i64 (7 * (i : Int))
    | 33 => v = .int .i64 (7 * (i : Int) + 3)
    | 34 => v = .int .u32 x3
    | 35 => v = .int .i64 pt
    | 36 => v = .int .i64 ww
    | 37 => v = .int .i64 (pt * ww)
    | 38 => v = .int .i64 (100000 * (pr + ph * mxv) + pt * ww)
    | 39 => v = .int .i64 (t.water - (100000 * (pr + ph * mxv) + pt * ww))
    | 40 => v = .pointer (some ⟨gt, 0, none⟩)
    | 41 => v = .pointer (some ⟨gt, 0, none⟩)
    | _ => True) ⟨⟨?_, ?_⟩, ⟨?_, ?_⟩, ⟨?_, ?_⟩, ⟨?_, ?_⟩, ⟨?_, ?_⟩, ⟨?_, ?_⟩, ⟨?_, ?_⟩, ⟨?_, ?_⟩, ⟨?_, ?_⟩, ⟨?_, ?_⟩, ⟨?_, ?_⟩, ⟨?_, ?_⟩, ⟨?_, ?_⟩, ⟨?_, ?_⟩, ⟨?_, ?_⟩, ⟨?_, ?_⟩, ⟨?_, ?_⟩, ⟨?_, ?_⟩, ⟨?_, ?_⟩, ⟨?_, ?_⟩, ⟨?_, ?_⟩, ⟨?_, ?_⟩, ⟨?_, ?_⟩, ⟨?_, ?_⟩, ⟨?_, ?_⟩, ⟨?_, ?_⟩, ⟨?_, ?_⟩, ⟨?_, ?_⟩, ⟨?_, ?_⟩, ⟨?_, ?_⟩, ⟨?_, ?_⟩, ⟨?_, ?_⟩, ⟨?_, ?_⟩, ⟨?_, ?_⟩, ⟨?_, ?_⟩, ⟨?_, ?_⟩, ⟨?_, ?_⟩, ⟨?_, ?_⟩, ⟨?_, ?_⟩, ⟨?_, ?_⟩, ⟨?_, ?_⟩, ⟨?_, ?_⟩, ?_⟩
  · intro g h; cases h
  · intro b' W hE hb hdep K hK
    have e0 : b'.tmps[0]?.getD undef = .pointer (some ⟨gt, 0, none⟩) := hb 0 (by decide)
    clear hdep hb
    go_wp2
    exact hK _ _ (XT.refl _ _) rfl
  · intro g h; cases h
  · intro b' W hE hb hdep K hK
    have e23 : b'.tmps[23]?.getD undef = .pointer (some ⟨gt, 0, none⟩) := pureX (hdep 0 (some 23) (by kernel_rfl) rfl)
    clear hdep hb
    go_wp2
    exact hK _ _ (XT.refl _ _) rfl
  · intro g h; cases h
  · intro b' W hE hb hdep K hK
    have e24 : b'.tmps[24]?.getD undef = .pointer (some ⟨gt, 0, none⟩) := pureX (hdep 1 (some 24) (by kernel_rfl) rfl)
    clear hdep hb
    go_wp2
    exact hK _ _ (XT.refl _ _) rfl
  · intro g h; cases h
  · intro b' W hE hb hdep K hK
    have e25 : b'.tmps[25]?.getD undef = .pointer (some ⟨gt, 0, none⟩) := pureX (hdep 2 (some 25) (by kernel_rfl) rfl)
    clear hdep hb
    obtain ⟨_, _, -, _⟩ := row_facts (hE.row ((rowOf_drew _ _).trans rbW0) (by first | (simp; done) | (simp; omega)))
    obtain ⟨_, _, -, _⟩ := row_facts (hE.row ((rowOf_drew _ _).trans rmW0) (by first | (simp; done) | (simp; omega)))
    obtain ⟨_, _, -, _⟩ := row_facts (hE.row ((rowOf_drew _ _).trans rtW0) (by first | (simp; done) | (simp; omega)))
    go_wp2
    exact hK _ _ (XT.refl _ _) rfl
  · intro g h; cases h
  · intro b' W hE hb hdep K hK
    have e7 : b'.tmps[7]?.getD undef = .pointer (some ⟨w.heap.size, 0, none⟩) := hb 7 (by decide)
    clear hdep hb
    go_wp2
    exact hK _ _ (XT.refl _ _) rfl
  · intro g h; cases h
  · intro b' W hE hb hdep K hK
    have e27 : b'.tmps[27]?.getD undef = .pointer (some ⟨w.heap.size, 2, none⟩) := pureX (hdep 4 (some 27) (by kernel_rfl) rfl)
    clear hdep hb
    obtain ⟨_, _, -, _⟩ := row_facts (hE.row ((rowOf_drew _ _).trans rbW0) (by first | (simp; done) | (simp; omega)))
    obtain ⟨_, _, -, _⟩ := row_facts (hE.row ((rowOf_drew _ _).trans rmW0) (by first | (simp; done) | (simp; omega)))
    obtain ⟨_, _, -, _⟩ := row_facts (hE.row ((rowOf_drew _ _).trans rtW0) (by first | (simp; done) | (simp; omega)))
    go_wp2
    exact hK _ _ (XT.refl _ _) rfl
  · intro g h; cases h
  · intro b' W hE hb hdep K hK
    have e4 : b'.tmps[4]?.getD undef = .slice a n cap := hb 4 (by decide)
    clear hdep hb
    go_wp2
    exact hK _ _ (XT.refl _ _) rfl
  · intro g h; cases h
  · intro b' W hE hb hdep K hK
    have e13 : b'.tmps[13]?.getD undef = .int .i64 (7 * (i : Int)) := hb 13 (by decide)
    clear hdep hb
    go_wp2
    exact hK _ _ (XT.refl _ _) rfl
  · intro g h; cases h
  · intro b' W hE hb hdep K hK
    have e29 : b'.tmps[29]?.getD undef = .slice a n cap := pureX (hdep 6 (some 29) (by kernel_rfl) rfl)
    have e30 : b'.tmps[30]?.getD undef = .int .i64 (7 * (i : Int)) := pureX (hdep 7 (some 30) (by kernel_rfl) rfl)
    clear hdep hb
    go_wp2_with fail
    refine (at_n (7 * i + 0) a cap n xs _ x0 _ (by omega) (by omega) HN.out (hwW0.out.ahead (xt_ext2 hE)) X0.out).mono ?_
    rintro e W' ⟨rfl, hB⟩
    exact hK _ _ (Ext.xt hB) rfl
  · intro g h; cases h
  · intro b' W hE hb hdep K hK
    have e28 : b'.tmps[28]?.getD undef = .agg #[.int .i64 b.rest.1, .int .i64 b.rest.2] := pureX (hdep 5 (some 28) (by kernel_rfl) rfl)
    have e31 : b'.tmps[31]?.getD undef = .int .u32 x0 := pureX (hdep 8 (some 31) (by kernel_rfl) rfl)
    clear hdep hb
    go_wp2_with fail
    refine (pick_any b.rest x0 pr _ (by omega) (by omega) (by omega) U0.out Ppr.out).mono ?_
    rintro e W' ⟨rfl, hB⟩
    exact hK _ _ (Ext.xt hB) rfl
  · intro g h; cases h
  · intro b' W hE hb hdep K hK
    have e7 : b'.tmps[7]?.getD undef = .pointer (some ⟨w.heap.size, 0, none⟩) := hb 7 (by decide)
    clear hdep hb
    go_wp2
    exact hK _ _ (XT.refl _ _) rfl
  · intro g h; cases h
  · intro b' W hE hb hdep K hK
    have e33 : b'.tmps[33]?.getD undef = .pointer (some ⟨w.heap.size, 4, none⟩) := pureX (hdep 10 (some 33) (by kernel_rfl) rfl)
    clear hdep hb
    obtain ⟨_, _, -, _⟩ := row_facts (hE.row ((rowOf_drew _ _).trans rbW0) (by first | (simp; done) | (simp; omega)))
    obtain ⟨_, _, -, _⟩ := row_facts (hE.row ((rowOf_drew _ _).trans rmW0) (by first | (simp; done) | (simp; omega)))
    obtain ⟨_, _, -, _⟩ := row_facts (hE.row ((rowOf_drew _ _).trans rtW0) (by first | (simp; done) | (simp; omega)))
    go_wp2
    exact hK _ _ (XT.refl _ _) rfl
  · intro g h; cases h
  · intro b' W hE hb hdep K hK
    have e4 : b'.tmps[4]?.getD undef = .slice a n cap := hb 4 (by decide)
    clear hdep hb
    go_wp2
    exact hK _ _ (XT.refl _ _) rfl
  · intro g h; cases h
  · intro b' W hE hb hdep K hK
    have e13 : b'.tmps[13]?.getD undef = .int .i64 (7 * (i : Int)) := hb 13 (by decide)
    clear hdep hb
    go_wp2
    exact hK _ _ (XT.refl _ _) rfl
  · intro g h; cases h
  · intro b' W hE hb hdep K hK
    have e36 : b'.tmps[36]?.getD undef = .int .i64 (7 * (i : Int)) := pureX (hdep 13 (some 36) (by kernel_rfl) rfl)
    clear hdep hb
    go_wp2
    exact hK _ _ (XT.refl _ _) rfl
  · intro g h; cases h
  · intro b' W hE hb hdep K hK
    have e35 : b'.tmps[35]?.getD undef = .slice a n cap := pureX (hdep 12 (some 35) (by kernel_rfl) rfl)
    have e37 : b'.tmps[37]?.getD undef = .int .i64 (7 * (i : Int) + 1) := pureX (hdep 14 (some 37) (by kernel_rfl) rfl)
    clear hdep hb
    go_wp2_with fail
    refine (at_n (7 * i + 1) a cap n xs _ x1 _ (by omega) (by omega) HN.out (hwW0.out.ahead (xt_ext2 hE)) X1.out).mono ?_
    rintro e W' ⟨rfl, hB⟩
    exact hK _ _ (Ext.xt hB) rfl
  · intro g h; cases h
  · intro b' W hE hb hdep K hK
    have e34 : b'.tmps[34]?.getD undef = .agg #[.int .i64 b.heat.1, .int .i64 b.heat.2] := pureX (hdep 11 (some 34) (by kernel_rfl) rfl)
    have e38 : b'.tmps[38]?.getD undef = .int .u32 x1 := pureX (hdep 15 (some 38) (by kernel_rfl) rfl)
    clear hdep hb
    go_wp2_with fail
    refine (pick_any b.heat x1 ph _ (by omega) (by omega) (by omega) U1.out Pph.out).mono ?_
    rintro e W' ⟨rfl, hB⟩
    exact hK _ _ (Ext.xt hB) rfl
  · intro g h; cases h
  · intro b' W hE hb hdep K hK
    have e9 : b'.tmps[9]?.getD undef = .pointer (some ⟨(w.heap.size + 1), 0, none⟩) := hb 9 (by decide)
    clear hdep hb
    go_wp2
    exact hK _ _ (XT.refl _ _) rfl
  · intro g h; cases h
  · intro b' W hE hb hdep K hK
    have e40 : b'.tmps[40]?.getD undef = .pointer (some ⟨(w.heap.size + 1), 2, none⟩) := pureX (hdep 17 (some 40) (by kernel_rfl) rfl)
    clear hdep hb
    obtain ⟨_, _, -, _⟩ := row_facts (hE.row ((rowOf_drew _ _).trans rbW0) (by first | (simp; done) | (simp; omega)))
    obtain ⟨_, _, -, _⟩ := row_facts (hE.row ((rowOf_drew _ _).trans rmW0) (by first | (simp; done) | (simp; omega)))
    obtain ⟨_, _, -, _⟩ := row_facts (hE.row ((rowOf_drew _ _).trans rtW0) (by first | (simp; done) | (simp; omega)))
    go_wp2
    exact hK _ _ (XT.refl _ _) rfl
  · intro g h; cases h
  · intro b' W hE hb hdep K hK
    have e4 : b'.tmps[4]?.getD undef = .slice a n cap := hb 4 (by decide)
    clear hdep hb
    go_wp2
    exact hK _ _ (XT.refl _ _) rfl
  · intro g h; cases h
  · intro b' W hE hb hdep K hK
    have e13 : b'.tmps[13]?.getD undef = .int .i64 (7 * (i : Int)) := hb 13 (by decide)
    clear hdep hb
    go_wp2
    exact hK _ _ (XT.refl _ _) rfl
  · intro g h; cases h
  · intro b' W hE hb hdep K hK
    have e43 : b'.tmps[43]?.getD undef = .int .i64 (7 * (i : Int)) := pureX (hdep 20 (some 43) (by kernel_rfl) rfl)
    clear hdep hb
    go_wp2
    exact hK _ _ (XT.refl _ _) rfl
  · intro g h; cases h
  · intro b' W hE hb hdep K hK
    have e42 : b'.tmps[42]?.getD undef = .slice a n cap := pureX (hdep 19 (some 42) (by kernel_rfl) rfl)
    have e44 : b'.tmps[44]?.getD undef = .int .i64 (7 * (i : Int) + 2) := pureX (hdep 21 (some 44) (by kernel_rfl) rfl)
    clear hdep hb
    go_wp2_with fail
    refine (at_n (7 * i + 2) a cap n xs _ x2 _ (by omega) (by omega) HN.out (hwW0.out.ahead (xt_ext2 hE)) X2.out).mono ?_
    rintro e W' ⟨rfl, hB⟩
    exact hK _ _ (Ext.xt hB) rfl
  · intro g h; cases h
  · intro b' W hE hb hdep K hK
    have e41 : b'.tmps[41]?.getD undef = .agg #[.int .i64 m.heat.1, .int .i64 m.heat.2] := pureX (hdep 18 (some 41) (by kernel_rfl) rfl)
    have e45 : b'.tmps[45]?.getD undef = .int .u32 x2 := pureX (hdep 22 (some 45) (by kernel_rfl) rfl)
    clear hdep hb
    go_wp2_with fail
    refine (pick_any m.heat x2 pw _ (by omega) (by omega) (by omega) U2.out Ppw.out).mono ?_
    rintro e W' ⟨rfl, hB⟩
    exact hK _ _ (Ext.xt hB) rfl
  · intro g h; cases h
  · intro b' W hE hb hdep K hK
    have e46 : b'.tmps[46]?.getD undef = .int .i64 pw := pureX (hdep 23 (some 46) (by kernel_rfl) rfl)
    clear hdep hb
    go_wp2
    exact hK _ _ (XT.refl _ _) rfl
  · intro g h; cases h
  · intro b' W hE hb hdep K hK
    have e47 : b'.tmps[47]?.getD undef = .int .i64 (pw - 20) := pureX (hdep 24 (some 47) (by kernel_rfl) rfl)
    clear hdep hb
    go_wp2
    exact hK _ _ (XT.refl _ _) (congrArg (Value.int .i64) HMX.out)
  · intro g h; cases h
  · intro b' W hE hb hdep K hK
    have e39 : b'.tmps[39]?.getD undef = .int .i64 ph := pureX (hdep 16 (some 39) (by kernel_rfl) rfl)
    have e48 : b'.tmps[48]?.getD undef = .int .i64 mxv := pureX (hdep 25 (some 48) (by kernel_rfl) rfl)
    clear hdep hb
    go_wp2
    exact hK _ _ (XT.refl _ _) rfl
  · intro g h; cases h
  · intro b' W hE hb hdep K hK
    have e32 : b'.tmps[32]?.getD undef = .int .i64 pr := pureX (hdep 9 (some 32) (by kernel_rfl) rfl)
    have e49 : b'.tmps[49]?.getD undef = .int .i64 (ph * mxv) := pureX (hdep 26 (some 49) (by kernel_rfl) rfl)
    clear hdep hb
    go_wp2
    exact hK _ _ (XT.refl _ _) rfl
  · intro g h; cases h
  · intro b' W hE hb hdep K hK
    have e50 : b'.tmps[50]?.getD undef = .int .i64 (pr + ph * mxv) := pureX (hdep 27 (some 50) (by kernel_rfl) rfl)
    clear hdep hb
    go_wp2
    exact hK _ _ (XT.refl _ _) rfl
  · intro g h; cases h
  · intro b' W hE hb hdep K hK
    have e7 : b'.tmps[7]?.getD undef = .pointer (some ⟨w.heap.size, 0, none⟩) := hb 7 (by decide)
    clear hdep hb
    go_wp2
    exact hK _ _ (XT.refl _ _) rfl
  · intro g h; cases h
  · intro b' W hE hb hdep K hK
    have e52 : b'.tmps[52]?.getD undef = .pointer (some ⟨w.heap.size, 6, none⟩) := pureX (hdep 29 (some 52) (by kernel_rfl) rfl)
    clear hdep hb
    obtain ⟨_, _, -, _⟩ := row_facts (hE.row ((rowOf_drew _ _).trans rbW0) (by first | (simp; done) | (simp; omega)))
    obtain ⟨_, _, -, _⟩ := row_facts (hE.row ((rowOf_drew _ _).trans rmW0) (by first | (simp; done) | (simp; omega)))
    obtain ⟨_, _, -, _⟩ := row_facts (hE.row ((rowOf_drew _ _).trans rtW0) (by first | (simp; done) | (simp; omega)))
    go_wp2
    exact hK _ _ (XT.refl _ _) rfl
  · intro g h; cases h
  · intro b' W hE hb hdep K hK
    have e4 : b'.tmps[4]?.getD undef = .slice a n cap := hb 4 (by decide)
    clear hdep hb
    go_wp2
    exact hK _ _ (XT.refl _ _) rfl
  · intro g h; cases h
  · intro b' W hE hb hdep K hK
    have e13 : b'.tmps[13]?.getD undef = .int .i64 (7 * (i : Int)) := hb 13 (by decide)
    clear hdep hb
    go_wp2
    exact hK _ _ (XT.refl _ _) rfl
  · intro g h; cases h
  · intro b' W hE hb hdep K hK
    have e55 : b'.tmps[55]?.getD undef = .int .i64 (7 * (i : Int)) := pureX (hdep 32 (some 55) (by kernel_rfl) rfl)
    clear hdep hb
    go_wp2
    exact hK _ _ (XT.refl _ _) rfl
  · intro g h; cases h
  · intro b' W hE hb hdep K hK
    have e54 : b'.tmps[54]?.getD undef = .slice a n cap := pureX (hdep 31 (some 54) (by kernel_rfl) rfl)
    have e56 : b'.tmps[56]?.getD undef = .int .i64 (7 * (i : Int) + 3) := pureX (hdep 33 (some 56) (by kernel_rfl) rfl)
    clear hdep hb
    go_wp2_with fail
    refine (at_n (7 * i + 3) a cap n xs _ x3 _ (by omega) (by omega) HN.out (hwW0.out.ahead (xt_ext2 hE)) X3.out).mono ?_
    rintro e W' ⟨rfl, hB⟩
    exact hK _ _ (Ext.xt hB) rfl
  · intro g h; cases h
  · intro b' W hE hb hdep K hK
    have e53 : b'.tmps[53]?.getD undef = .agg #[.int .i64 b.toil.1, .int .i64 b.toil.2] := pureX (hdep 30 (some 53) (by kernel_rfl) rfl)
    have e57 : b'.tmps[57]?.getD undef = .int .u32 x3 := pureX (hdep 34 (some 57) (by kernel_rfl) rfl)
    clear hdep hb
    go_wp2_with fail
    refine (pick_any b.toil x3 pt _ (by omega) (by omega) (by omega) U3.out Ppt.out).mono ?_
    rintro e W' ⟨rfl, hB⟩
    exact hK _ _ (Ext.xt hB) rfl
  · intro g h; cases h
  · intro b' W hE hb hdep K hK
    have e14 : b'.tmps[14]?.getD undef = .int .i64 ww := hb 14 (by decide)
    clear hdep hb
    go_wp2
    exact hK _ _ (XT.refl _ _) rfl
  · intro g h; cases h
  · intro b' W hE hb hdep K hK
    have e58 : b'.tmps[58]?.getD undef = .int .i64 pt := pureX (hdep 35 (some 58) (by kernel_rfl) rfl)
    have e59 : b'.tmps[59]?.getD undef = .int .i64 ww := pureX (hdep 36 (some 59) (by kernel_rfl) rfl)
    clear hdep hb
    go_wp2
    exact hK _ _ (XT.refl _ _) rfl
  · intro g h; cases h
  · intro b' W hE hb hdep K hK
    have e51 : b'.tmps[51]?.getD undef = .int .i64 (100000 * (pr + ph * mxv)) := pureX (hdep 28 (some 51) (by kernel_rfl) rfl)
    have e60 : b'.tmps[60]?.getD undef = .int .i64 (pt * ww) := pureX (hdep 37 (some 60) (by kernel_rfl) rfl)
    clear hdep hb
    go_wp2
    exact hK _ _ (XT.refl _ _) rfl
  · intro g h; cases h
  · intro b' W hE hb hdep K hK
    have e26 : b'.tmps[26]?.getD undef = .int .i64 t.water := pureX (hdep 3 (some 26) (by kernel_rfl) rfl)
    have e61 : b'.tmps[61]?.getD undef = .int .i64 (100000 * (pr + ph * mxv) + pt * ww) := pureX (hdep 38 (some 61) (by kernel_rfl) rfl)
    clear hdep hb
    go_wp2
    exact hK _ _ (XT.refl _ _) rfl
  · intro g h; cases h
  · intro b' W hE hb hdep K hK
    have e23 : b'.tmps[23]?.getD undef = .pointer (some ⟨gt, 0, none⟩) := pureX (hdep 0 (some 23) (by kernel_rfl) rfl)
    clear hdep hb
    go_wp2
    exact hK _ _ (XT.refl _ _) rfl
  · intro g h; cases h
  · intro b' W hE hb hdep K hK
    have e63 : b'.tmps[63]?.getD undef = .pointer (some ⟨gt, 0, none⟩) := pureX (hdep 40 (some 63) (by kernel_rfl) rfl)
    clear hdep hb
    go_wp2
    exact hK _ _ (XT.refl _ _) rfl
  intro f W hE hR
  have e23 : f 23 = .pointer (some ⟨gt, 0, none⟩) := pureX (hR 0 (some 23) rfl)
  have e24 : f 24 = .pointer (some ⟨gt, 0, none⟩) := pureX (hR 1 (some 24) rfl)
  have e25 : f 25 = .pointer (some ⟨gt, 0, none⟩) := pureX (hR 2 (some 25) rfl)
  have e26 : f 26 = .int .i64 t.water := pureX (hR 3 (some 26) rfl)
  have e27 : f 27 = .pointer (some ⟨w.heap.size, 2, none⟩) := pureX (hR 4 (some 27) rfl)
  have e28 : f 28 = .agg #[.int .i64 b.rest.1, .int .i64 b.rest.2] := pureX (hR 5 (some 28) rfl)
  have e29 : f 29 = .slice a n cap := pureX (hR 6 (some 29) rfl)
  have e30 : f 30 = .int .i64 (7 * (i : Int)) := pureX (hR 7 (some 30) rfl)
  have e31 : f 31 = .int .u32 x0 := pureX (hR 8 (some 31) rfl)
  have e32 : f 32 = .int .i64 pr := pureX (hR 9 (some 32) rfl)
  have e33 : f 33 = .pointer (some ⟨w.heap.size, 4, none⟩) := pureX (hR 10 (some 33) rfl)
  have e34 : f 34 = .agg #[.int .i64 b.heat.1, .int .i64 b.heat.2] := pureX (hR 11 (some 34) rfl)
  have e35 : f 35 = .slice a n cap := pureX (hR 12 (some 35) rfl)
  have e36 : f 36 = .int .i64 (7 * (i : Int)) := pureX (hR 13 (some 36) rfl)
  have e37 : f 37 = .int .i64 (7 * (i : Int) + 1) := pureX (hR 14 (some 37) rfl)
  have e38 : f 38 = .int .u32 x1 := pureX (hR 15 (some 38) rfl)
  have e39 : f 39 = .int .i64 ph := pureX (hR 16 (some 39) rfl)
  have e40 : f 40 = .pointer (some ⟨(w.heap.size + 1), 2, none⟩) := pureX (hR 17 (some 40) rfl)
  have e41 : f 41 = .agg #[.int .i64 m.heat.1, .int .i64 m.heat.2] := pureX (hR 18 (some 41) rfl)
  have e42 : f 42 = .slice a n cap := pureX (hR 19 (some 42) rfl)
  have e43 : f 43 = .int .i64 (7 * (i : Int)) := pureX (hR 20 (some 43) rfl)
  have e44 : f 44 = .int .i64 (7 * (i : Int) + 2) := pureX (hR 21 (some 44) rfl)
  have e45 : f 45 = .int .u32 x2 := pureX (hR 22 (some 45) rfl)
  have e46 : f 46 = .int .i64 pw := pureX (hR 23 (some 46) rfl)
  have e47 : f 47 = .int .i64 (pw - 20) := pureX (hR 24 (some 47) rfl)
  have e48 : f 48 = .int .i64 mxv := pureX (hR 25 (some 48) rfl)
  have e49 : f 49 = .int .i64 (ph * mxv) := pureX (hR 26 (some 49) rfl)
  have e50 : f 50 = .int .i64 (pr + ph * mxv) := pureX (hR 27 (some 50) rfl)
  have e51 : f 51 = .int .i64 (100000 * (pr + ph * mxv)) := pureX (hR 28 (some 51) rfl)
  have e52 : f 52 = .pointer (some ⟨w.heap.size, 6, none⟩) := pureX (hR 29 (some 52) rfl)
  have e53 : f 53 = .agg #[.int .i64 b.toil.1, .int .i64 b.toil.2] := pureX (hR 30 (some 53) rfl)
  have e54 : f 54 = .slice a n cap := pureX (hR 31 (some 54) rfl)
  have e55 : f 55 = .int .i64 (7 * (i : Int)) := pureX (hR 32 (some 55) rfl)
  have e56 : f 56 = .int .i64 (7 * (i : Int) + 3) := pureX (hR 33 (some 56) rfl)
  have e57 : f 57 = .int .u32 x3 := pureX (hR 34 (some 57) rfl)
  have e58 : f 58 = .int .i64 pt := pureX (hR 35 (some 58) rfl)
  have e59 : f 59 = .int .i64 ww := pureX (hR 36 (some 59) rfl)
  have e60 : f 60 = .int .i64 (pt * ww) := pureX (hR 37 (some 60) rfl)
  have e61 : f 61 = .int .i64 (100000 * (pr + ph * mxv) + pt * ww) := pureX (hR 38 (some 61) rfl)
  have e62 : f 62 = .int .i64 (t.water - (100000 * (pr + ph * mxv) + pt * ww)) := pureX (hR 39 (some 62) rfl)
  have e63 : f 63 = .pointer (some ⟨gt, 0, none⟩) := pureX (hR 40 (some 63) rfl)
  have e64 : f 64 = .pointer (some ⟨gt, 0, none⟩) := pureX (hR 41 (some 64) rfl)
  clear hR
  simp only [List.filterMap_cons, List.filterMap_nil, id, puts, Act.put, List.setIfInBounds_toArray, List.set_cons_succ, List.set_cons_zero, e23, e24, e25, e26, e27, e28, e29, e30, e31, e32, e33, e34, e35, e36, e37, e38, e39, e40, e41, e42, e43, e44, e45, e46, e47, e48, e49, e50, e51, e52, e53, e54, e55, e56, e57, e58, e59, e60, e61, e62, e63, e64]
  have xE := drew_ext (xt_ext2 hE)
  have rbW1 := xE.row rbW0
  have rmW1 := xE.row rmW0
  have rtW1 := xE.row rtW0
  have hgW1 : w.grownBy W (some gt) := grown_trans hgW0 (xE.grown _)
  have hwW1 := Lib.hid (hwW0.out.below xE (Nat.le_refl _))
  clear hE xE hwW0 hgW0 rbW0 rmW0 rtW0 e23 e24 e25 e26 e27 e28 e29 e30 e31 e32 e33 e34 e35 e36 e37 e38 e39 e40 e41 e42 e43 e44 e45 e46 e47 e48 e49 e50 e51 e52 e53 e54 e55 e56 e57 e58 e59 e60 e61 e62 e63 e64
  generalize W = W1 at *
  obtain ⟨_, cn, fn, zn⟩ := row_facts rtW1
  go_wp2_with fail
  have hG := grown_setCell W1 ⟨gt, 0, none⟩ (.int .i64 (t.water - (100000 * (pr + ph * mxv) + pt * ww)))
  have rbW2 := row_grown rbW1 hG (by simp only; omega)
  have rmW2 := row_grown rmW1 hG (by simp only; omega)
  have rtW2 : rowOf (W1.setCell ⟨gt, 0, none⟩ (.int .i64 (t.water - (100000 * (pr + ph * mxv) + pt * ww)))) gt = some #[.int .i64 (t.water - (100000 * (pr + ph * mxv) + pt * ww)), .int .i64 t.fat, .int .i64 t.sore] := rowOf_setCell_o rtW1 _
  have hgW2 : w.grownBy (W1.setCell ⟨gt, 0, none⟩ (.int .i64 (t.water - (100000 * (pr + ph * mxv) + pt * ww)))) (some gt) := grown_trans hgW1 hG
  have hwW2 := Lib.hid (hwW1.out.grown hG HNE.out)
  clear hG cn fn zn hgW1 hwW1 rbW1 rmW1 rtW1
  generalize (W1.setCell ⟨gt, 0, none⟩ (.int .i64 (t.water - (100000 * (pr + ph * mxv) + pt * ww)))) = W2 at *
  obtain ⟨w1, hw1⟩ : ∃ v, t.water - (100000 * (pr + ph * mxv) + pt * ww) = v := ⟨_, rfl⟩
  rw [hw1] at rtW2
  have Bw1 : -10000000000000 ≤ w1 ∧ w1 ≤ 100000000000 := by omega
  obtain ⟨Bw11, Bw12⟩ := Bw1
  have Hw1 := Lib.hid hw1
  clear hw1
  go_wp2_with fail
  refine wp_drawsR (by kernel_rfl) [] [some 81, some 82, some 83, some 84, some 85, some 86, some 87, some 88, some 89, some 90, some 91, some 92, some 93, some 94, some 95, some 96] (by kernel_rfl) (fun ix v W => match ix with
    | 0 => v = .pointer (some ⟨gt, 0, none⟩)
    | 1 => v = .pointer (some ⟨gt, 0, none⟩)
    | 2 => v = .pointer (some ⟨gt, 1, none⟩)
    | 3 => v = .int .i64 t.fat
    | 4 => v = .pointer (some ⟨w.heap.size, 8, none⟩)
    | 5 => v = .agg #[.int .i64 b.burn.1, .int .i64 b.burn.2]
    | 6 => v = .slice a n cap
    | 7 => v = .int .i64 (7 * (i : Int))
    | 8 => v = .int .i64 (7 * (i : Int) + 5)
    | 9 => v = .int .u32 x5
    | 10 => v = .int .i64 pb
    | 11 => v = .int .i64 ww
    | 12 => v = .int .i64 (pb * ww)
    | 13 => v = .int .i64 (t.fat - pb * ww)
    | 14 => v = .pointer (some ⟨gt, 0, none⟩)
    | 15 => v = .pointer (some ⟨gt, 1, none⟩)
    | _ => True) ⟨⟨?_, ?_⟩, ⟨?_, ?_⟩, ⟨?_, ?_⟩, ⟨?_, ?_⟩, ⟨?_, ?_⟩, ⟨?_, ?_⟩, ⟨?_, ?_⟩, ⟨?_, ?_⟩, ⟨?_, ?_⟩, ⟨?_, ?_⟩, ⟨?_, ?_⟩, ⟨?_, ?_⟩, ⟨?_, ?_⟩, ⟨?_, ?_⟩, ⟨?_, ?_⟩, ⟨?_, ?_⟩, ?_⟩
  · intro g h; cases h
  · intro b' W hE hb hdep K hK
    have e0 : b'.tmps[0]?.getD undef = .pointer (some ⟨gt, 0, none⟩) := hb 0 (by decide)
    clear hdep hb
    go_wp2
    exact hK _ _ (XT.refl _ _) rfl
  · intro g h; cases h
  · intro b' W hE hb hdep K hK
    have e81 : b'.tmps[81]?.getD undef = .pointer (some ⟨gt, 0, none⟩) := pureX (hdep 0 (some 81) (by kernel_rfl) rfl)
    clear hdep hb
    go_wp2
    exact hK _ _ (XT.refl _ _) rfl
  · intro g h; cases h
  · intro b' W hE hb hdep K hK
    have e82 : b'.tmps[82]?.getD undef = .pointer (some ⟨gt, 0, none⟩) := pureX (hdep 1 (some 82) (by kernel_rfl) rfl)
    clear hdep hb
    go_wp2
    exact hK _ _ (XT.refl _ _) rfl
  · intro g h; cases h
  · intro b' W hE hb hdep K hK
    have e83 : b'.tmps[83]?.getD undef = .pointer (some ⟨gt, 1, none⟩) := pureX (hdep 2 (some 83) (by kernel_rfl) rfl)
    clear hdep hb
    obtain ⟨_, _, -, _⟩ := row_facts (hE.row ((rowOf_drew _ _).trans rbW2) (by first | (simp; done) | (simp; omega)))
    obtain ⟨_, _, -, _⟩ := row_facts (hE.row ((rowOf_drew _ _).trans rmW2) (by first | (simp; done) | (simp; omega)))
    obtain ⟨_, _, -, _⟩ := row_facts (hE.row ((rowOf_drew _ _).trans rtW2) (by first | (simp; done) | (simp; omega)))
    go_wp2
    exact hK _ _ (XT.refl _ _) rfl
  · intro g h; cases h
  · intro b' W hE hb hdep K hK
    have e7 : b'.tmps[7]?.getD undef = .pointer (some ⟨w.heap.size, 0, none⟩) := hb 7 (by decide)
    clear hdep hb
    go_wp2
    exact hK _ _ (XT.refl _ _) rfl
  · intro g h; cases h
  · intro b' W hE hb hdep K hK
    have e85 : b'.tmps[85]?.getD undef = .pointer (some ⟨w.heap.size, 8, none⟩) := pureX (hdep 4 (some 85) (by kernel_rfl) rfl)
    clear hdep hb
    obtain ⟨_, _, -, _⟩ := row_facts (hE.row ((rowOf_drew _ _).trans rbW2) (by first | (simp; done) | (simp; omega)))
    obtain ⟨_, _, -, _⟩ := row_facts (hE.row ((rowOf_drew _ _).trans rmW2) (by first | (simp; done) | (simp; omega)))
    obtain ⟨_, _, -, _⟩ := row_facts (hE.row ((rowOf_drew _ _).trans rtW2) (by first | (simp; done) | (simp; omega)))
    go_wp2
    exact hK _ _ (XT.refl _ _) rfl
  · intro g h; cases h
  · intro b' W hE hb hdep K hK
    have e4 : b'.tmps[4]?.getD undef = .slice a n cap := hb 4 (by decide)
    clear hdep hb
    go_wp2
    exact hK _ _ (XT.refl _ _) rfl
  · intro g h; cases h
  · intro b' W hE hb hdep K hK
    have e13 : b'.tmps[13]?.getD undef = .int .i64 (7 * (i : Int)) := hb 13 (by decide)
    clear hdep hb
    go_wp2
    exact hK _ _ (XT.refl _ _) rfl
  · intro g h; cases h
  · intro b' W hE hb hdep K hK
    have e88 : b'.tmps[88]?.getD undef = .int .i64 (7 * (i : Int)) := pureX (hdep 7 (some 88) (by kernel_rfl) rfl)
    clear hdep hb
    go_wp2
    exact hK _ _ (XT.refl _ _) rfl
  · intro g h; cases h
  · intro b' W hE hb hdep K hK
    have e87 : b'.tmps[87]?.getD undef = .slice a n cap := pureX (hdep 6 (some 87) (by kernel_rfl) rfl)
    have e89 : b'.tmps[89]?.getD undef = .int .i64 (7 * (i : Int) + 5) := pureX (hdep 8 (some 89) (by kernel_rfl) rfl)
    clear hdep hb
    go_wp2_with fail
    refine (at_n (7 * i + 5) a cap n xs _ x5 _ (by omega) (by omega) HN.out (hwW2.out.ahead (xt_ext2 hE)) X5.out).mono ?_
    rintro e W' ⟨rfl, hB⟩
    exact hK _ _ (Ext.xt hB) rfl
  · intro g h; cases h
  · intro b' W hE hb hdep K hK
    have e86 : b'.tmps[86]?.getD undef = .agg #[.int .i64 b.burn.1, .int .i64 b.burn.2] := pureX (hdep 5 (some 86) (by kernel_rfl) rfl)
    have e90 : b'.tmps[90]?.getD undef = .int .u32 x5 := pureX (hdep 9 (some 90) (by kernel_rfl) rfl)
    clear hdep hb
    go_wp2_with fail
    refine (pick_any b.burn x5 pb _ (by omega) (by omega) (by omega) U5.out Ppb.out).mono ?_
    rintro e W' ⟨rfl, hB⟩
    exact hK _ _ (Ext.xt hB) rfl
  · intro g h; cases h
  · intro b' W hE hb hdep K hK
    have e14 : b'.tmps[14]?.getD undef = .int .i64 ww := hb 14 (by decide)
    clear hdep hb
    go_wp2
    exact hK _ _ (XT.refl _ _) rfl
  · intro g h; cases h
  · intro b' W hE hb hdep K hK
    have e91 : b'.tmps[91]?.getD undef = .int .i64 pb := pureX (hdep 10 (some 91) (by kernel_rfl) rfl)
    have e92 : b'.tmps[92]?.getD undef = .int .i64 ww := pureX (hdep 11 (some 92) (by kernel_rfl) rfl)
    clear hdep hb
    go_wp2
    exact hK _ _ (XT.refl _ _) rfl
  · intro g h; cases h
  · intro b' W hE hb hdep K hK
    have e84 : b'.tmps[84]?.getD undef = .int .i64 t.fat := pureX (hdep 3 (some 84) (by kernel_rfl) rfl)
    have e93 : b'.tmps[93]?.getD undef = .int .i64 (pb * ww) := pureX (hdep 12 (some 93) (by kernel_rfl) rfl)
    clear hdep hb
    go_wp2
    exact hK _ _ (XT.refl _ _) rfl
  · intro g h; cases h
  · intro b' W hE hb hdep K hK
    have e81 : b'.tmps[81]?.getD undef = .pointer (some ⟨gt, 0, none⟩) := pureX (hdep 0 (some 81) (by kernel_rfl) rfl)
    clear hdep hb
    go_wp2
    exact hK _ _ (XT.refl _ _) rfl
  · intro g h; cases h
  · intro b' W hE hb hdep K hK
    have e95 : b'.tmps[95]?.getD undef = .pointer (some ⟨gt, 0, none⟩) := pureX (hdep 14 (some 95) (by kernel_rfl) rfl)
    clear hdep hb
    go_wp2
    exact hK _ _ (XT.refl _ _) rfl
  intro f W hE hR
  have e81 : f 81 = .pointer (some ⟨gt, 0, none⟩) := pureX (hR 0 (some 81) rfl)
  have e82 : f 82 = .pointer (some ⟨gt, 0, none⟩) := pureX (hR 1 (some 82) rfl)
  have e83 : f 83 = .pointer (some ⟨gt, 1, none⟩) := pureX (hR 2 (some 83) rfl)
  have e84 : f 84 = .int .i64 t.fat := pureX (hR 3 (some 84) rfl)
  have e85 : f 85 = .pointer (some ⟨w.heap.size, 8, none⟩) := pureX (hR 4 (some 85) rfl)
  have e86 : f 86 = .agg #[.int .i64 b.burn.1, .int .i64 b.burn.2] := pureX (hR 5 (some 86) rfl)
  have e87 : f 87 = .slice a n cap := pureX (hR 6 (some 87) rfl)
  have e88 : f 88 = .int .i64 (7 * (i : Int)) := pureX (hR 7 (some 88) rfl)
  have e89 : f 89 = .int .i64 (7 * (i : Int) + 5) := pureX (hR 8 (some 89) rfl)
  have e90 : f 90 = .int .u32 x5 := pureX (hR 9 (some 90) rfl)
  have e91 : f 91 = .int .i64 pb := pureX (hR 10 (some 91) rfl)
  have e92 : f 92 = .int .i64 ww := pureX (hR 11 (some 92) rfl)
  have e93 : f 93 = .int .i64 (pb * ww) := pureX (hR 12 (some 93) rfl)
  have e94 : f 94 = .int .i64 (t.fat - pb * ww) := pureX (hR 13 (some 94) rfl)
  have e95 : f 95 = .pointer (some ⟨gt, 0, none⟩) := pureX (hR 14 (some 95) rfl)
  have e96 : f 96 = .pointer (some ⟨gt, 1, none⟩) := pureX (hR 15 (some 96) rfl)
  clear hR
  simp only [List.filterMap_cons, List.filterMap_nil, id, puts, Act.put, List.setIfInBounds_toArray, List.set_cons_succ, List.set_cons_zero, e81, e82, e83, e84, e85, e86, e87, e88, e89, e90, e91, e92, e93, e94, e95, e96]
  have xE := drew_ext (xt_ext2 hE)
  have rbW5 := xE.row rbW2
  have rmW5 := xE.row rmW2
  have rtW5 := xE.row rtW2
  have hgW5 : w.grownBy W (some gt) := grown_trans hgW2 (xE.grown _)
  have hwW5 := Lib.hid (hwW2.out.below xE (Nat.le_refl _))
  clear hE xE hwW2 hgW2 rbW2 rmW2 rtW2 e81 e82 e83 e84 e85 e86 e87 e88 e89 e90 e91 e92 e93 e94 e95 e96
  generalize W = W5 at *
  obtain ⟨_, cn, fn, zn⟩ := row_facts rtW5
  have EW : w2T false m h t = w1 := by
    rw [HH.out]
    simp only [w2T, w1T, walkS, HMX.out, HWW.out, Hw1.out, if_true, if_false, Bool.false_eq_true]
  have EF : f1T m h t = t.fat - pb * ww := by
    rw [HH.out]
    simp only [f1T, walkS, HWW.out]
  have EL := HR.out
  rw [livT, EW, EF] at EL
  have HEW := Lib.hid EW
  have HEF := Lib.hid EF
  clear EW EF
  by_cases hw0 : w1 < 0
  · obtain rfl : false = r := by rw [← EL]; simp [hw0]
    clear EL
    go_wp2
    go_returns
    first | exact ⟨rfl, (fun h => by cases h), grown_trans hgW5 (grown_setCell W5 ⟨gt, 1, none⟩ (.int .i64 (t.fat - pb * ww)))⟩ | exact ⟨rfl, grown_trans hgW5 (grown_setCell W5 ⟨gt, 1, none⟩ (.int .i64 (t.fat - pb * ww)))⟩
  by_cases hf0 : t.fat - pb * ww < 0
  · obtain rfl : false = r := by rw [← EL]; simp [hf0]
    clear EL
    go_wp2
    go_returns
    first | exact ⟨rfl, (fun h => by cases h), grown_trans hgW5 (grown_setCell W5 ⟨gt, 1, none⟩ (.int .i64 (t.fat - pb * ww)))⟩ | exact ⟨rfl, grown_trans hgW5 (grown_setCell W5 ⟨gt, 1, none⟩ (.int .i64 (t.fat - pb * ww)))⟩
  obtain rfl : true = r := by rw [← EL]; simp [hw0, hf0]
  have hw1' : 0 ≤ w1 := by omega
  have hf1' : 0 ≤ t.fat - pb * ww := by omega
  clear EL HR
  go_wp2_with fail
  have hG := grown_setCell W5 ⟨gt, 1, none⟩ (.int .i64 (t.fat - pb * ww))
  have rbW6 := row_grown rbW5 hG (by simp only; omega)
  have rmW6 := row_grown rmW5 hG (by simp only; omega)
  have rtW6 : rowOf (W5.setCell ⟨gt, 1, none⟩ (.int .i64 (t.fat - pb * ww))) gt = some #[.int .i64 w1, .int .i64 (t.fat - pb * ww), .int .i64 t.sore] := rowOf_setCell_o rtW5 _
  have hgW6 : w.grownBy (W5.setCell ⟨gt, 1, none⟩ (.int .i64 (t.fat - pb * ww))) (some gt) := grown_trans hgW5 hG
  have hwW6 := Lib.hid (hwW5.out.grown hG HNE.out)
  clear hG cn fn zn hgW5 hwW5 rbW5 rmW5 rtW5
  generalize (W5.setCell ⟨gt, 1, none⟩ (.int .i64 (t.fat - pb * ww))) = W6 at *
  obtain ⟨f1, hf1⟩ : ∃ v, t.fat - pb * ww = v := ⟨_, rfl⟩
  rw [hf1] at rtW6
  have Bf1 : 0 ≤ f1 ∧ f1 ≤ 100000000000 := by omega
  obtain ⟨Bf11, Bf12⟩ := Bf1
  have Hf1 := Lib.hid hf1
  clear hf1
  clear hf1'
  refine wp_drawsR (by kernel_rfl) [] [some 109, some 110, some 111, some 112, some 113, some 114, some 115, some 116, some 117, some 118, some 119, some 120, some 121, some 122, some 123, some 124, some 125, some 126, some 127, some 128] (by kernel_rfl) (fun ix v W => match ix with
    | 0 => v = .pointer (some ⟨gt, 0, none⟩)
    | 1 => v = .pointer (some ⟨w.heap.size, 0, none⟩)
    | 2 => v = .int .i64 b.full
    | 3 => v = .int .i64 (100000 * b.full)
    | 4 => v = .pointer (some ⟨gt, 0, none⟩)
    | 5 => v = .pointer (some ⟨gt, 0, none⟩)
    | 6 => v = .pointer (some ⟨gt, 0, none⟩)
    | 7 => v = .int .i64 w1
    | 8 => v = .pointer (some ⟨(w.heap.size + 1), 6, none⟩)
    | 9 => v = .agg #[.int .i64 m.drinks.1, .int .i64 m.drinks.2]
    | 10 => v = .slice a n cap
    | 11 => v = .int .i64 (7 * (i : Int))
    | 12 => v = .int .i64 (7 * (i : Int) + 6)
    | 13 => v = .int .u32 x6
    | 14 => v = .int .i64 pd
    | 15 => v = .int .i64 (100000 * pd)
    | 16 => v = .int .i64 (w1 + 100000 * pd)
    | 17 => v = .int .i64 (mn (100000 * b.full) (w1 + 100000 * pd))
    | 18 => v = .pointer (some ⟨gt, 0, none⟩)
    | 19 => v = .pointer (some ⟨gt, 0, none⟩)
    | _ => True) ⟨⟨?_, ?_⟩, ⟨?_, ?_⟩, ⟨?_, ?_⟩, ⟨?_, ?_⟩, ⟨?_, ?_⟩, ⟨?_, ?_⟩, ⟨?_, ?_⟩, ⟨?_, ?_⟩, ⟨?_, ?_⟩, ⟨?_, ?_⟩, ⟨?_, ?_⟩, ⟨?_, ?_⟩, ⟨?_, ?_⟩, ⟨?_, ?_⟩, ⟨?_, ?_⟩, ⟨?_, ?_⟩, ⟨?_, ?_⟩, ⟨?_, ?_⟩, ⟨?_, ?_⟩, ⟨?_, ?_⟩, ?_⟩
  · intro g h; cases h
  · intro b' W hE hb hdep K hK
    have e0 : b'.tmps[0]?.getD undef = .pointer (some ⟨gt, 0, none⟩) := hb 0 (by decide)
    clear hdep hb
    go_wp2
    exact hK _ _ (XT.refl _ _) rfl
  · intro g h; cases h
  · intro b' W hE hb hdep K hK
    have e7 : b'.tmps[7]?.getD undef = .pointer (some ⟨w.heap.size, 0, none⟩) := hb 7 (by decide)
    clear hdep hb
    go_wp2
    exact hK _ _ (XT.refl _ _) rfl
  · intro g h; cases h
  · intro b' W hE hb hdep K hK
    have e110 : b'.tmps[110]?.getD undef = .pointer (some ⟨w.heap.size, 0, none⟩) := pureX (hdep 1 (some 110) (by kernel_rfl) rfl)
    clear hdep hb
    obtain ⟨_, _, -, _⟩ := row_facts (hE.row ((rowOf_drew _ _).trans rbW6) (by first | (simp; done) | (simp; omega)))
    obtain ⟨_, _, -, _⟩ := row_facts (hE.row ((rowOf_drew _ _).trans rmW6) (by first | (simp; done) | (simp; omega)))
    obtain ⟨_, _, -, _⟩ := row_facts (hE.row ((rowOf_drew _ _).trans rtW6) (by first | (simp; done) | (simp; omega)))
    go_wp2
    exact hK _ _ (XT.refl _ _) rfl
  · intro g h; cases h
  · intro b' W hE hb hdep K hK
    have e111 : b'.tmps[111]?.getD undef = .int .i64 b.full := pureX (hdep 2 (some 111) (by kernel_rfl) rfl)
    clear hdep hb
    go_wp2
    exact hK _ _ (XT.refl _ _) rfl
  · intro g h; cases h
  · intro b' W hE hb hdep K hK
    have e0 : b'.tmps[0]?.getD undef = .pointer (some ⟨gt, 0, none⟩) := hb 0 (by decide)
    clear hdep hb
    go_wp2
    exact hK _ _ (XT.refl _ _) rfl
  · intro g h; cases h
  · intro b' W hE hb hdep K hK
    have e113 : b'.tmps[113]?.getD undef = .pointer (some ⟨gt, 0, none⟩) := pureX (hdep 4 (some 113) (by kernel_rfl) rfl)
    clear hdep hb
    go_wp2
    exact hK _ _ (XT.refl _ _) rfl
  · intro g h; cases h
  · intro b' W hE hb hdep K hK
    have e114 : b'.tmps[114]?.getD undef = .pointer (some ⟨gt, 0, none⟩) := pureX (hdep 5 (some 114) (by kernel_rfl) rfl)
    clear hdep hb
    go_wp2
    exact hK _ _ (XT.refl _ _) rfl
  · intro g h; cases h
  · intro b' W hE hb hdep K hK
    have e115 : b'.tmps[115]?.getD undef = .pointer (some ⟨gt, 0, none⟩) := pureX (hdep 6 (some 115) (by kernel_rfl) rfl)
    clear hdep hb
    obtain ⟨_, _, -, _⟩ := row_facts (hE.row ((rowOf_drew _ _).trans rbW6) (by first | (simp; done) | (simp; omega)))
    obtain ⟨_, _, -, _⟩ := row_facts (hE.row ((rowOf_drew _ _).trans rmW6) (by first | (simp; done) | (simp; omega)))
    obtain ⟨_, _, -, _⟩ := row_facts (hE.row ((rowOf_drew _ _).trans rtW6) (by first | (simp; done) | (simp; omega)))
    go_wp2
    exact hK _ _ (XT.refl _ _) rfl
  · intro g h; cases h
  · intro b' W hE hb hdep K hK
    have e9 : b'.tmps[9]?.getD undef = .pointer (some ⟨(w.heap.size + 1), 0, none⟩) := hb 9 (by decide)
    clear hdep hb
    go_wp2
    exact hK _ _ (XT.refl _ _) rfl
  · intro g h; cases h
  · intro b' W hE hb hdep K hK
    have e117 : b'.tmps[117]?.getD undef = .pointer (some ⟨(w.heap.size + 1), 6, none⟩) := pureX (hdep 8 (some 117) (by kernel_rfl) rfl)
    clear hdep hb
    obtain ⟨_, _, -, _⟩ := row_facts (hE.row ((rowOf_drew _ _).trans rbW6) (by first | (simp; done) | (simp; omega)))
    obtain ⟨_, _, -, _⟩ := row_facts (hE.row ((rowOf_drew _ _).trans rmW6) (by first | (simp; done) | (simp; omega)))
    obtain ⟨_, _, -, _⟩ := row_facts (hE.row ((rowOf_drew _ _).trans rtW6) (by first | (simp; done) | (simp; omega)))
    go_wp2
    exact hK _ _ (XT.refl _ _) rfl
  · intro g h; cases h
  · intro b' W hE hb hdep K hK
    have e4 : b'.tmps[4]?.getD undef = .slice a n cap := hb 4 (by decide)
    clear hdep hb
    go_wp2
    exact hK _ _ (XT.refl _ _) rfl
  · intro g h; cases h
  · intro b' W hE hb hdep K hK
    have e13 : b'.tmps[13]?.getD undef = .int .i64 (7 * (i : Int)) := hb 13 (by decide)
    clear hdep hb
    go_wp2
    exact hK _ _ (XT.refl _ _) rfl
  · intro g h; cases h
  · intro b' W hE hb hdep K hK
    have e120 : b'.tmps[120]?.getD undef = .int .i64 (7 * (i : Int)) := pureX (hdep 11 (some 120) (by kernel_rfl) rfl)
    clear hdep hb
    go_wp2
    exact hK _ _ (XT.refl _ _) rfl
  · intro g h; cases h
  · intro b' W hE hb hdep K hK
    have e119 : b'.tmps[119]?.getD undef = .slice a n cap := pureX (hdep 10 (some 119) (by kernel_rfl) rfl)
    have e121 : b'.tmps[121]?.getD undef = .int .i64 (7 * (i : Int) + 6) := pureX (hdep 12 (some 121) (by kernel_rfl) rfl)
    clear hdep hb
    go_wp2_with fail
    refine (at_n (7 * i + 6) a cap n xs _ x6 _ (by omega) (by omega) HN.out (hwW6.out.ahead (xt_ext2 hE)) X6.out).mono ?_
    rintro e W' ⟨rfl, hB⟩
    exact hK _ _ (Ext.xt hB) rfl
  · intro g h; cases h
  · intro b' W hE hb hdep K hK
    have e118 : b'.tmps[118]?.getD undef = .agg #[.int .i64 m.drinks.1, .int .i64 m.drinks.2] := pureX (hdep 9 (some 118) (by kernel_rfl) rfl)
    have e122 : b'.tmps[122]?.getD undef = .int .u32 x6 := pureX (hdep 13 (some 122) (by kernel_rfl) rfl)
    clear hdep hb
    go_wp2_with fail
    refine (pick_any m.drinks x6 pd _ (by omega) (by omega) (by omega) U6.out Ppd.out).mono ?_
    rintro e W' ⟨rfl, hB⟩
    exact hK _ _ (Ext.xt hB) rfl
  · intro g h; cases h
  · intro b' W hE hb hdep K hK
    have e123 : b'.tmps[123]?.getD undef = .int .i64 pd := pureX (hdep 14 (some 123) (by kernel_rfl) rfl)
    clear hdep hb
    go_wp2
    exact hK _ _ (XT.refl _ _) rfl
  · intro g h; cases h
  · intro b' W hE hb hdep K hK
    have e116 : b'.tmps[116]?.getD undef = .int .i64 w1 := pureX (hdep 7 (some 116) (by kernel_rfl) rfl)
    have e124 : b'.tmps[124]?.getD undef = .int .i64 (100000 * pd) := pureX (hdep 15 (some 124) (by kernel_rfl) rfl)
    clear hdep hb
    go_wp2
    exact hK _ _ (XT.refl _ _) rfl
  · intro g h; cases h
  · intro b' W hE hb hdep K hK
    have e112 : b'.tmps[112]?.getD undef = .int .i64 (100000 * b.full) := pureX (hdep 3 (some 112) (by kernel_rfl) rfl)
    have e125 : b'.tmps[125]?.getD undef = .int .i64 (w1 + 100000 * pd) := pureX (hdep 16 (some 125) (by kernel_rfl) rfl)
    clear hdep hb
    go_wp2
    exact hK _ _ (XT.refl _ _) rfl
  · intro g h; cases h
  · intro b' W hE hb hdep K hK
    have e109 : b'.tmps[109]?.getD undef = .pointer (some ⟨gt, 0, none⟩) := pureX (hdep 0 (some 109) (by kernel_rfl) rfl)
    clear hdep hb
    go_wp2
    exact hK _ _ (XT.refl _ _) rfl
  · intro g h; cases h
  · intro b' W hE hb hdep K hK
    have e127 : b'.tmps[127]?.getD undef = .pointer (some ⟨gt, 0, none⟩) := pureX (hdep 18 (some 127) (by kernel_rfl) rfl)
    clear hdep hb
    go_wp2
    exact hK _ _ (XT.refl _ _) rfl
  intro f W hE hR
  have e109 : f 109 = .pointer (some ⟨gt, 0, none⟩) := pureX (hR 0 (some 109) rfl)
  have e110 : f 110 = .pointer (some ⟨w.heap.size, 0, none⟩) := pureX (hR 1 (some 110) rfl)
  have e111 : f 111 = .int .i64 b.full := pureX (hR 2 (some 111) rfl)
  have e112 : f 112 = .int .i64 (100000 * b.full) := pureX (hR 3 (some 112) rfl)
  have e113 : f 113 = .pointer (some ⟨gt, 0, none⟩) := pureX (hR 4 (some 113) rfl)
  have e114 : f 114 = .pointer (some ⟨gt, 0, none⟩) := pureX (hR 5 (some 114) rfl)
  have e115 : f 115 = .pointer (some ⟨gt, 0, none⟩) := pureX (hR 6 (some 115) rfl)
  have e116 : f 116 = .int .i64 w1 := pureX (hR 7 (some 116) rfl)
  have e117 : f 117 = .pointer (some ⟨(w.heap.size + 1), 6, none⟩) := pureX (hR 8 (some 117) rfl)
  have e118 : f 118 = .agg #[.int .i64 m.drinks.1, .int .i64 m.drinks.2] := pureX (hR 9 (some 118) rfl)
  have e119 : f 119 = .slice a n cap := pureX (hR 10 (some 119) rfl)
  have e120 : f 120 = .int .i64 (7 * (i : Int)) := pureX (hR 11 (some 120) rfl)
  have e121 : f 121 = .int .i64 (7 * (i : Int) + 6) := pureX (hR 12 (some 121) rfl)
  have e122 : f 122 = .int .u32 x6 := pureX (hR 13 (some 122) rfl)
  have e123 : f 123 = .int .i64 pd := pureX (hR 14 (some 123) rfl)
  have e124 : f 124 = .int .i64 (100000 * pd) := pureX (hR 15 (some 124) rfl)
  have e125 : f 125 = .int .i64 (w1 + 100000 * pd) := pureX (hR 16 (some 125) rfl)
  have e126 : f 126 = .int .i64 (mn (100000 * b.full) (w1 + 100000 * pd)) := pureX (hR 17 (some 126) rfl)
  have e127 : f 127 = .pointer (some ⟨gt, 0, none⟩) := pureX (hR 18 (some 127) rfl)
  have e128 : f 128 = .pointer (some ⟨gt, 0, none⟩) := pureX (hR 19 (some 128) rfl)
  clear hR
  simp only [List.filterMap_cons, List.filterMap_nil, id, puts, Act.put, List.setIfInBounds_toArray, List.set_cons_succ, List.set_cons_zero, e109, e110, e111, e112, e113, e114, e115, e116, e117, e118, e119, e120, e121, e122, e123, e124, e125, e126, e127, e128]
  have xE := drew_ext (xt_ext2 hE)
  have rbW7 := xE.row rbW6
  have rmW7 := xE.row rmW6
  have rtW7 := xE.row rtW6
  have hgW7 : w.grownBy W (some gt) := grown_trans hgW6 (xE.grown _)
  have hwW7 := Lib.hid (hwW6.out.below xE (Nat.le_refl _))
  clear hE xE hwW6 hgW6 rbW6 rmW6 rtW6 e109 e110 e111 e112 e113 e114 e115 e116 e117 e118 e119 e120 e121 e122 e123 e124 e125 e126 e127 e128
  generalize W = W7 at *
  obtain ⟨_, cn, fn, zn⟩ := row_facts rtW7
  go_wp2_with fail
  have hG := grown_setCell W7 ⟨gt, 0, none⟩ (.int .i64 (mn (100000 * b.full) (w1 + 100000 * pd)))
  have rbW8 := row_grown rbW7 hG (by simp only; omega)
  have rmW8 := row_grown rmW7 hG (by simp only; omega)
  have rtW8 : rowOf (W7.setCell ⟨gt, 0, none⟩ (.int .i64 (mn (100000 * b.full) (w1 + 100000 * pd)))) gt = some #[.int .i64 (mn (100000 * b.full) (w1 + 100000 * pd)), .int .i64 f1, .int .i64 t.sore] := rowOf_setCell_o rtW7 _
  have hgW8 : w.grownBy (W7.setCell ⟨gt, 0, none⟩ (.int .i64 (mn (100000 * b.full) (w1 + 100000 * pd)))) (some gt) := grown_trans hgW7 hG
  have hwW8 := Lib.hid (hwW7.out.grown hG HNE.out)
  clear hG cn fn zn hgW7 hwW7 rbW7 rmW7 rtW7
  generalize (W7.setCell ⟨gt, 0, none⟩ (.int .i64 (mn (100000 * b.full) (w1 + 100000 * pd)))) = W8 at *
  obtain ⟨w3, hw3⟩ : ∃ v, mn (100000 * b.full) (w1 + 100000 * pd) = v := ⟨_, rfl⟩
  rw [hw3] at rtW8
  have Hw3 := Lib.hid hw3
  clear hw3
  go_wp2_with fail
  refine wp_drawsR (by kernel_rfl) [] [some 129, some 130, some 131, some 132, some 133, some 134, some 135, some 136, some 137, some 138, some 139, some 140, some 141, some 142, some 143, some 144, some 145, some 146, some 147, some 148] (by kernel_rfl) (fun ix v W => match ix with
    | 0 => v = .pointer (some ⟨gt, 0, none⟩)
    | 1 => v = .pointer (some ⟨w.heap.size, 1, none⟩)
    | 2 => v = .int .i64 b.fed
    | 3 => v = .int .i64 (100000 * b.fed)
    | 4 => v = .pointer (some ⟨gt, 0, none⟩)
    | 5 => v = .pointer (some ⟨gt, 0, none⟩)
    | 6 => v = .pointer (some ⟨gt, 1, none⟩)
    | 7 => v = .int .i64 f1
    | 8 => v = .pointer (some ⟨(w.heap.size + 1), 4, none⟩)
    | 9 => v = .agg #[.int .i64 m.grass.1, .int .i64 m.grass.2]
    | 10 => v = .slice a n cap
    | 11 => v = .int .i64 (7 * (i : Int))
    | 12 => v = .int .i64 (7 * (i : Int) + 1)
    | 13 => v = .int .u32 x1
    | 14 => v = .int .i64 pg
    | 15 => v = .int .i64 (100000 * pg)
    | 16 => v = .int .i64 (f1 + 100000 * pg)
    | 17 => v = .int .i64 (mn (100000 * b.fed) (f1 + 100000 * pg))
    | 18 => v = .pointer (some ⟨gt, 0, none⟩)
    | 19 => v = .pointer (some ⟨gt, 1, none⟩)
    | _ => True) ⟨⟨?_, ?_⟩, ⟨?_, ?_⟩, ⟨?_, ?_⟩, ⟨?_, ?_⟩, ⟨?_, ?_⟩, ⟨?_, ?_⟩, ⟨?_, ?_⟩, ⟨?_, ?_⟩, ⟨?_, ?_⟩, ⟨?_, ?_⟩, ⟨?_, ?_⟩, ⟨?_, ?_⟩, ⟨?_, ?_⟩, ⟨?_, ?_⟩, ⟨?_, ?_⟩, ⟨?_, ?_⟩, ⟨?_, ?_⟩, ⟨?_, ?_⟩, ⟨?_, ?_⟩, ⟨?_, ?_⟩, ?_⟩
  · intro g h; cases h
  · intro b' W hE hb hdep K hK
    have e0 : b'.tmps[0]?.getD undef = .pointer (some ⟨gt, 0, none⟩) := hb 0 (by decide)
    clear hdep hb
    go_wp2
    exact hK _ _ (XT.refl _ _) rfl
  · intro g h; cases h
  · intro b' W hE hb hdep K hK
    have e7 : b'.tmps[7]?.getD undef = .pointer (some ⟨w.heap.size, 0, none⟩) := hb 7 (by decide)
    clear hdep hb
    go_wp2
    exact hK _ _ (XT.refl _ _) rfl
  · intro g h; cases h
  · intro b' W hE hb hdep K hK
    have e130 : b'.tmps[130]?.getD undef = .pointer (some ⟨w.heap.size, 1, none⟩) := pureX (hdep 1 (some 130) (by kernel_rfl) rfl)
    clear hdep hb
    obtain ⟨_, _, -, _⟩ := row_facts (hE.row ((rowOf_drew _ _).trans rbW8) (by first | (simp; done) | (simp; omega)))
    obtain ⟨_, _, -, _⟩ := row_facts (hE.row ((rowOf_drew _ _).trans rmW8) (by first | (simp; done) | (simp; omega)))
    obtain ⟨_, _, -, _⟩ := row_facts (hE.row ((rowOf_drew _ _).trans rtW8) (by first | (simp; done) | (simp; omega)))
    go_wp2
    exact hK _ _ (XT.refl _ _) rfl
  · intro g h; cases h
  · intro b' W hE hb hdep K hK
    have e131 : b'.tmps[131]?.getD undef = .int .i64 b.fed := pureX (hdep 2 (some 131) (by kernel_rfl) rfl)
    clear hdep hb
    go_wp2
    exact hK _ _ (XT.refl _ _) rfl
  · intro g h; cases h
  · intro b' W hE hb hdep K hK
    have e0 : b'.tmps[0]?.getD undef = .pointer (some ⟨gt, 0, none⟩) := hb 0 (by decide)
    clear hdep hb
    go_wp2
    exact hK _ _ (XT.refl _ _) rfl
  · intro g h; cases h
  · intro b' W hE hb hdep K hK
    have e133 : b'.tmps[133]?.getD undef = .pointer (some ⟨gt, 0, none⟩) := pureX (hdep 4 (some 133) (by kernel_rfl) rfl)
    clear hdep hb
    go_wp2
    exact hK _ _ (XT.refl _ _) rfl
  · intro g h; cases h
  · intro b' W hE hb hdep K hK
    have e134 : b'.tmps[134]?.getD undef = .pointer (some ⟨gt, 0, none⟩) := pureX (hdep 5 (some 134) (by kernel_rfl) rfl)
    clear hdep hb
    go_wp2
    exact hK _ _ (XT.refl _ _) rfl
  · intro g h; cases h
  · intro b' W hE hb hdep K hK
    have e135 : b'.tmps[135]?.getD undef = .pointer (some ⟨gt, 1, none⟩) := pureX (hdep 6 (some 135) (by kernel_rfl) rfl)
    clear hdep hb
    obtain ⟨_, _, -, _⟩ := row_facts (hE.row ((rowOf_drew _ _).trans rbW8) (by first | (simp; done) | (simp; omega)))
    obtain ⟨_, _, -, _⟩ := row_facts (hE.row ((rowOf_drew _ _).trans rmW8) (by first | (simp; done) | (simp; omega)))
    obtain ⟨_, _, -, _⟩ := row_facts (hE.row ((rowOf_drew _ _).trans rtW8) (by first | (simp; done) | (simp; omega)))
    go_wp2
    exact hK _ _ (XT.refl _ _) rfl
  · intro g h; cases h
  · intro b' W hE hb hdep K hK
    have e9 : b'.tmps[9]?.getD undef = .pointer (some ⟨(w.heap.size + 1), 0, none⟩) := hb 9 (by decide)
    clear hdep hb
    go_wp2
    exact hK _ _ (XT.refl _ _) rfl
  · intro g h; cases h
  · intro b' W hE hb hdep K hK
    have e137 : b'.tmps[137]?.getD undef = .pointer (some ⟨(w.heap.size + 1), 4, none⟩) := pureX (hdep 8 (some 137) (by kernel_rfl) rfl)
    clear hdep hb
    obtain ⟨_, _, -, _⟩ := row_facts (hE.row ((rowOf_drew _ _).trans rbW8) (by first | (simp; done) | (simp; omega)))
    obtain ⟨_, _, -, _⟩ := row_facts (hE.row ((rowOf_drew _ _).trans rmW8) (by first | (simp; done) | (simp; omega)))
    obtain ⟨_, _, -, _⟩ := row_facts (hE.row ((rowOf_drew _ _).trans rtW8) (by first | (simp; done) | (simp; omega)))
    go_wp2
    exact hK _ _ (XT.refl _ _) rfl
  · intro g h; cases h
  · intro b' W hE hb hdep K hK
    have e4 : b'.tmps[4]?.getD undef = .slice a n cap := hb 4 (by decide)
    clear hdep hb
    go_wp2
    exact hK _ _ (XT.refl _ _) rfl
  · intro g h; cases h
  · intro b' W hE hb hdep K hK
    have e13 : b'.tmps[13]?.getD undef = .int .i64 (7 * (i : Int)) := hb 13 (by decide)
    clear hdep hb
    go_wp2
    exact hK _ _ (XT.refl _ _) rfl
  · intro g h; cases h
  · intro b' W hE hb hdep K hK
    have e140 : b'.tmps[140]?.getD undef = .int .i64 (7 * (i : Int)) := pureX (hdep 11 (some 140) (by kernel_rfl) rfl)
    clear hdep hb
    go_wp2
    exact hK _ _ (XT.refl _ _) rfl
  · intro g h; cases h
  · intro b' W hE hb hdep K hK
    have e139 : b'.tmps[139]?.getD undef = .slice a n cap := pureX (hdep 10 (some 139) (by kernel_rfl) rfl)
    have e141 : b'.tmps[141]?.getD undef = .int .i64 (7 * (i : Int) + 1) := pureX (hdep 12 (some 141) (by kernel_rfl) rfl)
    clear hdep hb
    go_wp2_with fail
    refine (at_n (7 * i + 1) a cap n xs _ x1 _ (by omega) (by omega) HN.out (hwW8.out.ahead (xt_ext2 hE)) X1.out).mono ?_
    rintro e W' ⟨rfl, hB⟩
    exact hK _ _ (Ext.xt hB) rfl
  · intro g h; cases h
  · intro b' W hE hb hdep K hK
    have e138 : b'.tmps[138]?.getD undef = .agg #[.int .i64 m.grass.1, .int .i64 m.grass.2] := pureX (hdep 9 (some 138) (by kernel_rfl) rfl)
    have e142 : b'.tmps[142]?.getD undef = .int .u32 x1 := pureX (hdep 13 (some 142) (by kernel_rfl) rfl)
    clear hdep hb
    go_wp2_with fail
    refine (pick_any m.grass x1 pg _ (by omega) (by omega) (by omega) U1.out Ppg.out).mono ?_
    rintro e W' ⟨rfl, hB⟩
    exact hK _ _ (Ext.xt hB) rfl
  · intro g h; cases h
  · intro b' W hE hb hdep K hK
    have e143 : b'.tmps[143]?.getD undef = .int .i64 pg := pureX (hdep 14 (some 143) (by kernel_rfl) rfl)
    clear hdep hb
    go_wp2
    exact hK _ _ (XT.refl _ _) rfl
  · intro g h; cases h
  · intro b' W hE hb hdep K hK
    have e136 : b'.tmps[136]?.getD undef = .int .i64 f1 := pureX (hdep 7 (some 136) (by kernel_rfl) rfl)
    have e144 : b'.tmps[144]?.getD undef = .int .i64 (100000 * pg) := pureX (hdep 15 (some 144) (by kernel_rfl) rfl)
    clear hdep hb
    go_wp2
    exact hK _ _ (XT.refl _ _) rfl
  · intro g h; cases h
  · intro b' W hE hb hdep K hK
    have e132 : b'.tmps[132]?.getD undef = .int .i64 (100000 * b.fed) := pureX (hdep 3 (some 132) (by kernel_rfl) rfl)
    have e145 : b'.tmps[145]?.getD undef = .int .i64 (f1 + 100000 * pg) := pureX (hdep 16 (some 145) (by kernel_rfl) rfl)
    clear hdep hb
    go_wp2
    exact hK _ _ (XT.refl _ _) rfl
  · intro g h; cases h
  · intro b' W hE hb hdep K hK
    have e129 : b'.tmps[129]?.getD undef = .pointer (some ⟨gt, 0, none⟩) := pureX (hdep 0 (some 129) (by kernel_rfl) rfl)
    clear hdep hb
    go_wp2
    exact hK _ _ (XT.refl _ _) rfl
  · intro g h; cases h
  · intro b' W hE hb hdep K hK
    have e147 : b'.tmps[147]?.getD undef = .pointer (some ⟨gt, 0, none⟩) := pureX (hdep 18 (some 147) (by kernel_rfl) rfl)
    clear hdep hb
    go_wp2
    exact hK _ _ (XT.refl _ _) rfl
  intro f W hE hR
  have e129 : f 129 = .pointer (some ⟨gt, 0, none⟩) := pureX (hR 0 (some 129) rfl)
  have e130 : f 130 = .pointer (some ⟨w.heap.size, 1, none⟩) := pureX (hR 1 (some 130) rfl)
  have e131 : f 131 = .int .i64 b.fed := pureX (hR 2 (some 131) rfl)
  have e132 : f 132 = .int .i64 (100000 * b.fed) := pureX (hR 3 (some 132) rfl)
  have e133 : f 133 = .pointer (some ⟨gt, 0, none⟩) := pureX (hR 4 (some 133) rfl)
  have e134 : f 134 = .pointer (some ⟨gt, 0, none⟩) := pureX (hR 5 (some 134) rfl)
  have e135 : f 135 = .pointer (some ⟨gt, 1, none⟩) := pureX (hR 6 (some 135) rfl)
  have e136 : f 136 = .int .i64 f1 := pureX (hR 7 (some 136) rfl)
  have e137 : f 137 = .pointer (some ⟨(w.heap.size + 1), 4, none⟩) := pureX (hR 8 (some 137) rfl)
  have e138 : f 138 = .agg #[.int .i64 m.grass.1, .int .i64 m.grass.2] := pureX (hR 9 (some 138) rfl)
  have e139 : f 139 = .slice a n cap := pureX (hR 10 (some 139) rfl)
  have e140 : f 140 = .int .i64 (7 * (i : Int)) := pureX (hR 11 (some 140) rfl)
  have e141 : f 141 = .int .i64 (7 * (i : Int) + 1) := pureX (hR 12 (some 141) rfl)
  have e142 : f 142 = .int .u32 x1 := pureX (hR 13 (some 142) rfl)
  have e143 : f 143 = .int .i64 pg := pureX (hR 14 (some 143) rfl)
  have e144 : f 144 = .int .i64 (100000 * pg) := pureX (hR 15 (some 144) rfl)
  have e145 : f 145 = .int .i64 (f1 + 100000 * pg) := pureX (hR 16 (some 145) rfl)
  have e146 : f 146 = .int .i64 (mn (100000 * b.fed) (f1 + 100000 * pg)) := pureX (hR 17 (some 146) rfl)
  have e147 : f 147 = .pointer (some ⟨gt, 0, none⟩) := pureX (hR 18 (some 147) rfl)
  have e148 : f 148 = .pointer (some ⟨gt, 1, none⟩) := pureX (hR 19 (some 148) rfl)
  clear hR
  simp only [List.filterMap_cons, List.filterMap_nil, id, puts, Act.put, List.setIfInBounds_toArray, List.set_cons_succ, List.set_cons_zero, e129, e130, e131, e132, e133, e134, e135, e136, e137, e138, e139, e140, e141, e142, e143, e144, e145, e146, e147, e148]
  have xE := drew_ext (xt_ext2 hE)
  have rbW9 := xE.row rbW8
  have rmW9 := xE.row rmW8
  have rtW9 := xE.row rtW8
  have hgW9 : w.grownBy W (some gt) := grown_trans hgW8 (xE.grown _)
  have hwW9 := Lib.hid (hwW8.out.below xE (Nat.le_refl _))
  clear hE xE hwW8 hgW8 rbW8 rmW8 rtW8 e129 e130 e131 e132 e133 e134 e135 e136 e137 e138 e139 e140 e141 e142 e143 e144 e145 e146 e147 e148
  generalize W = W9 at *
  obtain ⟨_, cn, fn, zn⟩ := row_facts rtW9
  go_wp2_with fail
  have hG := grown_setCell W9 ⟨gt, 1, none⟩ (.int .i64 (mn (100000 * b.fed) (f1 + 100000 * pg)))
  have rbWA := row_grown rbW9 hG (by simp only; omega)
  have rmWA := row_grown rmW9 hG (by simp only; omega)
  have rtWA : rowOf (W9.setCell ⟨gt, 1, none⟩ (.int .i64 (mn (100000 * b.fed) (f1 + 100000 * pg)))) gt = some #[.int .i64 w3, .int .i64 (mn (100000 * b.fed) (f1 + 100000 * pg)), .int .i64 t.sore] := rowOf_setCell_o rtW9 _
  have hgWA : w.grownBy (W9.setCell ⟨gt, 1, none⟩ (.int .i64 (mn (100000 * b.fed) (f1 + 100000 * pg)))) (some gt) := grown_trans hgW9 hG
  have hwWA := Lib.hid (hwW9.out.grown hG HNE.out)
  clear hG cn fn zn hgW9 hwW9 rbW9 rmW9 rtW9
  generalize (W9.setCell ⟨gt, 1, none⟩ (.int .i64 (mn (100000 * b.fed) (f1 + 100000 * pg)))) = WA at *
  obtain ⟨f2, hf2⟩ : ∃ v, mn (100000 * b.fed) (f1 + 100000 * pg) = v := ⟨_, rfl⟩
  rw [hf2] at rtWA
  have Hf2 := Lib.hid hf2
  clear hf2
  go_wp2_with fail
  refine wp_drawsR (by kernel_rfl) [] [some 149, some 150, some 151, some 152, some 153, some 154, some 155, some 156, some 157, some 158, some 159, some 160, some 161, some 162, some 163, some 164, some 165, some 166, some 167, some 168, some 169, some 170] (by kernel_rfl) (fun ix v W => match ix with
    | 0 => v = .pointer (some ⟨gt, 0, none⟩)
    | 1 => v = .pointer (some ⟨gt, 0, none⟩)
    | 2 => v = .pointer (some ⟨gt, 0, none⟩)
    | 3 => v = .pointer (some ⟨gt, 2, none⟩)
    | 4 => v = .int .i64 t.sore
    | 5 => v = .pointer (some ⟨w.heap.size, 10, none⟩)
    | 6 => v = .agg #[.int .i64 b.rub.1, .int .i64 b.rub.2]
    | 7 => v = .slice a n cap
    | 8 => v = .int .i64 (7 * (i : Int))
    | 9 => v = .int .i64 (7 * (i : Int) + 2)
    | 10 => v = .int .u32 x2
    | 11 => v = .int .i64 pu
    | 12 => v = .pointer (some ⟨(w.heap.size + 1), 0, none⟩)
    | 13 => v = .int .i64 m.hours
    | 14 => v = .int .i64 (pu * m.hours)
    | 15 => v = .pointer (some ⟨(w.heap.size + 1), 1, none⟩)
    | 16 => v = .int .i64 m.load
    | 17 => v = .int .i64 (pu * m.hours * m.load)
    | 18 => v = .int .i64 (t.sore + pu * m.hours * m.load)
    | 19 => v = .int .i64 (mn 1000000000 (t.sore + pu * m.hours * m.load))
    | 20 => v = .pointer (some ⟨gt, 0, none⟩)
    | 21 => v = .pointer (some ⟨gt, 2, none⟩)
    | _ => True) ⟨⟨?_, ?_⟩, ⟨?_, ?_⟩, ⟨?_, ?_⟩, ⟨?_, ?_⟩, ⟨?_, ?_⟩, ⟨?_, ?_⟩, ⟨?_, ?_⟩, ⟨?_, ?_⟩, ⟨?_, ?_⟩, ⟨?_, ?_⟩, ⟨?_, ?_⟩, ⟨?_, ?_⟩, ⟨?_, ?_⟩, ⟨?_, ?_⟩, ⟨?_, ?_⟩, ⟨?_, ?_⟩, ⟨?_, ?_⟩, ⟨?_, ?_⟩, ⟨?_, ?_⟩, ⟨?_, ?_⟩, ⟨?_, ?_⟩, ⟨?_, ?_⟩, ?_⟩
  · intro g h; cases h
  · intro b' W hE hb hdep K hK
    have e0 : b'.tmps[0]?.getD undef = .pointer (some ⟨gt, 0, none⟩) := hb 0 (by decide)
    clear hdep hb
    go_wp2
    exact hK _ _ (XT.refl _ _) rfl
  · intro g h; cases h
  · intro b' W hE hb hdep K hK
    have e0 : b'.tmps[0]?.getD undef = .pointer (some ⟨gt, 0, none⟩) := hb 0 (by decide)
    clear hdep hb
    go_wp2
    exact hK _ _ (XT.refl _ _) rfl
  · intro g h; cases h
  · intro b' W hE hb hdep K hK
    have e150 : b'.tmps[150]?.getD undef = .pointer (some ⟨gt, 0, none⟩) := pureX (hdep 1 (some 150) (by kernel_rfl) rfl)
    clear hdep hb
    go_wp2
    exact hK _ _ (XT.refl _ _) rfl
  · intro g h; cases h
  · intro b' W hE hb hdep K hK
    have e151 : b'.tmps[151]?.getD undef = .pointer (some ⟨gt, 0, none⟩) := pureX (hdep 2 (some 151) (by kernel_rfl) rfl)
    clear hdep hb
    go_wp2
    exact hK _ _ (XT.refl _ _) rfl
  · intro g h; cases h
  · intro b' W hE hb hdep K hK
    have e152 : b'.tmps[152]?.getD undef = .pointer (some ⟨gt, 2, none⟩) := pureX (hdep 3 (some 152) (by kernel_rfl) rfl)
    clear hdep hb
    obtain ⟨_, _, -, _⟩ := row_facts (hE.row ((rowOf_drew _ _).trans rbWA) (by first | (simp; done) | (simp; omega)))
    obtain ⟨_, _, -, _⟩ := row_facts (hE.row ((rowOf_drew _ _).trans rmWA) (by first | (simp; done) | (simp; omega)))
    obtain ⟨_, _, -, _⟩ := row_facts (hE.row ((rowOf_drew _ _).trans rtWA) (by first | (simp; done) | (simp; omega)))
    go_wp2
    exact hK _ _ (XT.refl _ _) rfl
  · intro g h; cases h
  · intro b' W hE hb hdep K hK
    have e7 : b'.tmps[7]?.getD undef = .pointer (some ⟨w.heap.size, 0, none⟩) := hb 7 (by decide)
    clear hdep hb
    go_wp2
    exact hK _ _ (XT.refl _ _) rfl
  · intro g h; cases h
  · intro b' W hE hb hdep K hK
    have e154 : b'.tmps[154]?.getD undef = .pointer (some ⟨w.heap.size, 10, none⟩) := pureX (hdep 5 (some 154) (by kernel_rfl) rfl)
    clear hdep hb
    obtain ⟨_, _, -, _⟩ := row_facts (hE.row ((rowOf_drew _ _).trans rbWA) (by first | (simp; done) | (simp; omega)))
    obtain ⟨_, _, -, _⟩ := row_facts (hE.row ((rowOf_drew _ _).trans rmWA) (by first | (simp; done) | (simp; omega)))
    obtain ⟨_, _, -, _⟩ := row_facts (hE.row ((rowOf_drew _ _).trans rtWA) (by first | (simp; done) | (simp; omega)))
    go_wp2
    exact hK _ _ (XT.refl _ _) rfl
  · intro g h; cases h
  · intro b' W hE hb hdep K hK
    have e4 : b'.tmps[4]?.getD undef = .slice a n cap := hb 4 (by decide)
    clear hdep hb
    go_wp2
    exact hK _ _ (XT.refl _ _) rfl
  · intro g h; cases h
  · intro b' W hE hb hdep K hK
    have e13 : b'.tmps[13]?.getD undef = .int .i64 (7 * (i : Int)) := hb 13 (by decide)
    clear hdep hb
    go_wp2
    exact hK _ _ (XT.refl _ _) rfl
  · intro g h; cases h
  · intro b' W hE hb hdep K hK
    have e157 : b'.tmps[157]?.getD undef = .int .i64 (7 * (i : Int)) := pureX (hdep 8 (some 157) (by kernel_rfl) rfl)
    clear hdep hb
    go_wp2
    exact hK _ _ (XT.refl _ _) rfl
  · intro g h; cases h
  · intro b' W hE hb hdep K hK
    have e156 : b'.tmps[156]?.getD undef = .slice a n cap := pureX (hdep 7 (some 156) (by kernel_rfl) rfl)
    have e158 : b'.tmps[158]?.getD undef = .int .i64 (7 * (i : Int) + 2) := pureX (hdep 9 (some 158) (by kernel_rfl) rfl)
    clear hdep hb
    go_wp2_with fail
    refine (at_n (7 * i + 2) a cap n xs _ x2 _ (by omega) (by omega) HN.out (hwWA.out.ahead (xt_ext2 hE)) X2.out).mono ?_
    rintro e W' ⟨rfl, hB⟩
    exact hK _ _ (Ext.xt hB) rfl
  · intro g h; cases h
  · intro b' W hE hb hdep K hK
    have e155 : b'.tmps[155]?.getD undef = .agg #[.int .i64 b.rub.1, .int .i64 b.rub.2] := pureX (hdep 6 (some 155) (by kernel_rfl) rfl)
    have e159 : b'.tmps[159]?.getD undef = .int .u32 x2 := pureX (hdep 10 (some 159) (by kernel_rfl) rfl)
    clear hdep hb
    go_wp2_with fail
    refine (pick_any b.rub x2 pu _ (by omega) (by omega) (by omega) U2.out Ppu.out).mono ?_
    rintro e W' ⟨rfl, hB⟩
    exact hK _ _ (Ext.xt hB) rfl
  · intro g h; cases h
  · intro b' W hE hb hdep K hK
    have e9 : b'.tmps[9]?.getD undef = .pointer (some ⟨(w.heap.size + 1), 0, none⟩) := hb 9 (by decide)
    clear hdep hb
    go_wp2
    exact hK _ _ (XT.refl _ _) rfl
  · intro g h; cases h
  · intro b' W hE hb hdep K hK
    have e161 : b'.tmps[161]?.getD undef = .pointer (some ⟨(w.heap.size + 1), 0, none⟩) := pureX (hdep 12 (some 161) (by kernel_rfl) rfl)
    clear hdep hb
    obtain ⟨_, _, -, _⟩ := row_facts (hE.row ((rowOf_drew _ _).trans rbWA) (by first | (simp; done) | (simp; omega)))
    obtain ⟨_, _, -, _⟩ := row_facts (hE.row ((rowOf_drew _ _).trans rmWA) (by first | (simp; done) | (simp; omega)))
    obtain ⟨_, _, -, _⟩ := row_facts (hE.row ((rowOf_drew _ _).trans rtWA) (by first | (simp; done) | (simp; omega)))
    go_wp2
    exact hK _ _ (XT.refl _ _) rfl
  · intro g h; cases h
  · intro b' W hE hb hdep K hK
    have e160 : b'.tmps[160]?.getD undef = .int .i64 pu := pureX (hdep 11 (some 160) (by kernel_rfl) rfl)
    have e162 : b'.tmps[162]?.getD undef = .int .i64 m.hours := pureX (hdep 13 (some 162) (by kernel_rfl) rfl)
    clear hdep hb
    go_wp2
    exact hK _ _ (XT.refl _ _) rfl
  · intro g h; cases h
  · intro b' W hE hb hdep K hK
    have e9 : b'.tmps[9]?.getD undef = .pointer (some ⟨(w.heap.size + 1), 0, none⟩) := hb 9 (by decide)
    clear hdep hb
    go_wp2
    exact hK _ _ (XT.refl _ _) rfl
  · intro g h; cases h
  · intro b' W hE hb hdep K hK
    have e164 : b'.tmps[164]?.getD undef = .pointer (some ⟨(w.heap.size + 1), 1, none⟩) := pureX (hdep 15 (some 164) (by kernel_rfl) rfl)
    clear hdep hb
    obtain ⟨_, _, -, _⟩ := row_facts (hE.row ((rowOf_drew _ _).trans rbWA) (by first | (simp; done) | (simp; omega)))
    obtain ⟨_, _, -, _⟩ := row_facts (hE.row ((rowOf_drew _ _).trans rmWA) (by first | (simp; done) | (simp; omega)))
    obtain ⟨_, _, -, _⟩ := row_facts (hE.row ((rowOf_drew _ _).trans rtWA) (by first | (simp; done) | (simp; omega)))
    go_wp2
    exact hK _ _ (XT.refl _ _) rfl
  · intro g h; cases h
  · intro b' W hE hb hdep K hK
    have e163 : b'.tmps[163]?.getD undef = .int .i64 (pu * m.hours) := pureX (hdep 14 (some 163) (by kernel_rfl) rfl)
    have e165 : b'.tmps[165]?.getD undef = .int .i64 m.load := pureX (hdep 16 (some 165) (by kernel_rfl) rfl)
    clear hdep hb
    go_wp2
    exact hK _ _ (XT.refl _ _) rfl
  · intro g h; cases h
  · intro b' W hE hb hdep K hK
    have e153 : b'.tmps[153]?.getD undef = .int .i64 t.sore := pureX (hdep 4 (some 153) (by kernel_rfl) rfl)
    have e166 : b'.tmps[166]?.getD undef = .int .i64 (pu * m.hours * m.load) := pureX (hdep 17 (some 166) (by kernel_rfl) rfl)
    clear hdep hb
    go_wp2
    exact hK _ _ (XT.refl _ _) rfl
  · intro g h; cases h
  · intro b' W hE hb hdep K hK
    have e167 : b'.tmps[167]?.getD undef = .int .i64 (t.sore + pu * m.hours * m.load) := pureX (hdep 18 (some 167) (by kernel_rfl) rfl)
    clear hdep hb
    go_wp2
    exact hK _ _ (XT.refl _ _) rfl
  · intro g h; cases h
  · intro b' W hE hb hdep K hK
    have e149 : b'.tmps[149]?.getD undef = .pointer (some ⟨gt, 0, none⟩) := pureX (hdep 0 (some 149) (by kernel_rfl) rfl)
    clear hdep hb
    go_wp2
    exact hK _ _ (XT.refl _ _) rfl
  · intro g h; cases h
  · intro b' W hE hb hdep K hK
    have e169 : b'.tmps[169]?.getD undef = .pointer (some ⟨gt, 0, none⟩) := pureX (hdep 20 (some 169) (by kernel_rfl) rfl)
    clear hdep hb
    go_wp2
    exact hK _ _ (XT.refl _ _) rfl
  intro f W hE hR
  have e149 : f 149 = .pointer (some ⟨gt, 0, none⟩) := pureX (hR 0 (some 149) rfl)
  have e150 : f 150 = .pointer (some ⟨gt, 0, none⟩) := pureX (hR 1 (some 150) rfl)
  have e151 : f 151 = .pointer (some ⟨gt, 0, none⟩) := pureX (hR 2 (some 151) rfl)
  have e152 : f 152 = .pointer (some ⟨gt, 2, none⟩) := pureX (hR 3 (some 152) rfl)
  have e153 : f 153 = .int .i64 t.sore := pureX (hR 4 (some 153) rfl)
  have e154 : f 154 = .pointer (some ⟨w.heap.size, 10, none⟩) := pureX (hR 5 (some 154) rfl)
  have e155 : f 155 = .agg #[.int .i64 b.rub.1, .int .i64 b.rub.2] := pureX (hR 6 (some 155) rfl)
  have e156 : f 156 = .slice a n cap := pureX (hR 7 (some 156) rfl)
  have e157 : f 157 = .int .i64 (7 * (i : Int)) := pureX (hR 8 (some 157) rfl)
  have e158 : f 158 = .int .i64 (7 * (i : Int) + 2) := pureX (hR 9 (some 158) rfl)
  have e159 : f 159 = .int .u32 x2 := pureX (hR 10 (some 159) rfl)
  have e160 : f 160 = .int .i64 pu := pureX (hR 11 (some 160) rfl)
  have e161 : f 161 = .pointer (some ⟨(w.heap.size + 1), 0, none⟩) := pureX (hR 12 (some 161) rfl)
  have e162 : f 162 = .int .i64 m.hours := pureX (hR 13 (some 162) rfl)
  have e163 : f 163 = .int .i64 (pu * m.hours) := pureX (hR 14 (some 163) rfl)
  have e164 : f 164 = .pointer (some ⟨(w.heap.size + 1), 1, none⟩) := pureX (hR 15 (some 164) rfl)
  have e165 : f 165 = .int .i64 m.load := pureX (hR 16 (some 165) rfl)
  have e166 : f 166 = .int .i64 (pu * m.hours * m.load) := pureX (hR 17 (some 166) rfl)
  have e167 : f 167 = .int .i64 (t.sore + pu * m.hours * m.load) := pureX (hR 18 (some 167) rfl)
  have e168 : f 168 = .int .i64 (mn 1000000000 (t.sore + pu * m.hours * m.load)) := pureX (hR 19 (some 168) rfl)
  have e169 : f 169 = .pointer (some ⟨gt, 0, none⟩) := pureX (hR 20 (some 169) rfl)
  have e170 : f 170 = .pointer (some ⟨gt, 2, none⟩) := pureX (hR 21 (some 170) rfl)
  clear hR
  simp only [List.filterMap_cons, List.filterMap_nil, id, puts, Act.put, List.setIfInBounds_toArray, List.set_cons_succ, List.set_cons_zero, e149, e150, e151, e152, e153, e154, e155, e156, e157, e158, e159, e160, e161, e162, e163, e164, e165, e166, e167, e168, e169, e170]
  have xE := drew_ext (xt_ext2 hE)
  have rbWB := xE.row rbWA
  have rmWB := xE.row rmWA
  have rtWB := xE.row rtWA
  have hgWB : w.grownBy W (some gt) := grown_trans hgWA (xE.grown _)
  have hwWB := Lib.hid (hwWA.out.below xE (Nat.le_refl _))
  clear hE xE hwWA hgWA rbWA rmWA rtWA e149 e150 e151 e152 e153 e154 e155 e156 e157 e158 e159 e160 e161 e162 e163 e164 e165 e166 e167 e168 e169 e170
  generalize W = WB at *
  obtain ⟨_, cn, fn, zn⟩ := row_facts rtWB
  have rtN : rowOf (WB.setCell ⟨gt, 2, none⟩ (.int .i64 (mn 1000000000 (t.sore + pu * m.hours * m.load)))) gt = some #[.int .i64 w3, .int .i64 f2, .int .i64 (mn 1000000000 (t.sore + pu * m.hours * m.load))] := rowOf_setCell_o rtWB _
  have hgN : w.grownBy (WB.setCell ⟨gt, 2, none⟩ (.int .i64 (mn 1000000000 (t.sore + pu * m.hours * m.load)))) (some gt) := grown_trans hgWB (grown_setCell _ _ _)
  have E1 : w3T b false m h t = w3 := by rw [w3T, HEW.out, ← Hw3.out, HH.out]
  have E2 : f2T b m h t = f2 := by rw [f2T, HEF.out, Hf1.out, ← Hf2.out, HH.out]
  have E3 : s1T m h t = mn 1000000000 (t.sore + pu * m.hours * m.load) := by rw [s1T, HH.out]
  obtain ⟨_, cmC, fmC, zmC⟩ := row_facts rmWB
  by_cases hh0 : ¬ m.hours = 0
  · have E4 : s2T b m h t = mn 1000000000 (t.sore + pu * m.hours * m.load) := by rw [s2T, if_neg hh0, E3]
    have rtM : rowOf (WB.setCell ⟨gt, 2, none⟩ (.int .i64 (mn 1000000000 (t.sore + pu * m.hours * m.load)))) gt = some #[.int .i64 (w3T b false m h t), .int .i64 (f2T b m h t), .int .i64 (s2T b m h t)] := by rw [E1, E2, E4]; exact rtN
    clear rtN
    clear E1 E2 E3 E4
    go_wp2
    go_returns
    first | exact ⟨rfl, fun _ => rtM, hgN⟩ | exact ⟨rfl, rtM, hgN⟩
  have hh1 : m.hours = 0 := by omega
  have E30 : s1T m h t = mn 1000000000 t.sore := by rw [E3, hh1]; simp
  have F1 := Lib.hid E1
  have F2 := Lib.hid E2
  have F3 := Lib.hid E30
  clear E1 E2 E3 E30 rtN hgN
  go_wp2_with fail
  have hG := grown_setCell WB ⟨gt, 2, none⟩ (.int .i64 (mn 1000000000 t.sore))
  have rbWC := row_grown rbWB hG (by simp only; omega)
  have rmWC := row_grown rmWB hG (by simp only; omega)
  have rtWC : rowOf (WB.setCell ⟨gt, 2, none⟩ (.int .i64 (mn 1000000000 t.sore))) gt = some #[.int .i64 w3, .int .i64 f2, .int .i64 (mn 1000000000 t.sore)] := rowOf_setCell_o rtWB _
  have hgWC : w.grownBy (WB.setCell ⟨gt, 2, none⟩ (.int .i64 (mn 1000000000 t.sore))) (some gt) := grown_trans hgWB hG
  have hwWC := Lib.hid (hwWB.out.grown hG HNE.out)
  clear hG cn fn zn hgWB hwWB rbWB rmWB rtWB
  generalize (WB.setCell ⟨gt, 2, none⟩ (.int .i64 (mn 1000000000 t.sore))) = WC at *
  clear cmC fmC zmC
  obtain ⟨s1, hs1⟩ : ∃ v, mn 1000000000 t.sore = v := ⟨_, rfl⟩
  rw [hs1] at rtWC
  have bs1 : 0 ≤ s1 ∧ s1 ≤ 1000000000 := by rw [← hs1, mn_min]; omega
  obtain ⟨bs11, bs12⟩ := bs1
  have E4 : s2T b m h t = mx 0 (s1 - 1000000 * b.heal) := by rw [s2T, if_pos hh1, F3.out, hs1]
  have F4 := Lib.hid E4
  clear hs1 E4
  refine wp_drawsR (by kernel_rfl) [] [some 174, some 175, some 176, some 177, some 178, some 179, some 180, some 181, some 182, some 183, some 184, some 185] (by kernel_rfl) (fun ix v W => match ix with
    | 0 => v = .pointer (some ⟨gt, 0, none⟩)
    | 1 => v = .pointer (some ⟨gt, 0, none⟩)
    | 2 => v = .pointer (some ⟨gt, 0, none⟩)
    | 3 => v = .pointer (some ⟨gt, 2, none⟩)
    | 4 => v = .int .i64 s1
    | 5 => v = .pointer (some ⟨w.heap.size, 14, none⟩)
    | 6 => v = .int .i64 b.heal
    | 7 => v = .int .i64 (1000000 * b.heal)
    | 8 => v = .int .i64 (s1 - 1000000 * b.heal)
    | 9 => v = .int .i64 (mx 0 (s1 - 1000000 * b.heal))
    | 10 => v = .pointer (some ⟨gt, 0, none⟩)
    | 11 => v = .pointer (some ⟨gt, 2, none⟩)
    | _ => True) ⟨⟨?_, ?_⟩, ⟨?_, ?_⟩, ⟨?_, ?_⟩, ⟨?_, ?_⟩, ⟨?_, ?_⟩, ⟨?_, ?_⟩, ⟨?_, ?_⟩, ⟨?_, ?_⟩, ⟨?_, ?_⟩, ⟨?_, ?_⟩, ⟨?_, ?_⟩, ⟨?_, ?_⟩, ?_⟩
  · intro g h; cases h
  · intro b' W hE hb hdep K hK
    have e0 : b'.tmps[0]?.getD undef = .pointer (some ⟨gt, 0, none⟩) := hb 0 (by decide)
    clear hdep hb
    go_wp2
    exact hK _ _ (XT.refl _ _) rfl
  · intro g h; cases h
  · intro b' W hE hb hdep K hK
    have e0 : b'.tmps[0]?.getD undef = .pointer (some ⟨gt, 0, none⟩) := hb 0 (by decide)
    clear hdep hb
    go_wp2
    exact hK _ _ (XT.refl _ _) rfl
  · intro g h; cases h
  · intro b' W hE hb hdep K hK
    have e175 : b'.tmps[175]?.getD undef = .pointer (some ⟨gt, 0, none⟩) := pureX (hdep 1 (some 175) (by kernel_rfl) rfl)
    clear hdep hb
    go_wp2
    exact hK _ _ (XT.refl _ _) rfl
  · intro g h; cases h
  · intro b' W hE hb hdep K hK
    have e176 : b'.tmps[176]?.getD undef = .pointer (some ⟨gt, 0, none⟩) := pureX (hdep 2 (some 176) (by kernel_rfl) rfl)
    clear hdep hb
    go_wp2
    exact hK _ _ (XT.refl _ _) rfl
  · intro g h; cases h
  · intro b' W hE hb hdep K hK
    have e177 : b'.tmps[177]?.getD undef = .pointer (some ⟨gt, 2, none⟩) := pureX (hdep 3 (some 177) (by kernel_rfl) rfl)
    clear hdep hb
    obtain ⟨_, _, -, _⟩ := row_facts (hE.row ((rowOf_drew _ _).trans rbWC) (by first | (simp; done) | (simp; omega)))
    obtain ⟨_, _, -, _⟩ := row_facts (hE.row ((rowOf_drew _ _).trans rmWC) (by first | (simp; done) | (simp; omega)))
    obtain ⟨_, _, -, _⟩ := row_facts (hE.row ((rowOf_drew _ _).trans rtWC) (by first | (simp; done) | (simp; omega)))
    go_wp2
    exact hK _ _ (XT.refl _ _) rfl
  · intro g h; cases h
  · intro b' W hE hb hdep K hK
    have e7 : b'.tmps[7]?.getD undef = .pointer (some ⟨w.heap.size, 0, none⟩) := hb 7 (by decide)
    clear hdep hb
    go_wp2
    exact hK _ _ (XT.refl _ _) rfl
  · intro g h; cases h
  · intro b' W hE hb hdep K hK
    have e179 : b'.tmps[179]?.getD undef = .pointer (some ⟨w.heap.size, 14, none⟩) := pureX (hdep 5 (some 179) (by kernel_rfl) rfl)
    clear hdep hb
    obtain ⟨_, _, -, _⟩ := row_facts (hE.row ((rowOf_drew _ _).trans rbWC) (by first | (simp; done) | (simp; omega)))
    obtain ⟨_, _, -, _⟩ := row_facts (hE.row ((rowOf_drew _ _).trans rmWC) (by first | (simp; done) | (simp; omega)))
    obtain ⟨_, _, -, _⟩ := row_facts (hE.row ((rowOf_drew _ _).trans rtWC) (by first | (simp; done) | (simp; omega)))
    go_wp2
    exact hK _ _ (XT.refl _ _) rfl
  · intro g h; cases h
  · intro b' W hE hb hdep K hK
    have e180 : b'.tmps[180]?.getD undef = .int .i64 b.heal := pureX (hdep 6 (some 180) (by kernel_rfl) rfl)
    clear hdep hb
    go_wp2
    exact hK _ _ (XT.refl _ _) rfl
  · intro g h; cases h
  · intro b' W hE hb hdep K hK
    have e178 : b'.tmps[178]?.getD undef = .int .i64 s1 := pureX (hdep 4 (some 178) (by kernel_rfl) rfl)
    have e181 : b'.tmps[181]?.getD undef = .int .i64 (1000000 * b.heal) := pureX (hdep 7 (some 181) (by kernel_rfl) rfl)
    clear hdep hb
    go_wp2
    exact hK _ _ (XT.refl _ _) rfl
  · intro g h; cases h
  · intro b' W hE hb hdep K hK
    have e182 : b'.tmps[182]?.getD undef = .int .i64 (s1 - 1000000 * b.heal) := pureX (hdep 8 (some 182) (by kernel_rfl) rfl)
    clear hdep hb
    go_wp2
    exact hK _ _ (XT.refl _ _) rfl
  · intro g h; cases h
  · intro b' W hE hb hdep K hK
    have e174 : b'.tmps[174]?.getD undef = .pointer (some ⟨gt, 0, none⟩) := pureX (hdep 0 (some 174) (by kernel_rfl) rfl)
    clear hdep hb
    go_wp2
    exact hK _ _ (XT.refl _ _) rfl
  · intro g h; cases h
  · intro b' W hE hb hdep K hK
    have e184 : b'.tmps[184]?.getD undef = .pointer (some ⟨gt, 0, none⟩) := pureX (hdep 10 (some 184) (by kernel_rfl) rfl)
    clear hdep hb
    go_wp2
    exact hK _ _ (XT.refl _ _) rfl
  intro f W hE hR
  have e174 : f 174 = .pointer (some ⟨gt, 0, none⟩) := pureX (hR 0 (some 174) rfl)
  have e175 : f 175 = .pointer (some ⟨gt, 0, none⟩) := pureX (hR 1 (some 175) rfl)
  have e176 : f 176 = .pointer (some ⟨gt, 0, none⟩) := pureX (hR 2 (some 176) rfl)
  have e177 : f 177 = .pointer (some ⟨gt, 2, none⟩) := pureX (hR 3 (some 177) rfl)
  have e178 : f 178 = .int .i64 s1 := pureX (hR 4 (some 178) rfl)
  have e179 : f 179 = .pointer (some ⟨w.heap.size, 14, none⟩) := pureX (hR 5 (some 179) rfl)
  have e180 : f 180 = .int .i64 b.heal := pureX (hR 6 (some 180) rfl)
  have e181 : f 181 = .int .i64 (1000000 * b.heal) := pureX (hR 7 (some 181) rfl)
  have e182 : f 182 = .int .i64 (s1 - 1000000 * b.heal) := pureX (hR 8 (some 182) rfl)
  have e183 : f 183 = .int .i64 (mx 0 (s1 - 1000000 * b.heal)) := pureX (hR 9 (some 183) rfl)
  have e184 : f 184 = .pointer (some ⟨gt, 0, none⟩) := pureX (hR 10 (some 184) rfl)
  have e185 : f 185 = .pointer (some ⟨gt, 2, none⟩) := pureX (hR 11 (some 185) rfl)
  clear hR
  simp only [List.filterMap_cons, List.filterMap_nil, id, puts, Act.put, List.setIfInBounds_toArray, List.set_cons_succ, List.set_cons_zero, e174, e175, e176, e177, e178, e179, e180, e181, e182, e183, e184, e185]
  have xE := drew_ext (xt_ext2 hE)
  have rbWD := xE.row rbWC
  have rmWD := xE.row rmWC
  have rtWD := xE.row rtWC
  have hgWD : w.grownBy W (some gt) := grown_trans hgWC (xE.grown _)
  have hwWD := Lib.hid (hwWC.out.below xE (Nat.le_refl _))
  clear hE xE hwWC hgWC rbWC rmWC rtWC e174 e175 e176 e177 e178 e179 e180 e181 e182 e183 e184 e185
  generalize W = WD at *
  obtain ⟨_, cn, fn, zn⟩ := row_facts rtWD
  have rtN : rowOf (WD.setCell ⟨gt, 2, none⟩ (.int .i64 (mx 0 (s1 - 1000000 * b.heal)))) gt = some #[.int .i64 w3, .int .i64 f2, .int .i64 (mx 0 (s1 - 1000000 * b.heal))] := rowOf_setCell_o rtWD _
  have hgN : w.grownBy (WD.setCell ⟨gt, 2, none⟩ (.int .i64 (mx 0 (s1 - 1000000 * b.heal)))) (some gt) := grown_trans hgWD (grown_setCell _ _ _)
  have rtM : rowOf (WD.setCell ⟨gt, 2, none⟩ (.int .i64 (mx 0 (s1 - 1000000 * b.heal)))) gt = some #[.int .i64 (w3T b false m h t), .int .i64 (f2T b m h t), .int .i64 (s2T b m h t)] := by rw [F1.out, F2.out, F4.out]; exact rtN
  clear rtN
  clear F1 F2 F3 F4
  go_wp2
  go_returns
  first | exact ⟨rfl, fun _ => rtM, hgN⟩ | exact ⟨rfl, rtM, hgN⟩

set_option maxRecDepth 100000 in
set_option maxHeartbeats 16000000 in
theorem lives_true (b : Br) (m : Mr) (t : Tr) (h : Ch) (a : Option Addr) (cap n : Nat) (xs : List Int) (i gt : Nat) (w : World) (r : Bool) (hh : chS b m xs i = h) (hr : livT true m h t = r) (hi : i < 100) (hn : n = xs.length) (hw : WordsIn w a cap xs) (hu : ∀ x ∈ xs, inU x) (hne : ∀ ad, a = some ad → ad.block < gt) (rt : rowOf w gt = some #[.int .i64 t.water, .int .i64 t.fat, .int .i64 t.sore]) (hb : BdB b) (hm : BdM m) (c : Cm) (hc : BdC b c) (ht : Tin t c) :
    Calls Try.prog 46 #[.pointer (some ⟨gt, 0, none⟩), .agg #[.int .i64 b.full, .int .i64 b.fed, .int .i64 b.rest.1, .int .i64 b.rest.2, .int .i64 b.heat.1, .int .i64 b.heat.2, .int .i64 b.toil.1, .int .i64 b.toil.2, .int .i64 b.burn.1, .int .i64 b.burn.2, .int .i64 b.rub.1, .int .i64 b.rub.2, .int .i64 b.milk.1, .int .i64 b.milk.2, .int .i64 b.heal, .int .i64 b.strong.1, .int .i64 b.strong.2], .bool true, .agg #[.int .i64 m.hours, .int .i64 m.load, .int .i64 m.heat.1, .int .i64 m.heat.2, .int .i64 m.grass.1, .int .i64 m.grass.2, .int .i64 m.drinks.1, .int .i64 m.drinks.2], .slice a n cap, .int .i64 (i : Int)] w fun e w' => e = .returned (.bool r) ∧ (r = true → rowOf w' gt = some #[.int .i64 (w3T b true m h t), .int .i64 (f2T b m h t), .int .i64 (s2T b m h t)]) ∧ w.grownBy w' (some gt) := by
  have HN := Lib.hid hn
  have HW := Lib.hid hw
  have HNE := Lib.hid hne
  obtain ⟨x0, hx0⟩ : ∃ v, atS xs (7 * i + 0) = v := ⟨_, rfl⟩
  have U0 := Lib.hid (show inU x0 from hx0 ▸ atS_in hu (7 * i + 0))
  have X0 := Lib.hid hx0
  obtain ⟨x1, hx1⟩ : ∃ v, atS xs (7 * i + 1) = v := ⟨_, rfl⟩
  have U1 := Lib.hid (show inU x1 from hx1 ▸ atS_in hu (7 * i + 1))
  have X1 := Lib.hid hx1
  obtain ⟨x2, hx2⟩ : ∃ v, atS xs (7 * i + 2) = v := ⟨_, rfl⟩
  have U2 := Lib.hid (show inU x2 from hx2 ▸ atS_in hu (7 * i + 2))
  have X2 := Lib.hid hx2
  obtain ⟨x3, hx3⟩ : ∃ v, atS xs (7 * i + 3) = v := ⟨_, rfl⟩
  have U3 := Lib.hid (show inU x3 from hx3 ▸ atS_in hu (7 * i + 3))
  have X3 := Lib.hid hx3
  obtain ⟨x4, hx4⟩ : ∃ v, atS xs (7 * i + 4) = v := ⟨_, rfl⟩
  have U4 := Lib.hid (show inU x4 from hx4 ▸ atS_in hu (7 * i + 4))
  have X4 := Lib.hid hx4
  obtain ⟨x5, hx5⟩ : ∃ v, atS xs (7 * i + 5) = v := ⟨_, rfl⟩
  have U5 := Lib.hid (show inU x5 from hx5 ▸ atS_in hu (7 * i + 5))
  have X5 := Lib.hid hx5
  obtain ⟨x6, hx6⟩ : ∃ v, atS xs (7 * i + 6) = v := ⟨_, rfl⟩
  have U6 := Lib.hid (show inU x6 from hx6 ▸ atS_in hu (7 * i + 6))
  have X6 := Lib.hid hx6
  obtain ⟨pr, hpr⟩ : ∃ v, pickS b.rest x0 = v := ⟨_, rfl⟩
  have Ppr := Lib.hid hpr
  obtain ⟨ph, hph⟩ : ∃ v, pickS b.heat x1 = v := ⟨_, rfl⟩
  have Pph := Lib.hid hph
  obtain ⟨pw, hpw⟩ : ∃ v, pickS m.heat x2 = v := ⟨_, rfl⟩
  have Ppw := Lib.hid hpw
  obtain ⟨pt, hpt⟩ : ∃ v, pickS b.toil x3 = v := ⟨_, rfl⟩
  have Ppt := Lib.hid hpt
  obtain ⟨pm, hpm⟩ : ∃ v, pickS b.milk x4 = v := ⟨_, rfl⟩
  have Ppm := Lib.hid hpm
  obtain ⟨pb, hpb⟩ : ∃ v, pickS b.burn x5 = v := ⟨_, rfl⟩
  have Ppb := Lib.hid hpb
  obtain ⟨pd, hpd⟩ : ∃ v, pickS m.drinks x6 = v := ⟨_, rfl⟩
  have Ppd := Lib.hid hpd
  obtain ⟨pg, hpg⟩ : ∃ v, pickS m.grass x1 = v := ⟨_, rfl⟩
  have Ppg := Lib.hid hpg
  obtain ⟨pu, hpu⟩ : ∃ v, pickS b.rub x2 = v := ⟨_, rfl⟩
  have Ppu := Lib.hid hpu
  have HH := Lib.hid (show h = ⟨pr, ph, pw, pt, pm, pb, pd, pg, pu⟩ by rw [← hh, chS, hx0, hx1, hx2, hx3, hx4, hx5, hx6, hpr, hph, hpw, hpt, hpm, hpb, hpd, hpg, hpu])
  obtain ⟨brest1, brest2, brest3⟩ := hb.rest
  obtain ⟨bheat1, bheat2, bheat3⟩ := hb.heat
  obtain ⟨btoil1, btoil2, btoil3⟩ := hb.toil
  obtain ⟨bburn1, bburn2, bburn3⟩ := hb.burn
  obtain ⟨brub1, brub2, brub3⟩ := hb.rub
  obtain ⟨bmilk1, bmilk2, bmilk3⟩ := hb.milk
  obtain ⟨bstrong1, bstrong2, bstrong3⟩ := hb.strong
  obtain ⟨bheal1, bheal2⟩ := hb.heal
  obtain ⟨bfull1, bfull2⟩ := hb.full
  obtain ⟨bfed1, bfed2⟩ := hb.fed
  obtain ⟨mheat1, mheat2, mheat3⟩ := hm.heat
  obtain ⟨mgrass1, mgrass2, mgrass3⟩ := hm.grass
  obtain ⟨mdrinks1, mdrinks2, mdrinks3⟩ := hm.drinks
  obtain ⟨mh1, mh2⟩ := hm.hours
  obtain ⟨ml1, ml2⟩ := hm.load
  have ipr := pickS_in (s := b.rest) (by omega) x0
  rw [hpr] at ipr
  obtain ⟨ipr1, ipr2⟩ := ipr
  have iph := pickS_in (s := b.heat) (by omega) x1
  rw [hph] at iph
  obtain ⟨iph1, iph2⟩ := iph
  have ipw := pickS_in (s := m.heat) (by omega) x2
  rw [hpw] at ipw
  obtain ⟨ipw1, ipw2⟩ := ipw
  have ipt := pickS_in (s := b.toil) (by omega) x3
  rw [hpt] at ipt
  obtain ⟨ipt1, ipt2⟩ := ipt
  have ipm := pickS_in (s := b.milk) (by omega) x4
  rw [hpm] at ipm
  obtain ⟨ipm1, ipm2⟩ := ipm
  have ipb := pickS_in (s := b.burn) (by omega) x5
  rw [hpb] at ipb
  obtain ⟨ipb1, ipb2⟩ := ipb
  have ipd := pickS_in (s := m.drinks) (by omega) x6
  rw [hpd] at ipd
  obtain ⟨ipd1, ipd2⟩ := ipd
  have ipg := pickS_in (s := m.grass) (by omega) x1
  rw [hpg] at ipg
  obtain ⟨ipg1, ipg2⟩ := ipg
  have ipu := pickS_in (s := b.rub) (by omega) x2
  rw [hpu] at ipu
  obtain ⟨ipu1, ipu2⟩ := ipu
  obtain ⟨tw1, tw2⟩ : 0 ≤ t.water ∧ t.water ≤ 100000000000 := by have h1 := ht.w1; have h2 := ht.w2; have h3 := hc.water; omega
  obtain ⟨tf1, tf2⟩ : 0 ≤ t.fat ∧ t.fat ≤ 100000000000 := by have h1 := ht.f1; have h2 := ht.f2; have h3 := hc.fat; omega
  obtain ⟨ts1, ts2⟩ : 0 ≤ t.sore ∧ t.sore ≤ 1000000000 := by have h1 := ht.s1; have h2 := ht.s2; have h3 := hc.sore; omega
  obtain ⟨ww, hww⟩ : ∃ v, m.hours * (100000 + m.load) = v := ⟨_, rfl⟩
  obtain ⟨ww1, ww2⟩ : 0 ≤ ww ∧ ww ≤ 26400000 := by have := mul_le mh1 (show 0 ≤ 100000 + m.load by omega) mh2 (show 100000 + m.load ≤ 1100000 by omega); rw [hww] at this; exact this
  have yw := mul_le mh1 (show 0 ≤ 100000 + m.load by omega) mh2 (show 100000 + m.load ≤ 1100000 by omega)
  obtain ⟨yw1, yw2⟩ := yw
  obtain ⟨mxv, hmx⟩ : ∃ v, mx 0 (pw - 20) = v := ⟨_, rfl⟩
  obtain ⟨mx1, mx2⟩ : 0 ≤ mxv ∧ mxv ≤ 40 := by rw [← hmx, mx_max]; omega
  obtain ⟨y11, y12⟩ : 0 ≤ ph * mxv ∧ ph * mxv ≤ 4000000 := mul_le (a := 100000) (b := 40) (by omega) (by omega) (by omega) (by omega)
  obtain ⟨y21, y22⟩ : 0 ≤ pt * ww ∧ pt * ww ≤ 2640000000000 := mul_le (a := 100000) (b := 26400000) (by omega) (by omega) (by omega) (by omega)
  obtain ⟨y31, y32⟩ : 0 ≤ pb * ww ∧ pb * ww ≤ 2640000000000 := mul_le (a := 100000) (b := 26400000) (by omega) (by omega) (by omega) (by omega)
  obtain ⟨y41, y42⟩ : 0 ≤ pu * m.hours ∧ pu * m.hours ≤ 2400000 := mul_le (a := 100000) (b := 24) (by omega) (by omega) (by omega) (by omega)
  obtain ⟨y51, y52⟩ : 0 ≤ pu * m.hours * m.load ∧ pu * m.hours * m.load ≤ 2400000000000 := mul_le (a := 2400000) (b := 1000000) y41 ml1 y42 ml2
  have HMX := Lib.hid hmx
  have HWW := Lib.hid hww
  have HR := Lib.hid hr
  clear hh hr hn hw hu hne hb hm hc ht hmx hww hx0 hx1 hx2 hx3 hx4 hx5 hx6 hpr hph hpw hpt hpm hpb hpd hpg hpu
  obtain ⟨rtE, ctE, gtE, ztE⟩ := row_facts rt
  have hgb : gt ≠ w.heap.size := by omega
  have hgm : gt ≠ w.heap.size + 1 := by omega
  go_enter Try.func46, Try.ntmps46
  go_wp2_with fail
  have rbW0 : rowOf ((w.alloc (.cells #[.int .i64 b.full, .int .i64 b.fed, .int .i64 b.rest.1, .int .i64 b.rest.2, .int .i64 b.heat.1, .int .i64 b.heat.2, .int .i64 b.toil.1, .int .i64 b.toil.2, .int .i64 b.burn.1, .int .i64 b.burn.2, .int .i64 b.rub.1, .int .i64 b.rub.2, .int .i64 b.milk.1, .int .i64 b.milk.2, .int .i64 b.heal, .int .i64 b.strong.1, .int .i64 b.strong.2] 36)).alloc (.cells #[.int .i64 m.hours, .int .i64 m.load, .int .i64 m.heat.1, .int .i64 m.heat.2, .int .i64 m.grass.1, .int .i64 m.grass.2, .int .i64 m.drinks.1, .int .i64 m.drinks.2] 45)) w.heap.size = some #[.int .i64 b.full, .int .i64 b.fed, .int .i64 b.rest.1, .int .i64 b.rest.2, .int .i64 b.heat.1, .int .i64 b.heat.2, .int .i64 b.toil.1, .int .i64 b.toil.2, .int .i64 b.burn.1, .int .i64 b.burn.2, .int .i64 b.rub.1, .int .i64 b.rub.2, .int .i64 b.milk.1, .int .i64 b.milk.2, .int .i64 b.heal, .int .i64 b.strong.1, .int .i64 b.strong.2] := (by repeat (first | with_reducible assumption | with_reducible apply row_here0 | with_reducible apply row_here1 | with_reducible apply row_here2 | with_reducible apply row_here3 | with_reducible apply rowSkip))
  have rmW0 : rowOf ((w.alloc (.cells #[.int .i64 b.full, .int .i64 b.fed, .int .i64 b.rest.1, .int .i64 b.rest.2, .int .i64 b.heat.1, .int .i64 b.heat.2, .int .i64 b.toil.1, .int .i64 b.toil.2, .int .i64 b.burn.1, .int .i64 b.burn.2, .int .i64 b.rub.1, .int .i64 b.rub.2, .int .i64 b.milk.1, .int .i64 b.milk.2, .int .i64 b.heal, .int .i64 b.strong.1, .int .i64 b.strong.2] 36)).alloc (.cells #[.int .i64 m.hours, .int .i64 m.load, .int .i64 m.heat.1, .int .i64 m.heat.2, .int .i64 m.grass.1, .int .i64 m.grass.2, .int .i64 m.drinks.1, .int .i64 m.drinks.2] 45)) (w.heap.size + 1) = some #[.int .i64 m.hours, .int .i64 m.load, .int .i64 m.heat.1, .int .i64 m.heat.2, .int .i64 m.grass.1, .int .i64 m.grass.2, .int .i64 m.drinks.1, .int .i64 m.drinks.2] := (by repeat (first | with_reducible assumption | with_reducible apply row_here0 | with_reducible apply row_here1 | with_reducible apply row_here2 | with_reducible apply row_here3 | with_reducible apply rowSkip))
  have rtW0 : rowOf ((w.alloc (.cells #[.int .i64 b.full, .int .i64 b.fed, .int .i64 b.rest.1, .int .i64 b.rest.2, .int .i64 b.heat.1, .int .i64 b.heat.2, .int .i64 b.toil.1, .int .i64 b.toil.2, .int .i64 b.burn.1, .int .i64 b.burn.2, .int .i64 b.rub.1, .int .i64 b.rub.2, .int .i64 b.milk.1, .int .i64 b.milk.2, .int .i64 b.heal, .int .i64 b.strong.1, .int .i64 b.strong.2] 36)).alloc (.cells #[.int .i64 m.hours, .int .i64 m.load, .int .i64 m.heat.1, .int .i64 m.heat.2, .int .i64 m.grass.1, .int .i64 m.grass.2, .int .i64 m.drinks.1, .int .i64 m.drinks.2] 45)) gt = some #[.int .i64 t.water, .int .i64 t.fat, .int .i64 t.sore] := rowSkip (rowSkip rt)
  have hgW0 : w.grownBy ((w.alloc (.cells #[.int .i64 b.full, .int .i64 b.fed, .int .i64 b.rest.1, .int .i64 b.rest.2, .int .i64 b.heat.1, .int .i64 b.heat.2, .int .i64 b.toil.1, .int .i64 b.toil.2, .int .i64 b.burn.1, .int .i64 b.burn.2, .int .i64 b.rub.1, .int .i64 b.rub.2, .int .i64 b.milk.1, .int .i64 b.milk.2, .int .i64 b.heal, .int .i64 b.strong.1, .int .i64 b.strong.2] 36)).alloc (.cells #[.int .i64 m.hours, .int .i64 m.load, .int .i64 m.heat.1, .int .i64 m.heat.2, .int .i64 m.grass.1, .int .i64 m.grass.2, .int .i64 m.drinks.1, .int .i64 m.drinks.2] 45)) (some gt) := grown_trans (World.grownBy_alloc _ _ _) (World.grownBy_alloc _ _ _)
  have hwW0 := Lib.hid (HW.out.grown hgW0 HNE.out)
  rw [HWW.out]
  clear rt rtE ctE gtE
  generalize ((w.alloc (.cells #[.int .i64 b.full, .int .i64 b.fed, .int .i64 b.rest.1, .int .i64 b.rest.2, .int .i64 b.heat.1, .int .i64 b.heat.2, .int .i64 b.toil.1, .int .i64 b.toil.2, .int .i64 b.burn.1, .int .i64 b.burn.2, .int .i64 b.rub.1, .int .i64 b.rub.2, .int .i64 b.milk.1, .int .i64 b.milk.2, .int .i64 b.heal, .int .i64 b.strong.1, .int .i64 b.strong.2] 36)).alloc (.cells #[.int .i64 m.hours, .int .i64 m.load, .int .i64 m.heat.1, .int .i64 m.heat.2, .int .i64 m.grass.1, .int .i64 m.grass.2, .int .i64 m.drinks.1, .int .i64 m.drinks.2] 45)) = W0 at *
  refine wp_drawsR (by kernel_rfl) [] [some 23, some 24, some 25, some 26, some 27, some 28, some 29, some 30, some 31, some 32, some 33, some 34, some 35, some 36, some 37, some 38, some 39, some 40, some 41, some 42, some 43, some 44, some 45, some 46, some 47, some 48, some 49, some 50, some 51, some 52, some 53, some 54, some 55, some 56, some 57, some 58, some 59, some 60, some 61, some 62, some 63, some 64] (by kernel_rfl) (fun ix v W => match ix with
    | 0 => v = .pointer (some ⟨gt, 0, none⟩)
    | 1 => v = .pointer (some ⟨gt, 0, none⟩)
    | 2 => v = .pointer (some ⟨gt, 0, none⟩)
    | 3 => v = .int .i64 t.water
    | 4 => v = .pointer (some ⟨w.heap.size, 2, none⟩)
    | 5 => v = .agg #[.int .i64 b.rest.1, .int .i64 b.rest.2]
    | 6 => v = .slice a n cap
    | 7 => v = .int .i64 (7 * (i : Int))
    | 8 => v = .int .u32 x0
    | 9 => v = .int .i64 pr
    | 10 => v = .pointer (some ⟨w.heap.size, 4, none⟩)
    | 11 => v = .agg #[.int .i64 b.heat.1, .int .i64 b.heat.2]
    | 12 => v = .slice a n cap
    | 13 => v = .int .i64 (7 * (i : Int))
    | 14 => v = .int .i64 (7 * (i : Int) + 1)
    | 15 => v = .int .u32 x1
    | 16 => v = .int .i64 ph
    | 17 => v = .pointer (some ⟨(w.heap.size + 1), 2, none⟩)
    | 18 => v = .agg #[.int .i64 m.heat.1, .int .i64 m.heat.2]
    | 19 => v = .slice a n cap
    | 20 => v = .int .i64 (7 * (i : Int))
    | 21 => v = .int .i64 (7 * (i : Int) + 2)
    | 22 => v = .int .u32 x2
    | 23 => v = .int .i64 pw
    | 24 => v = .int .i64 (pw - 20)
    | 25 => v = .int .i64 mxv
    | 26 => v = .int .i64 (ph * mxv)
    | 27 => v = .int .i64 (pr + ph * mxv)
    | 28 => v = .int .i64 (100000 * (pr + ph * mxv))
    | 29 => v = .pointer (some ⟨w.heap.size, 6, none⟩)
    | 30 => v = .agg #[.int .i64 b.toil.1, .int .i64 b.toil.2]
    | 31 => v = .slice a n cap
    | 32 => v = .int .i64 (7 * (i : Int))
    | 33 => v = .int .i64 (7 * (i : Int) + 3)
    | 34 => v = .int .u32 x3
    | 35 => v = .int .i64 pt
    | 36 => v = .int .i64 ww
    | 37 => v = .int .i64 (pt * ww)
    | 38 => v = .int .i64 (100000 * (pr + ph * mxv) + pt * ww)
    | 39 => v = .int .i64 (t.water - (100000 * (pr + ph * mxv) + pt * ww))
    | 40 => v = .pointer (some ⟨gt, 0, none⟩)
    | 41 => v = .pointer (some ⟨gt, 0, none⟩)
    | _ => True) ⟨⟨?_, ?_⟩, ⟨?_, ?_⟩, ⟨?_, ?_⟩, ⟨?_, ?_⟩, ⟨?_, ?_⟩, ⟨?_, ?_⟩, ⟨?_, ?_⟩, ⟨?_, ?_⟩, ⟨?_, ?_⟩, ⟨?_, ?_⟩, ⟨?_, ?_⟩, ⟨?_, ?_⟩, ⟨?_, ?_⟩, ⟨?_, ?_⟩, ⟨?_, ?_⟩, ⟨?_, ?_⟩, ⟨?_, ?_⟩, ⟨?_, ?_⟩, ⟨?_, ?_⟩, ⟨?_, ?_⟩, ⟨?_, ?_⟩, ⟨?_, ?_⟩, ⟨?_, ?_⟩, ⟨?_, ?_⟩, ⟨?_, ?_⟩, ⟨?_, ?_⟩, ⟨?_, ?_⟩, ⟨?_, ?_⟩, ⟨?_, ?_⟩, ⟨?_, ?_⟩, ⟨?_, ?_⟩, ⟨?_, ?_⟩, ⟨?_, ?_⟩, ⟨?_, ?_⟩, ⟨?_, ?_⟩, ⟨?_, ?_⟩, ⟨?_, ?_⟩, ⟨?_, ?_⟩, ⟨?_, ?_⟩, ⟨?_, ?_⟩, ⟨?_, ?_⟩, ⟨?_, ?_⟩, ?_⟩
  · intro g h; cases h
  · intro b' W hE hb hdep K hK
    have e0 : b'.tmps[0]?.getD undef = .pointer (some ⟨gt, 0, none⟩) := hb 0 (by decide)
    clear hdep hb
    go_wp2
    exact hK _ _ (XT.refl _ _) rfl
  · intro g h; cases h
  · intro b' W hE hb hdep K hK
    have e23 : b'.tmps[23]?.getD undef = .pointer (some ⟨gt, 0, none⟩) := pureX (hdep 0 (some 23) (by kernel_rfl) rfl)
    clear hdep hb
    go_wp2
    exact hK _ _ (XT.refl _ _) rfl
  · intro g h; cases h
  · intro b' W hE hb hdep K hK
    have e24 : b'.tmps[24]?.getD undef = .pointer (some ⟨gt, 0, none⟩) := pureX (hdep 1 (some 24) (by kernel_rfl) rfl)
    clear hdep hb
    go_wp2
    exact hK _ _ (XT.refl _ _) rfl
  · intro g h; cases h
  · intro b' W hE hb hdep K hK
    have e25 : b'.tmps[25]?.getD undef = .pointer (some ⟨gt, 0, none⟩) := pureX (hdep 2 (some 25) (by kernel_rfl) rfl)
    clear hdep hb
    obtain ⟨_, _, -, _⟩ := row_facts (hE.row ((rowOf_drew _ _).trans rbW0) (by first | (simp; done) | (simp; omega)))
    obtain ⟨_, _, -, _⟩ := row_facts (hE.row ((rowOf_drew _ _).trans rmW0) (by first | (simp; done) | (simp; omega)))
    obtain ⟨_, _, -, _⟩ := row_facts (hE.row ((rowOf_drew _ _).trans rtW0) (by first | (simp; done) | (simp; omega)))
    go_wp2
    exact hK _ _ (XT.refl _ _) rfl
  · intro g h; cases h
  · intro b' W hE hb hdep K hK
    have e7 : b'.tmps[7]?.getD undef = .pointer (some ⟨w.heap.size, 0, none⟩) := hb 7 (by decide)
    clear hdep hb
    go_wp2
    exact hK _ _ (XT.refl _ _) rfl
  · intro g h; cases h
  · intro b' W hE hb hdep K hK
    have e27 : b'.tmps[27]?.getD undef = .pointer (some ⟨w.heap.size, 2, none⟩) := pureX (hdep 4 (some 27) (by kernel_rfl) rfl)
    clear hdep hb
    obtain ⟨_, _, -, _⟩ := row_facts (hE.row ((rowOf_drew _ _).trans rbW0) (by first | (simp; done) | (simp; omega)))
    obtain ⟨_, _, -, _⟩ := row_facts (hE.row ((rowOf_drew _ _).trans rmW0) (by first | (simp; done) | (simp; omega)))
    obtain ⟨_, _, -, _⟩ := row_facts (hE.row ((rowOf_drew _ _).trans rtW0) (by first | (simp; done) | (simp; omega)))
    go_wp2
    exact hK _ _ (XT.refl _ _) rfl
  · intro g h; cases h
  · intro b' W hE hb hdep K hK
    have e4 : b'.tmps[4]?.getD undef = .slice a n cap := hb 4 (by decide)
    clear hdep hb
    go_wp2
    exact hK _ _ (XT.refl _ _) rfl
  · intro g h; cases h
  · intro b' W hE hb hdep K hK
    have e13 : b'.tmps[13]?.getD undef = .int .i64 (7 * (i : Int)) := hb 13 (by decide)
    clear hdep hb
    go_wp2
    exact hK _ _ (XT.refl _ _) rfl
  · intro g h; cases h
  · intro b' W hE hb hdep K hK
    have e29 : b'.tmps[29]?.getD undef = .slice a n cap := pureX (hdep 6 (some 29) (by kernel_rfl) rfl)
    have e30 : b'.tmps[30]?.getD undef = .int .i64 (7 * (i : Int)) := pureX (hdep 7 (some 30) (by kernel_rfl) rfl)
    clear hdep hb
    go_wp2_with fail
    refine (at_n (7 * i + 0) a cap n xs _ x0 _ (by omega) (by omega) HN.out (hwW0.out.ahead (xt_ext2 hE)) X0.out).mono ?_
    rintro e W' ⟨rfl, hB⟩
    exact hK _ _ (Ext.xt hB) rfl
  · intro g h; cases h
  · intro b' W hE hb hdep K hK
    have e28 : b'.tmps[28]?.getD undef = .agg #[.int .i64 b.rest.1, .int .i64 b.rest.2] := pureX (hdep 5 (some 28) (by kernel_rfl) rfl)
    have e31 : b'.tmps[31]?.getD undef = .int .u32 x0 := pureX (hdep 8 (some 31) (by kernel_rfl) rfl)
    clear hdep hb
    go_wp2_with fail
    refine (pick_any b.rest x0 pr _ (by omega) (by omega) (by omega) U0.out Ppr.out).mono ?_
    rintro e W' ⟨rfl, hB⟩
    exact hK _ _ (Ext.xt hB) rfl
  · intro g h; cases h
  · intro b' W hE hb hdep K hK
    have e7 : b'.tmps[7]?.getD undef = .pointer (some ⟨w.heap.size, 0, none⟩) := hb 7 (by decide)
    clear hdep hb
    go_wp2
    exact hK _ _ (XT.refl _ _) rfl
  · intro g h; cases h
  · intro b' W hE hb hdep K hK
    have e33 : b'.tmps[33]?.getD undef = .pointer (some ⟨w.heap.size, 4, none⟩) := pureX (hdep 10 (some 33) (by kernel_rfl) rfl)
    clear hdep hb
    obtain ⟨_, _, -, _⟩ := row_facts (hE.row ((rowOf_drew _ _).trans rbW0) (by first | (simp; done) | (simp; omega)))
    obtain ⟨_, _, -, _⟩ := row_facts (hE.row ((rowOf_drew _ _).trans rmW0) (by first | (simp; done) | (simp; omega)))
    obtain ⟨_, _, -, _⟩ := row_facts (hE.row ((rowOf_drew _ _).trans rtW0) (by first | (simp; done) | (simp; omega)))
    go_wp2
    exact hK _ _ (XT.refl _ _) rfl
  · intro g h; cases h
  · intro b' W hE hb hdep K hK
    have e4 : b'.tmps[4]?.getD undef = .slice a n cap := hb 4 (by decide)
    clear hdep hb
    go_wp2
    exact hK _ _ (XT.refl _ _) rfl
  · intro g h; cases h
  · intro b' W hE hb hdep K hK
    have e13 : b'.tmps[13]?.getD undef = .int .i64 (7 * (i : Int)) := hb 13 (by decide)
    clear hdep hb
    go_wp2
    exact hK _ _ (XT.refl _ _) rfl
  · intro g h; cases h
  · intro b' W hE hb hdep K hK
    have e36 : b'.tmps[36]?.getD undef = .int .i64 (7 * (i : Int)) := pureX (hdep 13 (some 36) (by kernel_rfl) rfl)
    clear hdep hb
    go_wp2
    exact hK _ _ (XT.refl _ _) rfl
  · intro g h; cases h
  · intro b' W hE hb hdep K hK
    have e35 : b'.tmps[35]?.getD undef = .slice a n cap := pureX (hdep 12 (some 35) (by kernel_rfl) rfl)
    have e37 : b'.tmps[37]?.getD undef = .int .i64 (7 * (i : Int) + 1) := pureX (hdep 14 (some 37) (by kernel_rfl) rfl)
    clear hdep hb
    go_wp2_with fail
    refine (at_n (7 * i + 1) a cap n xs _ x1 _ (by omega) (by omega) HN.out (hwW0.out.ahead (xt_ext2 hE)) X1.out).mono ?_
    rintro e W' ⟨rfl, hB⟩
    exact hK _ _ (Ext.xt hB) rfl
  · intro g h; cases h
  · intro b' W hE hb hdep K hK
    have e34 : b'.tmps[34]?.getD undef = .agg #[.int .i64 b.heat.1, .int .i64 b.heat.2] := pureX (hdep 11 (some 34) (by kernel_rfl) rfl)
    have e38 : b'.tmps[38]?.getD undef = .int .u32 x1 := pureX (hdep 15 (some 38) (by kernel_rfl) rfl)
    clear hdep hb
    go_wp2_with fail
    refine (pick_any b.heat x1 ph _ (by omega) (by omega) (by omega) U1.out Pph.out).mono ?_
    rintro e W' ⟨rfl, hB⟩
    exact hK _ _ (Ext.xt hB) rfl
  · intro g h; cases h
  · intro b' W hE hb hdep K hK
    have e9 : b'.tmps[9]?.getD undef = .pointer (some ⟨(w.heap.size + 1), 0, none⟩) := hb 9 (by decide)
    clear hdep hb
    go_wp2
    exact hK _ _ (XT.refl _ _) rfl
  · intro g h; cases h
  · intro b' W hE hb hdep K hK
    have e40 : b'.tmps[40]?.getD undef = .pointer (some ⟨(w.heap.size + 1), 2, none⟩) := pureX (hdep 17 (some 40) (by kernel_rfl) rfl)
    clear hdep hb
    obtain ⟨_, _, -, _⟩ := row_facts (hE.row ((rowOf_drew _ _).trans rbW0) (by first | (simp; done) | (simp; omega)))
    obtain ⟨_, _, -, _⟩ := row_facts (hE.row ((rowOf_drew _ _).trans rmW0) (by first | (simp; done) | (simp; omega)))
    obtain ⟨_, _, -, _⟩ := row_facts (hE.row ((rowOf_drew _ _).trans rtW0) (by first | (simp; done) | (simp; omega)))
    go_wp2
    exact hK _ _ (XT.refl _ _) rfl
  · intro g h; cases h
  · intro b' W hE hb hdep K hK
    have e4 : b'.tmps[4]?.getD undef = .slice a n cap := hb 4 (by decide)
    clear hdep hb
    go_wp2
    exact hK _ _ (XT.refl _ _) rfl
  · intro g h; cases h
  · intro b' W hE hb hdep K hK
    have e13 : b'.tmps[13]?.getD undef = .int .i64 (7 * (i : Int)) := hb 13 (by decide)
    clear hdep hb
    go_wp2
    exact hK _ _ (XT.refl _ _) rfl
  · intro g h; cases h
  · intro b' W hE hb hdep K hK
    have e43 : b'.tmps[43]?.getD undef = .int .i64 (7 * (i : Int)) := pureX (hdep 20 (some 43) (by kernel_rfl) rfl)
    clear hdep hb
    go_wp2
    exact hK _ _ (XT.refl _ _) rfl
  · intro g h; cases h
  · intro b' W hE hb hdep K hK
    have e42 : b'.tmps[42]?.getD undef = .slice a n cap := pureX (hdep 19 (some 42) (by kernel_rfl) rfl)
    have e44 : b'.tmps[44]?.getD undef = .int .i64 (7 * (i : Int) + 2) := pureX (hdep 21 (some 44) (by kernel_rfl) rfl)
    clear hdep hb
    go_wp2_with fail
    refine (at_n (7 * i + 2) a cap n xs _ x2 _ (by omega) (by omega) HN.out (hwW0.out.ahead (xt_ext2 hE)) X2.out).mono ?_
    rintro e W' ⟨rfl, hB⟩
    exact hK _ _ (Ext.xt hB) rfl
  · intro g h; cases h
  · intro b' W hE hb hdep K hK
    have e41 : b'.tmps[41]?.getD undef = .agg #[.int .i64 m.heat.1, .int .i64 m.heat.2] := pureX (hdep 18 (some 41) (by kernel_rfl) rfl)
    have e45 : b'.tmps[45]?.getD undef = .int .u32 x2 := pureX (hdep 22 (some 45) (by kernel_rfl) rfl)
    clear hdep hb
    go_wp2_with fail
    refine (pick_any m.heat x2 pw _ (by omega) (by omega) (by omega) U2.out Ppw.out).mono ?_
    rintro e W' ⟨rfl, hB⟩
    exact hK _ _ (Ext.xt hB) rfl
  · intro g h; cases h
  · intro b' W hE hb hdep K hK
    have e46 : b'.tmps[46]?.getD undef = .int .i64 pw := pureX (hdep 23 (some 46) (by kernel_rfl) rfl)
    clear hdep hb
    go_wp2
    exact hK _ _ (XT.refl _ _) rfl
  · intro g h; cases h
  · intro b' W hE hb hdep K hK
    have e47 : b'.tmps[47]?.getD undef = .int .i64 (pw - 20) := pureX (hdep 24 (some 47) (by kernel_rfl) rfl)
    clear hdep hb
    go_wp2
    exact hK _ _ (XT.refl _ _) (congrArg (Value.int .i64) HMX.out)
  · intro g h; cases h
  · intro b' W hE hb hdep K hK
    have e39 : b'.tmps[39]?.getD undef = .int .i64 ph := pureX (hdep 16 (some 39) (by kernel_rfl) rfl)
    have e48 : b'.tmps[48]?.getD undef = .int .i64 mxv := pureX (hdep 25 (some 48) (by kernel_rfl) rfl)
    clear hdep hb
    go_wp2
    exact hK _ _ (XT.refl _ _) rfl
  · intro g h; cases h
  · intro b' W hE hb hdep K hK
    have e32 : b'.tmps[32]?.getD undef = .int .i64 pr := pureX (hdep 9 (some 32) (by kernel_rfl) rfl)
    have e49 : b'.tmps[49]?.getD undef = .int .i64 (ph * mxv) := pureX (hdep 26 (some 49) (by kernel_rfl) rfl)
    clear hdep hb
    go_wp2
    exact hK _ _ (XT.refl _ _) rfl
  · intro g h; cases h
  · intro b' W hE hb hdep K hK
    have e50 : b'.tmps[50]?.getD undef = .int .i64 (pr + ph * mxv) := pureX (hdep 27 (some 50) (by kernel_rfl) rfl)
    clear hdep hb
    go_wp2
    exact hK _ _ (XT.refl _ _) rfl
  · intro g h; cases h
  · intro b' W hE hb hdep K hK
    have e7 : b'.tmps[7]?.getD undef = .pointer (some ⟨w.heap.size, 0, none⟩) := hb 7 (by decide)
    clear hdep hb
    go_wp2
    exact hK _ _ (XT.refl _ _) rfl
  · intro g h; cases h
  · intro b' W hE hb hdep K hK
    have e52 : b'.tmps[52]?.getD undef = .pointer (some ⟨w.heap.size, 6, none⟩) := pureX (hdep 29 (some 52) (by kernel_rfl) rfl)
    clear hdep hb
    obtain ⟨_, _, -, _⟩ := row_facts (hE.row ((rowOf_drew _ _).trans rbW0) (by first | (simp; done) | (simp; omega)))
    obtain ⟨_, _, -, _⟩ := row_facts (hE.row ((rowOf_drew _ _).trans rmW0) (by first | (simp; done) | (simp; omega)))
    obtain ⟨_, _, -, _⟩ := row_facts (hE.row ((rowOf_drew _ _).trans rtW0) (by first | (simp; done) | (simp; omega)))
    go_wp2
    exact hK _ _ (XT.refl _ _) rfl
  · intro g h; cases h
  · intro b' W hE hb hdep K hK
    have e4 : b'.tmps[4]?.getD undef = .slice a n cap := hb 4 (by decide)
    clear hdep hb
    go_wp2
    exact hK _ _ (XT.refl _ _) rfl
  · intro g h; cases h
  · intro b' W hE hb hdep K hK
    have e13 : b'.tmps[13]?.getD undef = .int .i64 (7 * (i : Int)) := hb 13 (by decide)
    clear hdep hb
    go_wp2
    exact hK _ _ (XT.refl _ _) rfl
  · intro g h; cases h
  · intro b' W hE hb hdep K hK
    have e55 : b'.tmps[55]?.getD undef = .int .i64 (7 * (i : Int)) := pureX (hdep 32 (some 55) (by kernel_rfl) rfl)
    clear hdep hb
    go_wp2
    exact hK _ _ (XT.refl _ _) rfl
  · intro g h; cases h
  · intro b' W hE hb hdep K hK
    have e54 : b'.tmps[54]?.getD undef = .slice a n cap := pureX (hdep 31 (some 54) (by kernel_rfl) rfl)
    have e56 : b'.tmps[56]?.getD undef = .int .i64 (7 * (i : Int) + 3) := pureX (hdep 33 (some 56) (by kernel_rfl) rfl)
    clear hdep hb
    go_wp2_with fail
    refine (at_n (7 * i + 3) a cap n xs _ x3 _ (by omega) (by omega) HN.out (hwW0.out.ahead (xt_ext2 hE)) X3.out).mono ?_
    rintro e W' ⟨rfl, hB⟩
    exact hK _ _ (Ext.xt hB) rfl
  · intro g h; cases h
  · intro b' W hE hb hdep K hK
    have e53 : b'.tmps[53]?.getD undef = .agg #[.int .i64 b.toil.1, .int .i64 b.toil.2] := pureX (hdep 30 (some 53) (by kernel_rfl) rfl)
    have e57 : b'.tmps[57]?.getD undef = .int .u32 x3 := pureX (hdep 34 (some 57) (by kernel_rfl) rfl)
    clear hdep hb
    go_wp2_with fail
    refine (pick_any b.toil x3 pt _ (by omega) (by omega) (by omega) U3.out Ppt.out).mono ?_
    rintro e W' ⟨rfl, hB⟩
    exact hK _ _ (Ext.xt hB) rfl
  · intro g h; cases h
  · intro b' W hE hb hdep K hK
    have e14 : b'.tmps[14]?.getD undef = .int .i64 ww := hb 14 (by decide)
    clear hdep hb
    go_wp2
    exact hK _ _ (XT.refl _ _) rfl
  · intro g h; cases h
  · intro b' W hE hb hdep K hK
    have e58 : b'.tmps[58]?.getD undef = .int .i64 pt := pureX (hdep 35 (some 58) (by kernel_rfl) rfl)
    have e59 : b'.tmps[59]?.getD undef = .int .i64 ww := pureX (hdep 36 (some 59) (by kernel_rfl) rfl)
    clear hdep hb
    go_wp2
    exact hK _ _ (XT.refl _ _) rfl
  · intro g h; cases h
  · intro b' W hE hb hdep K hK
    have e51 : b'.tmps[51]?.getD undef = .int .i64 (100000 * (pr + ph * mxv)) := pureX (hdep 28 (some 51) (by kernel_rfl) rfl)
    have e60 : b'.tmps[60]?.getD undef = .int .i64 (pt * ww) := pureX (hdep 37 (some 60) (by kernel_rfl) rfl)
    clear hdep hb
    go_wp2
    exact hK _ _ (XT.refl _ _) rfl
  · intro g h; cases h
  · intro b' W hE hb hdep K hK
    have e26 : b'.tmps[26]?.getD undef = .int .i64 t.water := pureX (hdep 3 (some 26) (by kernel_rfl) rfl)
    have e61 : b'.tmps[61]?.getD undef = .int .i64 (100000 * (pr + ph * mxv) + pt * ww) := pureX (hdep 38 (some 61) (by kernel_rfl) rfl)
    clear hdep hb
    go_wp2
    exact hK _ _ (XT.refl _ _) rfl
  · intro g h; cases h
  · intro b' W hE hb hdep K hK
    have e23 : b'.tmps[23]?.getD undef = .pointer (some ⟨gt, 0, none⟩) := pureX (hdep 0 (some 23) (by kernel_rfl) rfl)
    clear hdep hb
    go_wp2
    exact hK _ _ (XT.refl _ _) rfl
  · intro g h; cases h
  · intro b' W hE hb hdep K hK
    have e63 : b'.tmps[63]?.getD undef = .pointer (some ⟨gt, 0, none⟩) := pureX (hdep 40 (some 63) (by kernel_rfl) rfl)
    clear hdep hb
    go_wp2
    exact hK _ _ (XT.refl _ _) rfl
  intro f W hE hR
  have e23 : f 23 = .pointer (some ⟨gt, 0, none⟩) := pureX (hR 0 (some 23) rfl)
  have e24 : f 24 = .pointer (some ⟨gt, 0, none⟩) := pureX (hR 1 (some 24) rfl)
  have e25 : f 25 = .pointer (some ⟨gt, 0, none⟩) := pureX (hR 2 (some 25) rfl)
  have e26 : f 26 = .int .i64 t.water := pureX (hR 3 (some 26) rfl)
  have e27 : f 27 = .pointer (some ⟨w.heap.size, 2, none⟩) := pureX (hR 4 (some 27) rfl)
  have e28 : f 28 = .agg #[.int .i64 b.rest.1, .int .i64 b.rest.2] := pureX (hR 5 (some 28) rfl)
  have e29 : f 29 = .slice a n cap := pureX (hR 6 (some 29) rfl)
  have e30 : f 30 = .int .i64 (7 * (i : Int)) := pureX (hR 7 (some 30) rfl)
  have e31 : f 31 = .int .u32 x0 := pureX (hR 8 (some 31) rfl)
  have e32 : f 32 = .int .i64 pr := pureX (hR 9 (some 32) rfl)
  have e33 : f 33 = .pointer (some ⟨w.heap.size, 4, none⟩) := pureX (hR 10 (some 33) rfl)
  have e34 : f 34 = .agg #[.int .i64 b.heat.1, .int .i64 b.heat.2] := pureX (hR 11 (some 34) rfl)
  have e35 : f 35 = .slice a n cap := pureX (hR 12 (some 35) rfl)
  have e36 : f 36 = .int .i64 (7 * (i : Int)) := pureX (hR 13 (some 36) rfl)
  have e37 : f 37 = .int .i64 (7 * (i : Int) + 1) := pureX (hR 14 (some 37) rfl)
  have e38 : f 38 = .int .u32 x1 := pureX (hR 15 (some 38) rfl)
  have e39 : f 39 = .int .i64 ph := pureX (hR 16 (some 39) rfl)
  have e40 : f 40 = .pointer (some ⟨(w.heap.size + 1), 2, none⟩) := pureX (hR 17 (some 40) rfl)
  have e41 : f 41 = .agg #[.int .i64 m.heat.1, .int .i64 m.heat.2] := pureX (hR 18 (some 41) rfl)
  have e42 : f 42 = .slice a n cap := pureX (hR 19 (some 42) rfl)
  have e43 : f 43 = .int .i64 (7 * (i : Int)) := pureX (hR 20 (some 43) rfl)
  have e44 : f 44 = .int .i64 (7 * (i : Int) + 2) := pureX (hR 21 (some 44) rfl)
  have e45 : f 45 = .int .u32 x2 := pureX (hR 22 (some 45) rfl)
  have e46 : f 46 = .int .i64 pw := pureX (hR 23 (some 46) rfl)
  have e47 : f 47 = .int .i64 (pw - 20) := pureX (hR 24 (some 47) rfl)
  have e48 : f 48 = .int .i64 mxv := pureX (hR 25 (some 48) rfl)
  have e49 : f 49 = .int .i64 (ph * mxv) := pureX (hR 26 (some 49) rfl)
  have e50 : f 50 = .int .i64 (pr + ph * mxv) := pureX (hR 27 (some 50) rfl)
  have e51 : f 51 = .int .i64 (100000 * (pr + ph * mxv)) := pureX (hR 28 (some 51) rfl)
  have e52 : f 52 = .pointer (some ⟨w.heap.size, 6, none⟩) := pureX (hR 29 (some 52) rfl)
  have e53 : f 53 = .agg #[.int .i64 b.toil.1, .int .i64 b.toil.2] := pureX (hR 30 (some 53) rfl)
  have e54 : f 54 = .slice a n cap := pureX (hR 31 (some 54) rfl)
  have e55 : f 55 = .int .i64 (7 * (i : Int)) := pureX (hR 32 (some 55) rfl)
  have e56 : f 56 = .int .i64 (7 * (i : Int) + 3) := pureX (hR 33 (some 56) rfl)
  have e57 : f 57 = .int .u32 x3 := pureX (hR 34 (some 57) rfl)
  have e58 : f 58 = .int .i64 pt := pureX (hR 35 (some 58) rfl)
  have e59 : f 59 = .int .i64 ww := pureX (hR 36 (some 59) rfl)
  have e60 : f 60 = .int .i64 (pt * ww) := pureX (hR 37 (some 60) rfl)
  have e61 : f 61 = .int .i64 (100000 * (pr + ph * mxv) + pt * ww) := pureX (hR 38 (some 61) rfl)
  have e62 : f 62 = .int .i64 (t.water - (100000 * (pr + ph * mxv) + pt * ww)) := pureX (hR 39 (some 62) rfl)
  have e63 : f 63 = .pointer (some ⟨gt, 0, none⟩) := pureX (hR 40 (some 63) rfl)
  have e64 : f 64 = .pointer (some ⟨gt, 0, none⟩) := pureX (hR 41 (some 64) rfl)
  clear hR
  simp only [List.filterMap_cons, List.filterMap_nil, id, puts, Act.put, List.setIfInBounds_toArray, List.set_cons_succ, List.set_cons_zero, e23, e24, e25, e26, e27, e28, e29, e30, e31, e32, e33, e34, e35, e36, e37, e38, e39, e40, e41, e42, e43, e44, e45, e46, e47, e48, e49, e50, e51, e52, e53, e54, e55, e56, e57, e58, e59, e60, e61, e62, e63, e64]
  have xE := drew_ext (xt_ext2 hE)
  have rbW1 := xE.row rbW0
  have rmW1 := xE.row rmW0
  have rtW1 := xE.row rtW0
  have hgW1 : w.grownBy W (some gt) := grown_trans hgW0 (xE.grown _)
  have hwW1 := Lib.hid (hwW0.out.below xE (Nat.le_refl _))
  clear hE xE hwW0 hgW0 rbW0 rmW0 rtW0 e23 e24 e25 e26 e27 e28 e29 e30 e31 e32 e33 e34 e35 e36 e37 e38 e39 e40 e41 e42 e43 e44 e45 e46 e47 e48 e49 e50 e51 e52 e53 e54 e55 e56 e57 e58 e59 e60 e61 e62 e63 e64
  generalize W = W1 at *
  obtain ⟨_, cn, fn, zn⟩ := row_facts rtW1
  go_wp2_with fail
  have hG := grown_setCell W1 ⟨gt, 0, none⟩ (.int .i64 (t.water - (100000 * (pr + ph * mxv) + pt * ww)))
  have rbW2 := row_grown rbW1 hG (by simp only; omega)
  have rmW2 := row_grown rmW1 hG (by simp only; omega)
  have rtW2 : rowOf (W1.setCell ⟨gt, 0, none⟩ (.int .i64 (t.water - (100000 * (pr + ph * mxv) + pt * ww)))) gt = some #[.int .i64 (t.water - (100000 * (pr + ph * mxv) + pt * ww)), .int .i64 t.fat, .int .i64 t.sore] := rowOf_setCell_o rtW1 _
  have hgW2 : w.grownBy (W1.setCell ⟨gt, 0, none⟩ (.int .i64 (t.water - (100000 * (pr + ph * mxv) + pt * ww)))) (some gt) := grown_trans hgW1 hG
  have hwW2 := Lib.hid (hwW1.out.grown hG HNE.out)
  clear hG cn fn zn hgW1 hwW1 rbW1 rmW1 rtW1
  generalize (W1.setCell ⟨gt, 0, none⟩ (.int .i64 (t.water - (100000 * (pr + ph * mxv) + pt * ww)))) = W2 at *
  obtain ⟨w1, hw1⟩ : ∃ v, t.water - (100000 * (pr + ph * mxv) + pt * ww) = v := ⟨_, rfl⟩
  rw [hw1] at rtW2
  have Bw1 : -10000000000000 ≤ w1 ∧ w1 ≤ 100000000000 := by omega
  obtain ⟨Bw11, Bw12⟩ := Bw1
  have Hw1 := Lib.hid hw1
  clear hw1
  go_wp2_with fail
  refine wp_drawsR (by kernel_rfl) [] [some 66, some 67, some 68, some 69, some 70, some 71, some 72, some 73, some 74, some 75, some 76, some 77, some 78, some 79, some 80] (by kernel_rfl) (fun ix v W => match ix with
    | 0 => v = .pointer (some ⟨gt, 0, none⟩)
    | 1 => v = .pointer (some ⟨gt, 0, none⟩)
    | 2 => v = .pointer (some ⟨gt, 0, none⟩)
    | 3 => v = .int .i64 w1
    | 4 => v = .pointer (some ⟨w.heap.size, 12, none⟩)
    | 5 => v = .agg #[.int .i64 b.milk.1, .int .i64 b.milk.2]
    | 6 => v = .slice a n cap
    | 7 => v = .int .i64 (7 * (i : Int))
    | 8 => v = .int .i64 (7 * (i : Int) + 4)
    | 9 => v = .int .u32 x4
    | 10 => v = .int .i64 pm
    | 11 => v = .int .i64 (100000 * pm)
    | 12 => v = .int .i64 (w1 - 100000 * pm)
    | 13 => v = .pointer (some ⟨gt, 0, none⟩)
    | 14 => v = .pointer (some ⟨gt, 0, none⟩)
    | _ => True) ⟨⟨?_, ?_⟩, ⟨?_, ?_⟩, ⟨?_, ?_⟩, ⟨?_, ?_⟩, ⟨?_, ?_⟩, ⟨?_, ?_⟩, ⟨?_, ?_⟩, ⟨?_, ?_⟩, ⟨?_, ?_⟩, ⟨?_, ?_⟩, ⟨?_, ?_⟩, ⟨?_, ?_⟩, ⟨?_, ?_⟩, ⟨?_, ?_⟩, ⟨?_, ?_⟩, ?_⟩
  · intro g h; cases h
  · intro b' W hE hb hdep K hK
    have e0 : b'.tmps[0]?.getD undef = .pointer (some ⟨gt, 0, none⟩) := hb 0 (by decide)
    clear hdep hb
    go_wp2
    exact hK _ _ (XT.refl _ _) rfl
  · intro g h; cases h
  · intro b' W hE hb hdep K hK
    have e66 : b'.tmps[66]?.getD undef = .pointer (some ⟨gt, 0, none⟩) := pureX (hdep 0 (some 66) (by kernel_rfl) rfl)
    clear hdep hb
    go_wp2
    exact hK _ _ (XT.refl _ _) rfl
  · intro g h; cases h
  · intro b' W hE hb hdep K hK
    have e67 : b'.tmps[67]?.getD undef = .pointer (some ⟨gt, 0, none⟩) := pureX (hdep 1 (some 67) (by kernel_rfl) rfl)
    clear hdep hb
    go_wp2
    exact hK _ _ (XT.refl _ _) rfl
  · intro g h; cases h
  · intro b' W hE hb hdep K hK
    have e68 : b'.tmps[68]?.getD undef = .pointer (some ⟨gt, 0, none⟩) := pureX (hdep 2 (some 68) (by kernel_rfl) rfl)
    clear hdep hb
    obtain ⟨_, _, -, _⟩ := row_facts (hE.row ((rowOf_drew _ _).trans rbW2) (by first | (simp; done) | (simp; omega)))
    obtain ⟨_, _, -, _⟩ := row_facts (hE.row ((rowOf_drew _ _).trans rmW2) (by first | (simp; done) | (simp; omega)))
    obtain ⟨_, _, -, _⟩ := row_facts (hE.row ((rowOf_drew _ _).trans rtW2) (by first | (simp; done) | (simp; omega)))
    go_wp2
    exact hK _ _ (XT.refl _ _) rfl
  · intro g h; cases h
  · intro b' W hE hb hdep K hK
    have e7 : b'.tmps[7]?.getD undef = .pointer (some ⟨w.heap.size, 0, none⟩) := hb 7 (by decide)
    clear hdep hb
    go_wp2
    exact hK _ _ (XT.refl _ _) rfl
  · intro g h; cases h
  · intro b' W hE hb hdep K hK
    have e70 : b'.tmps[70]?.getD undef = .pointer (some ⟨w.heap.size, 12, none⟩) := pureX (hdep 4 (some 70) (by kernel_rfl) rfl)
    clear hdep hb
    obtain ⟨_, _, -, _⟩ := row_facts (hE.row ((rowOf_drew _ _).trans rbW2) (by first | (simp; done) | (simp; omega)))
    obtain ⟨_, _, -, _⟩ := row_facts (hE.row ((rowOf_drew _ _).trans rmW2) (by first | (simp; done) | (simp; omega)))
    obtain ⟨_, _, -, _⟩ := row_facts (hE.row ((rowOf_drew _ _).trans rtW2) (by first | (simp; done) | (simp; omega)))
    go_wp2
    exact hK _ _ (XT.refl _ _) rfl
  · intro g h; cases h
  · intro b' W hE hb hdep K hK
    have e4 : b'.tmps[4]?.getD undef = .slice a n cap := hb 4 (by decide)
    clear hdep hb
    go_wp2
    exact hK _ _ (XT.refl _ _) rfl
  · intro g h; cases h
  · intro b' W hE hb hdep K hK
    have e13 : b'.tmps[13]?.getD undef = .int .i64 (7 * (i : Int)) := hb 13 (by decide)
    clear hdep hb
    go_wp2
    exact hK _ _ (XT.refl _ _) rfl
  · intro g h; cases h
  · intro b' W hE hb hdep K hK
    have e73 : b'.tmps[73]?.getD undef = .int .i64 (7 * (i : Int)) := pureX (hdep 7 (some 73) (by kernel_rfl) rfl)
    clear hdep hb
    go_wp2
    exact hK _ _ (XT.refl _ _) rfl
  · intro g h; cases h
  · intro b' W hE hb hdep K hK
    have e72 : b'.tmps[72]?.getD undef = .slice a n cap := pureX (hdep 6 (some 72) (by kernel_rfl) rfl)
    have e74 : b'.tmps[74]?.getD undef = .int .i64 (7 * (i : Int) + 4) := pureX (hdep 8 (some 74) (by kernel_rfl) rfl)
    clear hdep hb
    go_wp2_with fail
    refine (at_n (7 * i + 4) a cap n xs _ x4 _ (by omega) (by omega) HN.out (hwW2.out.ahead (xt_ext2 hE)) X4.out).mono ?_
    rintro e W' ⟨rfl, hB⟩
    exact hK _ _ (Ext.xt hB) rfl
  · intro g h; cases h
  · intro b' W hE hb hdep K hK
    have e71 : b'.tmps[71]?.getD undef = .agg #[.int .i64 b.milk.1, .int .i64 b.milk.2] := pureX (hdep 5 (some 71) (by kernel_rfl) rfl)
    have e75 : b'.tmps[75]?.getD undef = .int .u32 x4 := pureX (hdep 9 (some 75) (by kernel_rfl) rfl)
    clear hdep hb
    go_wp2_with fail
    refine (pick_any b.milk x4 pm _ (by omega) (by omega) (by omega) U4.out Ppm.out).mono ?_
    rintro e W' ⟨rfl, hB⟩
    exact hK _ _ (Ext.xt hB) rfl
  · intro g h; cases h
  · intro b' W hE hb hdep K hK
    have e76 : b'.tmps[76]?.getD undef = .int .i64 pm := pureX (hdep 10 (some 76) (by kernel_rfl) rfl)
    clear hdep hb
    go_wp2
    exact hK _ _ (XT.refl _ _) rfl
  · intro g h; cases h
  · intro b' W hE hb hdep K hK
    have e69 : b'.tmps[69]?.getD undef = .int .i64 w1 := pureX (hdep 3 (some 69) (by kernel_rfl) rfl)
    have e77 : b'.tmps[77]?.getD undef = .int .i64 (100000 * pm) := pureX (hdep 11 (some 77) (by kernel_rfl) rfl)
    clear hdep hb
    go_wp2
    exact hK _ _ (XT.refl _ _) rfl
  · intro g h; cases h
  · intro b' W hE hb hdep K hK
    have e66 : b'.tmps[66]?.getD undef = .pointer (some ⟨gt, 0, none⟩) := pureX (hdep 0 (some 66) (by kernel_rfl) rfl)
    clear hdep hb
    go_wp2
    exact hK _ _ (XT.refl _ _) rfl
  · intro g h; cases h
  · intro b' W hE hb hdep K hK
    have e79 : b'.tmps[79]?.getD undef = .pointer (some ⟨gt, 0, none⟩) := pureX (hdep 13 (some 79) (by kernel_rfl) rfl)
    clear hdep hb
    go_wp2
    exact hK _ _ (XT.refl _ _) rfl
  intro f W hE hR
  have e66 : f 66 = .pointer (some ⟨gt, 0, none⟩) := pureX (hR 0 (some 66) rfl)
  have e67 : f 67 = .pointer (some ⟨gt, 0, none⟩) := pureX (hR 1 (some 67) rfl)
  have e68 : f 68 = .pointer (some ⟨gt, 0, none⟩) := pureX (hR 2 (some 68) rfl)
  have e69 : f 69 = .int .i64 w1 := pureX (hR 3 (some 69) rfl)
  have e70 : f 70 = .pointer (some ⟨w.heap.size, 12, none⟩) := pureX (hR 4 (some 70) rfl)
  have e71 : f 71 = .agg #[.int .i64 b.milk.1, .int .i64 b.milk.2] := pureX (hR 5 (some 71) rfl)
  have e72 : f 72 = .slice a n cap := pureX (hR 6 (some 72) rfl)
  have e73 : f 73 = .int .i64 (7 * (i : Int)) := pureX (hR 7 (some 73) rfl)
  have e74 : f 74 = .int .i64 (7 * (i : Int) + 4) := pureX (hR 8 (some 74) rfl)
  have e75 : f 75 = .int .u32 x4 := pureX (hR 9 (some 75) rfl)
  have e76 : f 76 = .int .i64 pm := pureX (hR 10 (some 76) rfl)
  have e77 : f 77 = .int .i64 (100000 * pm) := pureX (hR 11 (some 77) rfl)
  have e78 : f 78 = .int .i64 (w1 - 100000 * pm) := pureX (hR 12 (some 78) rfl)
  have e79 : f 79 = .pointer (some ⟨gt, 0, none⟩) := pureX (hR 13 (some 79) rfl)
  have e80 : f 80 = .pointer (some ⟨gt, 0, none⟩) := pureX (hR 14 (some 80) rfl)
  clear hR
  simp only [List.filterMap_cons, List.filterMap_nil, id, puts, Act.put, List.setIfInBounds_toArray, List.set_cons_succ, List.set_cons_zero, e66, e67, e68, e69, e70, e71, e72, e73, e74, e75, e76, e77, e78, e79, e80]
  have xE := drew_ext (xt_ext2 hE)
  have rbW3 := xE.row rbW2
  have rmW3 := xE.row rmW2
  have rtW3 := xE.row rtW2
  have hgW3 : w.grownBy W (some gt) := grown_trans hgW2 (xE.grown _)
  have hwW3 := Lib.hid (hwW2.out.below xE (Nat.le_refl _))
  clear hE xE hwW2 hgW2 rbW2 rmW2 rtW2 e66 e67 e68 e69 e70 e71 e72 e73 e74 e75 e76 e77 e78 e79 e80
  generalize W = W3 at *
  obtain ⟨_, cn, fn, zn⟩ := row_facts rtW3
  go_wp2_with fail
  have hG := grown_setCell W3 ⟨gt, 0, none⟩ (.int .i64 (w1 - 100000 * pm))
  have rbW4 := row_grown rbW3 hG (by simp only; omega)
  have rmW4 := row_grown rmW3 hG (by simp only; omega)
  have rtW4 : rowOf (W3.setCell ⟨gt, 0, none⟩ (.int .i64 (w1 - 100000 * pm))) gt = some #[.int .i64 (w1 - 100000 * pm), .int .i64 t.fat, .int .i64 t.sore] := rowOf_setCell_o rtW3 _
  have hgW4 : w.grownBy (W3.setCell ⟨gt, 0, none⟩ (.int .i64 (w1 - 100000 * pm))) (some gt) := grown_trans hgW3 hG
  have hwW4 := Lib.hid (hwW3.out.grown hG HNE.out)
  clear hG cn fn zn hgW3 hwW3 rbW3 rmW3 rtW3
  generalize (W3.setCell ⟨gt, 0, none⟩ (.int .i64 (w1 - 100000 * pm))) = W4 at *
  obtain ⟨w2, hw2⟩ : ∃ v, w1 - 100000 * pm = v := ⟨_, rfl⟩
  rw [hw2] at rtW4
  have Bw2 : -10010000000000 ≤ w2 ∧ w2 ≤ 100000000000 := by omega
  obtain ⟨Bw21, Bw22⟩ := Bw2
  have Hw2 := Lib.hid hw2
  clear hw2
  refine wp_drawsR (by kernel_rfl) [] [some 81, some 82, some 83, some 84, some 85, some 86, some 87, some 88, some 89, some 90, some 91, some 92, some 93, some 94, some 95, some 96] (by kernel_rfl) (fun ix v W => match ix with
    | 0 => v = .pointer (some ⟨gt, 0, none⟩)
    | 1 => v = .pointer (some ⟨gt, 0, none⟩)
    | 2 => v = .pointer (some ⟨gt, 1, none⟩)
    | 3 => v = .int .i64 t.fat
    | 4 => v = .pointer (some ⟨w.heap.size, 8, none⟩)
    | 5 => v = .agg #[.int .i64 b.burn.1, .int .i64 b.burn.2]
    | 6 => v = .slice a n cap
    | 7 => v = .int .i64 (7 * (i : Int))
    | 8 => v = .int .i64 (7 * (i : Int) + 5)
    | 9 => v = .int .u32 x5
    | 10 => v = .int .i64 pb
    | 11 => v = .int .i64 ww
    | 12 => v = .int .i64 (pb * ww)
    | 13 => v = .int .i64 (t.fat - pb * ww)
    | 14 => v = .pointer (some ⟨gt, 0, none⟩)
    | 15 => v = .pointer (some ⟨gt, 1, none⟩)
    | _ => True) ⟨⟨?_, ?_⟩, ⟨?_, ?_⟩, ⟨?_, ?_⟩, ⟨?_, ?_⟩, ⟨?_, ?_⟩, ⟨?_, ?_⟩, ⟨?_, ?_⟩, ⟨?_, ?_⟩, ⟨?_, ?_⟩, ⟨?_, ?_⟩, ⟨?_, ?_⟩, ⟨?_, ?_⟩, ⟨?_, ?_⟩, ⟨?_, ?_⟩, ⟨?_, ?_⟩, ⟨?_, ?_⟩, ?_⟩
  · intro g h; cases h
  · intro b' W hE hb hdep K hK
    have e0 : b'.tmps[0]?.getD undef = .pointer (some ⟨gt, 0, none⟩) := hb 0 (by decide)
    clear hdep hb
    go_wp2
    exact hK _ _ (XT.refl _ _) rfl
  · intro g h; cases h
  · intro b' W hE hb hdep K hK
    have e81 : b'.tmps[81]?.getD undef = .pointer (some ⟨gt, 0, none⟩) := pureX (hdep 0 (some 81) (by kernel_rfl) rfl)
    clear hdep hb
    go_wp2
    exact hK _ _ (XT.refl _ _) rfl
  · intro g h; cases h
  · intro b' W hE hb hdep K hK
    have e82 : b'.tmps[82]?.getD undef = .pointer (some ⟨gt, 0, none⟩) := pureX (hdep 1 (some 82) (by kernel_rfl) rfl)
    clear hdep hb
    go_wp2
    exact hK _ _ (XT.refl _ _) rfl
  · intro g h; cases h
  · intro b' W hE hb hdep K hK
    have e83 : b'.tmps[83]?.getD undef = .pointer (some ⟨gt, 1, none⟩) := pureX (hdep 2 (some 83) (by kernel_rfl) rfl)
    clear hdep hb
    obtain ⟨_, _, -, _⟩ := row_facts (hE.row ((rowOf_drew _ _).trans rbW4) (by first | (simp; done) | (simp; omega)))
    obtain ⟨_, _, -, _⟩ := row_facts (hE.row ((rowOf_drew _ _).trans rmW4) (by first | (simp; done) | (simp; omega)))
    obtain ⟨_, _, -, _⟩ := row_facts (hE.row ((rowOf_drew _ _).trans rtW4) (by first | (simp; done) | (simp; omega)))
    go_wp2
    exact hK _ _ (XT.refl _ _) rfl
  · intro g h; cases h
  · intro b' W hE hb hdep K hK
    have e7 : b'.tmps[7]?.getD undef = .pointer (some ⟨w.heap.size, 0, none⟩) := hb 7 (by decide)
    clear hdep hb
    go_wp2
    exact hK _ _ (XT.refl _ _) rfl
  · intro g h; cases h
  · intro b' W hE hb hdep K hK
    have e85 : b'.tmps[85]?.getD undef = .pointer (some ⟨w.heap.size, 8, none⟩) := pureX (hdep 4 (some 85) (by kernel_rfl) rfl)
    clear hdep hb
    obtain ⟨_, _, -, _⟩ := row_facts (hE.row ((rowOf_drew _ _).trans rbW4) (by first | (simp; done) | (simp; omega)))
    obtain ⟨_, _, -, _⟩ := row_facts (hE.row ((rowOf_drew _ _).trans rmW4) (by first | (simp; done) | (simp; omega)))
    obtain ⟨_, _, -, _⟩ := row_facts (hE.row ((rowOf_drew _ _).trans rtW4) (by first | (simp; done) | (simp; omega)))
    go_wp2
    exact hK _ _ (XT.refl _ _) rfl
  · intro g h; cases h
  · intro b' W hE hb hdep K hK
    have e4 : b'.tmps[4]?.getD undef = .slice a n cap := hb 4 (by decide)
    clear hdep hb
    go_wp2
    exact hK _ _ (XT.refl _ _) rfl
  · intro g h; cases h
  · intro b' W hE hb hdep K hK
    have e13 : b'.tmps[13]?.getD undef = .int .i64 (7 * (i : Int)) := hb 13 (by decide)
    clear hdep hb
    go_wp2
    exact hK _ _ (XT.refl _ _) rfl
  · intro g h; cases h
  · intro b' W hE hb hdep K hK
    have e88 : b'.tmps[88]?.getD undef = .int .i64 (7 * (i : Int)) := pureX (hdep 7 (some 88) (by kernel_rfl) rfl)
    clear hdep hb
    go_wp2
    exact hK _ _ (XT.refl _ _) rfl
  · intro g h; cases h
  · intro b' W hE hb hdep K hK
    have e87 : b'.tmps[87]?.getD undef = .slice a n cap := pureX (hdep 6 (some 87) (by kernel_rfl) rfl)
    have e89 : b'.tmps[89]?.getD undef = .int .i64 (7 * (i : Int) + 5) := pureX (hdep 8 (some 89) (by kernel_rfl) rfl)
    clear hdep hb
    go_wp2_with fail
    refine (at_n (7 * i + 5) a cap n xs _ x5 _ (by omega) (by omega) HN.out (hwW4.out.ahead (xt_ext2 hE)) X5.out).mono ?_
    rintro e W' ⟨rfl, hB⟩
    exact hK _ _ (Ext.xt hB) rfl
  · intro g h; cases h
  · intro b' W hE hb hdep K hK
    have e86 : b'.tmps[86]?.getD undef = .agg #[.int .i64 b.burn.1, .int .i64 b.burn.2] := pureX (hdep 5 (some 86) (by kernel_rfl) rfl)
    have e90 : b'.tmps[90]?.getD undef = .int .u32 x5 := pureX (hdep 9 (some 90) (by kernel_rfl) rfl)
    clear hdep hb
    go_wp2_with fail
    refine (pick_any b.burn x5 pb _ (by omega) (by omega) (by omega) U5.out Ppb.out).mono ?_
    rintro e W' ⟨rfl, hB⟩
    exact hK _ _ (Ext.xt hB) rfl
  · intro g h; cases h
  · intro b' W hE hb hdep K hK
    have e14 : b'.tmps[14]?.getD undef = .int .i64 ww := hb 14 (by decide)
    clear hdep hb
    go_wp2
    exact hK _ _ (XT.refl _ _) rfl
  · intro g h; cases h
  · intro b' W hE hb hdep K hK
    have e91 : b'.tmps[91]?.getD undef = .int .i64 pb := pureX (hdep 10 (some 91) (by kernel_rfl) rfl)
    have e92 : b'.tmps[92]?.getD undef = .int .i64 ww := pureX (hdep 11 (some 92) (by kernel_rfl) rfl)
    clear hdep hb
    go_wp2
    exact hK _ _ (XT.refl _ _) rfl
  · intro g h; cases h
  · intro b' W hE hb hdep K hK
    have e84 : b'.tmps[84]?.getD undef = .int .i64 t.fat := pureX (hdep 3 (some 84) (by kernel_rfl) rfl)
    have e93 : b'.tmps[93]?.getD undef = .int .i64 (pb * ww) := pureX (hdep 12 (some 93) (by kernel_rfl) rfl)
    clear hdep hb
    go_wp2
    exact hK _ _ (XT.refl _ _) rfl
  · intro g h; cases h
  · intro b' W hE hb hdep K hK
    have e81 : b'.tmps[81]?.getD undef = .pointer (some ⟨gt, 0, none⟩) := pureX (hdep 0 (some 81) (by kernel_rfl) rfl)
    clear hdep hb
    go_wp2
    exact hK _ _ (XT.refl _ _) rfl
  · intro g h; cases h
  · intro b' W hE hb hdep K hK
    have e95 : b'.tmps[95]?.getD undef = .pointer (some ⟨gt, 0, none⟩) := pureX (hdep 14 (some 95) (by kernel_rfl) rfl)
    clear hdep hb
    go_wp2
    exact hK _ _ (XT.refl _ _) rfl
  intro f W hE hR
  have e81 : f 81 = .pointer (some ⟨gt, 0, none⟩) := pureX (hR 0 (some 81) rfl)
  have e82 : f 82 = .pointer (some ⟨gt, 0, none⟩) := pureX (hR 1 (some 82) rfl)
  have e83 : f 83 = .pointer (some ⟨gt, 1, none⟩) := pureX (hR 2 (some 83) rfl)
  have e84 : f 84 = .int .i64 t.fat := pureX (hR 3 (some 84) rfl)
  have e85 : f 85 = .pointer (some ⟨w.heap.size, 8, none⟩) := pureX (hR 4 (some 85) rfl)
  have e86 : f 86 = .agg #[.int .i64 b.burn.1, .int .i64 b.burn.2] := pureX (hR 5 (some 86) rfl)
  have e87 : f 87 = .slice a n cap := pureX (hR 6 (some 87) rfl)
  have e88 : f 88 = .int .i64 (7 * (i : Int)) := pureX (hR 7 (some 88) rfl)
  have e89 : f 89 = .int .i64 (7 * (i : Int) + 5) := pureX (hR 8 (some 89) rfl)
  have e90 : f 90 = .int .u32 x5 := pureX (hR 9 (some 90) rfl)
  have e91 : f 91 = .int .i64 pb := pureX (hR 10 (some 91) rfl)
  have e92 : f 92 = .int .i64 ww := pureX (hR 11 (some 92) rfl)
  have e93 : f 93 = .int .i64 (pb * ww) := pureX (hR 12 (some 93) rfl)
  have e94 : f 94 = .int .i64 (t.fat - pb * ww) := pureX (hR 13 (some 94) rfl)
  have e95 : f 95 = .pointer (some ⟨gt, 0, none⟩) := pureX (hR 14 (some 95) rfl)
  have e96 : f 96 = .pointer (some ⟨gt, 1, none⟩) := pureX (hR 15 (some 96) rfl)
  clear hR
  simp only [List.filterMap_cons, List.filterMap_nil, id, puts, Act.put, List.setIfInBounds_toArray, List.set_cons_succ, List.set_cons_zero, e81, e82, e83, e84, e85, e86, e87, e88, e89, e90, e91, e92, e93, e94, e95, e96]
  have xE := drew_ext (xt_ext2 hE)
  have rbW5 := xE.row rbW4
  have rmW5 := xE.row rmW4
  have rtW5 := xE.row rtW4
  have hgW5 : w.grownBy W (some gt) := grown_trans hgW4 (xE.grown _)
  have hwW5 := Lib.hid (hwW4.out.below xE (Nat.le_refl _))
  clear hE xE hwW4 hgW4 rbW4 rmW4 rtW4 e81 e82 e83 e84 e85 e86 e87 e88 e89 e90 e91 e92 e93 e94 e95 e96
  generalize W = W5 at *
  obtain ⟨_, cn, fn, zn⟩ := row_facts rtW5
  have EW : w2T true m h t = w2 := by
    rw [HH.out]
    simp only [w2T, w1T, walkS, HMX.out, HWW.out, Hw1.out, if_true, if_false, Bool.false_eq_true]
    exact Hw2.out
  have EF : f1T m h t = t.fat - pb * ww := by
    rw [HH.out]
    simp only [f1T, walkS, HWW.out]
  have EL := HR.out
  rw [livT, EW, EF] at EL
  have HEW := Lib.hid EW
  have HEF := Lib.hid EF
  clear EW EF
  by_cases hw0 : w2 < 0
  · obtain rfl : false = r := by rw [← EL]; simp [hw0]
    clear EL
    go_wp2
    go_returns
    first | exact ⟨rfl, (fun h => by cases h), grown_trans hgW5 (grown_setCell W5 ⟨gt, 1, none⟩ (.int .i64 (t.fat - pb * ww)))⟩ | exact ⟨rfl, grown_trans hgW5 (grown_setCell W5 ⟨gt, 1, none⟩ (.int .i64 (t.fat - pb * ww)))⟩
  by_cases hf0 : t.fat - pb * ww < 0
  · obtain rfl : false = r := by rw [← EL]; simp [hf0]
    clear EL
    go_wp2
    go_returns
    first | exact ⟨rfl, (fun h => by cases h), grown_trans hgW5 (grown_setCell W5 ⟨gt, 1, none⟩ (.int .i64 (t.fat - pb * ww)))⟩ | exact ⟨rfl, grown_trans hgW5 (grown_setCell W5 ⟨gt, 1, none⟩ (.int .i64 (t.fat - pb * ww)))⟩
  obtain rfl : true = r := by rw [← EL]; simp [hw0, hf0]
  have hw1' : 0 ≤ w2 := by omega
  have hf1' : 0 ≤ t.fat - pb * ww := by omega
  clear EL HR
  go_wp2_with fail
  have hG := grown_setCell W5 ⟨gt, 1, none⟩ (.int .i64 (t.fat - pb * ww))
  have rbW6 := row_grown rbW5 hG (by simp only; omega)
  have rmW6 := row_grown rmW5 hG (by simp only; omega)
  have rtW6 : rowOf (W5.setCell ⟨gt, 1, none⟩ (.int .i64 (t.fat - pb * ww))) gt = some #[.int .i64 w2, .int .i64 (t.fat - pb * ww), .int .i64 t.sore] := rowOf_setCell_o rtW5 _
  have hgW6 : w.grownBy (W5.setCell ⟨gt, 1, none⟩ (.int .i64 (t.fat - pb * ww))) (some gt) := grown_trans hgW5 hG
  have hwW6 := Lib.hid (hwW5.out.grown hG HNE.out)
  clear hG cn fn zn hgW5 hwW5 rbW5 rmW5 rtW5
  generalize (W5.setCell ⟨gt, 1, none⟩ (.int .i64 (t.fat - pb * ww))) = W6 at *
  obtain ⟨f1, hf1⟩ : ∃ v, t.fat - pb * ww = v := ⟨_, rfl⟩
  rw [hf1] at rtW6
  have Bf1 : 0 ≤ f1 ∧ f1 ≤ 100000000000 := by omega
  obtain ⟨Bf11, Bf12⟩ := Bf1
  have Hf1 := Lib.hid hf1
  clear hf1
  clear hf1'
  refine wp_drawsR (by kernel_rfl) [] [some 109, some 110, some 111, some 112, some 113, some 114, some 115, some 116, some 117, some 118, some 119, some 120, some 121, some 122, some 123, some 124, some 125, some 126, some 127, some 128] (by kernel_rfl) (fun ix v W => match ix with
    | 0 => v = .pointer (some ⟨gt, 0, none⟩)
    | 1 => v = .pointer (some ⟨w.heap.size, 0, none⟩)
    | 2 => v = .int .i64 b.full
    | 3 => v = .int .i64 (100000 * b.full)
    | 4 => v = .pointer (some ⟨gt, 0, none⟩)
    | 5 => v = .pointer (some ⟨gt, 0, none⟩)
    | 6 => v = .pointer (some ⟨gt, 0, none⟩)
    | 7 => v = .int .i64 w2
    | 8 => v = .pointer (some ⟨(w.heap.size + 1), 6, none⟩)
    | 9 => v = .agg #[.int .i64 m.drinks.1, .int .i64 m.drinks.2]
    | 10 => v = .slice a n cap
    | 11 => v = .int .i64 (7 * (i : Int))
    | 12 => v = .int .i64 (7 * (i : Int) + 6)
    | 13 => v = .int .u32 x6
    | 14 => v = .int .i64 pd
    | 15 => v = .int .i64 (100000 * pd)
    | 16 => v = .int .i64 (w2 + 100000 * pd)
    | 17 => v = .int .i64 (mn (100000 * b.full) (w2 + 100000 * pd))
    | 18 => v = .pointer (some ⟨gt, 0, none⟩)
    | 19 => v = .pointer (some ⟨gt, 0, none⟩)
    | _ => True) ⟨⟨?_, ?_⟩, ⟨?_, ?_⟩, ⟨?_, ?_⟩, ⟨?_, ?_⟩, ⟨?_, ?_⟩, ⟨?_, ?_⟩, ⟨?_, ?_⟩, ⟨?_, ?_⟩, ⟨?_, ?_⟩, ⟨?_, ?_⟩, ⟨?_, ?_⟩, ⟨?_, ?_⟩, ⟨?_, ?_⟩, ⟨?_, ?_⟩, ⟨?_, ?_⟩, ⟨?_, ?_⟩, ⟨?_, ?_⟩, ⟨?_, ?_⟩, ⟨?_, ?_⟩, ⟨?_, ?_⟩, ?_⟩
  · intro g h; cases h
  · intro b' W hE hb hdep K hK
    have e0 : b'.tmps[0]?.getD undef = .pointer (some ⟨gt, 0, none⟩) := hb 0 (by decide)
    clear hdep hb
    go_wp2
    exact hK _ _ (XT.refl _ _) rfl
  · intro g h; cases h
  · intro b' W hE hb hdep K hK
    have e7 : b'.tmps[7]?.getD undef = .pointer (some ⟨w.heap.size, 0, none⟩) := hb 7 (by decide)
    clear hdep hb
    go_wp2
    exact hK _ _ (XT.refl _ _) rfl
  · intro g h; cases h
  · intro b' W hE hb hdep K hK
    have e110 : b'.tmps[110]?.getD undef = .pointer (some ⟨w.heap.size, 0, none⟩) := pureX (hdep 1 (some 110) (by kernel_rfl) rfl)
    clear hdep hb
    obtain ⟨_, _, -, _⟩ := row_facts (hE.row ((rowOf_drew _ _).trans rbW6) (by first | (simp; done) | (simp; omega)))
    obtain ⟨_, _, -, _⟩ := row_facts (hE.row ((rowOf_drew _ _).trans rmW6) (by first | (simp; done) | (simp; omega)))
    obtain ⟨_, _, -, _⟩ := row_facts (hE.row ((rowOf_drew _ _).trans rtW6) (by first | (simp; done) | (simp; omega)))
    go_wp2
    exact hK _ _ (XT.refl _ _) rfl
  · intro g h; cases h
  · intro b' W hE hb hdep K hK
    have e111 : b'.tmps[111]?.getD undef = .int .i64 b.full := pureX (hdep 2 (some 111) (by kernel_rfl) rfl)
    clear hdep hb
    go_wp2
    exact hK _ _ (XT.refl _ _) rfl
  · intro g h; cases h
  · intro b' W hE hb hdep K hK
    have e0 : b'.tmps[0]?.getD undef = .pointer (some ⟨gt, 0, none⟩) := hb 0 (by decide)
    clear hdep hb
    go_wp2
    exact hK _ _ (XT.refl _ _) rfl
  · intro g h; cases h
  · intro b' W hE hb hdep K hK
    have e113 : b'.tmps[113]?.getD undef = .pointer (some ⟨gt, 0, none⟩) := pureX (hdep 4 (some 113) (by kernel_rfl) rfl)
    clear hdep hb
    go_wp2
    exact hK _ _ (XT.refl _ _) rfl
  · intro g h; cases h
  · intro b' W hE hb hdep K hK
    have e114 : b'.tmps[114]?.getD undef = .pointer (some ⟨gt, 0, none⟩) := pureX (hdep 5 (some 114) (by kernel_rfl) rfl)
    clear hdep hb
    go_wp2
    exact hK _ _ (XT.refl _ _) rfl
  · intro g h; cases h
  · intro b' W hE hb hdep K hK
    have e115 : b'.tmps[115]?.getD undef = .pointer (some ⟨gt, 0, none⟩) := pureX (hdep 6 (some 115) (by kernel_rfl) rfl)
    clear hdep hb
    obtain ⟨_, _, -, _⟩ := row_facts (hE.row ((rowOf_drew _ _).trans rbW6) (by first | (simp; done) | (simp; omega)))
    obtain ⟨_, _, -, _⟩ := row_facts (hE.row ((rowOf_drew _ _).trans rmW6) (by first | (simp; done) | (simp; omega)))
    obtain ⟨_, _, -, _⟩ := row_facts (hE.row ((rowOf_drew _ _).trans rtW6) (by first | (simp; done) | (simp; omega)))
    go_wp2
    exact hK _ _ (XT.refl _ _) rfl
  · intro g h; cases h
  · intro b' W hE hb hdep K hK
    have e9 : b'.tmps[9]?.getD undef = .pointer (some ⟨(w.heap.size + 1), 0, none⟩) := hb 9 (by decide)
    clear hdep hb
    go_wp2
    exact hK _ _ (XT.refl _ _) rfl
  · intro g h; cases h
  · intro b' W hE hb hdep K hK
    have e117 : b'.tmps[117]?.getD undef = .pointer (some ⟨(w.heap.size + 1), 6, none⟩) := pureX (hdep 8 (some 117) (by kernel_rfl) rfl)
    clear hdep hb
    obtain ⟨_, _, -, _⟩ := row_facts (hE.row ((rowOf_drew _ _).trans rbW6) (by first | (simp; done) | (simp; omega)))
    obtain ⟨_, _, -, _⟩ := row_facts (hE.row ((rowOf_drew _ _).trans rmW6) (by first | (simp; done) | (simp; omega)))
    obtain ⟨_, _, -, _⟩ := row_facts (hE.row ((rowOf_drew _ _).trans rtW6) (by first | (simp; done) | (simp; omega)))
    go_wp2
    exact hK _ _ (XT.refl _ _) rfl
  · intro g h; cases h
  · intro b' W hE hb hdep K hK
    have e4 : b'.tmps[4]?.getD undef = .slice a n cap := hb 4 (by decide)
    clear hdep hb
    go_wp2
    exact hK _ _ (XT.refl _ _) rfl
  · intro g h; cases h
  · intro b' W hE hb hdep K hK
    have e13 : b'.tmps[13]?.getD undef = .int .i64 (7 * (i : Int)) := hb 13 (by decide)
    clear hdep hb
    go_wp2
    exact hK _ _ (XT.refl _ _) rfl
  · intro g h; cases h
  · intro b' W hE hb hdep K hK
    have e120 : b'.tmps[120]?.getD undef = .int .i64 (7 * (i : Int)) := pureX (hdep 11 (some 120) (by kernel_rfl) rfl)
    clear hdep hb
    go_wp2
    exact hK _ _ (XT.refl _ _) rfl
  · intro g h; cases h
  · intro b' W hE hb hdep K hK
    have e119 : b'.tmps[119]?.getD undef = .slice a n cap := pureX (hdep 10 (some 119) (by kernel_rfl) rfl)
    have e121 : b'.tmps[121]?.getD undef = .int .i64 (7 * (i : Int) + 6) := pureX (hdep 12 (some 121) (by kernel_rfl) rfl)
    clear hdep hb
    go_wp2_with fail
    refine (at_n (7 * i + 6) a cap n xs _ x6 _ (by omega) (by omega) HN.out (hwW6.out.ahead (xt_ext2 hE)) X6.out).mono ?_
    rintro e W' ⟨rfl, hB⟩
    exact hK _ _ (Ext.xt hB) rfl
  · intro g h; cases h
  · intro b' W hE hb hdep K hK
    have e118 : b'.tmps[118]?.getD undef = .agg #[.int .i64 m.drinks.1, .int .i64 m.drinks.2] := pureX (hdep 9 (some 118) (by kernel_rfl) rfl)
    have e122 : b'.tmps[122]?.getD undef = .int .u32 x6 := pureX (hdep 13 (some 122) (by kernel_rfl) rfl)
    clear hdep hb
    go_wp2_with fail
    refine (pick_any m.drinks x6 pd _ (by omega) (by omega) (by omega) U6.out Ppd.out).mono ?_
    rintro e W' ⟨rfl, hB⟩
    exact hK _ _ (Ext.xt hB) rfl
  · intro g h; cases h
  · intro b' W hE hb hdep K hK
    have e123 : b'.tmps[123]?.getD undef = .int .i64 pd := pureX (hdep 14 (some 123) (by kernel_rfl) rfl)
    clear hdep hb
    go_wp2
    exact hK _ _ (XT.refl _ _) rfl
  · intro g h; cases h
  · intro b' W hE hb hdep K hK
    have e116 : b'.tmps[116]?.getD undef = .int .i64 w2 := pureX (hdep 7 (some 116) (by kernel_rfl) rfl)
    have e124 : b'.tmps[124]?.getD undef = .int .i64 (100000 * pd) := pureX (hdep 15 (some 124) (by kernel_rfl) rfl)
    clear hdep hb
    go_wp2
    exact hK _ _ (XT.refl _ _) rfl
  · intro g h; cases h
  · intro b' W hE hb hdep K hK
    have e112 : b'.tmps[112]?.getD undef = .int .i64 (100000 * b.full) := pureX (hdep 3 (some 112) (by kernel_rfl) rfl)
    have e125 : b'.tmps[125]?.getD undef = .int .i64 (w2 + 100000 * pd) := pureX (hdep 16 (some 125) (by kernel_rfl) rfl)
    clear hdep hb
    go_wp2
    exact hK _ _ (XT.refl _ _) rfl
  · intro g h; cases h
  · intro b' W hE hb hdep K hK
    have e109 : b'.tmps[109]?.getD undef = .pointer (some ⟨gt, 0, none⟩) := pureX (hdep 0 (some 109) (by kernel_rfl) rfl)
    clear hdep hb
    go_wp2
    exact hK _ _ (XT.refl _ _) rfl
  · intro g h; cases h
  · intro b' W hE hb hdep K hK
    have e127 : b'.tmps[127]?.getD undef = .pointer (some ⟨gt, 0, none⟩) := pureX (hdep 18 (some 127) (by kernel_rfl) rfl)
    clear hdep hb
    go_wp2
    exact hK _ _ (XT.refl _ _) rfl
  intro f W hE hR
  have e109 : f 109 = .pointer (some ⟨gt, 0, none⟩) := pureX (hR 0 (some 109) rfl)
  have e110 : f 110 = .pointer (some ⟨w.heap.size, 0, none⟩) := pureX (hR 1 (some 110) rfl)
  have e111 : f 111 = .int .i64 b.full := pureX (hR 2 (some 111) rfl)
  have e112 : f 112 = .int .i64 (100000 * b.full) := pureX (hR 3 (some 112) rfl)
  have e113 : f 113 = .pointer (some ⟨gt, 0, none⟩) := pureX (hR 4 (some 113) rfl)
  have e114 : f 114 = .pointer (some ⟨gt, 0, none⟩) := pureX (hR 5 (some 114) rfl)
  have e115 : f 115 = .pointer (some ⟨gt, 0, none⟩) := pureX (hR 6 (some 115) rfl)
  have e116 : f 116 = .int .i64 w2 := pureX (hR 7 (some 116) rfl)
  have e117 : f 117 = .pointer (some ⟨(w.heap.size + 1), 6, none⟩) := pureX (hR 8 (some 117) rfl)
  have e118 : f 118 = .agg #[.int .i64 m.drinks.1, .int .i64 m.drinks.2] := pureX (hR 9 (some 118) rfl)
  have e119 : f 119 = .slice a n cap := pureX (hR 10 (some 119) rfl)
  have e120 : f 120 = .int .i64 (7 * (i : Int)) := pureX (hR 11 (some 120) rfl)
  have e121 : f 121 = .int .i64 (7 * (i : Int) + 6) := pureX (hR 12 (some 121) rfl)
  have e122 : f 122 = .int .u32 x6 := pureX (hR 13 (some 122) rfl)
  have e123 : f 123 = .int .i64 pd := pureX (hR 14 (some 123) rfl)
  have e124 : f 124 = .int .i64 (100000 * pd) := pureX (hR 15 (some 124) rfl)
  have e125 : f 125 = .int .i64 (w2 + 100000 * pd) := pureX (hR 16 (some 125) rfl)
  have e126 : f 126 = .int .i64 (mn (100000 * b.full) (w2 + 100000 * pd)) := pureX (hR 17 (some 126) rfl)
  have e127 : f 127 = .pointer (some ⟨gt, 0, none⟩) := pureX (hR 18 (some 127) rfl)
  have e128 : f 128 = .pointer (some ⟨gt, 0, none⟩) := pureX (hR 19 (some 128) rfl)
  clear hR
  simp only [List.filterMap_cons, List.filterMap_nil, id, puts, Act.put, List.setIfInBounds_toArray, List.set_cons_succ, List.set_cons_zero, e109, e110, e111, e112, e113, e114, e115, e116, e117, e118, e119, e120, e121, e122, e123, e124, e125, e126, e127, e128]
  have xE := drew_ext (xt_ext2 hE)
  have rbW7 := xE.row rbW6
  have rmW7 := xE.row rmW6
  have rtW7 := xE.row rtW6
  have hgW7 : w.grownBy W (some gt) := grown_trans hgW6 (xE.grown _)
  have hwW7 := Lib.hid (hwW6.out.below xE (Nat.le_refl _))
  clear hE xE hwW6 hgW6 rbW6 rmW6 rtW6 e109 e110 e111 e112 e113 e114 e115 e116 e117 e118 e119 e120 e121 e122 e123 e124 e125 e126 e127 e128
  generalize W = W7 at *
  obtain ⟨_, cn, fn, zn⟩ := row_facts rtW7
  go_wp2_with fail
  have hG := grown_setCell W7 ⟨gt, 0, none⟩ (.int .i64 (mn (100000 * b.full) (w2 + 100000 * pd)))
  have rbW8 := row_grown rbW7 hG (by simp only; omega)
  have rmW8 := row_grown rmW7 hG (by simp only; omega)
  have rtW8 : rowOf (W7.setCell ⟨gt, 0, none⟩ (.int .i64 (mn (100000 * b.full) (w2 + 100000 * pd)))) gt = some #[.int .i64 (mn (100000 * b.full) (w2 + 100000 * pd)), .int .i64 f1, .int .i64 t.sore] := rowOf_setCell_o rtW7 _
  have hgW8 : w.grownBy (W7.setCell ⟨gt, 0, none⟩ (.int .i64 (mn (100000 * b.full) (w2 + 100000 * pd)))) (some gt) := grown_trans hgW7 hG
  have hwW8 := Lib.hid (hwW7.out.grown hG HNE.out)
  clear hG cn fn zn hgW7 hwW7 rbW7 rmW7 rtW7
  generalize (W7.setCell ⟨gt, 0, none⟩ (.int .i64 (mn (100000 * b.full) (w2 + 100000 * pd)))) = W8 at *
  obtain ⟨w3, hw3⟩ : ∃ v, mn (100000 * b.full) (w2 + 100000 * pd) = v := ⟨_, rfl⟩
  rw [hw3] at rtW8
  have Hw3 := Lib.hid hw3
  clear hw3
  go_wp2_with fail
  refine wp_drawsR (by kernel_rfl) [] [some 129, some 130, some 131, some 132, some 133, some 134, some 135, some 136, some 137, some 138, some 139, some 140, some 141, some 142, some 143, some 144, some 145, some 146, some 147, some 148] (by kernel_rfl) (fun ix v W => match ix with
    | 0 => v = .pointer (some ⟨gt, 0, none⟩)
    | 1 => v = .pointer (some ⟨w.heap.size, 1, none⟩)
    | 2 => v = .int .i64 b.fed
    | 3 => v = .int .i64 (100000 * b.fed)
    | 4 => v = .pointer (some ⟨gt, 0, none⟩)
    | 5 => v = .pointer (some ⟨gt, 0, none⟩)
    | 6 => v = .pointer (some ⟨gt, 1, none⟩)
    | 7 => v = .int .i64 f1
    | 8 => v = .pointer (some ⟨(w.heap.size + 1), 4, none⟩)
    | 9 => v = .agg #[.int .i64 m.grass.1, .int .i64 m.grass.2]
    | 10 => v = .slice a n cap
    | 11 => v = .int .i64 (7 * (i : Int))
    | 12 => v = .int .i64 (7 * (i : Int) + 1)
    | 13 => v = .int .u32 x1
    | 14 => v = .int .i64 pg
    | 15 => v = .int .i64 (100000 * pg)
    | 16 => v = .int .i64 (f1 + 100000 * pg)
    | 17 => v = .int .i64 (mn (100000 * b.fed) (f1 + 100000 * pg))
    | 18 => v = .pointer (some ⟨gt, 0, none⟩)
    | 19 => v = .pointer (some ⟨gt, 1, none⟩)
    | _ => True) ⟨⟨?_, ?_⟩, ⟨?_, ?_⟩, ⟨?_, ?_⟩, ⟨?_, ?_⟩, ⟨?_, ?_⟩, ⟨?_, ?_⟩, ⟨?_, ?_⟩, ⟨?_, ?_⟩, ⟨?_, ?_⟩, ⟨?_, ?_⟩, ⟨?_, ?_⟩, ⟨?_, ?_⟩, ⟨?_, ?_⟩, ⟨?_, ?_⟩, ⟨?_, ?_⟩, ⟨?_, ?_⟩, ⟨?_, ?_⟩, ⟨?_, ?_⟩, ⟨?_, ?_⟩, ⟨?_, ?_⟩, ?_⟩
  · intro g h; cases h
  · intro b' W hE hb hdep K hK
    have e0 : b'.tmps[0]?.getD undef = .pointer (some ⟨gt, 0, none⟩) := hb 0 (by decide)
    clear hdep hb
    go_wp2
    exact hK _ _ (XT.refl _ _) rfl
  · intro g h; cases h
  · intro b' W hE hb hdep K hK
    have e7 : b'.tmps[7]?.getD undef = .pointer (some ⟨w.heap.size, 0, none⟩) := hb 7 (by decide)
    clear hdep hb
    go_wp2
    exact hK _ _ (XT.refl _ _) rfl
  · intro g h; cases h
  · intro b' W hE hb hdep K hK
    have e130 : b'.tmps[130]?.getD undef = .pointer (some ⟨w.heap.size, 1, none⟩) := pureX (hdep 1 (some 130) (by kernel_rfl) rfl)
    clear hdep hb
    obtain ⟨_, _, -, _⟩ := row_facts (hE.row ((rowOf_drew _ _).trans rbW8) (by first | (simp; done) | (simp; omega)))
    obtain ⟨_, _, -, _⟩ := row_facts (hE.row ((rowOf_drew _ _).trans rmW8) (by first | (simp; done) | (simp; omega)))
    obtain ⟨_, _, -, _⟩ := row_facts (hE.row ((rowOf_drew _ _).trans rtW8) (by first | (simp; done) | (simp; omega)))
    go_wp2
    exact hK _ _ (XT.refl _ _) rfl
  · intro g h; cases h
  · intro b' W hE hb hdep K hK
    have e131 : b'.tmps[131]?.getD undef = .int .i64 b.fed := pureX (hdep 2 (some 131) (by kernel_rfl) rfl)
    clear hdep hb
    go_wp2
    exact hK _ _ (XT.refl _ _) rfl
  · intro g h; cases h
  · intro b' W hE hb hdep K hK
    have e0 : b'.tmps[0]?.getD undef = .pointer (some ⟨gt, 0, none⟩) := hb 0 (by decide)
    clear hdep hb
    go_wp2
    exact hK _ _ (XT.refl _ _) rfl
  · intro g h; cases h
  · intro b' W hE hb hdep K hK
    have e133 : b'.tmps[133]?.getD undef = .pointer (some ⟨gt, 0, none⟩) := pureX (hdep 4 (some 133) (by kernel_rfl) rfl)
    clear hdep hb
    go_wp2
    exact hK _ _ (XT.refl _ _) rfl
  · intro g h; cases h
  · intro b' W hE hb hdep K hK
    have e134 : b'.tmps[134]?.getD undef = .pointer (some ⟨gt, 0, none⟩) := pureX (hdep 5 (some 134) (by kernel_rfl) rfl)
    clear hdep hb
    go_wp2
    exact hK _ _ (XT.refl _ _) rfl
  · intro g h; cases h
  · intro b' W hE hb hdep K hK
    have e135 : b'.tmps[135]?.getD undef = .pointer (some ⟨gt, 1, none⟩) := pureX (hdep 6 (some 135) (by kernel_rfl) rfl)
    clear hdep hb
    obtain ⟨_, _, -, _⟩ := row_facts (hE.row ((rowOf_drew _ _).trans rbW8) (by first | (simp; done) | (simp; omega)))
    obtain ⟨_, _, -, _⟩ := row_facts (hE.row ((rowOf_drew _ _).trans rmW8) (by first | (simp; done) | (simp; omega)))
    obtain ⟨_, _, -, _⟩ := row_facts (hE.row ((rowOf_drew _ _).trans rtW8) (by first | (simp; done) | (simp; omega)))
    go_wp2
    exact hK _ _ (XT.refl _ _) rfl
  · intro g h; cases h
  · intro b' W hE hb hdep K hK
    have e9 : b'.tmps[9]?.getD undef = .pointer (some ⟨(w.heap.size + 1), 0, none⟩) := hb 9 (by decide)
    clear hdep hb
    go_wp2
    exact hK _ _ (XT.refl _ _) rfl
  · intro g h; cases h
  · intro b' W hE hb hdep K hK
    have e137 : b'.tmps[137]?.getD undef = .pointer (some ⟨(w.heap.size + 1), 4, none⟩) := pureX (hdep 8 (some 137) (by kernel_rfl) rfl)
    clear hdep hb
    obtain ⟨_, _, -, _⟩ := row_facts (hE.row ((rowOf_drew _ _).trans rbW8) (by first | (simp; done) | (simp; omega)))
    obtain ⟨_, _, -, _⟩ := row_facts (hE.row ((rowOf_drew _ _).trans rmW8) (by first | (simp; done) | (simp; omega)))
    obtain ⟨_, _, -, _⟩ := row_facts (hE.row ((rowOf_drew _ _).trans rtW8) (by first | (simp; done) | (simp; omega)))
    go_wp2
    exact hK _ _ (XT.refl _ _) rfl
  · intro g h; cases h
  · intro b' W hE hb hdep K hK
    have e4 : b'.tmps[4]?.getD undef = .slice a n cap := hb 4 (by decide)
    clear hdep hb
    go_wp2
    exact hK _ _ (XT.refl _ _) rfl
  · intro g h; cases h
  · intro b' W hE hb hdep K hK
    have e13 : b'.tmps[13]?.getD undef = .int .i64 (7 * (i : Int)) := hb 13 (by decide)
    clear hdep hb
    go_wp2
    exact hK _ _ (XT.refl _ _) rfl
  · intro g h; cases h
  · intro b' W hE hb hdep K hK
    have e140 : b'.tmps[140]?.getD undef = .int .i64 (7 * (i : Int)) := pureX (hdep 11 (some 140) (by kernel_rfl) rfl)
    clear hdep hb
    go_wp2
    exact hK _ _ (XT.refl _ _) rfl
  · intro g h; cases h
  · intro b' W hE hb hdep K hK
    have e139 : b'.tmps[139]?.getD undef = .slice a n cap := pureX (hdep 10 (some 139) (by kernel_rfl) rfl)
    have e141 : b'.tmps[141]?.getD undef = .int .i64 (7 * (i : Int) + 1) := pureX (hdep 12 (some 141) (by kernel_rfl) rfl)
    clear hdep hb
    go_wp2_with fail
    refine (at_n (7 * i + 1) a cap n xs _ x1 _ (by omega) (by omega) HN.out (hwW8.out.ahead (xt_ext2 hE)) X1.out).mono ?_
    rintro e W' ⟨rfl, hB⟩
    exact hK _ _ (Ext.xt hB) rfl
  · intro g h; cases h
  · intro b' W hE hb hdep K hK
    have e138 : b'.tmps[138]?.getD undef = .agg #[.int .i64 m.grass.1, .int .i64 m.grass.2] := pureX (hdep 9 (some 138) (by kernel_rfl) rfl)
    have e142 : b'.tmps[142]?.getD undef = .int .u32 x1 := pureX (hdep 13 (some 142) (by kernel_rfl) rfl)
    clear hdep hb
    go_wp2_with fail
    refine (pick_any m.grass x1 pg _ (by omega) (by omega) (by omega) U1.out Ppg.out).mono ?_
    rintro e W' ⟨rfl, hB⟩
    exact hK _ _ (Ext.xt hB) rfl
  · intro g h; cases h
  · intro b' W hE hb hdep K hK
    have e143 : b'.tmps[143]?.getD undef = .int .i64 pg := pureX (hdep 14 (some 143) (by kernel_rfl) rfl)
    clear hdep hb
    go_wp2
    exact hK _ _ (XT.refl _ _) rfl
  · intro g h; cases h
  · intro b' W hE hb hdep K hK
    have e136 : b'.tmps[136]?.getD undef = .int .i64 f1 := pureX (hdep 7 (some 136) (by kernel_rfl) rfl)
    have e144 : b'.tmps[144]?.getD undef = .int .i64 (100000 * pg) := pureX (hdep 15 (some 144) (by kernel_rfl) rfl)
    clear hdep hb
    go_wp2
    exact hK _ _ (XT.refl _ _) rfl
  · intro g h; cases h
  · intro b' W hE hb hdep K hK
    have e132 : b'.tmps[132]?.getD undef = .int .i64 (100000 * b.fed) := pureX (hdep 3 (some 132) (by kernel_rfl) rfl)
    have e145 : b'.tmps[145]?.getD undef = .int .i64 (f1 + 100000 * pg) := pureX (hdep 16 (some 145) (by kernel_rfl) rfl)
    clear hdep hb
    go_wp2
    exact hK _ _ (XT.refl _ _) rfl
  · intro g h; cases h
  · intro b' W hE hb hdep K hK
    have e129 : b'.tmps[129]?.getD undef = .pointer (some ⟨gt, 0, none⟩) := pureX (hdep 0 (some 129) (by kernel_rfl) rfl)
    clear hdep hb
    go_wp2
    exact hK _ _ (XT.refl _ _) rfl
  · intro g h; cases h
  · intro b' W hE hb hdep K hK
    have e147 : b'.tmps[147]?.getD undef = .pointer (some ⟨gt, 0, none⟩) := pureX (hdep 18 (some 147) (by kernel_rfl) rfl)
    clear hdep hb
    go_wp2
    exact hK _ _ (XT.refl _ _) rfl
  intro f W hE hR
  have e129 : f 129 = .pointer (some ⟨gt, 0, none⟩) := pureX (hR 0 (some 129) rfl)
  have e130 : f 130 = .pointer (some ⟨w.heap.size, 1, none⟩) := pureX (hR 1 (some 130) rfl)
  have e131 : f 131 = .int .i64 b.fed := pureX (hR 2 (some 131) rfl)
  have e132 : f 132 = .int .i64 (100000 * b.fed) := pureX (hR 3 (some 132) rfl)
  have e133 : f 133 = .pointer (some ⟨gt, 0, none⟩) := pureX (hR 4 (some 133) rfl)
  have e134 : f 134 = .pointer (some ⟨gt, 0, none⟩) := pureX (hR 5 (some 134) rfl)
  have e135 : f 135 = .pointer (some ⟨gt, 1, none⟩) := pureX (hR 6 (some 135) rfl)
  have e136 : f 136 = .int .i64 f1 := pureX (hR 7 (some 136) rfl)
  have e137 : f 137 = .pointer (some ⟨(w.heap.size + 1), 4, none⟩) := pureX (hR 8 (some 137) rfl)
  have e138 : f 138 = .agg #[.int .i64 m.grass.1, .int .i64 m.grass.2] := pureX (hR 9 (some 138) rfl)
  have e139 : f 139 = .slice a n cap := pureX (hR 10 (some 139) rfl)
  have e140 : f 140 = .int .i64 (7 * (i : Int)) := pureX (hR 11 (some 140) rfl)
  have e141 : f 141 = .int .i64 (7 * (i : Int) + 1) := pureX (hR 12 (some 141) rfl)
  have e142 : f 142 = .int .u32 x1 := pureX (hR 13 (some 142) rfl)
  have e143 : f 143 = .int .i64 pg := pureX (hR 14 (some 143) rfl)
  have e144 : f 144 = .int .i64 (100000 * pg) := pureX (hR 15 (some 144) rfl)
  have e145 : f 145 = .int .i64 (f1 + 100000 * pg) := pureX (hR 16 (some 145) rfl)
  have e146 : f 146 = .int .i64 (mn (100000 * b.fed) (f1 + 100000 * pg)) := pureX (hR 17 (some 146) rfl)
  have e147 : f 147 = .pointer (some ⟨gt, 0, none⟩) := pureX (hR 18 (some 147) rfl)
  have e148 : f 148 = .pointer (some ⟨gt, 1, none⟩) := pureX (hR 19 (some 148) rfl)
  clear hR
  simp only [List.filterMap_cons, List.filterMap_nil, id, puts, Act.put, List.setIfInBounds_toArray, List.set_cons_succ, List.set_cons_zero, e129, e130, e131, e132, e133, e134, e135, e136, e137, e138, e139, e140, e141, e142, e143, e144, e145, e146, e147, e148]
  have xE := drew_ext (xt_ext2 hE)
  have rbW9 := xE.row rbW8
  have rmW9 := xE.row rmW8
  have rtW9 := xE.row rtW8
  have hgW9 : w.grownBy W (some gt) := grown_trans hgW8 (xE.grown _)
  have hwW9 := Lib.hid (hwW8.out.below xE (Nat.le_refl _))
  clear hE xE hwW8 hgW8 rbW8 rmW8 rtW8 e129 e130 e131 e132 e133 e134 e135 e136 e137 e138 e139 e140 e141 e142 e143 e144 e145 e146 e147 e148
  generalize W = W9 at *
  obtain ⟨_, cn, fn, zn⟩ := row_facts rtW9
  go_wp2_with fail
  have hG := grown_setCell W9 ⟨gt, 1, none⟩ (.int .i64 (mn (100000 * b.fed) (f1 + 100000 * pg)))
  have rbWA := row_grown rbW9 hG (by simp only; omega)
  have rmWA := row_grown rmW9 hG (by simp only; omega)
  have rtWA : rowOf (W9.setCell ⟨gt, 1, none⟩ (.int .i64 (mn (100000 * b.fed) (f1 + 100000 * pg)))) gt = some #[.int .i64 w3, .int .i64 (mn (100000 * b.fed) (f1 + 100000 * pg)), .int .i64 t.sore] := rowOf_setCell_o rtW9 _
  have hgWA : w.grownBy (W9.setCell ⟨gt, 1, none⟩ (.int .i64 (mn (100000 * b.fed) (f1 + 100000 * pg)))) (some gt) := grown_trans hgW9 hG
  have hwWA := Lib.hid (hwW9.out.grown hG HNE.out)
  clear hG cn fn zn hgW9 hwW9 rbW9 rmW9 rtW9
  generalize (W9.setCell ⟨gt, 1, none⟩ (.int .i64 (mn (100000 * b.fed) (f1 + 100000 * pg)))) = WA at *
  obtain ⟨f2, hf2⟩ : ∃ v, mn (100000 * b.fed) (f1 + 100000 * pg) = v := ⟨_, rfl⟩
  rw [hf2] at rtWA
  have Hf2 := Lib.hid hf2
  clear hf2
  go_wp2_with fail
  refine wp_drawsR (by kernel_rfl) [] [some 149, some 150, some 151, some 152, some 153, some 154, some 155, some 156, some 157, some 158, some 159, some 160, some 161, some 162, some 163, some 164, some 165, some 166, some 167, some 168, some 169, some 170] (by kernel_rfl) (fun ix v W => match ix with
    | 0 => v = .pointer (some ⟨gt, 0, none⟩)
    | 1 => v = .pointer (some ⟨gt, 0, none⟩)
    | 2 => v = .pointer (some ⟨gt, 0, none⟩)
    | 3 => v = .pointer (some ⟨gt, 2, none⟩)
    | 4 => v = .int .i64 t.sore
    | 5 => v = .pointer (some ⟨w.heap.size, 10, none⟩)
    | 6 => v = .agg #[.int .i64 b.rub.1, .int .i64 b.rub.2]
    | 7 => v = .slice a n cap
    | 8 => v = .int .i64 (7 * (i : Int))
    | 9 => v = .int .i64 (7 * (i : Int) + 2)
    | 10 => v = .int .u32 x2
    | 11 => v = .int .i64 pu
    | 12 => v = .pointer (some ⟨(w.heap.size + 1), 0, none⟩)
    | 13 => v = .int .i64 m.hours
    | 14 => v = .int .i64 (pu * m.hours)
    | 15 => v = .pointer (some ⟨(w.heap.size + 1), 1, none⟩)
    | 16 => v = .int .i64 m.load
    | 17 => v = .int .i64 (pu * m.hours * m.load)
    | 18 => v = .int .i64 (t.sore + pu * m.hours * m.load)
    | 19 => v = .int .i64 (mn 1000000000 (t.sore + pu * m.hours * m.load))
    | 20 => v = .pointer (some ⟨gt, 0, none⟩)
    | 21 => v = .pointer (some ⟨gt, 2, none⟩)
    | _ => True) ⟨⟨?_, ?_⟩, ⟨?_, ?_⟩, ⟨?_, ?_⟩, ⟨?_, ?_⟩, ⟨?_, ?_⟩, ⟨?_, ?_⟩, ⟨?_, ?_⟩, ⟨?_, ?_⟩, ⟨?_, ?_⟩, ⟨?_, ?_⟩, ⟨?_, ?_⟩, ⟨?_, ?_⟩, ⟨?_, ?_⟩, ⟨?_, ?_⟩, ⟨?_, ?_⟩, ⟨?_, ?_⟩, ⟨?_, ?_⟩, ⟨?_, ?_⟩, ⟨?_, ?_⟩, ⟨?_, ?_⟩, ⟨?_, ?_⟩, ⟨?_, ?_⟩, ?_⟩
  · intro g h; cases h
  · intro b' W hE hb hdep K hK
    have e0 : b'.tmps[0]?.getD undef = .pointer (some ⟨gt, 0, none⟩) := hb 0 (by decide)
    clear hdep hb
    go_wp2
    exact hK _ _ (XT.refl _ _) rfl
  · intro g h; cases h
  · intro b' W hE hb hdep K hK
    have e0 : b'.tmps[0]?.getD undef = .pointer (some ⟨gt, 0, none⟩) := hb 0 (by decide)
    clear hdep hb
    go_wp2
    exact hK _ _ (XT.refl _ _) rfl
  · intro g h; cases h
  · intro b' W hE hb hdep K hK
    have e150 : b'.tmps[150]?.getD undef = .pointer (some ⟨gt, 0, none⟩) := pureX (hdep 1 (some 150) (by kernel_rfl) rfl)
    clear hdep hb
    go_wp2
    exact hK _ _ (XT.refl _ _) rfl
  · intro g h; cases h
  · intro b' W hE hb hdep K hK
    have e151 : b'.tmps[151]?.getD undef = .pointer (some ⟨gt, 0, none⟩) := pureX (hdep 2 (some 151) (by kernel_rfl) rfl)
    clear hdep hb
    go_wp2
    exact hK _ _ (XT.refl _ _) rfl
  · intro g h; cases h
  · intro b' W hE hb hdep K hK
    have e152 : b'.tmps[152]?.getD undef = .pointer (some ⟨gt, 2, none⟩) := pureX (hdep 3 (some 152) (by kernel_rfl) rfl)
    clear hdep hb
    obtain ⟨_, _, -, _⟩ := row_facts (hE.row ((rowOf_drew _ _).trans rbWA) (by first | (simp; done) | (simp; omega)))
    obtain ⟨_, _, -, _⟩ := row_facts (hE.row ((rowOf_drew _ _).trans rmWA) (by first | (simp; done) | (simp; omega)))
    obtain ⟨_, _, -, _⟩ := row_facts (hE.row ((rowOf_drew _ _).trans rtWA) (by first | (simp; done) | (simp; omega)))
    go_wp2
    exact hK _ _ (XT.refl _ _) rfl
  · intro g h; cases h
  · intro b' W hE hb hdep K hK
    have e7 : b'.tmps[7]?.getD undef = .pointer (some ⟨w.heap.size, 0, none⟩) := hb 7 (by decide)
    clear hdep hb
    go_wp2
    exact hK _ _ (XT.refl _ _) rfl
  · intro g h; cases h
  · intro b' W hE hb hdep K hK
    have e154 : b'.tmps[154]?.getD undef = .pointer (some ⟨w.heap.size, 10, none⟩) := pureX (hdep 5 (some 154) (by kernel_rfl) rfl)
    clear hdep hb
    obtain ⟨_, _, -, _⟩ := row_facts (hE.row ((rowOf_drew _ _).trans rbWA) (by first | (simp; done) | (simp; omega)))
    obtain ⟨_, _, -, _⟩ := row_facts (hE.row ((rowOf_drew _ _).trans rmWA) (by first | (simp; done) | (simp; omega)))
    obtain ⟨_, _, -, _⟩ := row_facts (hE.row ((rowOf_drew _ _).trans rtWA) (by first | (simp; done) | (simp; omega)))
    go_wp2
    exact hK _ _ (XT.refl _ _) rfl
  · intro g h; cases h
  · intro b' W hE hb hdep K hK
    have e4 : b'.tmps[4]?.getD undef = .slice a n cap := hb 4 (by decide)
    clear hdep hb
    go_wp2
    exact hK _ _ (XT.refl _ _) rfl
  · intro g h; cases h
  · intro b' W hE hb hdep K hK
    have e13 : b'.tmps[13]?.getD undef = .int .i64 (7 * (i : Int)) := hb 13 (by decide)
    clear hdep hb
    go_wp2
    exact hK _ _ (XT.refl _ _) rfl
  · intro g h; cases h
  · intro b' W hE hb hdep K hK
    have e157 : b'.tmps[157]?.getD undef = .int .i64 (7 * (i : Int)) := pureX (hdep 8 (some 157) (by kernel_rfl) rfl)
    clear hdep hb
    go_wp2
    exact hK _ _ (XT.refl _ _) rfl
  · intro g h; cases h
  · intro b' W hE hb hdep K hK
    have e156 : b'.tmps[156]?.getD undef = .slice a n cap := pureX (hdep 7 (some 156) (by kernel_rfl) rfl)
    have e158 : b'.tmps[158]?.getD undef = .int .i64 (7 * (i : Int) + 2) := pureX (hdep 9 (some 158) (by kernel_rfl) rfl)
    clear hdep hb
    go_wp2_with fail
    refine (at_n (7 * i + 2) a cap n xs _ x2 _ (by omega) (by omega) HN.out (hwWA.out.ahead (xt_ext2 hE)) X2.out).mono ?_
    rintro e W' ⟨rfl, hB⟩
    exact hK _ _ (Ext.xt hB) rfl
  · intro g h; cases h
  · intro b' W hE hb hdep K hK
    have e155 : b'.tmps[155]?.getD undef = .agg #[.int .i64 b.rub.1, .int .i64 b.rub.2] := pureX (hdep 6 (some 155) (by kernel_rfl) rfl)
    have e159 : b'.tmps[159]?.getD undef = .int .u32 x2 := pureX (hdep 10 (some 159) (by kernel_rfl) rfl)
    clear hdep hb
    go_wp2_with fail
    refine (pick_any b.rub x2 pu _ (by omega) (by omega) (by omega) U2.out Ppu.out).mono ?_
    rintro e W' ⟨rfl, hB⟩
    exact hK _ _ (Ext.xt hB) rfl
  · intro g h; cases h
  · intro b' W hE hb hdep K hK
    have e9 : b'.tmps[9]?.getD undef = .pointer (some ⟨(w.heap.size + 1), 0, none⟩) := hb 9 (by decide)
    clear hdep hb
    go_wp2
    exact hK _ _ (XT.refl _ _) rfl
  · intro g h; cases h
  · intro b' W hE hb hdep K hK
    have e161 : b'.tmps[161]?.getD undef = .pointer (some ⟨(w.heap.size + 1), 0, none⟩) := pureX (hdep 12 (some 161) (by kernel_rfl) rfl)
    clear hdep hb
    obtain ⟨_, _, -, _⟩ := row_facts (hE.row ((rowOf_drew _ _).trans rbWA) (by first | (simp; done) | (simp; omega)))
    obtain ⟨_, _, -, _⟩ := row_facts (hE.row ((rowOf_drew _ _).trans rmWA) (by first | (simp; done) | (simp; omega)))
    obtain ⟨_, _, -, _⟩ := row_facts (hE.row ((rowOf_drew _ _).trans rtWA) (by first | (simp; done) | (simp; omega)))
    go_wp2
    exact hK _ _ (XT.refl _ _) rfl
  · intro g h; cases h
  · intro b' W hE hb hdep K hK
    have e160 : b'.tmps[160]?.getD undef = .int .i64 pu := pureX (hdep 11 (some 160) (by kernel_rfl) rfl)
    have e162 : b'.tmps[162]?.getD undef = .int .i64 m.hours := pureX (hdep 13 (some 162) (by kernel_rfl) rfl)
    clear hdep hb
    go_wp2
    exact hK _ _ (XT.refl _ _) rfl
  · intro g h; cases h
  · intro b' W hE hb hdep K hK
    have e9 : b'.tmps[9]?.getD undef = .pointer (some ⟨(w.heap.size + 1), 0, none⟩) := hb 9 (by decide)
    clear hdep hb
    go_wp2
    exact hK _ _ (XT.refl _ _) rfl
  · intro g h; cases h
  · intro b' W hE hb hdep K hK
    have e164 : b'.tmps[164]?.getD undef = .pointer (some ⟨(w.heap.size + 1), 1, none⟩) := pureX (hdep 15 (some 164) (by kernel_rfl) rfl)
    clear hdep hb
    obtain ⟨_, _, -, _⟩ := row_facts (hE.row ((rowOf_drew _ _).trans rbWA) (by first | (simp; done) | (simp; omega)))
    obtain ⟨_, _, -, _⟩ := row_facts (hE.row ((rowOf_drew _ _).trans rmWA) (by first | (simp; done) | (simp; omega)))
    obtain ⟨_, _, -, _⟩ := row_facts (hE.row ((rowOf_drew _ _).trans rtWA) (by first | (simp; done) | (simp; omega)))
    go_wp2
    exact hK _ _ (XT.refl _ _) rfl
  · intro g h; cases h
  · intro b' W hE hb hdep K hK
    have e163 : b'.tmps[163]?.getD undef = .int .i64 (pu * m.hours) := pureX (hdep 14 (some 163) (by kernel_rfl) rfl)
    have e165 : b'.tmps[165]?.getD undef = .int .i64 m.load := pureX (hdep 16 (some 165) (by kernel_rfl) rfl)
    clear hdep hb
    go_wp2
    exact hK _ _ (XT.refl _ _) rfl
  · intro g h; cases h
  · intro b' W hE hb hdep K hK
    have e153 : b'.tmps[153]?.getD undef = .int .i64 t.sore := pureX (hdep 4 (some 153) (by kernel_rfl) rfl)
    have e166 : b'.tmps[166]?.getD undef = .int .i64 (pu * m.hours * m.load) := pureX (hdep 17 (some 166) (by kernel_rfl) rfl)
    clear hdep hb
    go_wp2
    exact hK _ _ (XT.refl _ _) rfl
  · intro g h; cases h
  · intro b' W hE hb hdep K hK
    have e167 : b'.tmps[167]?.getD undef = .int .i64 (t.sore + pu * m.hours * m.load) := pureX (hdep 18 (some 167) (by kernel_rfl) rfl)
    clear hdep hb
    go_wp2
    exact hK _ _ (XT.refl _ _) rfl
  · intro g h; cases h
  · intro b' W hE hb hdep K hK
    have e149 : b'.tmps[149]?.getD undef = .pointer (some ⟨gt, 0, none⟩) := pureX (hdep 0 (some 149) (by kernel_rfl) rfl)
    clear hdep hb
    go_wp2
    exact hK _ _ (XT.refl _ _) rfl
  · intro g h; cases h
  · intro b' W hE hb hdep K hK
    have e169 : b'.tmps[169]?.getD undef = .pointer (some ⟨gt, 0, none⟩) := pureX (hdep 20 (some 169) (by kernel_rfl) rfl)
    clear hdep hb
    go_wp2
    exact hK _ _ (XT.refl _ _) rfl
  intro f W hE hR
  have e149 : f 149 = .pointer (some ⟨gt, 0, none⟩) := pureX (hR 0 (some 149) rfl)
  have e150 : f 150 = .pointer (some ⟨gt, 0, none⟩) := pureX (hR 1 (some 150) rfl)
  have e151 : f 151 = .pointer (some ⟨gt, 0, none⟩) := pureX (hR 2 (some 151) rfl)
  have e152 : f 152 = .pointer (some ⟨gt, 2, none⟩) := pureX (hR 3 (some 152) rfl)
  have e153 : f 153 = .int .i64 t.sore := pureX (hR 4 (some 153) rfl)
  have e154 : f 154 = .pointer (some ⟨w.heap.size, 10, none⟩) := pureX (hR 5 (some 154) rfl)
  have e155 : f 155 = .agg #[.int .i64 b.rub.1, .int .i64 b.rub.2] := pureX (hR 6 (some 155) rfl)
  have e156 : f 156 = .slice a n cap := pureX (hR 7 (some 156) rfl)
  have e157 : f 157 = .int .i64 (7 * (i : Int)) := pureX (hR 8 (some 157) rfl)
  have e158 : f 158 = .int .i64 (7 * (i : Int) + 2) := pureX (hR 9 (some 158) rfl)
  have e159 : f 159 = .int .u32 x2 := pureX (hR 10 (some 159) rfl)
  have e160 : f 160 = .int .i64 pu := pureX (hR 11 (some 160) rfl)
  have e161 : f 161 = .pointer (some ⟨(w.heap.size + 1), 0, none⟩) := pureX (hR 12 (some 161) rfl)
  have e162 : f 162 = .int .i64 m.hours := pureX (hR 13 (some 162) rfl)
  have e163 : f 163 = .int .i64 (pu * m.hours) := pureX (hR 14 (some 163) rfl)
  have e164 : f 164 = .pointer (some ⟨(w.heap.size + 1), 1, none⟩) := pureX (hR 15 (some 164) rfl)
  have e165 : f 165 = .int .i64 m.load := pureX (hR 16 (some 165) rfl)
  have e166 : f 166 = .int .i64 (pu * m.hours * m.load) := pureX (hR 17 (some 166) rfl)
  have e167 : f 167 = .int .i64 (t.sore + pu * m.hours * m.load) := pureX (hR 18 (some 167) rfl)
  have e168 : f 168 = .int .i64 (mn 1000000000 (t.sore + pu * m.hours * m.load)) := pureX (hR 19 (some 168) rfl)
  have e169 : f 169 = .pointer (some ⟨gt, 0, none⟩) := pureX (hR 20 (some 169) rfl)
  have e170 : f 170 = .pointer (some ⟨gt, 2, none⟩) := pureX (hR 21 (some 170) rfl)
  clear hR
  simp only [List.filterMap_cons, List.filterMap_nil, id, puts, Act.put, List.setIfInBounds_toArray, List.set_cons_succ, List.set_cons_zero, e149, e150, e151, e152, e153, e154, e155, e156, e157, e158, e159, e160, e161, e162, e163, e164, e165, e166, e167, e168, e169, e170]
  have xE := drew_ext (xt_ext2 hE)
  have rbWB := xE.row rbWA
  have rmWB := xE.row rmWA
  have rtWB := xE.row rtWA
  have hgWB : w.grownBy W (some gt) := grown_trans hgWA (xE.grown _)
  have hwWB := Lib.hid (hwWA.out.below xE (Nat.le_refl _))
  clear hE xE hwWA hgWA rbWA rmWA rtWA e149 e150 e151 e152 e153 e154 e155 e156 e157 e158 e159 e160 e161 e162 e163 e164 e165 e166 e167 e168 e169 e170
  generalize W = WB at *
  obtain ⟨_, cn, fn, zn⟩ := row_facts rtWB
  have rtN : rowOf (WB.setCell ⟨gt, 2, none⟩ (.int .i64 (mn 1000000000 (t.sore + pu * m.hours * m.load)))) gt = some #[.int .i64 w3, .int .i64 f2, .int .i64 (mn 1000000000 (t.sore + pu * m.hours * m.load))] := rowOf_setCell_o rtWB _
  have hgN : w.grownBy (WB.setCell ⟨gt, 2, none⟩ (.int .i64 (mn 1000000000 (t.sore + pu * m.hours * m.load)))) (some gt) := grown_trans hgWB (grown_setCell _ _ _)
  have E1 : w3T b true m h t = w3 := by rw [w3T, HEW.out, ← Hw3.out, HH.out]
  have E2 : f2T b m h t = f2 := by rw [f2T, HEF.out, Hf1.out, ← Hf2.out, HH.out]
  have E3 : s1T m h t = mn 1000000000 (t.sore + pu * m.hours * m.load) := by rw [s1T, HH.out]
  obtain ⟨_, cmC, fmC, zmC⟩ := row_facts rmWB
  by_cases hh0 : ¬ m.hours = 0
  · have E4 : s2T b m h t = mn 1000000000 (t.sore + pu * m.hours * m.load) := by rw [s2T, if_neg hh0, E3]
    have rtM : rowOf (WB.setCell ⟨gt, 2, none⟩ (.int .i64 (mn 1000000000 (t.sore + pu * m.hours * m.load)))) gt = some #[.int .i64 (w3T b true m h t), .int .i64 (f2T b m h t), .int .i64 (s2T b m h t)] := by rw [E1, E2, E4]; exact rtN
    clear rtN
    clear E1 E2 E3 E4
    go_wp2
    go_returns
    first | exact ⟨rfl, fun _ => rtM, hgN⟩ | exact ⟨rfl, rtM, hgN⟩
  have hh1 : m.hours = 0 := by omega
  have E30 : s1T m h t = mn 1000000000 t.sore := by rw [E3, hh1]; simp
  have F1 := Lib.hid E1
  have F2 := Lib.hid E2
  have F3 := Lib.hid E30
  clear E1 E2 E3 E30 rtN hgN
  go_wp2_with fail
  have hG := grown_setCell WB ⟨gt, 2, none⟩ (.int .i64 (mn 1000000000 t.sore))
  have rbWC := row_grown rbWB hG (by simp only; omega)
  have rmWC := row_grown rmWB hG (by simp only; omega)
  have rtWC : rowOf (WB.setCell ⟨gt, 2, none⟩ (.int .i64 (mn 1000000000 t.sore))) gt = some #[.int .i64 w3, .int .i64 f2, .int .i64 (mn 1000000000 t.sore)] := rowOf_setCell_o rtWB _
  have hgWC : w.grownBy (WB.setCell ⟨gt, 2, none⟩ (.int .i64 (mn 1000000000 t.sore))) (some gt) := grown_trans hgWB hG
  have hwWC := Lib.hid (hwWB.out.grown hG HNE.out)
  clear hG cn fn zn hgWB hwWB rbWB rmWB rtWB
  generalize (WB.setCell ⟨gt, 2, none⟩ (.int .i64 (mn 1000000000 t.sore))) = WC at *
  clear cmC fmC zmC
  obtain ⟨s1, hs1⟩ : ∃ v, mn 1000000000 t.sore = v := ⟨_, rfl⟩
  rw [hs1] at rtWC
  have bs1 : 0 ≤ s1 ∧ s1 ≤ 1000000000 := by rw [← hs1, mn_min]; omega
  obtain ⟨bs11, bs12⟩ := bs1
  have E4 : s2T b m h t = mx 0 (s1 - 1000000 * b.heal) := by rw [s2T, if_pos hh1, F3.out, hs1]
  have F4 := Lib.hid E4
  clear hs1 E4
  refine wp_drawsR (by kernel_rfl) [] [some 174, some 175, some 176, some 177, some 178, some 179, some 180, some 181, some 182, some 183, some 184, some 185] (by kernel_rfl) (fun ix v W => match ix with
    | 0 => v = .pointer (some ⟨gt, 0, none⟩)
    | 1 => v = .pointer (some ⟨gt, 0, none⟩)
    | 2 => v = .pointer (some ⟨gt, 0, none⟩)
    | 3 => v = .pointer (some ⟨gt, 2, none⟩)
    | 4 => v = .int .i64 s1
    | 5 => v = .pointer (some ⟨w.heap.size, 14, none⟩)
    | 6 => v = .int .i64 b.heal
    | 7 => v = .int .i64 (1000000 * b.heal)
    | 8 => v = .int .i64 (s1 - 1000000 * b.heal)
    | 9 => v = .int .i64 (mx 0 (s1 - 1000000 * b.heal))
    | 10 => v = .pointer (some ⟨gt, 0, none⟩)
    | 11 => v = .pointer (some ⟨gt, 2, none⟩)
    | _ => True) ⟨⟨?_, ?_⟩, ⟨?_, ?_⟩, ⟨?_, ?_⟩, ⟨?_, ?_⟩, ⟨?_, ?_⟩, ⟨?_, ?_⟩, ⟨?_, ?_⟩, ⟨?_, ?_⟩, ⟨?_, ?_⟩, ⟨?_, ?_⟩, ⟨?_, ?_⟩, ⟨?_, ?_⟩, ?_⟩
  · intro g h; cases h
  · intro b' W hE hb hdep K hK
    have e0 : b'.tmps[0]?.getD undef = .pointer (some ⟨gt, 0, none⟩) := hb 0 (by decide)
    clear hdep hb
    go_wp2
    exact hK _ _ (XT.refl _ _) rfl
  · intro g h; cases h
  · intro b' W hE hb hdep K hK
    have e0 : b'.tmps[0]?.getD undef = .pointer (some ⟨gt, 0, none⟩) := hb 0 (by decide)
    clear hdep hb
    go_wp2
    exact hK _ _ (XT.refl _ _) rfl
  · intro g h; cases h
  · intro b' W hE hb hdep K hK
    have e175 : b'.tmps[175]?.getD undef = .pointer (some ⟨gt, 0, none⟩) := pureX (hdep 1 (some 175) (by kernel_rfl) rfl)
    clear hdep hb
    go_wp2
    exact hK _ _ (XT.refl _ _) rfl
  · intro g h; cases h
  · intro b' W hE hb hdep K hK
    have e176 : b'.tmps[176]?.getD undef = .pointer (some ⟨gt, 0, none⟩) := pureX (hdep 2 (some 176) (by kernel_rfl) rfl)
    clear hdep hb
    go_wp2
    exact hK _ _ (XT.refl _ _) rfl
  · intro g h; cases h
  · intro b' W hE hb hdep K hK
    have e177 : b'.tmps[177]?.getD undef = .pointer (some ⟨gt, 2, none⟩) := pureX (hdep 3 (some 177) (by kernel_rfl) rfl)
    clear hdep hb
    obtain ⟨_, _, -, _⟩ := row_facts (hE.row ((rowOf_drew _ _).trans rbWC) (by first | (simp; done) | (simp; omega)))
    obtain ⟨_, _, -, _⟩ := row_facts (hE.row ((rowOf_drew _ _).trans rmWC) (by first | (simp; done) | (simp; omega)))
    obtain ⟨_, _, -, _⟩ := row_facts (hE.row ((rowOf_drew _ _).trans rtWC) (by first | (simp; done) | (simp; omega)))
    go_wp2
    exact hK _ _ (XT.refl _ _) rfl
  · intro g h; cases h
  · intro b' W hE hb hdep K hK
    have e7 : b'.tmps[7]?.getD undef = .pointer (some ⟨w.heap.size, 0, none⟩) := hb 7 (by decide)
    clear hdep hb
    go_wp2
    exact hK _ _ (XT.refl _ _) rfl
  · intro g h; cases h
  · intro b' W hE hb hdep K hK
    have e179 : b'.tmps[179]?.getD undef = .pointer (some ⟨w.heap.size, 14, none⟩) := pureX (hdep 5 (some 179) (by kernel_rfl) rfl)
    clear hdep hb
    obtain ⟨_, _, -, _⟩ := row_facts (hE.row ((rowOf_drew _ _).trans rbWC) (by first | (simp; done) | (simp; omega)))
    obtain ⟨_, _, -, _⟩ := row_facts (hE.row ((rowOf_drew _ _).trans rmWC) (by first | (simp; done) | (simp; omega)))
    obtain ⟨_, _, -, _⟩ := row_facts (hE.row ((rowOf_drew _ _).trans rtWC) (by first | (simp; done) | (simp; omega)))
    go_wp2
    exact hK _ _ (XT.refl _ _) rfl
  · intro g h; cases h
  · intro b' W hE hb hdep K hK
    have e180 : b'.tmps[180]?.getD undef = .int .i64 b.heal := pureX (hdep 6 (some 180) (by kernel_rfl) rfl)
    clear hdep hb
    go_wp2
    exact hK _ _ (XT.refl _ _) rfl
  · intro g h; cases h
  · intro b' W hE hb hdep K hK
    have e178 : b'.tmps[178]?.getD undef = .int .i64 s1 := pureX (hdep 4 (some 178) (by kernel_rfl) rfl)
    have e181 : b'.tmps[181]?.getD undef = .int .i64 (1000000 * b.heal) := pureX (hdep 7 (some 181) (by kernel_rfl) rfl)
    clear hdep hb
    go_wp2
    exact hK _ _ (XT.refl _ _) rfl
  · intro g h; cases h
  · intro b' W hE hb hdep K hK
    have e182 : b'.tmps[182]?.getD undef = .int .i64 (s1 - 1000000 * b.heal) := pureX (hdep 8 (some 182) (by kernel_rfl) rfl)
    clear hdep hb
    go_wp2
    exact hK _ _ (XT.refl _ _) rfl
  · intro g h; cases h
  · intro b' W hE hb hdep K hK
    have e174 : b'.tmps[174]?.getD undef = .pointer (some ⟨gt, 0, none⟩) := pureX (hdep 0 (some 174) (by kernel_rfl) rfl)
    clear hdep hb
    go_wp2
    exact hK _ _ (XT.refl _ _) rfl
  · intro g h; cases h
  · intro b' W hE hb hdep K hK
    have e184 : b'.tmps[184]?.getD undef = .pointer (some ⟨gt, 0, none⟩) := pureX (hdep 10 (some 184) (by kernel_rfl) rfl)
    clear hdep hb
    go_wp2
    exact hK _ _ (XT.refl _ _) rfl
  intro f W hE hR
  have e174 : f 174 = .pointer (some ⟨gt, 0, none⟩) := pureX (hR 0 (some 174) rfl)
  have e175 : f 175 = .pointer (some ⟨gt, 0, none⟩) := pureX (hR 1 (some 175) rfl)
  have e176 : f 176 = .pointer (some ⟨gt, 0, none⟩) := pureX (hR 2 (some 176) rfl)
  have e177 : f 177 = .pointer (some ⟨gt, 2, none⟩) := pureX (hR 3 (some 177) rfl)
  have e178 : f 178 = .int .i64 s1 := pureX (hR 4 (some 178) rfl)
  have e179 : f 179 = .pointer (some ⟨w.heap.size, 14, none⟩) := pureX (hR 5 (some 179) rfl)
  have e180 : f 180 = .int .i64 b.heal := pureX (hR 6 (some 180) rfl)
  have e181 : f 181 = .int .i64 (1000000 * b.heal) := pureX (hR 7 (some 181) rfl)
  have e182 : f 182 = .int .i64 (s1 - 1000000 * b.heal) := pureX (hR 8 (some 182) rfl)
  have e183 : f 183 = .int .i64 (mx 0 (s1 - 1000000 * b.heal)) := pureX (hR 9 (some 183) rfl)
  have e184 : f 184 = .pointer (some ⟨gt, 0, none⟩) := pureX (hR 10 (some 184) rfl)
  have e185 : f 185 = .pointer (some ⟨gt, 2, none⟩) := pureX (hR 11 (some 185) rfl)
  clear hR
  simp only [List.filterMap_cons, List.filterMap_nil, id, puts, Act.put, List.setIfInBounds_toArray, List.set_cons_succ, List.set_cons_zero, e174, e175, e176, e177, e178, e179, e180, e181, e182, e183, e184, e185]
  have xE := drew_ext (xt_ext2 hE)
  have rbWD := xE.row rbWC
  have rmWD := xE.row rmWC
  have rtWD := xE.row rtWC
  have hgWD : w.grownBy W (some gt) := grown_trans hgWC (xE.grown _)
  have hwWD := Lib.hid (hwWC.out.below xE (Nat.le_refl _))
  clear hE xE hwWC hgWC rbWC rmWC rtWC e174 e175 e176 e177 e178 e179 e180 e181 e182 e183 e184 e185
  generalize W = WD at *
  obtain ⟨_, cn, fn, zn⟩ := row_facts rtWD
  have rtN : rowOf (WD.setCell ⟨gt, 2, none⟩ (.int .i64 (mx 0 (s1 - 1000000 * b.heal)))) gt = some #[.int .i64 w3, .int .i64 f2, .int .i64 (mx 0 (s1 - 1000000 * b.heal))] := rowOf_setCell_o rtWD _
  have hgN : w.grownBy (WD.setCell ⟨gt, 2, none⟩ (.int .i64 (mx 0 (s1 - 1000000 * b.heal)))) (some gt) := grown_trans hgWD (grown_setCell _ _ _)
  have rtM : rowOf (WD.setCell ⟨gt, 2, none⟩ (.int .i64 (mx 0 (s1 - 1000000 * b.heal)))) gt = some #[.int .i64 (w3T b true m h t), .int .i64 (f2T b m h t), .int .i64 (s2T b m h t)] := by rw [F1.out, F2.out, F4.out]; exact rtN
  clear rtN
  clear F1 F2 F3 F4
  go_wp2
  go_returns
  first | exact ⟨rfl, fun _ => rtM, hgN⟩ | exact ⟨rfl, rtM, hgN⟩

set_option maxRecDepth 100000 in
theorem lives_any (b : Br) (k : Bool) (m : Mr) (t : Tr) (h : Ch) (a : Option Addr) (cap n : Nat) (xs : List Int) (i gt : Nat) (w : World) (r : Bool) (hh : chS b m xs i = h) (hr : livT k m h t = r) (hi : i < 100) (hn : n = xs.length) (hw : WordsIn w a cap xs) (hu : ∀ x ∈ xs, inU x) (hne : ∀ ad, a = some ad → ad.block < gt) (rt : rowOf w gt = some #[.int .i64 t.water, .int .i64 t.fat, .int .i64 t.sore]) (hb : BdB b) (hm : BdM m) (c : Cm) (hc : BdC b c) (ht : Tin t c) :
    Calls Try.prog 46 #[.pointer (some ⟨gt, 0, none⟩), .agg #[.int .i64 b.full, .int .i64 b.fed, .int .i64 b.rest.1, .int .i64 b.rest.2, .int .i64 b.heat.1, .int .i64 b.heat.2, .int .i64 b.toil.1, .int .i64 b.toil.2, .int .i64 b.burn.1, .int .i64 b.burn.2, .int .i64 b.rub.1, .int .i64 b.rub.2, .int .i64 b.milk.1, .int .i64 b.milk.2, .int .i64 b.heal, .int .i64 b.strong.1, .int .i64 b.strong.2], .bool k, .agg #[.int .i64 m.hours, .int .i64 m.load, .int .i64 m.heat.1, .int .i64 m.heat.2, .int .i64 m.grass.1, .int .i64 m.grass.2, .int .i64 m.drinks.1, .int .i64 m.drinks.2], .slice a n cap, .int .i64 (i : Int)] w fun e w' => e = .returned (.bool r) ∧ (r = true → rowOf w' gt = some #[.int .i64 (w3T b k m h t), .int .i64 (f2T b m h t), .int .i64 (s2T b m h t)]) ∧ w.grownBy w' (some gt) := by
  cases k
  · exact lives_false b m t h a cap n xs i gt w r hh hr hi hn hw hu hne rt hb hm c hc ht
  · exact lives_true b m t h a cap n xs i gt w r hh hr hi hn hw hu hne rt hb hm c hc ht
end Go.Proofs.Ytafdcbdbllpcnaa
