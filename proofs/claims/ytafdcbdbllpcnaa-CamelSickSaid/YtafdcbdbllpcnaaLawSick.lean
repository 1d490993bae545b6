/- The walk of the third part of the stage's theorem: what is told of mange is true. -/
import Derived.Test.YtafdcbdbllpcnaaSickT
import Derived.Test.YtafdcbdbllpcnaaDrawQ
import Derived.Test.YtafdcbdbllpcnaaOpenM
import Derived.Test.YtafdcbdbllpcnaaRefQ
import Derived.Test.YtafdcbdbllpcnaaLawPick
import Derived.Test.YtafdcbdbllpcnaaLawBeg
import Derived.BigRegion
import Derived.Deep.DeepCutAuto
set_option linter.unusedVariables false
set_option linter.unusedSimpArgs false
namespace Go.Proofs.Ytafdcbdbllpcnaa
open Go.RowKit
open Go.Proofs

attribute [local go_sem ↓] exec31s
attribute [local go_sem] store31 rowOf_alloc rowOf_drew setRow_alloc one_int one_bool
attribute [local irreducible] wpQuiet

theorem info4z : (Try.prog.info? 4).map (fun i => (i.zero, i.size, i.bytes)) = some (some (.bool false), 1, 1) := by kernel_rfl
/-- v is a slice of a block of its own that holds the row. -/
def TM (B n : Nat) (row : Array Value) (v : Value) (W : World) : Prop := ∃ g, v = .slice (some ⟨g, 0, none⟩) n n ∧ B ≤ g ∧ rowOf W g = some row
theorem tmR {B n : Nat} {row : Array Value} {v : Value} {W : World} (h : ∃ Wj, Ext Wj W ∧ TM B n row v Wj) : TM B n row v W := by
  obtain ⟨Wj, hE, g, h1, h2, h3⟩ := h
  exact ⟨g, h1, h2, (keep_row hE h3).1⟩
theorem made_all {v : Value} {n s : Nat} {cur : Array Value} (hv : v.cells = #[v]) (hs : s = 1) (h : madeCells v.cells (n * s) = cur) : ∀ k, k < n → cur[k]? = some v := by
  intro k hk
  have hl : cur.toList = List.replicate n v := by
    rw [← h, hv, toList_madeCells_one, hs]; simp
  rw [← Array.getElem?_toList, hl]
  simp [hk]

theorem one_news2 {W : World} {o : Obj} {v : Value} {e : TypeId} : ∀ j u, ([v] : List Value)[j]? = some u → ((W.alloc o).alloc (.cells #[v] e)).cell? ((⟨W.heap.size + 1, 0, none⟩ : Addr).add j) = some u := by
  have h := one_news (W := W.alloc o) (v := v) (e := e)
  simpa using h
theorem day_in {ms : List Mt} {n : Nat} {ds : List Int} {day : Int} (hms : ∀ x ∈ ms, okMt (n : Int) x) (hm : ∀ e, e ∈ ds ↔ e ∈ daysOf ms day) {b : Nat} (hb : b < ds.length) : 0 ≤ ds.getD b 0 ∧ ds.getD b 0 ≤ 100000 := by
  obtain ⟨-, x, hx, e⟩ := daysOf_mem.1 ((hm _).1 (mem_getD.2 ⟨b, hb, rfl⟩))
  obtain ⟨-, -, -, -, -, o6, o7⟩ := hms x hx
  rw [← e]; exact ⟨o6, o7⟩
theorem take_mem {ds : List Int} {p : Nat} (hp : p < ds.length) {e : Int} : e ∈ ds.take (p + 1) ↔ e ∈ ds.take p ∨ e = ds.getD p 0 := by
  rw [List.take_succ_eq_append_getElem hp, List.mem_append, List.mem_singleton]
  simp [hp]
theorem take_le {ds : List Int} {p : Nat} {d : Int} (hs : ∀ a b, a < b → b < ds.length → ds.getD a 0 ≤ ds.getD b 0) (hp : p < ds.length) (hd : ds.getD p 0 = d) {e : Int} (he : e ∈ ds.take p) : e ≤ d := by
  rw [List.mem_take_iff_getElem] at he
  obtain ⟨i, hi, rfl⟩ := he
  have := hs i p (by omega) hp
  rw [hd] at this
  have h2 : i < ds.length := by omega
  simpa [h2] using this

set_option maxRecDepth 100000 in
set_option maxHeartbeats 64000000 in
theorem camelSick_walk (halive : ∀ W, Calls Try.prog 14 #[] W fun e w' => e = .returned (.bool true) ∧ Below W.heap.size W w') (hmange : MangeC) (n day : Int) (wt : Int × Int) (fa : Option Addr) (fcap nf : Nat) (first : List Int) (ma : Option Addr) (mcap nm : Nat) (ms : List Mt) (a : Option Addr) (cap nb : Nat) (bs : List Int) (w : World) (hnf : nf = first.length) (hnm : nm = ms.length) (hf : IntsIn w fa fcap first) (hm : MeetsIn w ma mcap ms) (hnb : nb = bs.length) (hbs : WordsIn w a cap bs) (hbu : ∀ x ∈ bs, inU x) :
    Calls Try.prog 12 #[.int .i64 n, .slice fa nf fcap, .slice ma nm mcap, .agg #[.int .i64 wt.1, .int .i64 wt.2], .int .i64 day, .slice a nb cap] w fun e w' => e = .returned (.bool true) ∧ Below w.heap.size w w' := by
  have HAL := Lib.hid halive
  have HMG := Lib.hid hmange
  have HNF := Lib.hid hnf
  have HNM := Lib.hid hnm
  have HF := Lib.hid hf
  have HM := Lib.hid hm
  have HNB := Lib.hid hnb
  have HBS := Lib.hid hbs
  have HBU := Lib.hid hbu
  obtain ⟨x, hx⟩ : ∃ x, chkG n first ms wt day = x := ⟨_, rfl⟩
  have HX := Lib.hid hx
  by_cases h0 : x = 0
  · subst h0
    obtain ⟨⟨hn1, hn2⟩, ⟨hw1, hw2, hw3⟩, ⟨hd1, hd2⟩, ⟨hf2, hm2⟩, hF1, hM1⟩ := chkG_fine hx
    obtain ⟨nn, rfl⟩ : ∃ p : Nat, n = p := ⟨n.toNat, by omega⟩
    have HFI := Lib.hid hF1
    have HMS := Lib.hid hM1
    have hm250 : (nm : Int) ≤ 250 := by omega
    have hm200 : (nm : Int) ≤ 200 := by omega
    have hf30 : (nf : Int) ≤ 30 := by omega
    have hnn : (nn : Int) ≤ 30 := hn2
    have hnn1 : 1 ≤ nn := by omega
    obtain ⟨i0, hi0, hz0, hz1, hz2⟩ := info_parts info3z
    obtain ⟨i1, hi1, hx0, hx1, hx2⟩ := info_parts info3z
    have HI1 := Lib.hid hi1
    have HI2 := Lib.hid hx0
    have HI3 := Lib.hid hx1
    have HI4 := Lib.hid hx2
    clear hi1 hx0 hx1 hx2
    obtain ⟨j0, hj0, hy0, hy1, hy2⟩ := info_parts info4z
    obtain ⟨curX, hcx⟩ : ∃ cur, madeCells (Value.int .i64 0).cells ((nn : Int).toNat * i0.size) = cur := ⟨_, rfl⟩
    obtain ⟨curC, hcc⟩ : ∃ cur, madeCells (Value.bool false).cells ((nn : Int).toNat * j0.size) = cur := ⟨_, rfl⟩
    have hX0 := made_all rfl hz1 (show madeCells (Value.int .i64 0).cells (nn * i0.size) = curX by rw [← hcx]; simp)
    have hC0 := made_all rfl hy1 (show madeCells (Value.bool false).cells (nn * j0.size) = curC by rw [← hcc]; simp)
    have hmkX : ∀ W, (Instr.makeSlice 27 (.int .i64 (nn : Int)) (.int .i64 (nn : Int))).run Try.prog W = _ := fun W => run_make (P := Try.prog) W 27 3 i0 _ Try.underlying27 hi0 hz0 .i64 .i64 (nn : Int) (nn : Int) (by omega) (by omega) (by rw [hz2]; omega) (by omega)
    have hmkC : ∀ W, (Instr.makeSlice 102 (.int .i64 (nn : Int)) (.int .i64 (nn : Int))).run Try.prog W = _ := fun W => run_make (P := Try.prog) W 102 4 j0 _ Try.underlying102 hj0 hy0 .i64 .i64 (nn : Int) (nn : Int) (by omega) (by omega) (by rw [hy2]; omega) (by omega)
    simp only [Int.toNat_natCast] at hcx hcc
    simp only [Int.toNat_natCast, hcx] at hmkX
    simp only [Int.toNat_natCast, hcc] at hmkC
    clear hi0 hz0 hz1 hz2 hj0 hy0 hy1 hy2 hcx hcc
    have HKX := Lib.hid hmkX
    have HKC := Lib.hid hmkC
    have HX0 := Lib.hid hX0
    have HC0 := Lib.hid hC0
    have HSTART := Lib.hid (Sim.start (first := first) (ms := ms) (w := wt) nn (fun i hi => (hF1 i hi).1) (by omega))
    clear halive hmange hnf hnm hf hm hnb hbs hbu hx hF1 hM1 hf2 hm2 hmkX hmkC hX0 hC0
    go_enter Try.func12, Try.ntmps12
    go_wp2_with fail
    refine (HAL.out _).mono ?_
    rintro e W1 ⟨rfl, hB⟩
    have hW1 : Below w.heap.size w W1 := Below.trans (by go_grown) (hB.mono (by simp; try omega))
    have zW1 := hW1.size
    obtain ⟨rsW1, csW1, gsW1, zsW1⟩ := keep_row hB (g := w.heap.size) (by repeat (first | with_reducible assumption | with_reducible apply row_here0 | with_reducible apply row_here1 | with_reducible apply row_here2 | with_reducible apply row_here3 | with_reducible apply rowSkip))
    clear hB
    go_wp2_with fail
    refine (rMeets_any nn day wt fa fcap nf first ma mcap nm ms 0 _ HNF.out HNM.out (HF.out.below hW1 (Nat.le_refl _)) (HM.out.below hW1 (Nat.le_refl _)) HX.out).mono ?_
    rintro e W2 ⟨rfl, hB⟩
    have hW2 : Below w.heap.size w W2 := hW1.trans (Below.trans (by have := hW1.size; go_grown) (hB.mono (by have := hW1.size; simp; try omega)))
    have zW2 := hW2.size
    obtain ⟨rsW2, csW2, gsW2, zsW2⟩ := keep_row hB (g := w.heap.size) (by repeat (first | with_reducible assumption | with_reducible apply row_here0 | with_reducible apply row_here1 | with_reducible apply row_here2 | with_reducible apply row_here3 | with_reducible apply rowSkip))
    clear hB
    clear hW1 zW1 rsW1 csW1 gsW1 zsW1
    go_wp2_with fail
    refine (HMG.out nn day wt fa fcap nf first ma mcap nm ms _ HNF.out HNM.out (HF.out.below hW2 (Nat.le_refl _)) (HM.out.below hW2 (Nat.le_refl _)) HX.out (by omega)).mono ?_
    rintro e W3 ⟨⟨g1, v1, rfl, hg1, hl1, ho1, hk1⟩, hB⟩
    have hW3 : Below w.heap.size w W3 := hW2.trans (Below.trans (by have := hW2.size; go_grown) (hB.mono (by have := hW2.size; simp; try omega)))
    have zW3 := hW3.size
    obtain ⟨rsW3, csW3, gsW3, zsW3⟩ := keep_row hB (g := w.heap.size) (by repeat (first | with_reducible assumption | with_reducible apply row_here0 | with_reducible apply row_here1 | with_reducible apply row_here2 | with_reducible apply row_here3 | with_reducible apply rowSkip))
    clear hB
    have HK1 := Lib.hid hk1
    have HO1 := Lib.hid ho1
    have HL1 := Lib.hid hl1
    have hg1' : w.heap.size < g1 := Nat.lt_of_lt_of_le zsW2 hg1
    clear hk1 ho1 hl1 hg1 hW2 zW2 rsW2 csW2 gsW2 zsW2
    go_wp2_with fail
    refine wp_drawz (by kernel_rfl) Ext (fun _ => 0) Ext.refl (fun _ _ _ => Ext.trans) [some 63, some 64, some 65, some 66, some 16, some 17] (by kernel_rfl) (by kernel_rfl) (fun ix v W => match ix with
      | 0 => v = .int .i64 (nn : Int)
      | 1 => (TM W3.heap.size nn curX) v W
      | 2 => v = .int .i64 (nn : Int)
      | 3 => (TM W3.heap.size nn curC) v W
      | 4 => (TM W3.heap.size nn curX) v W
      | 5 => (TM W3.heap.size nn curC) v W
      | _ => True) ⟨⟨?_, ?_⟩, ⟨?_, ?_⟩, ⟨?_, ?_⟩, ⟨?_, ?_⟩, ⟨?_, ?_⟩, ⟨?_, ?_⟩, ?_⟩
    · intro g h; cases h
    · intro b' W hE hb hdep K hK
      have e0 : b'.tmps[0]?.getD undef = .int .i64 (nn : Int) := hb 0 (by decide)
      clear hdep hb
      go_wp2
      exact hK _ _ (Ext.refl _) rfl
    · intro g h; cases h
    · intro b' W hE hb hdep K hK
      have e63 : b'.tmps[63]?.getD undef = .int .i64 (nn : Int) := pureR (hdep 0 (some 63) (by kernel_rfl) rfl)
      clear hdep hb
      have hmk := HKX.out W
      go_wp2
      exact hK _ _ (ext_alloc _ _) ⟨_, rfl, by have := hE.size; simpa using this, row_here0 _ _ _⟩
    · intro g h; cases h
    · intro b' W hE hb hdep K hK
      have e0 : b'.tmps[0]?.getD undef = .int .i64 (nn : Int) := hb 0 (by decide)
      clear hdep hb
      go_wp2
      exact hK _ _ (Ext.refl _) rfl
    · intro g h; cases h
    · intro b' W hE hb hdep K hK
      have e65 : b'.tmps[65]?.getD undef = .int .i64 (nn : Int) := pureR (hdep 2 (some 65) (by kernel_rfl) rfl)
      clear hdep hb
      have hmk := HKC.out W
      go_wp2
      exact hK _ _ (ext_alloc _ _) ⟨_, rfl, by have := hE.size; simpa using this, row_here0 _ _ _⟩
    · intro g h; cases h
    · intro b' W hE hb hdep K hK
      have t64 : (TM W3.heap.size nn curX) (b'.tmps[64]?.getD undef) W := tmR (hdep 1 (some 64) (by kernel_rfl) rfl)
      clear hdep hb
      go_wp2
      exact hK _ _ (Ext.refl _) t64
    · intro g h; cases h
    · intro b' W hE hb hdep K hK
      have t66 : (TM W3.heap.size nn curC) (b'.tmps[66]?.getD undef) W := tmR (hdep 3 (some 66) (by kernel_rfl) rfl)
      clear hdep hb
      go_wp2
      exact hK _ _ (Ext.refl _) t66
    intro f W hE hR
    have e63 : f 63 = .int .i64 (nn : Int) := pureR (hR 0 (some 63) rfl)
    have t64 : (TM W3.heap.size nn curX) (f 64) W := tmR (hR 1 (some 64) rfl)
    have e65 : f 65 = .int .i64 (nn : Int) := pureR (hR 2 (some 65) rfl)
    have t66 : (TM W3.heap.size nn curC) (f 66) W := tmR (hR 3 (some 66) rfl)
    have t16 : (TM W3.heap.size nn curX) (f 16) W := tmR (hR 4 (some 16) rfl)
    have t17 : (TM W3.heap.size nn curC) (f 17) W := tmR (hR 5 (some 17) rfl)
    clear hR
    obtain ⟨g64, e64, -⟩ := t64
    obtain ⟨g66, e66, -⟩ := t66
    obtain ⟨gs, e16, hgs, rgs⟩ := t16
    obtain ⟨gc, e17, hgc, rgc⟩ := t17
    simp only [List.filterMap_cons, List.filterMap_nil, id, puts, Act.put, List.setIfInBounds_toArray, List.set_cons_succ, List.set_cons_zero, e63, e64, e65, e66, e16, e17]
    have hne : gs ≠ gc := fun e => by
      rw [e] at rgs
      have e2 : curX = curC := Option.some.inj (rgs.symm.trans rgc)
      have h1 := HX0.out 0 hnn1
      have h2 := HC0.out 0 hnn1
      rw [e2, h2] at h1
      cases h1
    have hzo : g1 < W3.heap.size := HO1.out.lt
    have hS := Lib.hid (show SkW w wt gs gc g1 v1 (List.replicate nn 0) (List.replicate nn false) W from ⟨(keep_row hE (rsW3 : rowOf _ _ = _)).1, ⟨curX, rgs, fun k hk => by rw [HX0.out k (by simpa using hk)]; simp at hk; simp [hk]⟩, ⟨curC, rgc, fun k hk => by rw [HC0.out k (by simpa using hk)]; simp at hk; simp [hk]⟩, HO1.out.row (fun _ e => (keep_row hE (e : rowOf W3.drew _ = _)).1), hE.below hW3.drew (by simpa using hW3.size), ⟨⟨by omega, by omega, hg1'⟩, hne, by omega, by omega⟩⟩)
    clear hE e63 e65 e64 e66 e16 e17 rgs rgc HX0 HC0 HKX HKC HO1 hne hzo hgs hgc hg1' hW3 zW3 rsW3 csW3 gsW3 zsW3
    generalize W = X0 at *
    go_wp2_with fail
    go_loopw [69] (fun i wr => ∃ (k : Nat) (xs : List Int), k ≤ nn ∧ i = .int .i64 (k : Int) ∧ Hid (xs.length = nn) ∧ Hid (∀ q, q < k → xs.getD q 0 = 100061) ∧ Hid (SkW w wt gs gc g1 v1 xs (List.replicate nn false) wr)) (fun i _ => nn - (intOf i).toNat)
    case atStart => exact ⟨0, _, Nat.zero_le _, rfl, by simp [Hid], fun q hq => absurd hq (by omega), hS⟩
    case round =>
      clear hS
      obtain ⟨k, xs, hk, rfl, hxl, hxv, hS⟩ := hrel
      by_cases hlt : k < nn
      · have hkl : k < xs.length := by rw [hxl.out]; exact hlt
        obtain ⟨d0, f0, z0⟩ := hS.out.xs.get hkl
        have hlt' : (k : Int) < (nn : Int) := by omega
        go_wp2
        refine ⟨⟨k + 1, _, hlt, by go_num, ?_, ?_, hS.out.setX hkl 100061⟩, by simp [intOf]; omega⟩
        · show (xs.set k 100061).length = nn
          simpa using hxl.out
        · intro q hq
          rw [getD_setD hkl]
          split
          · rfl
          · exact hxv.out q (by omega)
      · obtain rfl : k = nn := by omega
        obtain rfl := list_rep hxl.out hxv.out
        clear hxl hxv
        have HSIM := Lib.hid HSTART.out
        go_wp2_with fail
        go_loopw [78] (fun i wr => ∃ (j : Nat) (xs : List Int) (cs : List Bool), j ≤ nf ∧ i = .int .i64 (j : Int) ∧ Hid (SkW w wt gs gc g1 v1 xs cs wr) ∧ Hid (Sim (first.take j) ms wt k 0 (fun _ => False) xs cs)) (fun i _ => nf - (intOf i).toNat)
        case atStart => exact ⟨0, _, _, Nat.zero_le _, rfl, hS, HSIM⟩
        case round =>
          clear hS HSIM HSTART
          obtain ⟨j, xs, cs, hj, rfl, hS, hM⟩ := hrel
          by_cases hlt2 : j < nf
          · have hjf : j < first.length := by have := HNF.out; omega
            obtain ⟨g2, off, rfl, c0, hg2⟩ := (HF.out.below hS.out.below (Nat.le_refl _)).get hjf
            obtain ⟨v1_, v2_⟩ := HFI.out _ (List.getElem_mem hjf)
            rw [show first.getD j 0 = first[j] by simp [hjf]] at c0
            obtain ⟨q, hq⟩ : ∃ q : Nat, first[j] = (q : Int) := ⟨first[j].toNat, by omega⟩
            have hqk : q < k := by omega
            have HNX := Lib.hid (hM.out.firstly hjf hq hqk (by omega) (fun i hi => (HFI.out i hi).1))
            rw [hq] at c0
            have hql : q < xs.length := by rw [hM.out.len]; exact hqk
            have hqc : q < cs.length := by rw [hM.out.clen]; exact hqk
            obtain ⟨d0, f0, z0⟩ := hS.out.xs.get hql
            obtain ⟨d1, f1, z1⟩ := hS.out.cs.get hqc
            obtain ⟨-, s4, -, -⟩ := hS.out.sep
            have hlt' : (j : Int) < (nf : Int) := by omega
            have hqi : (q : Int) < (k : Int) := by omega
            clear hq v1_ v2_
            go_wp2
            exact ⟨⟨j + 1, _, _, hlt2, by go_num, (hS.out.setX hql 0).setC hqc true, HNX⟩, by simp [intOf]; omega⟩
          · obtain rfl : j = nf := by omega
            have HSIM := Lib.hid (show Sim first ms wt k 0 (fun _ => False) xs cs by have h := hM.out; rwa [HNF.out, List.take_length] at h)
            clear hM
            obtain ⟨B, hBB⟩ : ∃ B, wr.heap.size = B := ⟨_, rfl⟩
            obtain ⟨⟨sp1, sp2, sp3⟩, -⟩ := id hS.out.sep
            have sB : w.heap.size < B ∧ gs < B ∧ gc < B ∧ g1 < B := by
              have h1 := hS.out.xs.lt; have h2 := (hS.out.cs.get (k := 0) (by rw [HSIM.out.clen]; exact hnn1)).2.2; have h3 := (hS.out.v1.get (k := 0) (by rw [HL1.out]; exact hnn1)).2.2; omega
            have HSB := Lib.hid sB
            clear sB sp1 sp2 sp3
            go_wp2_with fail
            go_loopw [21, 91] (fun v i wr => ∃ q : Nat, q ≤ nm ∧ i = .int .i64 (q : Int) ∧ Hid (wr.ownsRow B 3 1 v (daysOf (ms.take q) day).length ((daysOf (ms.take q) day).map (.int .i64 ·))) ∧ Hid (SkW w wt gs gc g1 v1 xs cs wr) ∧ B ≤ wr.heap.size) (fun _ i _ => nm - (intOf i).toNat)
            case atStart => exact ⟨0, Nat.zero_le _, rfl, World.ownsRow_nil _ _ _ _, hS, Nat.le_of_eq hBB.symm⟩
            case round =>
              clear hS hBB
              obtain ⟨q, hq, rfl, hown, hS, hBz⟩ := hrel
              by_cases hlt : q < nm
              · have hlm : q < ms.length := by have := HNM.out; omega
                obtain ⟨g, off, rfl, m1, l1⟩ := (HM.out.below hS.out.below (Nat.le_refl _)).get hlm
                have he1 := daysOf_succ (day := day) hlm
                rw [mtS_get hlm] at he1
                obtain ⟨md, hmd⟩ : ∃ y, mtS ms q = y := ⟨_, rfl⟩
                rw [hmd] at m1 he1
                obtain ⟨c0, c1, c2, c3⟩ := m1
                obtain ⟨ya, yb, yd, yc⟩ := md
                simp only at c0 c1 c2 c3 he1
                have HE1 := Lib.hid he1
                have hdl : (daysOf (ms.take q) day).length ≤ 200 := by have h1 := daysOf_len (ms.take q) day; have h2 := List.length_take_le q ms; have := HNM.out; omega
                have hlt' : (q : Int) < (nm : Int) := by omega
                clear hmd he1 l1
                by_cases hle : yd ≤ day
                · skip
                  go_wp2_with (first | (at_builtin; refine wpList_append_own _ rfl _ _ 27 rfl B 3 i1 (.int .i64 0) 1 8 Try.underlying27 HI1.out HI2.out HI3.out HI4.out rfl (by decide) _ _ _ rfl ((hown.out.alloc _).alloc _) ⟨wr.heap.size + 1, 0, none⟩ 1 1 [.int .i64 yd] rfl rfl one_news2 (by simp [Value.oneCell']) (by unfold maxLen; omega) (by omega) (by simp; omega) ?_) | fail)
                  intro v' W3 ho3 hg3 hs3
                  have hS3 := Lib.hid (((hS.out.alloc _).alloc _).grown hg3 (fun i e => by have h1 := (hown.out.lt i e).1; have h2 := HSB.out; omega))
                  have hz3 : B ≤ W3.heap.size := by have := hg3.size; simp at this; omega
                  have HO3 := Lib.hid ho3
                  clear ho3 hg3 hs3 hown hS c0 c1 c2 c3
                  go_wp2
                  refine ⟨⟨q + 1, hlt, by go_num, ?_, hS3, hz3⟩, by simp [intOf]; omega⟩
                  show World.ownsRow _ _ _ _ _ _ _
                  rw [HE1.out, if_pos hle, List.length_append, List.map_append]
                  exact HO3.out
                · go_wp2
                  refine ⟨⟨q + 1, hlt, by go_num, ?_, hS.out.alloc _, by simp; omega⟩, by simp [intOf]; omega⟩
                  show World.ownsRow _ _ _ _ _ _ _
                  rw [HE1.out, if_neg hle, List.append_nil]
                  exact hown.out.alloc _
              · obtain rfl : q = nm := by omega
                have ho := hown.out
                rw [show ms.take q = ms by rw [HNM.out, List.take_length]] at ho
                obtain ⟨ds0, hds0⟩ : ∃ y, daysOf ms day = y := ⟨_, rfl⟩
                obtain ⟨nd, hnd⟩ : ∃ y, ds0.length = y := ⟨_, rfl⟩
                have hnd200 : nd ≤ 200 := by rw [← hnd, ← hds0]; have := daysOf_len ms day; have := HNM.out; omega
                rw [hds0, hnd] at ho
                obtain ⟨da, dcap, rfl, hD⟩ := ds_own hnd.symm ho
                have HD := Lib.hid hD
                have HDS := Lib.hid hds0
                have HND := Lib.hid hnd
                clear ho hown hD hds0 hnd hlt
                go_wp2_with fail
                go_loopw [107] (fun i wr => ∃ (p : Nat) (ds : List Int), p ≤ nd ∧ i = .int .i64 (p : Int) ∧ Hid (ds.length = nd) ∧ Hid (∀ e, e ∈ ds ↔ e ∈ ds0) ∧ Hid (∀ a b, a < b → b < p → ds.getD a 0 ≤ ds.getD b 0) ∧ Hid (DsAt B da ds wr) ∧ Hid (SkW w wt gs gc g1 v1 xs cs wr) ∧ B ≤ wr.heap.size) (fun i _ => nd - (intOf i).toNat)
                case atStart => exact ⟨0, ds0, Nat.zero_le _, rfl, HND, fun _ => Iff.rfl, fun a b h1 h2 => absurd h2 (by omega), HD, hS, hBz⟩
                case round =>
                  clear HD hS hBz
                  obtain ⟨p, ds, hp, rfl, hdl, hdm, hso, hD, hS, hBz⟩ := hrel
                  by_cases hlt : p < nd
                  · obtain ⟨gd, rfl, hgd, hO⟩ := hD.out.get (by rw [hdl.out]; omega)
                    have hlt' : (p : Int) < (nd : Int) := by omega
                    have HO := Lib.hid hO
                    clear hO hD
                    go_wp2_with fail
                    go_loopw [25] (fun v wr => ∃ (q : Nat) (ds : List Int), q ≤ p ∧ v = .int .i64 (q : Int) ∧ Hid (ds.length = nd) ∧ Hid (∀ e, e ∈ ds ↔ e ∈ ds0) ∧ Hid (OrdTo p q ds) ∧ Hid (OutAt wr gd ds) ∧ Hid (SkW w wt gs gc g1 v1 xs cs wr) ∧ B ≤ wr.heap.size) (fun v _ => (intOf v).toNat)
                    case atStart => exact ⟨p, ds, Nat.le_refl _, rfl, hdl, hdm, OrdTo.next hso.out, HO, hS, hBz⟩
                    case round =>
                      clear hdl hdm hso HO hS hBz
                      obtain ⟨q, ds, hqp, rfl, hdl, hdm, hor, hO, hS, hBz⟩ := hrel
                      match q with
                      | 0 =>
                        go_wp2_with fail
                        go_quiet (fail)
                        go_wp2
                        exact ⟨⟨p + 1, ds, hlt, by go_num, hdl, hdm, hor.out.done hqp (.inl rfl), .inr ⟨gd, rfl, hgd, hO.out⟩, hS.out.drewN nq, hBz⟩, by simp [intOf]; omega⟩
                      | r + 1 =>
                        have hr1 : r + 1 < ds.length := by rw [hdl.out]; omega
                        have hr0 : r < ds.length := by omega
                        obtain ⟨x1, hx1⟩ : ∃ y, ds.getD (r + 1) 0 = y := ⟨_, rfl⟩
                        obtain ⟨x0, hx0⟩ : ∃ y, ds.getD r 0 = y := ⟨_, rfl⟩
                        obtain ⟨d1, f1, z1⟩ := hO.out.get hr1
                        obtain ⟨d0, f0, z0⟩ := hO.out.get hr0
                        rw [hx1] at d1
                        rw [hx0] at d0
                        have HX1 := Lib.hid hx1
                        have HX0 := Lib.hid hx0
                        have hsub : ((r + 1 : Nat) : Int) - 1 = (r : Int) := by omega
                        have hsub2 : (r : Int) + 1 - 1 = (r : Int) := by omega
                        have hpos : 0 < ((r + 1 : Nat) : Int) := by omega
                        have hr200 : r < 200 := by omega
                        clear hx1 hx0
                        by_cases hcm : x1 < x0
                        · skip
                          go_wp2_with fail
                          go_quiet (fail)
                          go_wp2_with fail
                          have hO1 := Lib.hid (hO.out.drewN nq)
                          have hS1 := Lib.hid (hS.out.drewN nq)
                          have hBz1 : B ≤ (wr.drewN nq).heap.size := hBz
                          clear hO hS hBz d1 f1 z1 d0 f0 z0
                          generalize wr.drewN nq = Y at *
                          obtain ⟨d1, f1, z1⟩ := hO1.out.get hr1
                          obtain ⟨d0, f0, z0⟩ := hO1.out.get hr0
                          rw [HX1.out] at d1
                          rw [HX0.out] at d0
                          go_region
                          all_goals go_wp2_with fail
                          have esw : swp (r + 1) ds = (ds.set (r + 1) x0).set r x1 := by rw [swp, show r + 1 - 1 = r from rfl, HX0.out, HX1.out]
                          have hO3 := (hO1.out.set hr1 x0).set (k := r) (by simp; omega) x1
                          rw [← esw] at hO3
                          have hS3 := ((hS1.out.grown (grown_setCell Y ⟨gd, r + 1, none⟩ (.int .i64 x0)) (fun i e => by cases e; have := HSB.out; simp only; omega)).grown (grown_setCell _ ⟨gd, r, none⟩ (.int .i64 x1)) (fun i e => by cases e; have := HSB.out; simp only; omega)).grown (grown_drew _) (fun i e => by cases e)
                          have hz3 : B ≤ (((Y.setCell ⟨gd, r + 1, none⟩ (.int .i64 x0)).setCell ⟨gd, r, none⟩ (.int .i64 x1)).drew).heap.size := Nat.le_trans hBz1 (Nat.le_trans (grown_setCell Y ⟨gd, r + 1, none⟩ (.int .i64 x0)).size (Nat.le_trans (grown_setCell _ ⟨gd, r, none⟩ (.int .i64 x1)).size (grown_drew _).size))
                          exact ⟨⟨r, swp (r + 1) ds, by omega, rfl, (swp_len _ _).trans hdl.out, fun e => (swp_mem (by omega) hr1 e).trans (hdm.out e), hor.out.swap (by omega) hr1 hqp (by rw [HX1.out, show r + 1 - 1 = r from rfl, HX0.out]; exact hcm), hO3, hS3, hz3⟩, by simp [intOf]⟩
                        · skip
                          go_wp2_with fail
                          go_quiet (fail)
                          go_wp2
                          exact ⟨⟨p + 1, ds, hlt, by go_num, hdl, hdm, hor.out.done hqp (.inr (by rw [show r + 1 - 1 = r by omega, HX0.out, HX1.out]; omega)), .inr ⟨gd, rfl, hgd, hO.out⟩, hS.out.drewN nq, hBz⟩, by simp [intOf]; omega⟩
                  · obtain rfl : nd = p := by omega
                    have HSO := Lib.hid (show ∀ a b, a < b → b < ds.length → ds.getD a 0 ≤ ds.getD b 0 from fun a b h1 h2 => hso.out a b h1 (by have := hdl.out; omega))
                    have HDM := Lib.hid (fun e => by have h := hdm.out e; rw [← HDS.out] at h; exact h : ∀ e, e ∈ ds ↔ e ∈ daysOf ms day)
                    clear hso hdm HDS HND
                    have hM0 := Lib.hid (HSIM.out.mono (E := 0) (Q := (fun y : Mt => y.day ∈ ds.take 0)) (Int.le_refl _) (fun x _ h => by simp at h))
                    clear HSIM
                    go_wp2_with fail
                    go_loopw [146] (fun i wr => ∃ (p : Nat) (D : Int) (xs : List Int) (cs : List Bool), p ≤ nd ∧ i = .int .i64 (p : Int) ∧ Hid (DsAt B da ds wr) ∧ Hid (SkW w wt gs gc g1 v1 xs cs wr) ∧ Hid (Sim first ms wt k D (fun y : Mt => y.day ∈ ds.take p) xs cs) ∧ Hid (∀ b, p ≤ b → b < nd → D ≤ ds.getD b 0) ∧ B ≤ wr.heap.size) (fun i _ => nd - (intOf i).toNat)
                    case atStart => exact ⟨0, 0, xs, cs, Nat.zero_le _, rfl, hD, hS, hM0, fun b _ hb => (day_in HMS.out HDM.out (by rw [hdl.out]; exact hb)).1, hBz⟩
                    case round =>
                      clear hD hS hM0 hBz
                      obtain ⟨p, D, xs, cs, hp, rfl, hD, hS, hM, hDl, hBz⟩ := hrel
                      by_cases hlt : p < nd
                      · obtain ⟨gd, rfl, hgd, hO⟩ := hD.out.get (by rw [hdl.out]; omega)
                        have hpl : p < ds.length := by rw [hdl.out]; exact hlt
                        obtain ⟨d, hd⟩ : ∃ y, ds.getD p 0 = y := ⟨_, rfl⟩
                        obtain ⟨e0, f0, z0⟩ := hO.get hpl
                        rw [hd] at e0
                        have hdr := day_in HMS.out HDM.out hpl
                        rw [hd] at hdr
                        obtain ⟨dr1, dr2⟩ := hdr
                        have hDd := hDl.out p (Nat.le_refl _) hlt
                        rw [hd] at hDd
                        have HDD := Lib.hid hd
                        have HDL := Lib.hid hDd
                        have HO := Lib.hid hO
                        have hlt' : (p : Int) < (nd : Int) := by omega
                        obtain ⟨sk, hsk⟩ : ∃ y, decide (0 < p ∧ ds.getD (p - 1) 0 = d) = y := ⟨_, rfl⟩
                        have HSK := Lib.hid hsk
                        clear hd hDd hsk hD hO
                        go_upto_region 38 with fail
                        go_cut [161] (fun c wx => c = .bool sk ∧ wr = wx)
                        case first =>
                          match p with
                          | 0 =>
                            obtain rfl : false = sk := by rw [← HSK.out]; simp
                            clear HSK
                            go_wp2_with fail
                            go_meet
                            exact ⟨rfl, rfl⟩
                          | r + 1 =>
                            obtain ⟨y0, hy0⟩ : ∃ y, ds.getD r 0 = y := ⟨_, rfl⟩
                            obtain ⟨e1, f1, z1⟩ := HO.out.get (k := r) (by omega)
                            rw [hy0] at e1
                            have HY0 := Lib.hid hy0
                            have hsub : ((r + 1 : Nat) : Int) - 1 = (r : Int) := by omega
                            have hsub2 : (r : Int) + 1 - 1 = (r : Int) := by omega
                            have hpos : 0 < ((r + 1 : Nat) : Int) := by omega
                            have hrn : r < nd := by omega
                            have hrn2 : (r : Int) < (nd : Int) := by omega
                            clear hy0
                            by_cases hy : y0 = d
                            · obtain rfl : true = sk := by rw [← HSK.out]; exact (decide_eq_true ⟨by omega, by rw [show r + 1 - 1 = r from rfl, HY0.out]; exact hy⟩).symm
                              have hb : (d == y0) = true := by simp [hy]
                              clear HSK
                              go_wp2_with fail
                              go_meet
                              exact ⟨rfl, rfl⟩
                            · obtain rfl : false = sk := by rw [← HSK.out]; exact (decide_eq_false (fun h => hy (by have h2 := h.2; rw [show r + 1 - 1 = r from rfl, HY0.out] at h2; exact h2))).symm
                              have hb : (d == y0) = false := by simpa using fun e => hy e.symm
                              clear HSK
                              go_wp2_with fail
                              go_meet
                              exact ⟨rfl, rfl⟩
                        case rest =>
                          obtain ⟨rfl, rfl⟩ := hcut
                          cases sk with
                          | true =>
                            have hsk := HSK.out
                            simp only [decide_eq_true_eq] at hsk
                            have hnx := Lib.hid (hM.out.mono (E := d) (Q := (fun y : Mt => y.day ∈ ds.take (p + 1))) HDL.out (fun x _ h => by
                              rcases (take_mem hpl).1 h with h | h
                              · exact h
                              · rw [h, HDD.out, ← hsk.2, List.mem_take_iff_getElem]; exact ⟨p - 1, by omega, by simp [show p - 1 < ds.length by omega]⟩))
                            clear hsk HSK
                            go_wp2_with fail
                            go_roundw
                            case rel =>
                              first
                              | exact ⟨p + 1, d, xs, cs, hlt, by go_num, .inr ⟨gd, rfl, hgd, HO.out⟩, hS.out, hnx.out, (fun b h1 h2 => by rw [← HDD.out]; exact HSO.out p b (by omega) (by rw [hdl.out]; exact h2)), hBz⟩
                              | ((repeat apply Exists.intro); exact ⟨⟨p + 1, d, xs, cs, hlt, by go_num, .inr ⟨gd, rfl, hgd, HO.out⟩, hS.out, hnx.out, (fun b h1 h2 => by rw [← HDD.out]; exact HSO.out p b (by omega) (by rw [hdl.out]; exact h2)), hBz⟩, rfl⟩)
                            case measure => simp [intOf]; omega
                          | false =>
                            clear HSK
                            have hM7 := Lib.hid (hM.out.mono (E := d) (Q := (fun y : Mt => y.day ∈ ds.take p ∨ (y.day = d ∧ y ∈ ms.take 0))) HDL.out (fun x _ h => by rcases h with h | ⟨_, h⟩ <;> first | exact h | simp at h))
                            clear hM
                            go_wp2_with fail
                            go_loopw [164] (fun i wr => ∃ (m : Nat) (xs : List Int) (cs : List Bool), m ≤ q ∧ i = .int .i64 (m : Int) ∧ Hid (OutAt wr gd ds) ∧ Hid (SkW w wt gs gc g1 v1 xs cs wr) ∧ Hid (Sim first ms wt k d (fun y : Mt => y.day ∈ ds.take p ∨ (y.day = d ∧ y ∈ ms.take m)) xs cs) ∧ B ≤ wr.heap.size) (fun i _ => q - (intOf i).toNat)
                            case atStart => exact ⟨0, xs, cs, Nat.zero_le _, rfl, HO, hS, hM7, hBz⟩
                            case round =>
                              clear HO hS hM7 hBz e0 f0 z0
                              obtain ⟨m, xs, cs, hm, rfl, hO, hS, hM, hBz⟩ := hrel
                              by_cases hlt2 : m < q
                              · have hmm : m < ms.length := by have := HNM.out; omega
                                obtain ⟨g, off, rfl, m1, l1⟩ := (HM.out.below hS.out.below (Nat.le_refl _)).get hmm
                                have hmem := mtS_mem hmm
                                have hget := mtS_get hmm
                                have hok := HMS.out _ hmem
                                obtain ⟨md, hmd⟩ : ∃ y, mtS ms m = y := ⟨_, rfl⟩
                                rw [hmd] at m1 hmem hget hok
                                obtain ⟨va, vb, vd, vc⟩ := md
                                obtain ⟨c0, c1, c2, c3⟩ := m1
                                obtain ⟨o1, o2, o3, o4, o5, o6, o7⟩ := id hok
                                simp only at c0 c1 c2 c3 o1 o2 o3 o4 o5 o6 o7
                                obtain ⟨pa, rfl⟩ : ∃ y : Nat, va = (y : Int) := ⟨va.toNat, by omega⟩
                                obtain ⟨pb, rfl⟩ : ∃ y : Nat, vb = (y : Int) := ⟨vb.toNat, by omega⟩
                                have HMEM := Lib.hid hmem
                                have HTK := Lib.hid (fun y => by rw [List.take_succ_eq_append_getElem hmm, List.mem_append, List.mem_singleton, hget] : ∀ y, y ∈ ms.take (m + 1) ↔ y ∈ ms.take m ∨ y = (⟨(pa : Int), (pb : Int), vd, vc⟩ : Mt))
                                have hpak : pa < k := by omega
                                have hpbk : pb < k := by omega
                                have hlt' : (m : Int) < (q : Int) := by omega
                                have hm200' : m < 200 := by omega
                                have zwr := hS.out.below.size
                                clear hmd hmem hget hok l1 o1 o2 o3 o4 o5
                                by_cases hdd : d = vd
                                · subst hdd
                                  obtain ⟨u, hu⟩ : ∃ y, atS bs m = y := ⟨_, rfl⟩
                                  have hui : inU u := hu ▸ atS_in HBU.out m
                                  have HU := Lib.hid hu
                                  obtain ⟨u1, u2⟩ := hui
                                  have hut : Int.tmod u 2 = u % 2 := Int.tmod_eq_emod_of_nonneg u1
                                  obtain ⟨s2, hs2⟩ : ∃ y, (!vc && decide (u % 2 = 0)) = y := ⟨_, rfl⟩
                                  have HS2 := Lib.hid hs2
                                  clear hu hs2
                                  go_upto_region 42 with fail
                                  have rx0 : rowOf (wr.alloc (.cells #[.int .i64 (pa : Int), .int .i64 (pb : Int), .int .i64 d, .bool vc] 79)) wr.heap.size = some #[.int .i64 (pa : Int), .int .i64 (pb : Int), .int .i64 d, .bool vc] := row_here0 _ _ _
                                  have hO0 := Lib.hid (hO.out.alloc (.cells #[.int .i64 (pa : Int), .int .i64 (pb : Int), .int .i64 d, .bool vc] 79))
                                  have hS0 := Lib.hid (hS.out.alloc (.cells #[.int .i64 (pa : Int), .int .i64 (pb : Int), .int .i64 d, .bool vc] 79))
                                  have hBz0 : B ≤ (wr.alloc (.cells #[.int .i64 (pa : Int), .int .i64 (pb : Int), .int .i64 d, .bool vc] 79)).heap.size := by simp; omega
                                  clear c0 c1 c2 c3 hO hS hBz zwr
                                  generalize wr.heap.size = gx at *
                                  generalize (wr.alloc (.cells #[.int .i64 (pa : Int), .int .i64 (pb : Int), .int .i64 d, .bool vc] 79)) = Y at *
                                  obtain ⟨_, cx, fx, zx⟩ := row_facts rx0
                                  go_cut [184] (fun c wx => c = .bool s2 ∧ Ext Y wx)
                                  case first =>
                                    cases vc with
                                    | true =>
                                      obtain rfl : false = s2 := by rw [← HS2.out]; simp
                                      clear HS2
                                      go_wp2_with fail
                                      go_meet
                                      exact ⟨rfl, Ext.refl _⟩
                                    | false =>
                                      go_wp2_with fail
                                      refine (at_n m a cap nb bs _ u _ rfl (by omega) HNB.out (HBS.out.below hS0.out.below (Nat.le_refl _)) HU.out).mono ?_
                                      rintro e W9 ⟨rfl, hB⟩
                                      by_cases hev : u % 2 = 0
                                      · obtain rfl : true = s2 := by rw [← HS2.out]; simp [hev]
                                        rw [hev] at hut
                                        clear HS2 hev
                                        go_wp2_with fail
                                        go_meet
                                        exact ⟨rfl, hB⟩
                                      · obtain rfl : false = s2 := by rw [← HS2.out]; simp [hev]
                                        have hev1 : u % 2 = 1 := by omega
                                        rw [hev1] at hut
                                        clear HS2 hev hev1
                                        go_wp2_with fail
                                        go_meet
                                        exact ⟨rfl, hB⟩
                                  case rest =>
                                    obtain ⟨rfl, hE⟩ := hcut
                                    have rx1 := (keep_row hE rx0).1
                                    have hO1 := Lib.hid (hO0.out.row fun _ e => (keep_row hE e).1)
                                    have hS1 := Lib.hid (hS0.out.ext hE)
                                    have hBz1 := Nat.le_trans hBz0 hE.size
                                    clear rx0 cx fx zx hO0 hS0 hBz0 hE u1 u2 hut HU
                                    generalize wc = Z at *
                                    cases s2 with
                                    | true =>
                                      have hvc : vc = false := by have h := HS2.out; cases vc <;> simp_all
                                      subst hvc
                                      have hnx := Lib.hid ((hM.out.skip (x := (⟨(pa : Int), (pb : Int), d, false⟩ : Mt)) rfl).mono (Q := (fun y : Mt => y.day ∈ ds.take p ∨ (y.day = d ∧ y ∈ ms.take (m + 1)))) (Int.le_refl _) (fun x _ h => by
                                        rcases h with h | ⟨h1, h2⟩
                                        · exact .inl (.inl h)
                                        · rcases (HTK.out x).1 h2 with h | h
                                          · exact .inl (.inr ⟨h1, h⟩)
                                          · exact .inr h))
                                      clear HS2 hM
                                      go_wp2_with fail
                                      go_roundw
                                      case rel =>
                                        first
                                        | exact ⟨m + 1, xs, cs, hlt2, by go_num, hO1, hS1, hnx, hBz1⟩
                                        | ((repeat apply Exists.intro); exact ⟨⟨m + 1, xs, cs, hlt2, by go_num, hO1, hS1, hnx, hBz1⟩, rfl⟩)
                                      case measure => simp [intOf]; omega
                                    | false =>
                                      obtain ⟨_, cx, fx, zx⟩ := row_facts rx1
                                      have HNC : Hid (Z.heap.size ≠ gc) := fun e => by have := HSB.out; omega
                                      have HNX : Hid (Z.heap.size ≠ gs) := fun e => by have := HSB.out; omega
                                      have hH0 := Lib.hid (show Half first ms wt k d (fun y : Mt => y.day ∈ ds.take p ∨ (y.day = d ∧ y ∈ ms.take m)) (⟨(pa : Int), (pb : Int), d, vc⟩ : Mt) pa pb 0 xs cs from .inl ⟨rfl, hM.out⟩)
                                      clear HS2 hM
                                      go_wp2_with fail
                                      go_loopw [197] (fun i wr => ∃ (r : Nat) (xs : List Int) (cs : List Bool), r ≤ 2 ∧ i = .int .i64 (r : Int) ∧ Hid (rowOf wr Z.heap.size = some #[.int .i64 (pa : Int), .int .i64 (pb : Int), .int .i64 (pb : Int), .int .i64 (pa : Int)]) ∧ Hid (OutAt wr gd ds) ∧ Hid (SkW w wt gs gc g1 v1 xs cs wr) ∧ Hid (Half first ms wt k d (fun y : Mt => y.day ∈ ds.take p ∨ (y.day = d ∧ y ∈ ms.take m)) (⟨(pa : Int), (pb : Int), d, vc⟩ : Mt) pa pb r xs cs) ∧ B ≤ wr.heap.size) (fun i _ => 2 - (intOf i).toNat)
                                      case atStart => exact ⟨0, xs, cs, by omega, rfl, row_here0 _ _ _, hO1.out.alloc _, hS1.out.alloc _, hH0, by simp; omega⟩
                                      case round =>
                                        clear rx1 cx fx zx hO1 hS1 hH0 hBz1
                                        generalize Z.heap.size = ge at *
                                        obtain ⟨r, xs, cs, hr, rfl, hre, hO, hS, hH, hBz⟩ := hrel
                                        by_cases hlt3 : r < 2
                                        · obtain ⟨hxl, hcl⟩ := hH.out.len
                                          obtain ⟨_, ce, fe, ze⟩ := row_facts hre.out
                                          obtain ⟨I, J, hIJ, hcI, hcJ, hIk, hJk⟩ : ∃ I J : Nat, ((r = 0 ∧ I = pa ∧ J = pb) ∨ (r = 1 ∧ I = pb ∧ J = pa)) ∧ wr.cell? ⟨ge, r * 2, none⟩ = some (.int .i64 (I : Int)) ∧ wr.cell? ⟨ge, r * 2 + 1, none⟩ = some (.int .i64 (J : Int)) ∧ I < k ∧ J < k := by
                                            rcases (show r = 0 ∨ r = 1 by omega) with rfl | rfl
                                            · exact ⟨pa, pb, .inl ⟨rfl, rfl, rfl⟩, (ce 0).trans rfl, (ce 1).trans rfl, hpak, hpbk⟩
                                            · exact ⟨pb, pa, .inr ⟨rfl, rfl, rfl⟩, (ce 2).trans rfl, (ce 3).trans rfl, hpbk, hpak⟩
                                          obtain ⟨ya, hya⟩ : ∃ y, xs.getD I 0 = y := ⟨_, rfl⟩
                                          obtain ⟨yc, hyc⟩ : ∃ y, cs.getD J false = y := ⟨_, rfl⟩
                                          obtain ⟨dI, fI, zI⟩ := hS.out.xs.get (k := I) (by rw [hxl]; exact hIk)
                                          obtain ⟨dJ, fJ, zJ⟩ := hS.out.cs.get (k := J) (by rw [hcl]; exact hJk)
                                          rw [hya] at dI
                                          rw [hyc] at dJ
                                          have HYA := Lib.hid hya
                                          have HYC := Lib.hid hyc
                                          have hIi : (I : Int) < (k : Int) := by omega
                                          have hJi : (J : Int) < (k : Int) := by omega
                                          have hlt3' : (r : Int) < 2 := by omega
                                          have hJ30 : J < 30 := by omega
                                          have HP := Lib.hid (fun y h => by rcases h with h | h <;> first | exact take_le HSO.out hpl HDD.out h | exact Int.le_of_eq h.1 : ∀ y, (fun y : Mt => y.day ∈ ds.take p ∨ (y.day = d ∧ y ∈ ms.take m)) y → y.day ≤ d)
                                          have HST := Lib.hid (fun (v : Int) (h1 : wt.1 ≤ v) (h2 : v ≤ wt.2) => hH.out.step hlt3 HMS.out (fun i hi => (HFI.out i hi).1) hw1 hw3 HP.out HMEM.out rfl rfl rfl (v := v) h1 h2 hIJ)
                                          clear hya hyc ce fe hIJ hH hxl hcl HP
                                          by_cases hA : ya ≤ d
                                          · cases yc with
                                            | true =>
                                              have hno : ¬ (xs.getD I 0 ≤ d ∧ cs.getD J false = false) := fun h => by rw [HYC.out] at h; cases h.2
                                              have hst := HST.out wt.1 (Int.le_refl _) hw2
                                              rw [ovX, ovC, if_neg hno, if_neg hno] at hst
                                              have HS9 := Lib.hid hst
                                              clear hst hno HST
                                              go_wp2_with fail
                                              exact ⟨⟨r + 1, xs, cs, hlt3, by go_num, rowSkip hre.out, hO.out.alloc _, hS.out.alloc _, HS9.out, by simp; omega⟩, by simp [intOf]; omega⟩
                                            | false =>
                                              obtain ⟨u2, hu2⟩ : ∃ y, atS bs (m + J) = y := ⟨_, rfl⟩
                                              obtain ⟨vp, hv⟩ : ∃ y, pickS wt u2 = y := ⟨_, rfl⟩
                                              have hvi := pickS_in hw2 u2
                                              rw [hv] at hvi
                                              obtain ⟨v1_, v2_⟩ := hvi
                                              have HU2 := Lib.hid hu2
                                              have HV := Lib.hid hv
                                              have IU2 := Lib.hid (show inU u2 from hu2 ▸ atS_in HBU.out (m + J))
                                              have hst := HST.out vp v1_ v2_
                                              have hye : xs.getD I 0 ≤ d ∧ cs.getD J false = false := ⟨by rw [HYA.out]; exact hA, HYC.out⟩
                                              rw [ovX, ovC, if_pos hye, if_pos hye] at hst
                                              have HS9 := Lib.hid hst
                                              clear hst hye HST hu2 hv
                                              go_wp2_with fail
                                              have rp : rowOf (wr.alloc (.cells #[.int .i64 (I : Int), .int .i64 (J : Int)] 103)) wr.heap.size = some #[.int .i64 (I : Int), .int .i64 (J : Int)] := row_here0 _ _ _
                                              have hre2 := Lib.hid (rowSkip (o := (.cells #[.int .i64 (I : Int), .int .i64 (J : Int)] 103)) hre.out)
                                              have hO2 := Lib.hid (hO.out.alloc (.cells #[.int .i64 (I : Int), .int .i64 (J : Int)] 103))
                                              have hS2 := Lib.hid (hS.out.alloc (.cells #[.int .i64 (I : Int), .int .i64 (J : Int)] 103))
                                              have hBz2 : B ≤ (wr.alloc (.cells #[.int .i64 (I : Int), .int .i64 (J : Int)] 103)).heap.size := by simp; omega
                                              have hgp : w.heap.size < wr.heap.size ∧ gs < wr.heap.size ∧ gc < wr.heap.size ∧ g1 < wr.heap.size := by have := HSB.out; omega
                                              have HGP := Lib.hid hgp
                                              clear hre hO hS hBz dI fI zI dJ fJ zJ hcI hcJ hgp ze
                                              generalize wr.heap.size = gp at *
                                              generalize (wr.alloc (.cells #[.int .i64 (I : Int), .int .i64 (J : Int)] 103)) = X at *
                                              obtain ⟨curX', rX, hcX⟩ := hS2.out.xs
                                              obtain ⟨curC', rC, hcC⟩ := hS2.out.cs
                                              obtain ⟨s1, s4, s5, s6⟩ := hS2.out.sep
                                              have HXL : J < xs.length := by have h := HS9.out.len.1; rw [List.length_set] at h; omega
                                              have HCL : J < cs.length := by have h := HS9.out.len.2; rw [List.length_set] at h; omega
                                              have hsX : J < curX'.size := (Array.getElem?_eq_some_iff.1 (hcX _ HXL)).1
                                              have hsC : J < curC'.size := (Array.getElem?_eq_some_iff.1 (hcC _ HCL)).1
                                              have rwt := hS2.out.wt
                                              have HRX := Lib.hid rX
                                              have HRC := Lib.hid rC
                                              have HRP := Lib.hid rp
                                              have HRW := Lib.hid rwt
                                              have HCX := Lib.hid hcX
                                              have HCC := Lib.hid hcC
                                              have HbX := Lib.hid hS2.out.below
                                              have Hsep := Lib.hid s1
                                              have Hgc := Lib.hid s4
                                              clear rX rC hcX hcC rp rwt s1 s5 s6
                                              refine wp_drawz (by kernel_rfl) (XQ (gc) (gs) ((curC'.setIfInBounds J (.bool true))) ((curX'.setIfInBounds J (.int .i64 (d + vp))))) (fun j => match j with | 17 => 232 | 19 => 233 | _ => 0) XQ.refl (fun _ _ _ => XQ.trans) [some 216, some 217, some 218, some 219, some 220, some 221, some 222, some 223, some 224, some 225, some 226, some 227, some 228, some 229, some 230, some 231, some 232, none, some 233, none] (by kernel_rfl) (by kernel_rfl) (fun ix v W => match ix with
                                                | 0 => v = .slice (some ⟨gc, 0, none⟩) k k
                                                | 1 => v = .pointer (some ⟨gp, 1, none⟩)
                                                | 2 => v = .int .i64 (J : Int)
                                                | 3 => v = .slice (some ⟨gs, 0, none⟩) k k
                                                | 4 => v = .pointer (some ⟨gp, 1, none⟩)
                                                | 5 => v = .int .i64 (J : Int)
                                                | 6 => v = .int .i64 d
                                                | 7 => v = .agg #[.int .i64 wt.1, .int .i64 wt.2]
                                                | 8 => v = .slice a nb cap
                                                | 9 => v = .int .i64 (m : Int)
                                                | 10 => v = .pointer (some ⟨gp, 1, none⟩)
                                                | 11 => v = .int .i64 (J : Int)
                                                | 12 => v = .int .i64 ((m : Int) + (J : Int))
                                                | 13 => v = .int .u32 u2
                                                | 14 => v = .int .i64 vp
                                                | 15 => v = .int .i64 (d + vp)
                                                | 16 => v = .pointer (some ⟨gc, J, none⟩)
                                                | 17 => rowOf W (gc) = some ((curC'.setIfInBounds J (.bool true)))
                                                | 18 => v = .pointer (some ⟨gs, J, none⟩)
                                                | 19 => rowOf W (gs) = some ((curX'.setIfInBounds J (.int .i64 (d + vp))))
                                                | _ => True) ⟨⟨?_, ?_⟩, ⟨?_, ?_⟩, ⟨?_, ?_⟩, ⟨?_, ?_⟩, ⟨?_, ?_⟩, ⟨?_, ?_⟩, ⟨?_, ?_⟩, ⟨?_, ?_⟩, ⟨?_, ?_⟩, ⟨?_, ?_⟩, ⟨?_, ?_⟩, ⟨?_, ?_⟩, ⟨?_, ?_⟩, ⟨?_, ?_⟩, ⟨?_, ?_⟩, ⟨?_, ?_⟩, ⟨?_, ?_⟩, ⟨?_, ?_⟩, ⟨?_, ?_⟩, ⟨?_, ?_⟩, ?_⟩
                                              · intro g h; cases h
                                              · intro b' W hE hb hdep K hK
                                                have e17 : b'.tmps[17]?.getD undef = .slice (some ⟨gc, 0, none⟩) k k := hb 17 (by decide)
                                                clear hdep hb
                                                go_wp2
                                                exact hK _ _ (XQ.refl _) rfl
                                              · intro g h; cases h
                                              · intro b' W hE hb hdep K hK
                                                have e31 : b'.tmps[31]?.getD undef = .pointer (some ⟨gp, 0, none⟩) := hb 31 (by decide)
                                                clear hdep hb
                                                go_wp2
                                                exact hK _ _ (XQ.refl _) rfl
                                              · intro g h; cases h
                                              · intro b' W hE hb hdep K hK
                                                have e217 : b'.tmps[217]?.getD undef = .pointer (some ⟨gp, 1, none⟩) := pureQ (hdep 1 (some 217) (by kernel_rfl) rfl)
                                                clear hdep hb
                                                obtain ⟨_, _, -, _⟩ := row_facts (hE.row ((rowOf_drew _ _).trans HRP.out) (by have := HGP.out; omega) (by have := HGP.out; omega))
                                                obtain ⟨_, _, -, _⟩ := row_facts (hE.row ((rowOf_drew _ _).trans HRW.out) (by have := Hsep.out; omega) (by have := Hsep.out; omega))
                                                go_wp2
                                                exact hK _ _ (XQ.refl _) rfl
                                              · intro g h; cases h
                                              · intro b' W hE hb hdep K hK
                                                have e16 : b'.tmps[16]?.getD undef = .slice (some ⟨gs, 0, none⟩) k k := hb 16 (by decide)
                                                clear hdep hb
                                                go_wp2
                                                exact hK _ _ (XQ.refl _) rfl
                                              · intro g h; cases h
                                              · intro b' W hE hb hdep K hK
                                                have e31 : b'.tmps[31]?.getD undef = .pointer (some ⟨gp, 0, none⟩) := hb 31 (by decide)
                                                clear hdep hb
                                                go_wp2
                                                exact hK _ _ (XQ.refl _) rfl
                                              · intro g h; cases h
                                              · intro b' W hE hb hdep K hK
                                                have e220 : b'.tmps[220]?.getD undef = .pointer (some ⟨gp, 1, none⟩) := pureQ (hdep 4 (some 220) (by kernel_rfl) rfl)
                                                clear hdep hb
                                                obtain ⟨_, _, -, _⟩ := row_facts (hE.row ((rowOf_drew _ _).trans HRP.out) (by have := HGP.out; omega) (by have := HGP.out; omega))
                                                obtain ⟨_, _, -, _⟩ := row_facts (hE.row ((rowOf_drew _ _).trans HRW.out) (by have := Hsep.out; omega) (by have := Hsep.out; omega))
                                                go_wp2
                                                exact hK _ _ (XQ.refl _) rfl
                                              · intro g h; cases h
                                              · intro b' W hE hb hdep K hK
                                                have e27 : b'.tmps[27]?.getD undef = .int .i64 d := hb 27 (by decide)
                                                clear hdep hb
                                                go_wp2
                                                exact hK _ _ (XQ.refl _) rfl
                                              · intro g h; cases h
                                              · intro b' W hE hb hdep K hK
                                                have e9 : b'.tmps[9]?.getD undef = .pointer (some ⟨w.heap.size, 0, none⟩) := hb 9 (by decide)
                                                clear hdep hb
                                                obtain ⟨_, _, -, _⟩ := row_facts (hE.row ((rowOf_drew _ _).trans HRP.out) (by have := HGP.out; omega) (by have := HGP.out; omega))
                                                obtain ⟨_, _, -, _⟩ := row_facts (hE.row ((rowOf_drew _ _).trans HRW.out) (by have := Hsep.out; omega) (by have := Hsep.out; omega))
                                                go_wp2
                                                exact hK _ _ (XQ.refl _) rfl
                                              · intro g h; cases h
                                              · intro b' W hE hb hdep K hK
                                                have e5 : b'.tmps[5]?.getD undef = .slice a nb cap := hb 5 (by decide)
                                                clear hdep hb
                                                go_wp2
                                                exact hK _ _ (XQ.refl _) rfl
                                              · intro g h; cases h
                                              · intro b' W hE hb hdep K hK
                                                have e28 : b'.tmps[28]?.getD undef = .int .i64 (m : Int) := hb 28 (by decide)
                                                clear hdep hb
                                                go_wp2
                                                exact hK _ _ (XQ.refl _) rfl
                                              · intro g h; cases h
                                              · intro b' W hE hb hdep K hK
                                                have e31 : b'.tmps[31]?.getD undef = .pointer (some ⟨gp, 0, none⟩) := hb 31 (by decide)
                                                clear hdep hb
                                                go_wp2
                                                exact hK _ _ (XQ.refl _) rfl
                                              · intro g h; cases h
                                              · intro b' W hE hb hdep K hK
                                                have e226 : b'.tmps[226]?.getD undef = .pointer (some ⟨gp, 1, none⟩) := pureQ (hdep 10 (some 226) (by kernel_rfl) rfl)
                                                clear hdep hb
                                                obtain ⟨_, _, -, _⟩ := row_facts (hE.row ((rowOf_drew _ _).trans HRP.out) (by have := HGP.out; omega) (by have := HGP.out; omega))
                                                obtain ⟨_, _, -, _⟩ := row_facts (hE.row ((rowOf_drew _ _).trans HRW.out) (by have := Hsep.out; omega) (by have := Hsep.out; omega))
                                                go_wp2
                                                exact hK _ _ (XQ.refl _) rfl
                                              · intro g h; cases h
                                              · intro b' W hE hb hdep K hK
                                                have e225 : b'.tmps[225]?.getD undef = .int .i64 (m : Int) := pureQ (hdep 9 (some 225) (by kernel_rfl) rfl)
                                                have e227 : b'.tmps[227]?.getD undef = .int .i64 (J : Int) := pureQ (hdep 11 (some 227) (by kernel_rfl) rfl)
                                                clear hdep hb
                                                go_wp2
                                                exact hK _ _ (XQ.refl _) rfl
                                              · intro g h; cases h
                                              · intro b' W hE hb hdep K hK
                                                have e224 : b'.tmps[224]?.getD undef = .slice a nb cap := pureQ (hdep 8 (some 224) (by kernel_rfl) rfl)
                                                have e228 : b'.tmps[228]?.getD undef = .int .i64 ((m : Int) + (J : Int)) := pureQ (hdep 12 (some 228) (by kernel_rfl) rfl)
                                                clear hdep hb
                                                go_wp2_with fail
                                                refine (at_n (m + J) a cap nb bs _ u2 _ (by omega) (by omega) HNB.out (HBS.out.below (HbX.out.drew.trans (hE.below (B := w.heap.size) (by have := HbX.out.size; simpa using this) (by have := Hsep.out; omega) (by have := Hsep.out; omega))) (Nat.le_refl _)) HU2.out).mono ?_
                                                rintro e W' ⟨rfl, hB⟩
                                                exact hK _ _ (Ext.xq hB) rfl
                                              · intro g h; cases h
                                              · intro b' W hE hb hdep K hK
                                                have e223 : b'.tmps[223]?.getD undef = .agg #[.int .i64 wt.1, .int .i64 wt.2] := pureQ (hdep 7 (some 223) (by kernel_rfl) rfl)
                                                have e229 : b'.tmps[229]?.getD undef = .int .u32 u2 := pureQ (hdep 13 (some 229) (by kernel_rfl) rfl)
                                                clear hdep hb
                                                go_wp2_with fail
                                                refine (pick_any wt u2 vp _ hw2 (by omega) (by omega) IU2.out HV.out).mono ?_
                                                rintro e W' ⟨rfl, hB⟩
                                                exact hK _ _ (Ext.xq hB) rfl
                                              · intro g h; cases h
                                              · intro b' W hE hb hdep K hK
                                                have e222 : b'.tmps[222]?.getD undef = .int .i64 d := pureQ (hdep 6 (some 222) (by kernel_rfl) rfl)
                                                have e230 : b'.tmps[230]?.getD undef = .int .i64 vp := pureQ (hdep 14 (some 230) (by kernel_rfl) rfl)
                                                clear hdep hb
                                                go_wp2
                                                exact hK _ _ (XQ.refl _) rfl
                                              · intro g h; cases h
                                              · intro b' W hE hb hdep K hK
                                                have e216 : b'.tmps[216]?.getD undef = .slice (some ⟨gc, 0, none⟩) k k := pureQ (hdep 0 (some 216) (by kernel_rfl) rfl)
                                                have e218 : b'.tmps[218]?.getD undef = .int .i64 (J : Int) := pureQ (hdep 2 (some 218) (by kernel_rfl) rfl)
                                                clear hdep hb
                                                go_wp2
                                                exact hK _ _ (XQ.refl _) rfl
                                              · intro g h; cases h
                                              · intro b' W hE hb hdep K hK
                                                have e232 : b'.tmps[232]?.getD undef = .pointer (some ⟨gc, J, none⟩) := pureQ (hdep 16 (some 232) (by kernel_rfl) rfl)
                                                clear hdep hb
                                                obtain ⟨⟨x9, c9⟩, f9, z9, hr9⟩ := set_either (v := .bool true) hsC (hE.one0 ((rowOf_drew _ _).trans HRC.out))
                                                go_wp2
                                                exact hK _ (xq_set1 Hgc.out.symm hr9) hr9
                                              · intro g h; cases h
                                              · intro b' W hE hb hdep K hK
                                                have e219 : b'.tmps[219]?.getD undef = .slice (some ⟨gs, 0, none⟩) k k := pureQ (hdep 3 (some 219) (by kernel_rfl) rfl)
                                                have e221 : b'.tmps[221]?.getD undef = .int .i64 (J : Int) := pureQ (hdep 5 (some 221) (by kernel_rfl) rfl)
                                                clear hdep hb
                                                go_wp2
                                                exact hK _ _ (XQ.refl _) rfl
                                              · intro g h; cases h
                                              · intro b' W hE hb hdep K hK
                                                have e231 : b'.tmps[231]?.getD undef = .int .i64 (d + vp) := pureQ (hdep 15 (some 231) (by kernel_rfl) rfl)
                                                have e233 : b'.tmps[233]?.getD undef = .pointer (some ⟨gs, J, none⟩) := pureQ (hdep 18 (some 233) (by kernel_rfl) rfl)
                                                clear hdep hb
                                                obtain ⟨⟨x9, c9⟩, f9, z9, hr9⟩ := set_either (v := .int .i64 (d + vp)) hsX (hE.two0 ((rowOf_drew _ _).trans HRX.out))
                                                go_wp2
                                                exact hK _ (xq_set2 Hgc.out.symm hr9) hr9
                                              intro f W hE hR
                                              have e216 : f 216 = .slice (some ⟨gc, 0, none⟩) k k := pureQ (hR 0 (some 216) rfl)
                                              have e217 : f 217 = .pointer (some ⟨gp, 1, none⟩) := pureQ (hR 1 (some 217) rfl)
                                              have e218 : f 218 = .int .i64 (J : Int) := pureQ (hR 2 (some 218) rfl)
                                              have e219 : f 219 = .slice (some ⟨gs, 0, none⟩) k k := pureQ (hR 3 (some 219) rfl)
                                              have e220 : f 220 = .pointer (some ⟨gp, 1, none⟩) := pureQ (hR 4 (some 220) rfl)
                                              have e221 : f 221 = .int .i64 (J : Int) := pureQ (hR 5 (some 221) rfl)
                                              have e222 : f 222 = .int .i64 d := pureQ (hR 6 (some 222) rfl)
                                              have e223 : f 223 = .agg #[.int .i64 wt.1, .int .i64 wt.2] := pureQ (hR 7 (some 223) rfl)
                                              have e224 : f 224 = .slice a nb cap := pureQ (hR 8 (some 224) rfl)
                                              have e225 : f 225 = .int .i64 (m : Int) := pureQ (hR 9 (some 225) rfl)
                                              have e226 : f 226 = .pointer (some ⟨gp, 1, none⟩) := pureQ (hR 10 (some 226) rfl)
                                              have e227 : f 227 = .int .i64 (J : Int) := pureQ (hR 11 (some 227) rfl)
                                              have e228 : f 228 = .int .i64 ((m : Int) + (J : Int)) := pureQ (hR 12 (some 228) rfl)
                                              have e229 : f 229 = .int .u32 u2 := pureQ (hR 13 (some 229) rfl)
                                              have e230 : f 230 = .int .i64 vp := pureQ (hR 14 (some 230) rfl)
                                              have e231 : f 231 = .int .i64 (d + vp) := pureQ (hR 15 (some 231) rfl)
                                              have e232 : f 232 = .pointer (some ⟨gc, J, none⟩) := pureQ (hR 16 (some 232) rfl)
                                              have l1 := oneQ (hR 17 none rfl)
                                              have e233 : f 233 = .pointer (some ⟨gs, J, none⟩) := pureQ (hR 18 (some 233) rfl)
                                              have l2 := twoQ (hR 19 none rfl)
                                              clear hR
                                              simp only [List.filterMap_cons, List.filterMap_nil, id, puts, Act.put, List.setIfInBounds_toArray, List.set_cons_succ, List.set_cons_zero, e216, e217, e218, e219, e220, e221, e222, e223, e224, e225, e226, e227, e228, e229, e230, e231, e232, e233]
                                              have hbE := HbX.out.drew.trans (hE.below (B := w.heap.size) (by have := HbX.out.size; simpa using this) (by have := Hsep.out; omega) (by have := Hsep.out; omega))
                                              have hS5 := Lib.hid (show SkW w wt gs gc g1 v1 (xs.set J (d + vp)) (cs.set J true) W from ⟨hE.row ((rowOf_drew _ _).trans HRW.out) (by have := Hsep.out; omega) (by have := Hsep.out; omega), out_row HCX.out HXL l2, bo_row HCC.out HCL l1, hS2.out.v1.row (fun _ e => hE.row ((rowOf_drew _ _).trans e) (by have := hS2.out.sep; omega) (by have := hS2.out.sep; omega)), hbE, hS2.out.sep⟩)
                                              have hO5 := Lib.hid (hO2.out.row (fun _ e => hE.row ((rowOf_drew _ _).trans e) (by have := HSB.out; omega) (by have := HSB.out; omega)))
                                              have hre5 := Lib.hid (hE.row ((rowOf_drew _ _).trans hre2.out) (fun e => HNC.out e) (fun e => HNX.out e))
                                              have hBz5 : B ≤ W.heap.size := Nat.le_trans hBz2 (by have := hE.size; simpa using this)
                                              clear hE l1 l2 hbE hS2 hO2 hre2 hBz2 HRX HRC HRP HRW HCX HCC HbX e216 e217 e218 e219 e220 e221 e222 e223 e224 e225 e226 e227 e228 e229 e230 e231 e232 e233
                                              generalize W = W8 at *
                                              go_wp2_with fail
                                              exact ⟨⟨r + 1, _, _, hlt3, by go_num, hre5, hO5, hS5, HS9, hBz5⟩, by simp [intOf]; omega⟩
                                          · have hno : ¬ (xs.getD I 0 ≤ d ∧ cs.getD J false = false) := fun h => by rw [HYA.out] at h; exact hA h.1
                                            have hst := HST.out wt.1 (Int.le_refl _) hw2
                                            rw [ovX, ovC, if_neg hno, if_neg hno] at hst
                                            have HS9 := Lib.hid hst
                                            clear hst hno HST
                                            go_wp2_with fail
                                            exact ⟨⟨r + 1, xs, cs, hlt3, by go_num, rowSkip hre.out, hO.out.alloc _, hS.out.alloc _, HS9.out, by simp; omega⟩, by simp [intOf]; omega⟩
                                        · obtain rfl : r = 2 := by omega
                                          have hnx := Lib.hid (show Sim first ms wt k d (fun y : Mt => y.day ∈ ds.take p ∨ (y.day = d ∧ y ∈ ms.take (m + 1))) xs cs from by
                                            rcases hH.out with ⟨h, -⟩ | ⟨h, -⟩ | ⟨-, h⟩
                                            · omega
                                            · omega
                                            · exact h.mono (Int.le_refl _) (fun x _ h => by
                                                rcases h with h | ⟨h1, h2⟩
                                                · exact .inl (.inl h)
                                                · rcases (HTK.out x).1 h2 with h | h
                                                  · exact .inl (.inr ⟨h1, h⟩)
                                                  · exact .inr h))
                                          clear hH hre HTK HMEM
                                          go_wp2_with fail
                                          go_roundw
                                          case rel =>
                                            first
                                            | exact ⟨m + 1, xs, cs, hlt2, by go_num, hO, hS, hnx, hBz⟩
                                            | ((repeat apply Exists.intro); exact ⟨⟨m + 1, xs, cs, hlt2, by go_num, hO, hS, hnx, hBz⟩, rfl⟩)
                                          case measure => simp [intOf]; omega
                                · have hb : (vd == d) = false := by simpa using fun e => hdd e.symm
                                  have hb2 : (vd != d) = true := by simp [bne, hb]
                                  have hnx := Lib.hid (hM.out.mono (Q := (fun y : Mt => y.day ∈ ds.take p ∨ (y.day = d ∧ y ∈ ms.take (m + 1)))) (Int.le_refl _) (fun x _ h => by
                                    rcases h with h | ⟨h1, h2⟩
                                    · exact .inl h
                                    · rcases (HTK.out x).1 h2 with h | h
                                      · exact .inr ⟨h1, h⟩
                                      · exact absurd (by rw [h] at h1; exact h1.symm) hdd))
                                  clear hM hdd HTK
                                  go_wp2_with fail
                                  exact ⟨⟨m + 1, xs, cs, hlt2, by go_num, hO.out.alloc _, hS.out.alloc _, hnx, by simp; omega⟩, by simp [intOf]; omega⟩
                              · obtain rfl : q = m := by omega
                                have hnx := Lib.hid (hM.out.mono (E := d) (Q := (fun y : Mt => y.day ∈ ds.take (p + 1))) (Int.le_refl _) (fun x hx h => by
                                  rcases (take_mem hpl).1 h with h | h
                                  · exact .inl h
                                  · exact .inr ⟨by rw [h, HDD.out], by rw [HNM.out, List.take_length]; exact hx⟩))
                                clear hM
                                go_wp2_with fail
                                go_roundw
                                case rel =>
                                  first
                                  | exact ⟨p + 1, d, xs, cs, hlt, by go_num, .inr ⟨gd, rfl, hgd, hO.out⟩, hS, hnx, (fun b h1 h2 => by rw [← HDD.out]; exact HSO.out p b (by omega) (by rw [hdl.out]; exact h2)), hBz⟩
                                  | ((repeat apply Exists.intro); exact ⟨⟨p + 1, d, xs, cs, hlt, by go_num, .inr ⟨gd, rfl, hgd, hO.out⟩, hS, hnx, (fun b h1 h2 => by rw [← HDD.out]; exact HSO.out p b (by omega) (by rw [hdl.out]; exact h2)), hBz⟩, rfl⟩)
                                case measure => simp [intOf]; omega
                      · obtain rfl : nd = p := by omega
                        have HKN := Lib.hid (fun i hi => hM.out.said hd2 HMS.out (fun x hx hle => by
                            rw [← hdl.out, List.take_length]; exact (HDM.out _).2 (daysOf_mem.2 ⟨hle, x, hx, rfl⟩)) hw1 hw2 hi (HK1.out i hi) : ∀ i, i < k → ¬ 2 < v1.getD i 0 ∧ (v1.getD i 0 = 2 → xs.getD i 0 ≤ day) ∧ (v1.getD i 0 = 0 → ¬ xs.getD i 0 ≤ day))
                        have HXL := Lib.hid hM.out.len
                        clear hM hD hDl hBz
                        go_wp2_with fail
                        go_loopw [239] (fun i wr => ∃ t : Nat, t ≤ k ∧ i = .int .i64 (t : Int) ∧ Hid (SkW w wt gs gc g1 v1 xs cs wr)) (fun i _ => k - (intOf i).toNat)
                        case atStart => exact ⟨0, Nat.zero_le _, rfl, hS⟩
                        case round =>
                          clear hS
                          obtain ⟨t, ht, rfl, hS⟩ := hrel
                          by_cases hlt9 : t < k
                          · have hlt' : (t : Int) < (k : Int) := by omega
                            obtain ⟨d1, f1, z1⟩ := hS.out.xs.get (k := t) (by rw [HXL.out]; exact hlt9)
                            obtain ⟨d2, f2, z2⟩ := hS.out.v1.get (k := t) (by rw [HL1.out]; exact hlt9)
                            obtain ⟨h1, h2, h3⟩ := HKN.out t hlt9
                            have hrg := (HK1.out t hlt9).range
                            generalize xs.getD t 0 = y at *
                            generalize v1.getD t 0 = v at *
                            obtain ⟨r1, r2⟩ := hrg
                            rcases (show v = 0 ∨ v = 1 ∨ v = 2 by omega) with rfl | rfl | rfl
                            · have hns := h3 rfl
                              clear h1 h2 h3 r1 r2
                              go_wp2
                              exact ⟨⟨t + 1, by omega, by go_num, hS⟩, by simp [intOf]; omega⟩
                            · clear h1 h2 h3 r1 r2
                              by_cases hsy : y ≤ day
                              · go_wp2
                                exact ⟨⟨t + 1, by omega, by go_num, hS⟩, by simp [intOf]; omega⟩
                              · go_wp2
                                exact ⟨⟨t + 1, by omega, by go_num, hS⟩, by simp [intOf]; omega⟩
                            · have hsy := h2 rfl
                              clear h1 h2 h3 r1 r2
                              go_wp2
                              exact ⟨⟨t + 1, by omega, by go_num, hS⟩, by simp [intOf]; omega⟩
                          · obtain rfl : k = t := by omega
                            have hB9 := hS.out.below
                            go_wp2
                            go_returns
                            exact ⟨rfl, hB9⟩
  · have HNE := Lib.hid h0
    clear halive hmange hnf hnm hf hm hx hnb hbs hbu
    go_enter Try.func12, Try.ntmps12
    go_wp2_with fail
    refine (HAL.out _).mono ?_
    rintro e W1 ⟨rfl, hB⟩
    have hW1 : Below w.heap.size w W1 := Below.trans (by go_grown) (hB.mono (by simp; try omega))
    have zW1 := hW1.size
    obtain ⟨rsW1, csW1, gsW1, zsW1⟩ := keep_row hB (g := w.heap.size) (by repeat (first | with_reducible assumption | with_reducible apply row_here0 | with_reducible apply row_here1 | with_reducible apply row_here2 | with_reducible apply row_here3 | with_reducible apply rowSkip))
    clear hB
    go_wp2_with fail
    refine (rMeets_any n day wt fa fcap nf first ma mcap nm ms x _ HNF.out HNM.out (HF.out.below hW1 (Nat.le_refl _)) (HM.out.below hW1 (Nat.le_refl _)) HX.out).mono ?_
    rintro e W2 ⟨rfl, hB⟩
    have hW2 : Below w.heap.size w W2 := hW1.trans (Below.trans (by have := hW1.size; go_grown) (hB.mono (by have := hW1.size; simp; try omega)))
    have zW2 := hW2.size
    obtain ⟨rsW2, csW2, gsW2, zsW2⟩ := keep_row hB (g := w.heap.size) (by repeat (first | with_reducible assumption | with_reducible apply row_here0 | with_reducible apply row_here1 | with_reducible apply row_here2 | with_reducible apply row_here3 | with_reducible apply rowSkip))
    clear hB
    clear hW1 zW1 rsW1 csW1 gsW1 zsW1
    have hb : (x == 0) = false := by simpa using h0
    go_wp2
    go_returns
    exact ⟨rfl, hW2⟩
end Go.Proofs.Ytafdcbdbllpcnaa
