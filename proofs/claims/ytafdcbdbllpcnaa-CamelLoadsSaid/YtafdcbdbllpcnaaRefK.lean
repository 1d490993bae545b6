/- Contract of the reference's Thirst at a list that isn't nil, of a valid breed, and not too long. -/
import Derived.Test.YtafdcbdbllpcnaaLeafO
import Derived.Test.YtafdcbdbllpcnaaDraws
namespace Go.Proofs.Ytafdcbdbllpcnaa
open Go.RowKit
open Go.Proofs

attribute [local go_sem ↓] exec36l exec112l exec36s exec112s exec31s exec39s run_min2 run_max2
attribute [local go_sem] load36 load112 store36 store112 store39 store31at List.setIfInBounds_toArray List.set_cons_succ List.set_cons_zero build39z rowOf_alloc rowOf_drew setRow_alloc one_int one_bool

set_option maxRecDepth 100000 in
set_option maxHeartbeats 4000000 in
theorem rThirst_some (b : Br) (g off cap : Nat) (cs : List Cm) (w : World) (h : CamelsAt w g off cs) (hg : g < w.heap.size) (hb : okB b = true) (hl : cs.length ≤ 30) :
    Calls Try.prog 41 #[.agg #[.int .i64 b.full, .int .i64 b.fed, .int .i64 b.rest.1, .int .i64 b.rest.2, .int .i64 b.heat.1, .int .i64 b.heat.2, .int .i64 b.toil.1, .int .i64 b.toil.2, .int .i64 b.burn.1, .int .i64 b.burn.2, .int .i64 b.rub.1, .int .i64 b.rub.2, .int .i64 b.milk.1, .int .i64 b.milk.2, .int .i64 b.heal, .int .i64 b.strong.1, .int .i64 b.strong.2], .slice (some ⟨g, off, none⟩) cs.length cap] w fun e w' => e = .returned (.tuple #[.agg #[.int .i64 (thGo b cs (0, 0)).1.1, .int .i64 (thGo b cs (0, 0)).1.2], .int .i64 (thGo b cs (0, 0)).2]) ∧ Below w.heap.size w w' := by
  obtain ⟨r, hr⟩ : ∃ r, thGo b cs (0, 0) = r := ⟨_, rfl⟩
  rw [hr]
  have HR := Lib.hid hr
  have HB := Lib.hid hb
  have HS := Lib.hid h
  obtain ⟨l1, l2⟩ := (okB_bd hb).full
  clear hr hb h
  go_enter Try.func41, Try.ntmps41
  go_wp2_with fail
  refine (rBreed_okB b _ HB.out _).mono ?_
  rintro e W1 ⟨rfl, hB⟩
  have hW1 : Below w.heap.size w W1 := Below.trans (by go_grown) (hB.mono (by simp; try omega))
  have zW1 := hW1.size
  obtain ⟨raW1, caW1, gaW1, zaW1⟩ := keep_row hB (g := w.heap.size) (by repeat (first | with_reducible assumption | with_reducible apply row_here0 | with_reducible apply row_here1 | with_reducible apply row_here2 | with_reducible apply row_here3 | with_reducible apply rowSkip))
  obtain ⟨rdW1, cdW1, gdW1, zdW1⟩ := keep_row hB (g := w.heap.size + 1) (by repeat (first | with_reducible assumption | with_reducible apply row_here0 | with_reducible apply row_here1 | with_reducible apply row_here2 | with_reducible apply row_here3 | with_reducible apply rowSkip))
  clear hB
  go_wp2_with fail
  go_loopw [7] (fun i wr => ∃ (k : Nat) (acc : Int × Int), k ≤ cs.length ∧ i = .int .i64 k ∧ Hid (thGo b (cs.drop k) acc = r) ∧ 0 ≤ acc.1 ∧ acc.1 ≤ k * 1000000 ∧ 0 ≤ acc.2 ∧ acc.2 ≤ k * 1000000 ∧ Below w.heap.size w wr ∧ rowOf wr w.heap.size = some #[.int .i64 b.full, .int .i64 b.fed, .int .i64 b.rest.1, .int .i64 b.rest.2, .int .i64 b.heat.1, .int .i64 b.heat.2, .int .i64 b.toil.1, .int .i64 b.toil.2, .int .i64 b.burn.1, .int .i64 b.burn.2, .int .i64 b.rub.1, .int .i64 b.rub.2, .int .i64 b.milk.1, .int .i64 b.milk.2, .int .i64 b.heal, .int .i64 b.strong.1, .int .i64 b.strong.2] ∧ rowOf wr (w.heap.size + 1) = some #[.int .i64 0, .int .i64 0] ∧ rowOf wr W1.heap.size = some #[.int .i64 acc.1, .int .i64 acc.2]) (fun i _ => cs.length - (intOf i).toNat)
  case atStart => exact ⟨0, (0, 0), Nat.zero_le _, rfl, by have h := HR.out; simpa [Hid] using h, by simp, by simp, by simp, by simp, by go_grown, rowSkip raW1, rowSkip rdW1, row_here0 _ _ _⟩
  case round =>
    obtain ⟨k, acc, hk, rfl, hgo, a1, a2, a3, a4, hR, raR, rdR, rtR⟩ := hrel
    clear raW1 caW1 gaW1 rdW1 cdW1 gdW1
    have zR := hR.size
    have zdR := (cell_of_rowOf rdR).2.2
    have ztR := (cell_of_rowOf rtR).2.2
    by_cases hlt : k < cs.length
    · have hcam := Lib.hid (camel_below hR hg (HS.out k hlt))
      have H0 := Lib.hid ((thGo_drop (b := b) hlt acc).symm.trans hgo.out)
      clear hgo
      generalize cs[k] = c at *
      have hlt' : (k : Int) < (cs.length : Int) := by omega
      cases ho : okC b c with
      | true =>
        have HC := Lib.hid ho
        have HO := Lib.hid H0.out
        obtain ⟨x1, x2, x3⟩ := (okC_bd ho).water
        clear ho H0
        go_wp2_with fail
        refine wp_drawz (by kernel_rfl) Ext (fun _ => 0) Ext.refl (fun _ _ _ => Ext.trans) [some 22, some 23, some 24, some 25, some 26, some 27, some 28] (by kernel_rfl) (by kernel_rfl) (fun ix v W => match ix with
          | 0 => v = .agg #[.int .i64 b.full, .int .i64 b.fed, .int .i64 b.rest.1, .int .i64 b.rest.2, .int .i64 b.heat.1, .int .i64 b.heat.2, .int .i64 b.toil.1, .int .i64 b.toil.2, .int .i64 b.burn.1, .int .i64 b.burn.2, .int .i64 b.rub.1, .int .i64 b.rub.2, .int .i64 b.milk.1, .int .i64 b.milk.2, .int .i64 b.heal, .int .i64 b.strong.1, .int .i64 b.strong.2]
          | 1 => v = .slice (some ⟨g, off, none⟩) cs.length cap
          | 2 => v = .int .i64 k
          | 3 => v = .pointer (some ⟨g, off + k * 7, none⟩)
          | 4 => v = .agg #[.int .i64 c.water.1, .int .i64 c.water.2, .int .i64 c.fat.1, .int .i64 c.fat.2, .int .i64 c.sore.1, .int .i64 c.sore.2, .bool c.milks]
          | 5 => v = .bool true
          | 6 => v = .bool false
          | _ => True) ⟨⟨?_, ?_⟩, ⟨?_, ?_⟩, ⟨?_, ?_⟩, ⟨?_, ?_⟩, ⟨?_, ?_⟩, ⟨?_, ?_⟩, ⟨?_, ?_⟩, ?_⟩
        · intro g h; cases h
        · intro b' W hE hb hdep K hK
          have e2 : b'.tmps[2]?.getD undef = .pointer (some ⟨w.heap.size, 0, none⟩) := hb 2 (by decide)
          clear hdep hb
          obtain ⟨_, _, -, _⟩ := keep_row hE ((raR : rowOf _ _ = _))
          go_wp2
          exact hK _ _ (Ext.refl _) rfl
        · intro g h; cases h
        · intro b' W hE hb hdep K hK
          have e1 : b'.tmps[1]?.getD undef = .slice (some ⟨g, off, none⟩) cs.length cap := hb 1 (by decide)
          clear hdep hb
          go_wp2
          exact hK _ _ (Ext.refl _) rfl
        · intro g h; cases h
        · intro b' W hE hb hdep K hK
          have e7 : b'.tmps[7]?.getD undef = .int .i64 k := hb 7 (by decide)
          clear hdep hb
          go_wp2
          exact hK _ _ (Ext.refl _) rfl
        · intro g h; cases h
        · intro b' W hE hb hdep K hK
          have e23 : b'.tmps[23]?.getD undef = .slice (some ⟨g, off, none⟩) cs.length cap := pureR (hdep 1 (some 23) (by kernel_rfl) rfl)
          have e24 : b'.tmps[24]?.getD undef = .int .i64 k := pureR (hdep 2 (some 24) (by kernel_rfl) rfl)
          clear hdep hb
          go_wp2
          exact hK _ _ (Ext.refl _) rfl
        · intro g h; cases h
        · intro b' W hE hb hdep K hK
          have e25 : b'.tmps[25]?.getD undef = .pointer (some ⟨g, off + k * 7, none⟩) := pureR (hdep 3 (some 25) (by kernel_rfl) rfl)
          clear hdep hb
          obtain ⟨c0, c1, c2, c3, c4, c5, c6⟩ := camel_below hE (by simp; omega) (show CamelAt wr.drew g (off + k * 7) c from hcam.out)
          obtain ⟨_, _, -, _⟩ := keep_row hE ((raR : rowOf _ _ = _))
          go_wp2
          exact hK _ _ (Ext.refl _) rfl
        · intro g h; cases h
        · intro b' W hE hb hdep K hK
          have e22 : b'.tmps[22]?.getD undef = .agg #[.int .i64 b.full, .int .i64 b.fed, .int .i64 b.rest.1, .int .i64 b.rest.2, .int .i64 b.heat.1, .int .i64 b.heat.2, .int .i64 b.toil.1, .int .i64 b.toil.2, .int .i64 b.burn.1, .int .i64 b.burn.2, .int .i64 b.rub.1, .int .i64 b.rub.2, .int .i64 b.milk.1, .int .i64 b.milk.2, .int .i64 b.heal, .int .i64 b.strong.1, .int .i64 b.strong.2] := pureR (hdep 0 (some 22) (by kernel_rfl) rfl)
          have e26 : b'.tmps[26]?.getD undef = .agg #[.int .i64 c.water.1, .int .i64 c.water.2, .int .i64 c.fat.1, .int .i64 c.fat.2, .int .i64 c.sore.1, .int .i64 c.sore.2, .bool c.milks] := pureR (hdep 4 (some 26) (by kernel_rfl) rfl)
          clear hdep hb
          go_wp2_with fail
          refine (rCamel_okC b c _ HC.out _).mono ?_
          rintro e W' ⟨rfl, hB⟩
          exact hK _ _ hB rfl
        · intro g h; cases h
        · intro b' W hE hb hdep K hK
          have e27 : b'.tmps[27]?.getD undef = .bool true := pureR (hdep 5 (some 27) (by kernel_rfl) rfl)
          clear hdep hb
          go_wp2
          exact hK _ _ (Ext.refl _) rfl
        intro f W hE hR
        have e22 : f 22 = .agg #[.int .i64 b.full, .int .i64 b.fed, .int .i64 b.rest.1, .int .i64 b.rest.2, .int .i64 b.heat.1, .int .i64 b.heat.2, .int .i64 b.toil.1, .int .i64 b.toil.2, .int .i64 b.burn.1, .int .i64 b.burn.2, .int .i64 b.rub.1, .int .i64 b.rub.2, .int .i64 b.milk.1, .int .i64 b.milk.2, .int .i64 b.heal, .int .i64 b.strong.1, .int .i64 b.strong.2] := pureR (hR 0 (some 22) rfl)
        have e23 : f 23 = .slice (some ⟨g, off, none⟩) cs.length cap := pureR (hR 1 (some 23) rfl)
        have e24 : f 24 = .int .i64 k := pureR (hR 2 (some 24) rfl)
        have e25 : f 25 = .pointer (some ⟨g, off + k * 7, none⟩) := pureR (hR 3 (some 25) rfl)
        have e26 : f 26 = .agg #[.int .i64 c.water.1, .int .i64 c.water.2, .int .i64 c.fat.1, .int .i64 c.fat.2, .int .i64 c.sore.1, .int .i64 c.sore.2, .bool c.milks] := pureR (hR 4 (some 26) rfl)
        have e27 : f 27 = .bool true := pureR (hR 5 (some 27) rfl)
        have e28 : f 28 = .bool false := pureR (hR 6 (some 28) rfl)
        clear hR
        have hW3 : Below w.heap.size w W := hE.below hR.drew zR
        have raW := hE.row ((rowOf_drew _ _).trans raR)
        have rdW := hE.row ((rowOf_drew _ _).trans rdR)
        have rtW := hE.row ((rowOf_drew _ _).trans rtR)
        have hcW := Lib.hid (camel_below hE (by simp; omega) (show CamelAt wr.drew g (off + k * 7) c from hcam.out))
        clear hE
        have zW := hW3.size
        simp only [List.filterMap_cons, List.filterMap_nil, id, puts, Act.put, List.setIfInBounds_toArray, List.set_cons_succ, List.set_cons_zero, e22, e23, e24, e25, e26, e27, e28]
        have H1 : Hid (thGo b (cs.drop (k + 1)) (acc.1 + (b.full - c.water.2), acc.2 + (b.full - c.water.1)) = r) := by have h := HO.out; rw [if_pos HC.out] at h; exact h
        clear HO hcam raR rdR rtR hR
        rename World => V11
        go_wp2_with fail
        refine wp_draws (by kernel_rfl) [] [some 30, some 31, some 32, some 33, some 34, some 35, some 36, some 37, some 38, some 39, some 40, some 41, some 42] (by kernel_rfl) (fun ix v W => match ix with
          | 0 => v = .pointer (some ⟨W1.heap.size, 0, none⟩)
          | 1 => v = .int .i64 acc.1
          | 2 => v = .pointer (some ⟨w.heap.size, 0, none⟩)
          | 3 => v = .int .i64 b.full
          | 4 => v = .slice (some ⟨g, off, none⟩) cs.length cap
          | 5 => v = .int .i64 k
          | 6 => v = .pointer (some ⟨g, off + k * 7, none⟩)
          | 7 => v = .pointer (some ⟨g, off + k * 7, none⟩)
          | 8 => v = .pointer (some ⟨g, off + k * 7 + 1, none⟩)
          | 9 => v = .int .i64 c.water.2
          | 10 => v = .int .i64 (b.full - c.water.2)
          | 11 => v = .int .i64 (acc.1 + (b.full - c.water.2))
          | 12 => v = .pointer (some ⟨W1.heap.size, 0, none⟩)
          | _ => True) ⟨⟨?_, ?_⟩, ⟨?_, ?_⟩, ⟨?_, ?_⟩, ⟨?_, ?_⟩, ⟨?_, ?_⟩, ⟨?_, ?_⟩, ⟨?_, ?_⟩, ⟨?_, ?_⟩, ⟨?_, ?_⟩, ⟨?_, ?_⟩, ⟨?_, ?_⟩, ⟨?_, ?_⟩, ⟨?_, ?_⟩, ?_⟩
        · intro g h; cases h
        · intro b' W hE hb hdep K hK
          have e6 : b'.tmps[6]?.getD undef = .pointer (some ⟨W1.heap.size, 0, none⟩) := hb 6 (by decide)
          clear hdep hb
          go_wp2
          exact hK _ _ (XT.refl _ _) rfl
        · intro g h; cases h
        · intro b' W hE hb hdep K hK
          have e30 : b'.tmps[30]?.getD undef = .pointer (some ⟨W1.heap.size, 0, none⟩) := pureX (hdep 0 (some 30) (by kernel_rfl) rfl)
          clear hdep hb
          obtain ⟨_, _, -, _⟩ := row_facts (hE.row ((rowOf_drew _ _).trans raW) (by first | (simp; done) | (simp; omega)))
          obtain ⟨_, _, -, _⟩ := row_facts (hE.row ((rowOf_drew _ _).trans rtW) (by first | (simp; done) | (simp; omega)))
          go_wp2
          exact hK _ _ (XT.refl _ _) rfl
        · intro g h; cases h
        · intro b' W hE hb hdep K hK
          have e2 : b'.tmps[2]?.getD undef = .pointer (some ⟨w.heap.size, 0, none⟩) := hb 2 (by decide)
          clear hdep hb
          go_wp2
          exact hK _ _ (XT.refl _ _) rfl
        · intro g h; cases h
        · intro b' W hE hb hdep K hK
          have e32 : b'.tmps[32]?.getD undef = .pointer (some ⟨w.heap.size, 0, none⟩) := pureX (hdep 2 (some 32) (by kernel_rfl) rfl)
          clear hdep hb
          obtain ⟨_, _, -, _⟩ := row_facts (hE.row ((rowOf_drew _ _).trans raW) (by first | (simp; done) | (simp; omega)))
          obtain ⟨_, _, -, _⟩ := row_facts (hE.row ((rowOf_drew _ _).trans rtW) (by first | (simp; done) | (simp; omega)))
          go_wp2
          exact hK _ _ (XT.refl _ _) rfl
        · intro g h; cases h
        · intro b' W hE hb hdep K hK
          have e1 : b'.tmps[1]?.getD undef = .slice (some ⟨g, off, none⟩) cs.length cap := hb 1 (by decide)
          clear hdep hb
          go_wp2
          exact hK _ _ (XT.refl _ _) rfl
        · intro g h; cases h
        · intro b' W hE hb hdep K hK
          have e7 : b'.tmps[7]?.getD undef = .int .i64 k := hb 7 (by decide)
          clear hdep hb
          go_wp2
          exact hK _ _ (XT.refl _ _) rfl
        · intro g h; cases h
        · intro b' W hE hb hdep K hK
          have e34 : b'.tmps[34]?.getD undef = .slice (some ⟨g, off, none⟩) cs.length cap := pureX (hdep 4 (some 34) (by kernel_rfl) rfl)
          have e35 : b'.tmps[35]?.getD undef = .int .i64 k := pureX (hdep 5 (some 35) (by kernel_rfl) rfl)
          clear hdep hb
          go_wp2
          exact hK _ _ (XT.refl _ _) rfl
        · intro g h; cases h
        · intro b' W hE hb hdep K hK
          have e36 : b'.tmps[36]?.getD undef = .pointer (some ⟨g, off + k * 7, none⟩) := pureX (hdep 6 (some 36) (by kernel_rfl) rfl)
          clear hdep hb
          go_wp2
          exact hK _ _ (XT.refl _ _) rfl
        · intro g h; cases h
        · intro b' W hE hb hdep K hK
          have e37 : b'.tmps[37]?.getD undef = .pointer (some ⟨g, off + k * 7, none⟩) := pureX (hdep 7 (some 37) (by kernel_rfl) rfl)
          clear hdep hb
          go_wp2
          exact hK _ _ (XT.refl _ _) rfl
        · intro g h; cases h
        · intro b' W hE hb hdep K hK
          have e38 : b'.tmps[38]?.getD undef = .pointer (some ⟨g, off + k * 7 + 1, none⟩) := pureX (hdep 8 (some 38) (by kernel_rfl) rfl)
          clear hdep hb
          obtain ⟨c0, c1, c2, c3, c4, c5, c6⟩ := camel_below (hE.below (Below.refl _ _) (Nat.le_refl _) (by simp)) (by simp; omega) (show CamelAt (World.drew _) g (off + k * 7) c from hcW.out)
          obtain ⟨_, _, -, _⟩ := row_facts (hE.row ((rowOf_drew _ _).trans raW) (by first | (simp; done) | (simp; omega)))
          obtain ⟨_, _, -, _⟩ := row_facts (hE.row ((rowOf_drew _ _).trans rtW) (by first | (simp; done) | (simp; omega)))
          go_wp2
          exact hK _ _ (XT.refl _ _) rfl
        · intro g h; cases h
        · intro b' W hE hb hdep K hK
          have e33 : b'.tmps[33]?.getD undef = .int .i64 b.full := pureX (hdep 3 (some 33) (by kernel_rfl) rfl)
          have e39 : b'.tmps[39]?.getD undef = .int .i64 c.water.2 := pureX (hdep 9 (some 39) (by kernel_rfl) rfl)
          clear hdep hb
          go_wp2
          exact hK _ _ (XT.refl _ _) rfl
        · intro g h; cases h
        · intro b' W hE hb hdep K hK
          have e31 : b'.tmps[31]?.getD undef = .int .i64 acc.1 := pureX (hdep 1 (some 31) (by kernel_rfl) rfl)
          have e40 : b'.tmps[40]?.getD undef = .int .i64 (b.full - c.water.2) := pureX (hdep 10 (some 40) (by kernel_rfl) rfl)
          clear hdep hb
          go_wp2
          exact hK _ _ (XT.refl _ _) rfl
        · intro g h; cases h
        · intro b' W hE hb hdep K hK
          have e6 : b'.tmps[6]?.getD undef = .pointer (some ⟨W1.heap.size, 0, none⟩) := hb 6 (by decide)
          clear hdep hb
          go_wp2
          exact hK _ _ (XT.refl _ _) rfl
        intro f W hE hR
        have e30 : f 30 = .pointer (some ⟨W1.heap.size, 0, none⟩) := pureX (hR 0 (some 30) rfl)
        have e31 : f 31 = .int .i64 acc.1 := pureX (hR 1 (some 31) rfl)
        have e32 : f 32 = .pointer (some ⟨w.heap.size, 0, none⟩) := pureX (hR 2 (some 32) rfl)
        have e33 : f 33 = .int .i64 b.full := pureX (hR 3 (some 33) rfl)
        have e34 : f 34 = .slice (some ⟨g, off, none⟩) cs.length cap := pureX (hR 4 (some 34) rfl)
        have e35 : f 35 = .int .i64 k := pureX (hR 5 (some 35) rfl)
        have e36 : f 36 = .pointer (some ⟨g, off + k * 7, none⟩) := pureX (hR 6 (some 36) rfl)
        have e37 : f 37 = .pointer (some ⟨g, off + k * 7, none⟩) := pureX (hR 7 (some 37) rfl)
        have e38 : f 38 = .pointer (some ⟨g, off + k * 7 + 1, none⟩) := pureX (hR 8 (some 38) rfl)
        have e39 : f 39 = .int .i64 c.water.2 := pureX (hR 9 (some 39) rfl)
        have e40 : f 40 = .int .i64 (b.full - c.water.2) := pureX (hR 10 (some 40) rfl)
        have e41 : f 41 = .int .i64 (acc.1 + (b.full - c.water.2)) := pureX (hR 11 (some 41) rfl)
        have e42 : f 42 = .pointer (some ⟨W1.heap.size, 0, none⟩) := pureX (hR 12 (some 42) rfl)
        clear hR
        have hY := hE.below hW3.drew zW (by simp)
        have hcY := Lib.hid (camel_below (hE.below (Below.refl _ _) (Nat.le_refl _) (by simp)) (by simp; omega) (show CamelAt (World.drew _) g (off + k * 7) c from hcW.out))
        have raY := hE.row ((rowOf_drew _ _).trans raW) (by simp)
        have rdY := hE.row ((rowOf_drew _ _).trans rdW) (by simp)
        have rtY := hE.row ((rowOf_drew _ _).trans rtW) (by simp)
        obtain ⟨-, ctY, gtY, ztY⟩ := row_facts rtY
        clear hE hW3 hcW raW rdW rtW zW
        simp only [List.filterMap_cons, List.filterMap_nil, id, puts, Act.put, List.setIfInBounds_toArray, List.set_cons_succ, List.set_cons_zero, e30, e31, e32, e33, e34, e35, e36, e37, e38, e39, e40, e41, e42]
        have hW3 := setCell_below hY (g := W1.heap.size) (off := 0) (by omega) (.int .i64 (acc.1 + (b.full - c.water.2)))
        have zW := hW3.size
        have hcW := Lib.hid (camel_below (B := W1.heap.size) (setCell_below (Below.refl _ W) (g := W1.heap.size) (off := 0) (Nat.le_refl _) (.int .i64 (acc.1 + (b.full - c.water.2)))) (by omega) hcY.out)
        have raW := (rowOf_setCell_other W ⟨W1.heap.size, 0, none⟩ (.int .i64 (acc.1 + (b.full - c.water.2))) (w.heap.size) (by simp; omega)).trans raY
        have rdW := (rowOf_setCell_other W ⟨W1.heap.size, 0, none⟩ (.int .i64 (acc.1 + (b.full - c.water.2))) (w.heap.size + 1) (by simp; omega)).trans rdY
        have rtW : rowOf (W.setCell ⟨W1.heap.size, 0, none⟩ (.int .i64 (acc.1 + (b.full - c.water.2)))) W1.heap.size = some #[.int .i64 (acc.1 + (b.full - c.water.2)), .int .i64 (acc.2)] := rowOf_setCell_same (off := 0) rtY (.int .i64 (acc.1 + (b.full - c.water.2)))
        go_wp2_with fail
        have ztW : W1.heap.size < (W.setCell ⟨W1.heap.size, 0, none⟩ (.int .i64 (acc.1 + (b.full - c.water.2)))).heap.size := by simp; omega
        generalize W.setCell ⟨W1.heap.size, 0, none⟩ (.int .i64 (acc.1 + (b.full - c.water.2))) = V at hW3 zW hcW raW rdW rtW ztW ⊢
        clear hY hcY raY rdY rtY ctY gtY ztY W
        rename World => V12
        go_wp2_with fail
        refine wp_draws (by kernel_rfl) [] [some 43, some 44, some 45, some 46, some 47, some 48, some 49, some 50, some 51, some 52, some 53, some 54, some 55] (by kernel_rfl) (fun ix v W => match ix with
          | 0 => v = .pointer (some ⟨W1.heap.size, 1, none⟩)
          | 1 => v = .int .i64 acc.2
          | 2 => v = .pointer (some ⟨w.heap.size, 0, none⟩)
          | 3 => v = .int .i64 b.full
          | 4 => v = .slice (some ⟨g, off, none⟩) cs.length cap
          | 5 => v = .int .i64 k
          | 6 => v = .pointer (some ⟨g, off + k * 7, none⟩)
          | 7 => v = .pointer (some ⟨g, off + k * 7, none⟩)
          | 8 => v = .pointer (some ⟨g, off + k * 7, none⟩)
          | 9 => v = .int .i64 c.water.1
          | 10 => v = .int .i64 (b.full - c.water.1)
          | 11 => v = .int .i64 (acc.2 + (b.full - c.water.1))
          | 12 => v = .pointer (some ⟨W1.heap.size, 1, none⟩)
          | _ => True) ⟨⟨?_, ?_⟩, ⟨?_, ?_⟩, ⟨?_, ?_⟩, ⟨?_, ?_⟩, ⟨?_, ?_⟩, ⟨?_, ?_⟩, ⟨?_, ?_⟩, ⟨?_, ?_⟩, ⟨?_, ?_⟩, ⟨?_, ?_⟩, ⟨?_, ?_⟩, ⟨?_, ?_⟩, ⟨?_, ?_⟩, ?_⟩
        · intro g h; cases h
        · intro b' W hE hb hdep K hK
          have e6 : b'.tmps[6]?.getD undef = .pointer (some ⟨W1.heap.size, 0, none⟩) := hb 6 (by decide)
          clear hdep hb
          go_wp2
          exact hK _ _ (XT.refl _ _) rfl
        · intro g h; cases h
        · intro b' W hE hb hdep K hK
          have e43 : b'.tmps[43]?.getD undef = .pointer (some ⟨W1.heap.size, 1, none⟩) := pureX (hdep 0 (some 43) (by kernel_rfl) rfl)
          clear hdep hb
          obtain ⟨_, _, -, _⟩ := row_facts (hE.row ((rowOf_drew _ _).trans raW) (by first | (simp; done) | (simp; omega)))
          obtain ⟨_, _, -, _⟩ := row_facts (hE.row ((rowOf_drew _ _).trans rtW) (by first | (simp; done) | (simp; omega)))
          go_wp2
          exact hK _ _ (XT.refl _ _) rfl
        · intro g h; cases h
        · intro b' W hE hb hdep K hK
          have e2 : b'.tmps[2]?.getD undef = .pointer (some ⟨w.heap.size, 0, none⟩) := hb 2 (by decide)
          clear hdep hb
          go_wp2
          exact hK _ _ (XT.refl _ _) rfl
        · intro g h; cases h
        · intro b' W hE hb hdep K hK
          have e45 : b'.tmps[45]?.getD undef = .pointer (some ⟨w.heap.size, 0, none⟩) := pureX (hdep 2 (some 45) (by kernel_rfl) rfl)
          clear hdep hb
          obtain ⟨_, _, -, _⟩ := row_facts (hE.row ((rowOf_drew _ _).trans raW) (by first | (simp; done) | (simp; omega)))
          obtain ⟨_, _, -, _⟩ := row_facts (hE.row ((rowOf_drew _ _).trans rtW) (by first | (simp; done) | (simp; omega)))
          go_wp2
          exact hK _ _ (XT.refl _ _) rfl
        · intro g h; cases h
        · intro b' W hE hb hdep K hK
          have e1 : b'.tmps[1]?.getD undef = .slice (some ⟨g, off, none⟩) cs.length cap := hb 1 (by decide)
          clear hdep hb
          go_wp2
          exact hK _ _ (XT.refl _ _) rfl
        · intro g h; cases h
        · intro b' W hE hb hdep K hK
          have e7 : b'.tmps[7]?.getD undef = .int .i64 k := hb 7 (by decide)
          clear hdep hb
          go_wp2
          exact hK _ _ (XT.refl _ _) rfl
        · intro g h; cases h
        · intro b' W hE hb hdep K hK
          have e47 : b'.tmps[47]?.getD undef = .slice (some ⟨g, off, none⟩) cs.length cap := pureX (hdep 4 (some 47) (by kernel_rfl) rfl)
          have e48 : b'.tmps[48]?.getD undef = .int .i64 k := pureX (hdep 5 (some 48) (by kernel_rfl) rfl)
          clear hdep hb
          go_wp2
          exact hK _ _ (XT.refl _ _) rfl
        · intro g h; cases h
        · intro b' W hE hb hdep K hK
          have e49 : b'.tmps[49]?.getD undef = .pointer (some ⟨g, off + k * 7, none⟩) := pureX (hdep 6 (some 49) (by kernel_rfl) rfl)
          clear hdep hb
          go_wp2
          exact hK _ _ (XT.refl _ _) rfl
        · intro g h; cases h
        · intro b' W hE hb hdep K hK
          have e50 : b'.tmps[50]?.getD undef = .pointer (some ⟨g, off + k * 7, none⟩) := pureX (hdep 7 (some 50) (by kernel_rfl) rfl)
          clear hdep hb
          go_wp2
          exact hK _ _ (XT.refl _ _) rfl
        · intro g h; cases h
        · intro b' W hE hb hdep K hK
          have e51 : b'.tmps[51]?.getD undef = .pointer (some ⟨g, off + k * 7, none⟩) := pureX (hdep 8 (some 51) (by kernel_rfl) rfl)
          clear hdep hb
          obtain ⟨c0, c1, c2, c3, c4, c5, c6⟩ := camel_below (hE.below (Below.refl _ _) (Nat.le_refl _) (by simp)) (by simp; omega) (show CamelAt (World.drew _) g (off + k * 7) c from hcW.out)
          obtain ⟨_, _, -, _⟩ := row_facts (hE.row ((rowOf_drew _ _).trans raW) (by first | (simp; done) | (simp; omega)))
          obtain ⟨_, _, -, _⟩ := row_facts (hE.row ((rowOf_drew _ _).trans rtW) (by first | (simp; done) | (simp; omega)))
          go_wp2
          exact hK _ _ (XT.refl _ _) rfl
        · intro g h; cases h
        · intro b' W hE hb hdep K hK
          have e46 : b'.tmps[46]?.getD undef = .int .i64 b.full := pureX (hdep 3 (some 46) (by kernel_rfl) rfl)
          have e52 : b'.tmps[52]?.getD undef = .int .i64 c.water.1 := pureX (hdep 9 (some 52) (by kernel_rfl) rfl)
          clear hdep hb
          go_wp2
          exact hK _ _ (XT.refl _ _) rfl
        · intro g h; cases h
        · intro b' W hE hb hdep K hK
          have e44 : b'.tmps[44]?.getD undef = .int .i64 acc.2 := pureX (hdep 1 (some 44) (by kernel_rfl) rfl)
          have e53 : b'.tmps[53]?.getD undef = .int .i64 (b.full - c.water.1) := pureX (hdep 10 (some 53) (by kernel_rfl) rfl)
          clear hdep hb
          go_wp2
          exact hK _ _ (XT.refl _ _) rfl
        · intro g h; cases h
        · intro b' W hE hb hdep K hK
          have e6 : b'.tmps[6]?.getD undef = .pointer (some ⟨W1.heap.size, 0, none⟩) := hb 6 (by decide)
          clear hdep hb
          go_wp2
          exact hK _ _ (XT.refl _ _) rfl
        intro f W hE hR
        have e43 : f 43 = .pointer (some ⟨W1.heap.size, 1, none⟩) := pureX (hR 0 (some 43) rfl)
        have e44 : f 44 = .int .i64 acc.2 := pureX (hR 1 (some 44) rfl)
        have e45 : f 45 = .pointer (some ⟨w.heap.size, 0, none⟩) := pureX (hR 2 (some 45) rfl)
        have e46 : f 46 = .int .i64 b.full := pureX (hR 3 (some 46) rfl)
        have e47 : f 47 = .slice (some ⟨g, off, none⟩) cs.length cap := pureX (hR 4 (some 47) rfl)
        have e48 : f 48 = .int .i64 k := pureX (hR 5 (some 48) rfl)
        have e49 : f 49 = .pointer (some ⟨g, off + k * 7, none⟩) := pureX (hR 6 (some 49) rfl)
        have e50 : f 50 = .pointer (some ⟨g, off + k * 7, none⟩) := pureX (hR 7 (some 50) rfl)
        have e51 : f 51 = .pointer (some ⟨g, off + k * 7, none⟩) := pureX (hR 8 (some 51) rfl)
        have e52 : f 52 = .int .i64 c.water.1 := pureX (hR 9 (some 52) rfl)
        have e53 : f 53 = .int .i64 (b.full - c.water.1) := pureX (hR 10 (some 53) rfl)
        have e54 : f 54 = .int .i64 (acc.2 + (b.full - c.water.1)) := pureX (hR 11 (some 54) rfl)
        have e55 : f 55 = .pointer (some ⟨W1.heap.size, 1, none⟩) := pureX (hR 12 (some 55) rfl)
        clear hR
        have hY := hE.below hW3.drew zW (by simp)
        have hcY := Lib.hid (camel_below (hE.below (Below.refl _ _) (Nat.le_refl _) (by simp)) (by simp; omega) (show CamelAt (World.drew _) g (off + k * 7) c from hcW.out))
        have raY := hE.row ((rowOf_drew _ _).trans raW) (by simp)
        have rdY := hE.row ((rowOf_drew _ _).trans rdW) (by simp)
        have rtY := hE.row ((rowOf_drew _ _).trans rtW) (by simp)
        obtain ⟨-, ctY, gtY, ztY⟩ := row_facts rtY
        clear hE hW3 hcW raW rdW rtW zW
        simp only [List.filterMap_cons, List.filterMap_nil, id, puts, Act.put, List.setIfInBounds_toArray, List.set_cons_succ, List.set_cons_zero, e43, e44, e45, e46, e47, e48, e49, e50, e51, e52, e53, e54, e55]
        have hW3 := setCell_below hY (g := W1.heap.size) (off := 1) (by omega) (.int .i64 (acc.2 + (b.full - c.water.1)))
        have zW := hW3.size
        have hcW := Lib.hid (camel_below (B := W1.heap.size) (setCell_below (Below.refl _ W) (g := W1.heap.size) (off := 1) (Nat.le_refl _) (.int .i64 (acc.2 + (b.full - c.water.1)))) (by omega) hcY.out)
        have raW := (rowOf_setCell_other W ⟨W1.heap.size, 1, none⟩ (.int .i64 (acc.2 + (b.full - c.water.1))) (w.heap.size) (by simp; omega)).trans raY
        have rdW := (rowOf_setCell_other W ⟨W1.heap.size, 1, none⟩ (.int .i64 (acc.2 + (b.full - c.water.1))) (w.heap.size + 1) (by simp; omega)).trans rdY
        have rtW : rowOf (W.setCell ⟨W1.heap.size, 1, none⟩ (.int .i64 (acc.2 + (b.full - c.water.1)))) W1.heap.size = some #[.int .i64 (acc.1 + (b.full - c.water.2)), .int .i64 (acc.2 + (b.full - c.water.1))] := rowOf_setCell_same (off := 1) rtY (.int .i64 (acc.2 + (b.full - c.water.1)))
        go_wp2
        exact ⟨⟨k + 1, _, by omega, by go_num, H1, by simp only []; omega, by simp only []; omega, by simp only []; omega, by simp only []; omega, hW3, raW, rdW, rtW⟩, by simp [intOf]; omega⟩
      | false =>
        have HC := Lib.hid ho
        have HO := Lib.hid H0.out
        clear ho H0
        go_wp2_with fail
        refine wp_drawz (by kernel_rfl) Ext (fun _ => 0) Ext.refl (fun _ _ _ => Ext.trans) [some 22, some 23, some 24, some 25, some 26, some 27, some 28] (by kernel_rfl) (by kernel_rfl) (fun ix v W => match ix with
          | 0 => v = .agg #[.int .i64 b.full, .int .i64 b.fed, .int .i64 b.rest.1, .int .i64 b.rest.2, .int .i64 b.heat.1, .int .i64 b.heat.2, .int .i64 b.toil.1, .int .i64 b.toil.2, .int .i64 b.burn.1, .int .i64 b.burn.2, .int .i64 b.rub.1, .int .i64 b.rub.2, .int .i64 b.milk.1, .int .i64 b.milk.2, .int .i64 b.heal, .int .i64 b.strong.1, .int .i64 b.strong.2]
          | 1 => v = .slice (some ⟨g, off, none⟩) cs.length cap
          | 2 => v = .int .i64 k
          | 3 => v = .pointer (some ⟨g, off + k * 7, none⟩)
          | 4 => v = .agg #[.int .i64 c.water.1, .int .i64 c.water.2, .int .i64 c.fat.1, .int .i64 c.fat.2, .int .i64 c.sore.1, .int .i64 c.sore.2, .bool c.milks]
          | 5 => v = .bool false
          | 6 => v = .bool true
          | _ => True) ⟨⟨?_, ?_⟩, ⟨?_, ?_⟩, ⟨?_, ?_⟩, ⟨?_, ?_⟩, ⟨?_, ?_⟩, ⟨?_, ?_⟩, ⟨?_, ?_⟩, ?_⟩
        · intro g h; cases h
        · intro b' W hE hb hdep K hK
          have e2 : b'.tmps[2]?.getD undef = .pointer (some ⟨w.heap.size, 0, none⟩) := hb 2 (by decide)
          clear hdep hb
          obtain ⟨_, _, -, _⟩ := keep_row hE ((raR : rowOf _ _ = _))
          go_wp2
          exact hK _ _ (Ext.refl _) rfl
        · intro g h; cases h
        · intro b' W hE hb hdep K hK
          have e1 : b'.tmps[1]?.getD undef = .slice (some ⟨g, off, none⟩) cs.length cap := hb 1 (by decide)
          clear hdep hb
          go_wp2
          exact hK _ _ (Ext.refl _) rfl
        · intro g h; cases h
        · intro b' W hE hb hdep K hK
          have e7 : b'.tmps[7]?.getD undef = .int .i64 k := hb 7 (by decide)
          clear hdep hb
          go_wp2
          exact hK _ _ (Ext.refl _) rfl
        · intro g h; cases h
        · intro b' W hE hb hdep K hK
          have e23 : b'.tmps[23]?.getD undef = .slice (some ⟨g, off, none⟩) cs.length cap := pureR (hdep 1 (some 23) (by kernel_rfl) rfl)
          have e24 : b'.tmps[24]?.getD undef = .int .i64 k := pureR (hdep 2 (some 24) (by kernel_rfl) rfl)
          clear hdep hb
          go_wp2
          exact hK _ _ (Ext.refl _) rfl
        · intro g h; cases h
        · intro b' W hE hb hdep K hK
          have e25 : b'.tmps[25]?.getD undef = .pointer (some ⟨g, off + k * 7, none⟩) := pureR (hdep 3 (some 25) (by kernel_rfl) rfl)
          clear hdep hb
          obtain ⟨c0, c1, c2, c3, c4, c5, c6⟩ := camel_below hE (by simp; omega) (show CamelAt wr.drew g (off + k * 7) c from hcam.out)
          obtain ⟨_, _, -, _⟩ := keep_row hE ((raR : rowOf _ _ = _))
          go_wp2
          exact hK _ _ (Ext.refl _) rfl
        · intro g h; cases h
        · intro b' W hE hb hdep K hK
          have e22 : b'.tmps[22]?.getD undef = .agg #[.int .i64 b.full, .int .i64 b.fed, .int .i64 b.rest.1, .int .i64 b.rest.2, .int .i64 b.heat.1, .int .i64 b.heat.2, .int .i64 b.toil.1, .int .i64 b.toil.2, .int .i64 b.burn.1, .int .i64 b.burn.2, .int .i64 b.rub.1, .int .i64 b.rub.2, .int .i64 b.milk.1, .int .i64 b.milk.2, .int .i64 b.heal, .int .i64 b.strong.1, .int .i64 b.strong.2] := pureR (hdep 0 (some 22) (by kernel_rfl) rfl)
          have e26 : b'.tmps[26]?.getD undef = .agg #[.int .i64 c.water.1, .int .i64 c.water.2, .int .i64 c.fat.1, .int .i64 c.fat.2, .int .i64 c.sore.1, .int .i64 c.sore.2, .bool c.milks] := pureR (hdep 4 (some 26) (by kernel_rfl) rfl)
          clear hdep hb
          go_wp2_with fail
          refine (rCamel_okC b c _ HC.out _).mono ?_
          rintro e W' ⟨rfl, hB⟩
          exact hK _ _ hB rfl
        · intro g h; cases h
        · intro b' W hE hb hdep K hK
          have e27 : b'.tmps[27]?.getD undef = .bool false := pureR (hdep 5 (some 27) (by kernel_rfl) rfl)
          clear hdep hb
          go_wp2
          exact hK _ _ (Ext.refl _) rfl
        intro f W hE hR
        have e22 : f 22 = .agg #[.int .i64 b.full, .int .i64 b.fed, .int .i64 b.rest.1, .int .i64 b.rest.2, .int .i64 b.heat.1, .int .i64 b.heat.2, .int .i64 b.toil.1, .int .i64 b.toil.2, .int .i64 b.burn.1, .int .i64 b.burn.2, .int .i64 b.rub.1, .int .i64 b.rub.2, .int .i64 b.milk.1, .int .i64 b.milk.2, .int .i64 b.heal, .int .i64 b.strong.1, .int .i64 b.strong.2] := pureR (hR 0 (some 22) rfl)
        have e23 : f 23 = .slice (some ⟨g, off, none⟩) cs.length cap := pureR (hR 1 (some 23) rfl)
        have e24 : f 24 = .int .i64 k := pureR (hR 2 (some 24) rfl)
        have e25 : f 25 = .pointer (some ⟨g, off + k * 7, none⟩) := pureR (hR 3 (some 25) rfl)
        have e26 : f 26 = .agg #[.int .i64 c.water.1, .int .i64 c.water.2, .int .i64 c.fat.1, .int .i64 c.fat.2, .int .i64 c.sore.1, .int .i64 c.sore.2, .bool c.milks] := pureR (hR 4 (some 26) rfl)
        have e27 : f 27 = .bool false := pureR (hR 5 (some 27) rfl)
        have e28 : f 28 = .bool true := pureR (hR 6 (some 28) rfl)
        clear hR
        have hW3 : Below w.heap.size w W := hE.below hR.drew zR
        have raW := hE.row ((rowOf_drew _ _).trans raR)
        have rdW := hE.row ((rowOf_drew _ _).trans rdR)
        have rtW := hE.row ((rowOf_drew _ _).trans rtR)
        have hcW := Lib.hid (camel_below hE (by simp; omega) (show CamelAt wr.drew g (off + k * 7) c from hcam.out))
        clear hE
        have zW := hW3.size
        simp only [List.filterMap_cons, List.filterMap_nil, id, puts, Act.put, List.setIfInBounds_toArray, List.set_cons_succ, List.set_cons_zero, e22, e23, e24, e25, e26, e27, e28]
        have H1 : Hid (r = ((0, 0), 11)) := by have h := HO.out; rw [if_neg (by rw [HC.out]; simp)] at h; exact h.symm
        go_wp2
        exact bodyPost_ret (results_row2 Try.results41 rfl (stored_setRow rdW _).row rfl (v := .int .i64 11) rfl) rfl ⟨by rw [H1.out], Below_setRow hW3 (by omega) _⟩
    · obtain rfl : k = cs.length := by omega
      have H1 : Hid (r = (acc, 0)) := by
        have h := hgo.out
        rw [List.drop_length, thGo] at h
        exact h.symm
      clear hgo
      have hq := fun vs g => rowOf_setRow rdR vs g
      obtain ⟨-, ctR, gtR, -⟩ := row_facts rtR
      go_wp2
      exact bodyPost_ret (results_row2 Try.results41 rfl (cs := #[.int .i64 acc.1, .int .i64 acc.2]) (stored_setRow rdR _).row rfl (v := .int .i64 0) rfl) rfl ⟨by rw [H1.out], Below_setRow hR (by omega) _⟩
end Go.Proofs.Ytafdcbdbllpcnaa
