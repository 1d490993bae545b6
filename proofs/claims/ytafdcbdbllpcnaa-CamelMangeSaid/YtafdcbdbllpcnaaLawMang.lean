/- The walk of the fourth property: Mange agrees with the reference's, for every number of animals, list of sick ones, list of meetings, wait and day; the lists stay. -/
import Derived.Test.YtafdcbdbllpcnaaMangT
import Derived.Test.YtafdcbdbllpcnaaRefU
namespace Go.Proofs.Ytafdcbdbllpcnaa
open Go.RowKit
open Go.Proofs

theorem ints_one {xs : List Int} : ∀ u ∈ xs.map (Value.int .i64 ·), u.oneCell' = true := by
  intro u hu
  obtain ⟨x, -, rfl⟩ := List.mem_map.1 hu
  rfl
theorem ints_src {w : World} {a : Option Addr} {cap n : Nat} {xs : List Int} (hn : n = xs.length) (h : IntsIn w a cap xs) : (a = none ∧ n = 0 ∧ cap = 0) ∨ ∃ ad, a = some ad ∧ ∀ j u, (xs.map (Value.int .i64 ·))[j]? = some u → w.cell? (ad.add j) = some u := by
  rcases h with ⟨h1, h2, h3⟩ | ⟨b, off, h1, h2, h3⟩
  · exact .inl ⟨h1, by rw [hn, h3]; rfl, h2⟩
  · refine .inr ⟨_, h1, fun j u hj => ?_⟩
    have hjl : j < xs.length := by
      have := (List.getElem?_eq_some_iff.1 hj).1
      simpa using this
    rw [add_none, h2 j hjl]
    simpa [hjl] using hj
theorem ints_own {w : World} {base g n cap : Nat} {xs : List Int} (hn : n = xs.length) (h : w.ownsRow base 3 1 (.slice (some ⟨g, 0, none⟩) n cap) n (xs.map (.int .i64 ·))) : IntsIn w (some ⟨g, 0, none⟩) cap xs := by
  subst hn
  refine .inr ⟨g, 0, rfl, fun k hk => ?_, (h.lt g rfl).2⟩
  rw [Nat.zero_add, h.cellAt k (by omega)]
  simp [hk]

set_option maxRecDepth 100000 in
set_option maxHeartbeats 8000000 in
theorem camelMange_walk (n day : Int) (wt : Int × Int) (fa : Option Addr) (fcap nf : Nat) (first : List Int) (ma : Option Addr) (mcap nm : Nat) (ms : List Mt) (w : World) (hnf : nf = first.length) (hnm : nm = ms.length) (hf : IntsIn w fa fcap first) (hm : MeetsIn w ma mcap ms) :
    Calls Try.prog 7 #[.int .i64 n, .slice fa nf fcap, .slice ma nm mcap, .agg #[.int .i64 wt.1, .int .i64 wt.2], .int .i64 day] w fun e w' => e = .returned (.bool true) ∧ Below w.heap.size w w' := by
  have HNF := Lib.hid hnf
  have HNM := Lib.hid hnm
  have HF := Lib.hid hf
  have HM := Lib.hid hm
  by_cases h50 : nf ≤ 50
  · by_cases h250 : nm ≤ 250
    · obtain ⟨x, hx⟩ : ∃ x, chkG n first ms wt day = x := ⟨_, rfl⟩
      obtain ⟨bs, hb⟩ : ∃ bs, bsO n first ms wt day = bs := ⟨_, rfl⟩
      have HX := Lib.hid hx
      have HBS := Lib.hid hb
      have hn50 : (nf : Int) ≤ 50 := by omega
      have hm250 : (nm : Int) ≤ 250 := by omega
      have hfl : first.length ≤ 100000 := by omega
      obtain ⟨i0, hi0, hz0, hz1, hz2⟩ := info_parts info3z
      obtain ⟨j0, hj0, hy0, hy1, hy2⟩ := info_parts info79y
      clear hx hb hnf hnm hf hm
      go_enter Try.func7, Try.ntmps7
      go_wp2_with (first
        | (at_builtin; refine wpList_clone rfl _ _ 27 rfl (w.heap.size + 1) 3 i0 (.int .i64 0) 1 8 Try.underlying27 hi0 hz0 hz1 hz2 rfl (by decide) (w.heap.size + 1) 0 rfl ?own fa nf fcap (first.map (.int .i64 ·)) rfl ?len ?src ints_one (by unfold maxLen; omega) (by omega) (by simp) ?_)
        | fail)
      case own => exact owns_new79 (by simp) (Nat.le_refl _)
      case len => rw [List.length_map, HNF.out, Nat.mul_one]
      case src => exact ints_src HNF.out (HF.out.below (B := w.heap.size) (by go_grown) (Nat.le_refl _))
      intro g1 cp1 w1 hown1 hgrow1
      have raWA' := row_grownO (g := w.heap.size) (by repeat (first | with_reducible apply row_here0 | with_reducible apply row_here1 | with_reducible apply row_here2 | with_reducible apply rowSkip)) hgrow1 (fun i e => by cases e; omega)
      have hWA : Below w.heap.size w w1 := Below.grown (by go_grown) hgrow1 (by simp; omega) (fun i e => by cases e; omega)
      have hoi := Lib.hid (ints_own HNF.out hown1)
      have zWA := hWA.size
      obtain ⟨raWA, caWA, gaWA, zaWA⟩ := row_facts raWA'
      clear hown1 hgrow1 hi0 hz0 hz1 hz2 raWA'
      go_wp2_with (first
        | (at_builtin; refine wpList_clone rfl _ _ 28 rfl w1.heap.size 79 j0 (.agg #[.int .i64 0, .int .i64 0, .int .i64 0, .bool false]) 4 32 Try.underlying28 hj0 hy0 hy1 hy2 rfl (by decide) w1.heap.size 0 rfl ?own2 ma nm mcap (ms.flatMap mtCells) rfl ?len2 ?src2 mt_one (by unfold maxLen; omega) (by omega) (by simp) ?_)
        | fail)
      case own2 => exact owns_new79 rfl (Nat.le_refl _)
      case len2 => rw [flat_len mtCells 4 mt_len, HNM.out]
      case src2 => exact meets_src HNM.out ((HM.out.below hWA (Nat.le_refl _)).ext (ext_alloc _ _))
      intro g2 cp2 w2 hown2 hgrow2
      have xWB : Ext w1 w2 := Below.grown (ext_alloc _ _) hgrow2 (by simp) (fun i e => by cases e; exact Nat.le_refl _)
      have hWB : Below w.heap.size w w2 := hWA.trans (Below.mono xWB zWA)
      have omWB := Lib.hid (meets_own HNM.out hown2).1
      have oiWB := Lib.hid (hoi.out.below xWB (Nat.le_refl _))
      have liWB := Lib.hid (HF.out.below hWB (Nat.le_refl _))
      have lmWB := Lib.hid (HM.out.below hWB (Nat.le_refl _))
      obtain ⟨raWB, caWB, gaWB, zaWB⟩ := keep_row xWB raWA
      have zWB := hWB.size
      clear hown2 hgrow2 hj0 hy0 hy1 hy2 raWA caWA gaWA zaWA hoi xWB hWA zWA
      generalize w2 = WB at *
      go_wp2_with fail
      refine (Mange_x n day wt (some ⟨g1, 0, none⟩) cp1 nf first (some ⟨g2, 0, none⟩) cp2 nm ms x bs _ HNF.out HNM.out oiWB.out omWB.out HX.out HBS.out h250).mono ?_
      rintro e W3 ⟨⟨v1, rfl, hT⟩, hB⟩
      have xW3 : Ext WB W3 := Below.trans (by go_grown) (hB.mono (by simp; try omega))
      have hW3 : Below w.heap.size w W3 := hWB.trans (Below.trans (by have := hWB.size; go_grown) (hB.mono (by have := hWB.size; simp; try omega)))
      have zW3 := hW3.size
      obtain ⟨raW3, caW3, gaW3, zaW3⟩ := keep_row hB (g := w.heap.size) (by repeat (first | with_reducible assumption | with_reducible apply row_here0 | with_reducible apply row_here1 | with_reducible apply row_here2 | with_reducible apply row_here3 | with_reducible apply rowSkip))
      clear hB
      have v1W3 := Lib.hid hT
      clear hT raWB caWB gaWB
      have omW3 := Lib.hid (omWB.out.below xW3 (Nat.le_refl _))
      have oiW3 := Lib.hid (oiWB.out.below xW3 (Nat.le_refl _))
      have liW3 := Lib.hid (liWB.out.below xW3 (Nat.le_refl _))
      have lmW3 := Lib.hid (lmWB.out.below xW3 (Nat.le_refl _))
      clear omWB oiWB liWB lmWB xW3
      go_wp2_with fail
      refine (rMange_x n day wt fa fcap nf first ma mcap nm ms x bs _ HNF.out HNM.out liW3.out lmW3.out HX.out HBS.out).mono ?_
      rintro e W4 ⟨⟨v2, rfl, hT⟩, hB⟩
      have xW4 : Ext W3 W4 := Below.trans (by go_grown) (hB.mono (by simp; try omega))
      have hW4 : Below w.heap.size w W4 := hW3.trans (Below.trans (by have := hW3.size; go_grown) (hB.mono (by have := hW3.size; simp; try omega)))
      have zW4 := hW4.size
      obtain ⟨raW4, caW4, gaW4, zaW4⟩ := keep_row hB (g := w.heap.size) (by repeat (first | with_reducible assumption | with_reducible apply row_here0 | with_reducible apply row_here1 | with_reducible apply row_here2 | with_reducible apply row_here3 | with_reducible apply rowSkip))
      clear hB
      have v2W4 := Lib.hid hT
      have v1W4 := Lib.hid (v1W3.out.ext xW4)
      clear hT raW3 caW3 gaW3 v1W3
      have omW4 := Lib.hid (omW3.out.below xW4 (Nat.le_refl _))
      have oiW4 := Lib.hid (oiW3.out.below xW4 (Nat.le_refl _))
      have liW4 := Lib.hid (liW3.out.below xW4 (Nat.le_refl _))
      have lmW4 := Lib.hid (lmW3.out.below xW4 (Nat.le_refl _))
      clear omW3 oiW3 liW3 lmW3 xW4
      go_wp2_with fail
      go_loopw [52] (fun i wr => ∃ k : Nat, k ≤ nm ∧ i = .int .i64 (k : Int) ∧ Hid (Ext W4 wr)) (fun i _ => nm - (intOf i).toNat)
      case atStart => exact ⟨0, Nat.zero_le _, rfl, Ext.refl _⟩
      case round =>
        obtain ⟨k, hk, rfl, hE8⟩ := hrel
        by_cases hlt : k < nm
        · have hlm : k < ms.length := by have := HNM.out; omega
          obtain ⟨p1, o1, e1, m1, l1⟩ := (omW4.out.ext hE8.out).get hlm
          obtain ⟨p2, o2, rfl, m2, l2⟩ := (lmW4.out.ext hE8.out).get hlm
          cases e1
          rw [Nat.zero_add] at m1
          generalize mtS ms k = md at m1 m2
          obtain ⟨c0, c1, c2, c3⟩ := m1
          obtain ⟨d0, d1, d2, d3⟩ := m2
          have hlt' : (k : Int) < (nm : Int) := by omega
          go_wp2_with fail
          go_quiet (fail)
          go_wp2
          exact ⟨⟨k + 1, by omega, by go_num, below_drewN hE8.out _⟩, by simp [intOf]; omega⟩
        · obtain rfl : k = nm := by omega
          have cv1 := (v1W4.out.ext hE8.out).conv
          have cv2 := (v2W4.out.ext hE8.out).conv
          have hOI := Lib.hid (oiW4.out.below hE8.out (Nat.le_refl _))
          have hLI := Lib.hid (liW4.out.below hE8.out (Nat.le_refl _))
          have hWR := Lib.hid (hW4.trans (Below.mono hE8.out zW4))
          clear v1W4 v2W4 oiW4 liW4 omW4 lmW4 hE8 raW4 caW4 gaW4
          go_wp2_with fail
          refine (sameInts_any HNF.out hOI.out hLI.out hfl).mono ?_
          rintro e W9 ⟨rfl, hB⟩
          have hW9 : Below w.heap.size w W9 := hWR.out.trans (hB.mono hWR.out.size)
          clear hB
          go_wp2
          go_returns
          exact ⟨rfl, hW9⟩
    · have hm50 : ¬ (nm : Int) ≤ 250 := by omega
      have hm51 : (250 : Int) < (nm : Int) := by omega
      have hn50 : (nf : Int) ≤ 50 := by omega
      clear h50 h250 hf hm hnf hnm
      go_enter Try.func7, Try.ntmps7
      go_wp2
      go_returns
      exact ⟨rfl, by go_grown⟩
  · have hn50 : ¬ (nf : Int) ≤ 50 := by omega
    have hn51 : (50 : Int) < (nf : Int) := by omega
    clear h50 hf hm hnf hnm
    go_enter Try.func7, Try.ntmps7
    go_wp2
    go_returns
    exact ⟨rfl, by go_grown⟩
end Go.Proofs.Ytafdcbdbllpcnaa
