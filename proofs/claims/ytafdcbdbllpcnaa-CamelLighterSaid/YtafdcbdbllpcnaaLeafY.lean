/- Contract of package camel's sickFrom, over that of inOrder. -/
import Derived.Test.YtafdcbdbllpcnaaLate
import Derived.Test.YtafdcbdbllpcnaaIter
import Derived.Test.YtafdcbdbllpcnaaLeafE
import Derived.Test.YtafdcbdbllpcnaaLeafI
import Derived.Test.YtafdcbdbllpcnaaMtCl
import Derived.WalkMore
set_option linter.unusedVariables false
set_option linter.unusedSimpArgs false
namespace Go.Proofs.Ytafdcbdbllpcnaa
open Go.RowKit
open Go.Proofs

attribute [local irreducible] wpQuiet

theorem rep_flat (s : Int × Int) (n : Nat) : rep (spCells s) n = (List.replicate n s).flatMap spCells := by
  simp [rep, List.flatMap, List.map_replicate]
theorem spOut_rep {W : World} {g n : Nat} {s : Int × Int} (h : rowOf W g = some (rep (spCells s) n).toArray) : SpOut W g (List.replicate n s) := by
  refine ⟨_, h, fun k hk => ?_⟩
  have hk' : k < n := by simpa using hk
  have key : ∀ i u, i < 2 → (spCells s)[i]? = some u → (rep (spCells s) n).toArray[k * 2 + i]? = some u := by
    intro i u hi hu
    rw [List.getElem?_toArray, rep_flat, flat_at spCells 2 (fun _ => rfl) _ k i hk hi]
    simpa using hu
  have e : (List.replicate n s).getD k (0, 0) = s := by simp [hk']
  rw [e]
  exact ⟨key 0 _ (by omega) rfl, key 1 _ (by omega) rfl⟩
theorem SpOut.set {W : World} {g : Nat} {ss : List (Int × Int)} (h : SpOut W g ss) {k : Nat} (hk : k < ss.length) (a b : Int) : SpOut ((W.setCell ⟨g, k * 2, none⟩ (.int .i64 a)).setCell ⟨g, k * 2 + 1, none⟩ (.int .i64 b)) g (ss.set k (a, b)) := by
  obtain ⟨cur, h1, h2⟩ := h
  refine ⟨_, rowOf_setCell_o (rowOf_setCell_o h1 _) _, fun j hj => ?_⟩
  have hj' : j < ss.length := by simpa using hj
  have hs1 : k * 2 < cur.size := (Array.getElem?_eq_some_iff.1 (h2 k hk).1).1
  have hs2 : k * 2 + 1 < cur.size := (Array.getElem?_eq_some_iff.1 (h2 k hk).2).1
  obtain ⟨q1, q2⟩ := h2 j hj'
  by_cases e : j = k
  · subst e
    rw [swp_getD_eq hj']
    constructor
    · rw [Array.getElem?_setIfInBounds, if_neg (by omega), Array.getElem?_setIfInBounds, if_pos rfl, if_pos hs1]
    · rw [Array.getElem?_setIfInBounds, if_pos rfl, if_pos (by simpa using hs2)]
  · rw [swp_getD_ne e]
    constructor
    · rw [Array.getElem?_setIfInBounds, if_neg (by omega), Array.getElem?_setIfInBounds, if_neg (by omega)]; exact q1
    · rw [Array.getElem?_setIfInBounds, if_neg (by omega), Array.getElem?_setIfInBounds, if_neg (by omega)]; exact q2

attribute [local go_sem] index146_0 index146_1
attribute [local go_sem ↓] run_min2

/-- The two rounds of a meeting. -/
def fr (p q r : Nat) : Nat := if r = 0 then p else q
def st3 (D : Int) (wt : Int × Int) (c : Bool) (p q : Nat) (ss : List (Int × Int)) : Nat → List (Int × Int)
  | 0 => ss
  | 1 => dir D wt c p q ss
  | _ => dir D wt c q p (dir D wt c p q ss)
theorem st3_step (D : Int) (wt : Int × Int) (c : Bool) (p q : Nat) (ss : List (Int × Int)) {r : Nat} (h : r < 2) : st3 D wt c p q ss (r + 1) = dir D wt c (fr p q r) (fr q p r) (st3 D wt c p q ss r) := by
  match r, h with
  | 0, _ => rfl
  | 1, _ => rfl
theorem st3_len (D : Int) (wt : Int × Int) (c : Bool) (p q : Nat) (ss : List (Int × Int)) (r : Nat) : (st3 D wt c p q ss r).length = ss.length := by
  match r with
  | 0 => rfl
  | 1 => simp [st3, dir_len]
  | n + 2 => simp [st3, dir_len]
theorem fr_lt {p q r n : Nat} (h1 : p < n) (h2 : q < n) : fr p q r < n := by unfold fr; split <;> assumption
theorem fr_ne {p q r : Nat} (h : p ≠ q) : fr p q r ≠ fr q p r := by unfold fr; split <;> omega
theorem index146_r (p q r : Nat) (h : r < 2) (W : World) : (Instr.index 146 (.agg #[.int .i64 (p : Int), .int .i64 (q : Int), .int .i64 (q : Int), .int .i64 (p : Int)]) (.int .i64 (r : Int))).run Try.prog W = .ok (.agg #[.int .i64 (fr p q r : Nat), .int .i64 (fr q p r : Nat)]) W := by
  match r, h with
  | 0, _ => exact index146_0 ..
  | 1, _ => exact index146_1 ..
theorem MeetsIn.grown {W W' : World} {g off cap r : Nat} {xs : List Mt} (h : MeetsIn W (some ⟨g, off, none⟩) cap xs) (hG : W.grownBy W' (some r)) (hne : g ≠ r) : MeetsIn W' (some ⟨g, off, none⟩) cap xs := by
  rcases h with ⟨h, -⟩ | ⟨g', off', h1, h2, h3⟩
  · cases h
  · cases h1
    refine .inr ⟨g, off, rfl, fun k hk => ?_, Nat.lt_of_lt_of_le h3 hG.size⟩
    have hb : W'.heap[g]? = W.heap[g]? := hG.block g h3 (by simpa using hne)
    have key : ∀ o u, W.cell? ⟨g, o, none⟩ = some u → W'.cell? ⟨g, o, none⟩ = some u := fun o u hu => (World.cell?_of_block (a := ⟨g, o, none⟩) (w := W) hb).trans hu
    obtain ⟨c0, c1, c2, c3⟩ := h2 k hk
    exact ⟨key _ _ c0, key _ _ c1, key _ _ c2, key _ _ c3⟩
theorem xt_ext {W W' : World} (h : XT [] W W') : Ext W W' := ⟨h.os, h.tape, h.output, h.size, fun k hk => h.block k hk (by simp)⟩
theorem SpOut.keepE {B : Nat} {W W' : World} {g : Nat} {ss : List (Int × Int)} (hB : Below B W W') (h : SpOut W g ss) (hg : g < B) : SpOut W' g ss := h.keep hB hg

theorem SpOut.setL {W : World} {g : Nat} {ss : List (Int × Int)} (h : SpOut W g ss) {k : Nat} (hk : k < ss.length) (a : Int) : SpOut (W.setCell ⟨g, k * 2, none⟩ (.int .i64 a)) g (ss.set k (a, (ss.getD k (0, 0)).2)) := by
  obtain ⟨cur, h1, h2⟩ := h
  refine ⟨_, rowOf_setCell_o h1 _, fun j hj => ?_⟩
  have hj' : j < ss.length := by simpa using hj
  have hs1 : k * 2 < cur.size := (Array.getElem?_eq_some_iff.1 (h2 k hk).1).1
  obtain ⟨q1, q2⟩ := h2 j hj'
  by_cases e : j = k
  · subst e
    rw [swp_getD_eq hj']
    constructor
    · rw [Array.getElem?_setIfInBounds, if_pos rfl, if_pos hs1]
    · rw [Array.getElem?_setIfInBounds, if_neg (by omega)]; exact q2
  · rw [swp_getD_ne e]
    constructor
    · rw [Array.getElem?_setIfInBounds, if_neg (by omega)]; exact q1
    · rw [Array.getElem?_setIfInBounds, if_neg (by omega)]; exact q2
theorem SpOut.setH {W : World} {g : Nat} {ss : List (Int × Int)} (h : SpOut W g ss) {k : Nat} (hk : k < ss.length) (b : Int) : SpOut (W.setCell ⟨g, k * 2 + 1, none⟩ (.int .i64 b)) g (ss.set k ((ss.getD k (0, 0)).1, b)) := by
  obtain ⟨cur, h1, h2⟩ := h
  refine ⟨_, rowOf_setCell_o h1 _, fun j hj => ?_⟩
  have hj' : j < ss.length := by simpa using hj
  have hs2 : k * 2 + 1 < cur.size := (Array.getElem?_eq_some_iff.1 (h2 k hk).2).1
  obtain ⟨q1, q2⟩ := h2 j hj'
  by_cases e : j = k
  · subst e
    rw [swp_getD_eq hj']
    constructor
    · rw [Array.getElem?_setIfInBounds, if_neg (by omega)]; exact q1
    · rw [Array.getElem?_setIfInBounds, if_pos rfl, if_pos hs2]
  · rw [swp_getD_ne e]
    constructor
    · rw [Array.getElem?_setIfInBounds, if_neg (by omega)]; exact q1
    · rw [Array.getElem?_setIfInBounds, if_neg (by omega)]; exact q2


set_option maxRecDepth 100000 in
set_option maxHeartbeats 8000000 in
theorem sickFrom_any (nn : Nat) (day : Int) (wt : Int × Int) (fa : Option Addr) (fcap nf : Nat) (first : List Int) (ma : Option Addr) (mcap nm : Nat) (ms : List Mt) (w : World) (hnf : nf = first.length) (hnm : nm = ms.length) (hf : IntsIn w fa fcap first) (hm : MeetsIn w ma mcap ms) (hx : chkG (nn : Int) first ms wt day = 0)
    (hord : ∀ W, Below w.heap.size w W → Calls Try.prog 84 #[.slice ma nm mcap] W fun e W' => (∃ a cap ys, e = .returned (.slice a nm cap) ∧ MeetsIn W' a cap ys ∧ (∀ b, a = some b → W.heap.size ≤ b.block) ∧ InOrder ms ys) ∧ Below W.heap.size W W') :
    Calls Try.prog 56 #[.int .i64 (nn : Int), .slice fa nf fcap, .slice ma nm mcap, .agg #[.int .i64 wt.1, .int .i64 wt.2], .int .i64 day] w fun e w' => (∃ g cap ss, e = .returned (.slice (some ⟨g, 0, none⟩) nn cap) ∧ w.heap.size ≤ g ∧ SpOut w' g ss ∧ SickBy first ms wt day nn ss) ∧ Below w.heap.size w w' := by
  have hfine := chkG_fine hx
  obtain ⟨⟨n1, n2⟩, ⟨w1, w2, w3⟩, ⟨d1, d2⟩, ⟨l1, l2⟩, hF1, hM1⟩ := hfine
  have HF := Lib.hid hf
  have HNF := Lib.hid hnf
  have HNM := Lib.hid hnm
  have HFI := Lib.hid hF1
  have HMS := Lib.hid hM1
  have HORD := Lib.hid hord
  have hn1 : 1 ≤ nn := by omega
  have hn2 : nn ≤ 30 := by omega
  have hf2 : (nf : Int) ≤ 30 := by omega
  have hm2 : (nm : Int) ≤ 200 := by omega
  clear hf hm hnf hnm hx hF1 hM1 l1 l2 hord
  go_enter Try.func56, Try.ntmps56
  go_wp2
  go_step3
  go_wp2_with fail
  refine (exactly_any 100001 _).mono ?_
  rintro e W1 ⟨rfl, hB⟩
  have hW1 : Below w.heap.size w W1 := Below.trans (by go_grown) (hB.mono (by simp; try omega))
  have zW1 := hW1.size
  obtain ⟨raW1, caW1, gaW1, zaW1⟩ := keep_row hB (g := w.heap.size) (by repeat (first | with_reducible assumption | with_reducible apply row_here0 | with_reducible apply row_here1 | with_reducible apply row_here2 | with_reducible apply row_here3 | with_reducible apply rowSkip))
  clear hB
  go_wp2_with fail
  refine (Repeat_s (100001, 100001) nn hn1 hn2 W1.heap.size 1 _ (row_here0 _ _ _)).mono ?_
  rintro e W2 ⟨⟨gs, rfl, hgs, hrow⟩, hB⟩
  have hW2 : Below w.heap.size w W2 := (hW1.alloc zW1 _).trans (hB.mono (by simp; omega))
  have raW2 := (keep_row hB (rowSkip (o := .cells #[.int .i64 100001, .int .i64 100001] 31) raW1)).1
  have hSp := Lib.hid (spOut_rep hrow)
  have hgs' : w.heap.size < gs := by simp at hgs; omega
  clear hB hrow hgs raW1 caW1 gaW1
  have HS0 := Lib.hid (Sw0.start (first := first) (n := nn))
  go_wp2
  go_loopw [27] (fun i wr => ∃ (k : Nat) (ss : List (Int × Int)), k ≤ nf ∧ i = .int .i64 (k : Int) ∧ Hid (SpOut wr gs ss) ∧ Hid (Sw0 first (first.take k) (nn : Int) ss) ∧ rowOf wr w.heap.size = some #[.int .i64 wt.1, .int .i64 wt.2] ∧ Below w.heap.size w wr) (fun i _ => nf - (intOf i).toNat)
  case atStart => exact ⟨0, _, Nat.zero_le _, rfl, hSp, HS0, raW2, hW2⟩
  case round =>
    obtain ⟨k, ss, hk, rfl, hsp, hsw, raR, hB0⟩ := hrel
    by_cases hlt : k < nf
    · have hkf : k < first.length := by have := HNF.out; omega
      obtain ⟨g2, off, rfl, c0, hg2⟩ := (HF.out.below hB0 (Nat.le_refl _)).get hkf
      obtain ⟨v1, v2⟩ := HFI.out _ (List.getElem_mem hkf)
      have hvm := List.getElem_mem hkf
      rw [show first.getD k 0 = first[k] by simp [hkf]] at c0
      have htk := List.take_succ_eq_append_getElem hkf
      obtain ⟨q, hq⟩ : ∃ q : Nat, first[k] = (q : Int) := ⟨first[k].toNat, by omega⟩
      rw [hq] at c0 v2 hvm htk
      have hql : q < ss.length := by have := hsw.out.len; omega
      have HQ := Lib.hid hvm
      have HT := Lib.hid htk
      have hlt' : (k : Int) < (nf : Int) := by omega
      clear hq hvm v1 htk
      go_wp2_with fail
      refine (exactly_any 0 _).mono ?_
      rintro e W3 ⟨rfl, hB⟩
      have hB3 := hB0.trans (hB.mono hB0.size)
      have hs3 := Lib.hid (hsp.out.keep hB hsp.out.lt)
      have ra3 := (keep_row hB raR).1
      obtain ⟨e0, e1, f0, f1⟩ := hs3.out.get hql
      clear hB c0 hB0 hsp raR
      go_wp2_with fail
      have hg1 := grown_setCell W3 ⟨gs, q * 2, none⟩ (.int .i64 0)
      have hg2' := grown_setCell (W3.setCell ⟨gs, q * 2, none⟩ (.int .i64 0)) ⟨gs, q * 2 + 1, none⟩ (.int .i64 0)
      have hb1 := below_grown hB3 hg1 hB3.size (by simp only; omega)
      refine ⟨⟨k + 1, _, hlt, by go_num, hs3.out.set hql 0 0, ?_, row_grown (row_grown ra3 hg1 (by simp only; omega)) hg2' (by simp only; omega), below_grown hb1 hg2' hb1.size (by simp only; omega)⟩, by simp [intOf]; omega⟩
      show Sw0 _ _ _ _
      rw [HT.out]
      exact hsw.out.step hql HQ.out
    · obtain rfl : k = nf := by omega
      have HSW := Lib.hid (show Swp first ms wt (nn : Int) [] ss by have h := hsw.out; rw [HNF.out, List.take_length] at h; exact h.swp)
      clear hsw raW2 hSp HS0
      go_wp2
      go_step3
      go_wp2_with fail
      refine (HORD.out _ hB0).mono ?_
      rintro e W3 ⟨⟨a3, cp3, ys, rfl, hys, hfr, hio⟩, hB⟩
      have hB3 := hB0.trans (hB.mono hB0.size)
      have hs3 := Lib.hid (hsp.out.keep hB hsp.out.lt)
      have ra3 := (keep_row hB raR).1
      have HY := Lib.hid hys
      have HIO := Lib.hid hio
      have HFR := Lib.hid (show ∀ b, a3 = some b → gs < b.block from fun b hb => Nat.lt_of_lt_of_le hsp.out.lt (hfr b hb))
      have HYL := Lib.hid (hio.1.trans HNM.out.symm)
      clear hB hys hio hB0 hsp raR HORD hfr
      go_wp2_with fail
      go_loopw [39] (fun i wr => ∃ (k : Nat) (ss : List (Int × Int)), k ≤ nm ∧ i = .int .i64 (k : Int) ∧ Hid (SpOut wr gs ss) ∧ Hid (Swp first ms wt (nn : Int) (ys.take k) ss) ∧ rowOf wr w.heap.size = some #[.int .i64 wt.1, .int .i64 wt.2] ∧ MeetsIn wr a3 cp3 ys ∧ Below w.heap.size w wr) (fun i _ => nm - (intOf i).toNat)
      case atStart => exact ⟨0, ss, Nat.zero_le _, rfl, hs3, by rw [List.take_zero]; exact HSW, ra3, HY.out, hB3⟩
      case round =>
        obtain ⟨j, ss2, hj, rfl, hsp, hsw, raR, hys, hB4⟩ := hrel
        by_cases hlt : j < nm
        · have hjm : j < ys.length := by have := HYL.out; omega
          obtain ⟨g2, off, rfl, hx4, hg2⟩ := hys.get hjm
          have hg2s : gs < g2 := HFR.out _ rfl
          have hget : ys[j] = mtS ys j := mtS_get hjm
          have hmem : mtS ys j ∈ ms := (HIO.out.2.1 _).1 (mtS_mem hjm)
          have hok : okMt (nn : Int) (mtS ys j) := HMS.out _ hmem
          have hday : ∀ y ∈ ys.take j, y.day ≤ (mtS ys j).day := by
            intro y hy
            obtain ⟨i, hi, rfl⟩ := List.getElem_of_mem hy
            have hi' : i < j := by simp at hi; omega
            rw [List.getElem_take, ← hget]
            exact List.pairwise_iff_getElem.1 HIO.out.2.2 i j (by omega) hjm hi'
          have hlate : ∀ y ∈ ms, y ∈ ys.take j ∨ (mtS ys j).day ≤ y.day := by
            intro y hy
            obtain ⟨i, hi, rfl⟩ := List.getElem_of_mem ((HIO.out.2.1 y).2 hy)
            rcases Nat.lt_or_ge i j with h | h
            · left
              rw [List.mem_take_iff_getElem]
              exact ⟨i, by omega, rfl⟩
            · right
              rw [← hget]
              rcases Nat.lt_or_ge j i with h' | h'
              · exact List.pairwise_iff_getElem.1 HIO.out.2.2 j i hjm hi h'
              · obtain rfl : i = j := by omega
                exact Int.le_refl _
          obtain ⟨v, hv⟩ : ∃ v, mtS ys j = v := ⟨_, rfl⟩
          rw [hv] at hx4 hok hget hmem hday hlate
          obtain ⟨va, vb, vd, vc⟩ := v
          obtain ⟨c0, c1, c2, c3⟩ := hx4
          obtain ⟨o1, o2, o3, o4, o5, o6, o7⟩ := id hok
          simp only at c0 c1 c2 c3 o1 o2 o3 o4 o5 o6 o7
          obtain ⟨p, rfl⟩ : ∃ p : Nat, va = (p : Int) := ⟨va.toNat, by omega⟩
          obtain ⟨q, rfl⟩ : ∃ q : Nat, vb = (q : Int) := ⟨vb.toNat, by omega⟩
          have hlen := hsw.out.len
          have hpl : p < ss2.length := by omega
          have hql : q < ss2.length := by omega
          have HSTEP := Lib.hid (show Swp first ms wt (nn : Int) (ys.take (j + 1)) (dir vd wt vc q p (dir vd wt vc p q ss2)) by
            have h := hsw.out.step (x := ⟨(p : Int), (q : Int), vd, vc⟩) hmem hok hday w1 (by omega) rfl rfl
            rwa [List.take_succ_eq_append_getElem hjm, hget])
          have HLATE := Lib.hid hlate
          have HSW2 := Lib.hid hsw.out
          have hlt' : (j : Int) < (nm : Int) := by omega
          have hB4s := hB4.size
          have hpq : p ≠ q := fun e => o5 (by rw [e])
          clear hv hok hget hmem hlen hday hlate hsw o1 o2 o3 o4 o5
          go_wp2_with fail
          have rx0 : rowOf (wr.alloc (.cells #[.int .i64 (p : Int), .int .i64 (q : Int), .int .i64 vd, .bool vc] 79)) wr.heap.size = some #[.int .i64 (p : Int), .int .i64 (q : Int), .int .i64 vd, .bool vc] := row_here0 _ _ _
          have ra0 : rowOf (wr.alloc (.cells #[.int .i64 (p : Int), .int .i64 (q : Int), .int .i64 vd, .bool vc] 79)) w.heap.size = some #[.int .i64 wt.1, .int .i64 wt.2] := rowSkip raR
          have hsp0 := Lib.hid (hsp.out.alloc (.cells #[.int .i64 (p : Int), .int .i64 (q : Int), .int .i64 vd, .bool vc] 79))
          have hys0 := hys.ext (ext_alloc wr (.cells #[.int .i64 (p : Int), .int .i64 (q : Int), .int .i64 vd, .bool vc] 79))
          have hB5 : Below w.heap.size w (wr.alloc (.cells #[.int .i64 (p : Int), .int .i64 (q : Int), .int .i64 vd, .bool vc] 79)) := hB4.alloc hB4s _
          have hgx : gs < wr.heap.size := hsp.out.lt
          have zzx : wr.heap.size < (wr.alloc (.cells #[.int .i64 (p : Int), .int .i64 (q : Int), .int .i64 vd, .bool vc] 79)).heap.size := by simp
          clear c0 c1 c2 c3 hsp hys hB4 raR hs3 ra3 hB3
          generalize wr.heap.size = gx at *
          generalize (wr.alloc (.cells #[.int .i64 (p : Int), .int .i64 (q : Int), .int .i64 vd, .bool vc] 79)) = W0 at *
          go_loopw [54] (fun i wr => ∃ r : Nat, r ≤ 2 ∧ i = .int .i64 (r : Int) ∧ rowOf wr gx = some #[.int .i64 (p : Int), .int .i64 (q : Int), .int .i64 vd, .bool vc] ∧ Hid (SpOut wr gs (st3 vd wt vc p q ss2 r)) ∧ rowOf wr w.heap.size = some #[.int .i64 wt.1, .int .i64 wt.2] ∧ Hid (MeetsIn wr (some ⟨g2, off, none⟩) cp3 ys) ∧ Below w.heap.size w wr ∧ Hid (r = 0 ∨ vd + wt.1 ≤ day)) (fun i _ => 2 - (intOf i).toNat)
          case atStart => exact ⟨0, by omega, rfl, rx0, hsp0, ra0, Lib.hid hys0, hB5, .inl rfl⟩
          case round =>
            clear rx0 hsp0 ra0 hys0 hB5 zzx
            obtain ⟨r, hr, rfl, rx0, hsp0, ra0, hys0, hB5, hnb⟩ := hrel
            by_cases hlt2 : r < 2
            · have hix := index146_r p q r hlt2
              have HS := Lib.hid (st3_step vd wt vc p q ss2 hlt2)
              have HLN := Lib.hid (st3_len vd wt vc p q ss2 r)
              have HZ := Lib.hid (fun h : r = 0 => show st3 vd wt vc p q ss2 r = ss2 by rw [h]; rfl)
              have hfl : fr p q r < ss2.length := fr_lt hpl hql
              have htl : fr q p r < ss2.length := fr_lt hql hpl
              have hne : fr p q r ≠ fr q p r := fr_ne hpq
              have hln2 : ss2.length = nn := by have := HSW2.out.len; omega
              generalize fr p q r = fi at *
              generalize fr q p r = ti at *
              obtain ⟨s3, hs3⟩ : ∃ y, st3 vd wt vc p q ss2 r = y := ⟨_, rfl⟩
              rw [hs3] at hsp0 HS HLN HZ
              clear hs3
              have hlt2' : (r : Int) < 2 := by omega
              go_wp2_with fail
              have ry0 : rowOf (wr.alloc (.cells #[.int .i64 (fi : Int), .int .i64 (ti : Int)] 103)) wr.heap.size = some #[.int .i64 (fi : Int), .int .i64 (ti : Int)] := row_here0 _ _ _
              have rx1 : rowOf (wr.alloc (.cells #[.int .i64 (fi : Int), .int .i64 (ti : Int)] 103)) gx = some #[.int .i64 (p : Int), .int .i64 (q : Int), .int .i64 vd, .bool vc] := rowSkip rx0
              have ra1 : rowOf (wr.alloc (.cells #[.int .i64 (fi : Int), .int .i64 (ti : Int)] 103)) w.heap.size = some #[.int .i64 wt.1, .int .i64 wt.2] := rowSkip ra0
              have hsp1 := Lib.hid (hsp0.out.alloc (.cells #[.int .i64 (fi : Int), .int .i64 (ti : Int)] 103))
              have hys1 := Lib.hid (hys0.out.ext (ext_alloc wr (.cells #[.int .i64 (fi : Int), .int .i64 (ti : Int)] 103)))
              have hB6 : Below w.heap.size w (wr.alloc (.cells #[.int .i64 (fi : Int), .int .i64 (ti : Int)] 103)) := hB5.alloc hB5.size _
              clear rx0 ra0 hsp0 hys0 hB5 hix
              generalize wr.heap.size = gp at *
              generalize (wr.alloc (.cells #[.int .i64 (fi : Int), .int .i64 (ti : Int)] 103)) = W0 at *
              obtain ⟨rx, cx, fx, zx⟩ := row_facts rx1
              obtain ⟨ry, cy, fy, zy⟩ := row_facts ry0
              go_quiet (fail)
              go_wp2_with fail
              clear rx cx fx ry cy fy ry0
              have rx2 : rowOf (W0.drewN nq) gx = some #[.int .i64 (p : Int), .int .i64 (q : Int), .int .i64 vd, .bool vc] := rx1
              have ra2 : rowOf (W0.drewN nq) w.heap.size = some #[.int .i64 wt.1, .int .i64 wt.2] := ra1
              have hsp2 := Lib.hid (show SpOut (W0.drewN nq) gs s3 from hsp1.out)
              have hys2 := Lib.hid (show MeetsIn (W0.drewN nq) (some ⟨g2, off, none⟩) cp3 ys from hys1.out)
              have hB7 : Below w.heap.size w (W0.drewN nq) := below_drewN hB6 nq
              clear rx1 ra1 hsp1 hys1 hB6
              generalize W0.drewN nq = W4 at *
              have zW4 := hB7.size
              have zzx : gx < W4.heap.size := (row_facts rx2).2.2.2
              refine wp_drawn_list (by kernel_rfl) [61, 62, 63, 64, 65, 66, 20] (by kernel_rfl) rfl (fun ix v W => match ix with
                | 0 => v = .pointer (some ⟨gx, 2, none⟩)
                | 1 => v = .int .i64 vd
                | 2 => v = .agg #[.int .i64 vd, .int .i64 vd]
                | 3 => v = .agg #[.int .i64 wt.1, .int .i64 wt.2]
                | 4 => SL v 2 #[.int .i64 vd, .int .i64 vd, .int .i64 wt.1, .int .i64 wt.2] W
                | 5 => v = .agg #[.int .i64 (ad (vd, vd) wt).1, .int .i64 (ad (vd, vd) wt).2]
                | 6 => PT v #[.int .i64 0, .int .i64 0] (W4.heap.size) W
                | _ => True) ⟨?_, ?_, ?_, ?_, ?_, ?_, ?_, ?_⟩
              · intro b' W hE hb hdep K hK
                have e15 : b'.tmps[15]?.getD undef = .pointer (some ⟨gx, 0, none⟩) := hb 15 (by decide)
                clear hdep hb
                go_wp2
                exact hK _ _ (Ext.refl _) rfl
              · intro b' W hE hb hdep K hK
                have e61 : b'.tmps[61]?.getD undef = .pointer (some ⟨gx, 2, none⟩) := pureR (hdep 0 61 (by kernel_rfl) rfl)
                clear hdep hb
                obtain ⟨_, _, -, _⟩ := keep_row hE ((rx2 : rowOf _ _ = _))
                obtain ⟨_, _, -, _⟩ := keep_row hE ((ra2 : rowOf _ _ = _))
                go_wp2
                exact hK _ _ (Ext.refl _) rfl
              · intro b' W hE hb hdep K hK
                have e62 : b'.tmps[62]?.getD undef = .int .i64 vd := pureR (hdep 1 62 (by kernel_rfl) rfl)
                clear hdep hb
                go_wp2_with fail
                refine (exactly_any _ _).mono ?_
                rintro e W' ⟨rfl, hB⟩
                exact hK _ _ hB rfl
              · intro b' W hE hb hdep K hK
                have e8 : b'.tmps[8]?.getD undef = .pointer (some ⟨w.heap.size, 0, none⟩) := hb 8 (by decide)
                clear hdep hb
                obtain ⟨_, _, -, _⟩ := keep_row hE ((rx2 : rowOf _ _ = _))
                obtain ⟨_, _, -, _⟩ := keep_row hE ((ra2 : rowOf _ _ = _))
                go_wp2
                exact hK _ _ (Ext.refl _) rfl
              · intro b' W hE hb hdep K hK
                have e63 : b'.tmps[63]?.getD undef = .agg #[.int .i64 vd, .int .i64 vd] := pureR (hdep 2 63 (by kernel_rfl) rfl)
                have e64 : b'.tmps[64]?.getD undef = .agg #[.int .i64 wt.1, .int .i64 wt.2] := pureR (hdep 3 64 (by kernel_rfl) rfl)
                clear hdep hb
                go_wp2
                exact hK _ _ (ext_alloc _ _) ⟨rfl, row_here0 _ _ _⟩
              · intro b' W hE hb hdep K hK
                have s65 : SL (b'.tmps[65]?.getD undef) 2 #[.int .i64 vd, .int .i64 vd, .int .i64 wt.1, .int .i64 wt.2] W := sliceR (hdep 4 65 (by kernel_rfl) rfl)
                have e65 := s65.eq
                have r65 := s65.row
                clear s65
                generalize blk (b'.tmps[65]?.getD undef) = g65 at e65 r65
                clear hdep hb
                go_wp2_with fail
                refine (ad2 (vd, vd) wt _ _ _ r65 o6 (by omega) o6 (by omega) (by omega) (by omega) (by omega) (by omega)).mono ?_
                rintro e W' ⟨rfl, hB⟩
                exact hK _ _ hB rfl
              · intro b' W hE hb hdep K hK
                clear hdep hb
                go_wp2
                exact hK _ _ (ext_alloc _ _) ⟨rfl, row_here0 _ _ _, by have := hE.size; simp at this; simp [blk]; omega⟩
              intro f W hE hR
              have e61 : f 61 = .pointer (some ⟨gx, 2, none⟩) := pureR (hR 0 61 rfl)
              have e62 : f 62 = .int .i64 vd := pureR (hR 1 62 rfl)
              have e63 : f 63 = .agg #[.int .i64 vd, .int .i64 vd] := pureR (hR 2 63 rfl)
              have e64 : f 64 = .agg #[.int .i64 wt.1, .int .i64 wt.2] := pureR (hR 3 64 rfl)
              have e66 : f 66 = .agg #[.int .i64 (ad (vd, vd) wt).1, .int .i64 (ad (vd, vd) wt).2] := pureR (hR 5 66 rfl)
              have hp : PT (f 20) #[.int .i64 0, .int .i64 0] (W4.heap.size) W := pointR (hR 6 20 rfl)
              clear hR
              refine wpL_store_pt rfl 31 (.tmp 20) (.tmp 66) rfl (vs := #[.int .i64 (ad (vd, vd) wt).1, .int .i64 (ad (vd, vd) wt).2]) ((puts_eval (by decide) rfl).trans e66) (puts_eval (by decide) rfl) hp (by kernel_rfl) rfl (by simp [one_int, one_bool]) ?_
              intro h W5 hbase e20 hlt hS
              clear hp
              simp only [puts, Act.put, List.setIfInBounds_toArray, List.set_cons_succ, List.set_cons_zero, e61, e62, e63, e64, e66, e20]
              have zE := hE.size
              simp only [World.size_alloc, World.size_drew] at zE
              obtain ⟨rxW5, cxW5, gxW5, zxW5⟩ := row_facts (hS.keeps (g := gx) (by omega) (hE.row ((rowOf_drew _ _).trans (by repeat (first | with_reducible assumption | with_reducible apply row_here0 | with_reducible apply row_here1 | with_reducible apply row_here2 | with_reducible apply row_here3 | with_reducible apply rowSkip)))))
              obtain ⟨raW5, caW5, gaW5, zaW5⟩ := row_facts (hS.keeps (g := w.heap.size) (by omega) (hE.row ((rowOf_drew _ _).trans (by repeat (first | with_reducible assumption | with_reducible apply row_here0 | with_reducible apply row_here1 | with_reducible apply row_here2 | with_reducible apply row_here3 | with_reducible apply rowSkip)))))
              obtain ⟨rhW5, chW5, ghW5, zhW5⟩ := row_facts hS.row
              have xW5 : Ext W4 W5 := Below.trans (drew_ext hE) (hS.below _ (by first | omega | exact hbase | simpa using hbase))
              have hW5 : Below w.heap.size w W5 := ((drew_ext hE).below (by have := hB7.size; go_grown) (by have := hB7.size; simp; try omega)).trans (hS.below _ (by omega))
              have zW5 := hW5.size
              clear hS hE zE
              have hsp5 := Lib.hid (hsp2.out.keep xW5 hsp2.out.lt)
              have hys5 := Lib.hid (hys2.out.ext xW5)
              have hgh : gs < h := by have := hsp2.out.lt; omega
              have hth : rowOf W5 h = some #[.int .i64 (vd + wt.1), .int .i64 (vd + wt.2)] := rhW5
              clear xW5 hsp2 hys2 rhW5 chW5 ghW5
              by_cases hl : day < vd + wt.1
              · obtain ⟨rt, ct, ft, zt⟩ := row_facts hth
                have hr0 : r = 0 := hnb.out.resolve_right (by omega)
                have hss : s3 = ss2 := HZ.out hr0
                rw [hss] at hsp5
                go_wp2
                try rw [Exit.noGoto_ret]
                go_returns
                exact ⟨⟨gs, nn, ss2, rfl, by omega, hsp5.out, hln2, fun k hk => HSW2.out.known HFI.out HMS.out (fun x hx => (HLATE.out x hx).imp id (fun h => by have : vd ≤ x.day := h; omega)) w1 w2 d2 (by omega)⟩, hW5⟩
              · obtain ⟨rt, ct, ft, zt⟩ := row_facts hth
                go_wp2_with fail
                clear hnb HZ rt ct ft zt cxW5 gxW5 zxW5 caW5 gaW5 zaW5
                have hf3 : fi < s3.length := by rw [HLN.out]; exact hfl
                have ht3 : ti < s3.length := by rw [HLN.out]; exact htl
                have hfn : (fi : Int) < (nn : Int) := by omega
                have htn : (ti : Int) < (nn : Int) := by omega
                have thW5 := hth
                have hysW5 := hys5
                clear hth hys5
                obtain ⟨lf, hlf⟩ : ∃ y, (s3.getD fi (0, 0)).1 = y := ⟨_, rfl⟩
                obtain ⟨hf, hhf⟩ : ∃ y, (s3.getD fi (0, 0)).2 = y := ⟨_, rfl⟩
                obtain ⟨lt, hlt_⟩ : ∃ y, (s3.getD ti (0, 0)).1 = y := ⟨_, rfl⟩
                obtain ⟨ht, hht⟩ : ∃ y, (s3.getD ti (0, 0)).2 = y := ⟨_, rfl⟩
                have HLF := Lib.hid hlf
                have HHF := Lib.hid hhf
                have HLT := Lib.hid hlt_
                have HHT := Lib.hid hht
                clear hlf hhf hlt_ hht
                obtain ⟨c0, c1, f0, f1⟩ := hsp5.out.get (k := fi) hf3
                rw [HLF.out] at c0
                rw [HHF.out] at c1
                obtain ⟨rx, cx, fx, zx⟩ := row_facts rxW5
                clear rx
                by_cases hLL : lf ≤ vd
                · go_quiet (fail)
                  go_wp2_with fail
                  clear cx fx zx c0 c1 f0 f1
                  have rxQ : rowOf (W5.drewN nq) _ = _ := rxW5
                  have raQ : rowOf (W5.drewN nq) _ = _ := raW5
                  have thQ : rowOf (W5.drewN nq) _ = _ := thW5
                  have hspQ := Lib.hid (show SpOut (W5.drewN nq) gs s3 from hsp5.out)
                  have hysQ := Lib.hid (show MeetsIn (W5.drewN nq) (some ⟨g2, off, none⟩) cp3 ys from hysW5.out)
                  have hQ : Below w.heap.size w (W5.drewN nq) := below_drewN hW5 nq
                  clear rxW5 raW5 thW5 hsp5 hysW5 hW5
                  generalize W5.drewN nq = Q at *
                  refine wp_drawsR (by kernel_rfl) [] [some 79, some 80, some 81, some 82, some 83, some 84, some 85, some 86, some 87, some 88, some 89, some 90] (by kernel_rfl) (fun ix v W => match ix with
                    | 0 => v = .slice (some ⟨gs, 0, none⟩) nn nn
                    | 1 => v = .int .i64 (ti : Int)
                    | 2 => v = .slice (some ⟨gs, 0, none⟩) nn nn
                    | 3 => v = .int .i64 (ti : Int)
                    | 4 => v = .pointer (some ⟨gs, ti * 2, none⟩)
                    | 5 => v = .pointer (some ⟨gs, ti * 2, none⟩)
                    | 6 => v = .int .i64 lt
                    | 7 => v = .pointer (some ⟨h, 0, none⟩)
                    | 8 => v = .int .i64 (vd + wt.1)
                    | 9 => v = .int .i64 (mn lt (vd + wt.1))
                    | 10 => v = .pointer (some ⟨gs, ti * 2, none⟩)
                    | 11 => v = .pointer (some ⟨gs, ti * 2, none⟩)
                    | _ => True) ⟨⟨?_, ?_⟩, ⟨?_, ?_⟩, ⟨?_, ?_⟩, ⟨?_, ?_⟩, ⟨?_, ?_⟩, ⟨?_, ?_⟩, ⟨?_, ?_⟩, ⟨?_, ?_⟩, ⟨?_, ?_⟩, ⟨?_, ?_⟩, ⟨?_, ?_⟩, ⟨?_, ?_⟩, ?_⟩
                  · intro g h; cases h
                  · intro b' W hE hb hdep K hK
                    have e11 : b'.tmps[11]?.getD undef = .slice (some ⟨gs, 0, none⟩) nn nn := hb 11 (by decide)
                    clear hdep hb
                    go_wp2
                    exact hK _ _ (XT.refl _ _) rfl
                  · intro g h; cases h
                  · intro b' W hE hb hdep K hK
                    have e19 : b'.tmps[19]?.getD undef = .int .i64 (ti : Int) := hb 19 (by decide)
                    clear hdep hb
                    go_wp2
                    exact hK _ _ (XT.refl _ _) rfl
                  · intro g h; cases h
                  · intro b' W hE hb hdep K hK
                    have e11 : b'.tmps[11]?.getD undef = .slice (some ⟨gs, 0, none⟩) nn nn := hb 11 (by decide)
                    clear hdep hb
                    go_wp2
                    exact hK _ _ (XT.refl _ _) rfl
                  · intro g h; cases h
                  · intro b' W hE hb hdep K hK
                    have e19 : b'.tmps[19]?.getD undef = .int .i64 (ti : Int) := hb 19 (by decide)
                    clear hdep hb
                    go_wp2
                    exact hK _ _ (XT.refl _ _) rfl
                  · intro g h; cases h
                  · intro b' W hE hb hdep K hK
                    have e81 : b'.tmps[81]?.getD undef = .slice (some ⟨gs, 0, none⟩) nn nn := pureX (hdep 2 (some 81) (by kernel_rfl) rfl)
                    have e82 : b'.tmps[82]?.getD undef = .int .i64 (ti : Int) := pureX (hdep 3 (some 82) (by kernel_rfl) rfl)
                    clear hdep hb
                    go_wp2
                    exact hK _ _ (XT.refl _ _) rfl
                  · intro g h; cases h
                  · intro b' W hE hb hdep K hK
                    have e83 : b'.tmps[83]?.getD undef = .pointer (some ⟨gs, ti * 2, none⟩) := pureX (hdep 4 (some 83) (by kernel_rfl) rfl)
                    clear hdep hb
                    go_wp2
                    exact hK _ _ (XT.refl _ _) rfl
                  · intro g h; cases h
                  · intro b' W hE hb hdep K hK
                    have e84 : b'.tmps[84]?.getD undef = .pointer (some ⟨gs, ti * 2, none⟩) := pureX (hdep 5 (some 84) (by kernel_rfl) rfl)
                    clear hdep hb
                    obtain ⟨q0, q1, q2, q3⟩ := (SpOut.keepE (xt_ext hE) hspQ.out hspQ.out.lt).get (k := ti) ht3
                    rw [HLT.out] at q0
                    rw [HHT.out] at q1
                    go_wp2
                    exact hK _ _ (XT.refl _ _) rfl
                  · intro g h; cases h
                  · intro b' W hE hb hdep K hK
                    have e20 : b'.tmps[20]?.getD undef = .pointer (some ⟨h, 0, none⟩) := hb 20 (by decide)
                    clear hdep hb
                    go_wp2
                    exact hK _ _ (XT.refl _ _) rfl
                  · intro g h; cases h
                  · intro b' W hE hb hdep K hK
                    have e86 : b'.tmps[86]?.getD undef = .pointer (some ⟨h, 0, none⟩) := pureX (hdep 7 (some 86) (by kernel_rfl) rfl)
                    clear hdep hb
                    obtain ⟨_, _, -, _⟩ := keep_row (xt_ext hE) ((thQ : rowOf _ _ = _))
                    go_wp2
                    exact hK _ _ (XT.refl _ _) rfl
                  · intro g h; cases h
                  · intro b' W hE hb hdep K hK
                    have e85 : b'.tmps[85]?.getD undef = .int .i64 lt := pureX (hdep 6 (some 85) (by kernel_rfl) rfl)
                    have e87 : b'.tmps[87]?.getD undef = .int .i64 (vd + wt.1) := pureX (hdep 8 (some 87) (by kernel_rfl) rfl)
                    clear hdep hb
                    go_wp2
                    exact hK _ _ (XT.refl _ _) rfl
                  · intro g h; cases h
                  · intro b' W hE hb hdep K hK
                    have e79 : b'.tmps[79]?.getD undef = .slice (some ⟨gs, 0, none⟩) nn nn := pureX (hdep 0 (some 79) (by kernel_rfl) rfl)
                    have e80 : b'.tmps[80]?.getD undef = .int .i64 (ti : Int) := pureX (hdep 1 (some 80) (by kernel_rfl) rfl)
                    clear hdep hb
                    go_wp2
                    exact hK _ _ (XT.refl _ _) rfl
                  · intro g h; cases h
                  · intro b' W hE hb hdep K hK
                    have e89 : b'.tmps[89]?.getD undef = .pointer (some ⟨gs, ti * 2, none⟩) := pureX (hdep 10 (some 89) (by kernel_rfl) rfl)
                    clear hdep hb
                    go_wp2
                    exact hK _ _ (XT.refl _ _) rfl
                  intro f W hE hR
                  have e79 : f 79 = .slice (some ⟨gs, 0, none⟩) nn nn := pureX (hR 0 (some 79) rfl)
                  have e80 : f 80 = .int .i64 (ti : Int) := pureX (hR 1 (some 80) rfl)
                  have e81 : f 81 = .slice (some ⟨gs, 0, none⟩) nn nn := pureX (hR 2 (some 81) rfl)
                  have e82 : f 82 = .int .i64 (ti : Int) := pureX (hR 3 (some 82) rfl)
                  have e83 : f 83 = .pointer (some ⟨gs, ti * 2, none⟩) := pureX (hR 4 (some 83) rfl)
                  have e84 : f 84 = .pointer (some ⟨gs, ti * 2, none⟩) := pureX (hR 5 (some 84) rfl)
                  have e85 : f 85 = .int .i64 lt := pureX (hR 6 (some 85) rfl)
                  have e86 : f 86 = .pointer (some ⟨h, 0, none⟩) := pureX (hR 7 (some 86) rfl)
                  have e87 : f 87 = .int .i64 (vd + wt.1) := pureX (hR 8 (some 87) rfl)
                  have e88 : f 88 = .int .i64 (mn lt (vd + wt.1)) := pureX (hR 9 (some 88) rfl)
                  have e89 : f 89 = .pointer (some ⟨gs, ti * 2, none⟩) := pureX (hR 10 (some 89) rfl)
                  have e90 : f 90 = .pointer (some ⟨gs, ti * 2, none⟩) := pureX (hR 11 (some 90) rfl)
                  clear hR
                  simp only [List.filterMap_cons, List.filterMap_nil, id, puts, Act.put, List.setIfInBounds_toArray, List.set_cons_succ, List.set_cons_zero, e79, e80, e81, e82, e83, e84, e85, e86, e87, e88, e89, e90]
                  have xE := drew_ext (xt_ext hE)
                  have hq := Lib.hid (hspQ.out.keep xE hspQ.out.lt)
                  have rx6 := (keep_row xE rxQ).1
                  have ra6 := (keep_row xE raQ).1
                  have th6 := (keep_row xE thQ).1
                  have hy6 := Lib.hid (hysQ.out.ext xE)
                  have hB6 : Below w.heap.size w W := hQ.trans (Below.mono xE hQ.size)
                  obtain ⟨q0, q1, q2, q3⟩ := hq.out.get (k := ti) ht3
                  rw [HLT.out] at q0
                  rw [HHT.out] at q1
                  clear hE xE hspQ rxQ raQ thQ hysQ hQ
                  go_wp2_with fail
                  have hG := grown_setCell W ⟨gs, ti * 2, none⟩ (.int .i64 (mn lt (vd + wt.1)))
                  have hsp6 := Lib.hid (show SpOut (W.setCell ⟨gs, ti * 2, none⟩ (.int .i64 (mn lt (vd + wt.1)))) gs (dirL vd wt fi ti s3) by rw [dirL_yes (by rw [HLF.out]; exact hLL), HLT.out]; exact hq.out.setL ht3 _)
                  have rxW6 := row_grown rx6 hG (by simp only; omega)
                  have raW6 := row_grown ra6 hG (by simp only; omega)
                  have thW6 := row_grown th6 hG (by simp only; omega)
                  have hysW6 := Lib.hid (MeetsIn.grown hy6.out hG (by simp only; omega))
                  have hW6 : Below w.heap.size w (W.setCell ⟨gs, ti * 2, none⟩ (.int .i64 (mn lt (vd + wt.1)))) := below_grown hB6 hG hB6.size (by simp only; omega)
                  clear hG hq rx6 ra6 th6 hy6 hB6 q0 q1 q2 q3 e79 e80 e81 e82 e83 e84 e85 e86 e87 e88 e89 e90
                  generalize (W.setCell ⟨gs, ti * 2, none⟩ (.int .i64 (mn lt (vd + wt.1)))) = W6 at *
                  obtain ⟨s4, hs4⟩ : ∃ y, dirL vd wt fi ti s3 = y := ⟨_, rfl⟩
                  have ht0 := ht3
                  have hl4 : s4.length = s3.length := by rw [← hs4, dirL_len]
                  rw [hs4] at hsp6
                  have H4 := Lib.hid hs4
                  rw [← hl4] at hf3 ht3
                  clear hs4 hl4
                  clear HLF HHF HLT HHT
                  obtain ⟨lf, hlf⟩ : ∃ y, (s4.getD fi (0, 0)).1 = y := ⟨_, rfl⟩
                  obtain ⟨hf, hhf⟩ : ∃ y, (s4.getD fi (0, 0)).2 = y := ⟨_, rfl⟩
                  obtain ⟨lt, hlt_⟩ : ∃ y, (s4.getD ti (0, 0)).1 = y := ⟨_, rfl⟩
                  obtain ⟨ht, hht⟩ : ∃ y, (s4.getD ti (0, 0)).2 = y := ⟨_, rfl⟩
                  have HLF := Lib.hid hlf
                  have HHF := Lib.hid hhf
                  have HLT := Lib.hid hlt_
                  have HHT := Lib.hid hht
                  clear hlf hhf hlt_ hht
                  obtain ⟨c0, c1, f0, f1⟩ := hsp6.out.get (k := fi) hf3
                  rw [HLF.out] at c0
                  rw [HHF.out] at c1
                  obtain ⟨rx, cx, fx, zx⟩ := row_facts rxW6
                  clear rx
                  cases vc with
                  | false =>
                    go_quiet (fail)
                    go_wp2_with fail
                    clear cx fx zx c0 c1 f0 f1
                    have hsp7 := Lib.hid (show SpOut (W6.drewN nq) gs (dirH vd wt false fi ti s4) by rw [dirH_no ht3 (fun h => by simp at h)]; exact hsp6.out)
                    have rxW7 : rowOf (W6.drewN nq) _ = _ := rxW6
                    have raW7 : rowOf (W6.drewN nq) _ = _ := raW6
                    have thW7 : rowOf (W6.drewN nq) _ = _ := thW6
                    have hysW7 := Lib.hid (show MeetsIn (W6.drewN nq) (some ⟨g2, off, none⟩) cp3 ys from hysW6.out)
                    have hW7 : Below w.heap.size w (W6.drewN nq) := below_drewN hW6 nq
                    clear rxW6 raW6 thW6 hysW6 hW6 hsp6
                    generalize (W6.drewN nq) = W7 at *
                    go_wp2_with fail
                    exact ⟨⟨r + 1, by omega, by go_num, rxW7, by show SpOut _ _ _; rw [HS.out, dir_split ht0 hne, H4.out]; exact hsp7.out, raW7, hysW7, hW7, .inr (by omega)⟩, by simp [intOf]; omega⟩
                  | true =>
                    by_cases hHH : hf ≤ vd
                    · go_quiet (fail)
                      go_wp2_with fail
                      clear cx fx zx c0 c1 f0 f1
                      have rxQ : rowOf (W6.drewN nq) _ = _ := rxW6
                      have raQ : rowOf (W6.drewN nq) _ = _ := raW6
                      have thQ : rowOf (W6.drewN nq) _ = _ := thW6
                      have hspQ := Lib.hid (show SpOut (W6.drewN nq) gs s4 from hsp6.out)
                      have hysQ := Lib.hid (show MeetsIn (W6.drewN nq) (some ⟨g2, off, none⟩) cp3 ys from hysW6.out)
                      have hQ : Below w.heap.size w (W6.drewN nq) := below_drewN hW6 nq
                      clear rxW6 raW6 thW6 hsp6 hysW6 hW6
                      generalize W6.drewN nq = Q at *
                      refine wp_drawsR (by kernel_rfl) [] [some 103, some 104, some 105, some 106, some 107, some 108, some 109, some 110, some 111, some 112, some 113, some 114] (by kernel_rfl) (fun ix v W => match ix with
                        | 0 => v = .slice (some ⟨gs, 0, none⟩) nn nn
                        | 1 => v = .int .i64 (ti : Int)
                        | 2 => v = .slice (some ⟨gs, 0, none⟩) nn nn
                        | 3 => v = .int .i64 (ti : Int)
                        | 4 => v = .pointer (some ⟨gs, ti * 2, none⟩)
                        | 5 => v = .pointer (some ⟨gs, ti * 2 + 1, none⟩)
                        | 6 => v = .int .i64 ht
                        | 7 => v = .pointer (some ⟨h, 1, none⟩)
                        | 8 => v = .int .i64 (vd + wt.2)
                        | 9 => v = .int .i64 (mn ht (vd + wt.2))
                        | 10 => v = .pointer (some ⟨gs, ti * 2, none⟩)
                        | 11 => v = .pointer (some ⟨gs, ti * 2 + 1, none⟩)
                        | _ => True) ⟨⟨?_, ?_⟩, ⟨?_, ?_⟩, ⟨?_, ?_⟩, ⟨?_, ?_⟩, ⟨?_, ?_⟩, ⟨?_, ?_⟩, ⟨?_, ?_⟩, ⟨?_, ?_⟩, ⟨?_, ?_⟩, ⟨?_, ?_⟩, ⟨?_, ?_⟩, ⟨?_, ?_⟩, ?_⟩
                      · intro g h; cases h
                      · intro b' W hE hb hdep K hK
                        have e11 : b'.tmps[11]?.getD undef = .slice (some ⟨gs, 0, none⟩) nn nn := hb 11 (by decide)
                        clear hdep hb
                        go_wp2
                        exact hK _ _ (XT.refl _ _) rfl
                      · intro g h; cases h
                      · intro b' W hE hb hdep K hK
                        have e19 : b'.tmps[19]?.getD undef = .int .i64 (ti : Int) := hb 19 (by decide)
                        clear hdep hb
                        go_wp2
                        exact hK _ _ (XT.refl _ _) rfl
                      · intro g h; cases h
                      · intro b' W hE hb hdep K hK
                        have e11 : b'.tmps[11]?.getD undef = .slice (some ⟨gs, 0, none⟩) nn nn := hb 11 (by decide)
                        clear hdep hb
                        go_wp2
                        exact hK _ _ (XT.refl _ _) rfl
                      · intro g h; cases h
                      · intro b' W hE hb hdep K hK
                        have e19 : b'.tmps[19]?.getD undef = .int .i64 (ti : Int) := hb 19 (by decide)
                        clear hdep hb
                        go_wp2
                        exact hK _ _ (XT.refl _ _) rfl
                      · intro g h; cases h
                      · intro b' W hE hb hdep K hK
                        have e105 : b'.tmps[105]?.getD undef = .slice (some ⟨gs, 0, none⟩) nn nn := pureX (hdep 2 (some 105) (by kernel_rfl) rfl)
                        have e106 : b'.tmps[106]?.getD undef = .int .i64 (ti : Int) := pureX (hdep 3 (some 106) (by kernel_rfl) rfl)
                        clear hdep hb
                        go_wp2
                        exact hK _ _ (XT.refl _ _) rfl
                      · intro g h; cases h
                      · intro b' W hE hb hdep K hK
                        have e107 : b'.tmps[107]?.getD undef = .pointer (some ⟨gs, ti * 2, none⟩) := pureX (hdep 4 (some 107) (by kernel_rfl) rfl)
                        clear hdep hb
                        go_wp2
                        exact hK _ _ (XT.refl _ _) rfl
                      · intro g h; cases h
                      · intro b' W hE hb hdep K hK
                        have e108 : b'.tmps[108]?.getD undef = .pointer (some ⟨gs, ti * 2 + 1, none⟩) := pureX (hdep 5 (some 108) (by kernel_rfl) rfl)
                        clear hdep hb
                        obtain ⟨q0, q1, q2, q3⟩ := (SpOut.keepE (xt_ext hE) hspQ.out hspQ.out.lt).get (k := ti) ht3
                        rw [HLT.out] at q0
                        rw [HHT.out] at q1
                        go_wp2
                        exact hK _ _ (XT.refl _ _) rfl
                      · intro g h; cases h
                      · intro b' W hE hb hdep K hK
                        have e20 : b'.tmps[20]?.getD undef = .pointer (some ⟨h, 0, none⟩) := hb 20 (by decide)
                        clear hdep hb
                        go_wp2
                        exact hK _ _ (XT.refl _ _) rfl
                      · intro g h; cases h
                      · intro b' W hE hb hdep K hK
                        have e110 : b'.tmps[110]?.getD undef = .pointer (some ⟨h, 1, none⟩) := pureX (hdep 7 (some 110) (by kernel_rfl) rfl)
                        clear hdep hb
                        obtain ⟨_, _, -, _⟩ := keep_row (xt_ext hE) ((thQ : rowOf _ _ = _))
                        go_wp2
                        exact hK _ _ (XT.refl _ _) rfl
                      · intro g h; cases h
                      · intro b' W hE hb hdep K hK
                        have e109 : b'.tmps[109]?.getD undef = .int .i64 ht := pureX (hdep 6 (some 109) (by kernel_rfl) rfl)
                        have e111 : b'.tmps[111]?.getD undef = .int .i64 (vd + wt.2) := pureX (hdep 8 (some 111) (by kernel_rfl) rfl)
                        clear hdep hb
                        go_wp2
                        exact hK _ _ (XT.refl _ _) rfl
                      · intro g h; cases h
                      · intro b' W hE hb hdep K hK
                        have e103 : b'.tmps[103]?.getD undef = .slice (some ⟨gs, 0, none⟩) nn nn := pureX (hdep 0 (some 103) (by kernel_rfl) rfl)
                        have e104 : b'.tmps[104]?.getD undef = .int .i64 (ti : Int) := pureX (hdep 1 (some 104) (by kernel_rfl) rfl)
                        clear hdep hb
                        go_wp2
                        exact hK _ _ (XT.refl _ _) rfl
                      · intro g h; cases h
                      · intro b' W hE hb hdep K hK
                        have e113 : b'.tmps[113]?.getD undef = .pointer (some ⟨gs, ti * 2, none⟩) := pureX (hdep 10 (some 113) (by kernel_rfl) rfl)
                        clear hdep hb
                        go_wp2
                        exact hK _ _ (XT.refl _ _) rfl
                      intro f W hE hR
                      have e103 : f 103 = .slice (some ⟨gs, 0, none⟩) nn nn := pureX (hR 0 (some 103) rfl)
                      have e104 : f 104 = .int .i64 (ti : Int) := pureX (hR 1 (some 104) rfl)
                      have e105 : f 105 = .slice (some ⟨gs, 0, none⟩) nn nn := pureX (hR 2 (some 105) rfl)
                      have e106 : f 106 = .int .i64 (ti : Int) := pureX (hR 3 (some 106) rfl)
                      have e107 : f 107 = .pointer (some ⟨gs, ti * 2, none⟩) := pureX (hR 4 (some 107) rfl)
                      have e108 : f 108 = .pointer (some ⟨gs, ti * 2 + 1, none⟩) := pureX (hR 5 (some 108) rfl)
                      have e109 : f 109 = .int .i64 ht := pureX (hR 6 (some 109) rfl)
                      have e110 : f 110 = .pointer (some ⟨h, 1, none⟩) := pureX (hR 7 (some 110) rfl)
                      have e111 : f 111 = .int .i64 (vd + wt.2) := pureX (hR 8 (some 111) rfl)
                      have e112 : f 112 = .int .i64 (mn ht (vd + wt.2)) := pureX (hR 9 (some 112) rfl)
                      have e113 : f 113 = .pointer (some ⟨gs, ti * 2, none⟩) := pureX (hR 10 (some 113) rfl)
                      have e114 : f 114 = .pointer (some ⟨gs, ti * 2 + 1, none⟩) := pureX (hR 11 (some 114) rfl)
                      clear hR
                      simp only [List.filterMap_cons, List.filterMap_nil, id, puts, Act.put, List.setIfInBounds_toArray, List.set_cons_succ, List.set_cons_zero, e103, e104, e105, e106, e107, e108, e109, e110, e111, e112, e113, e114]
                      have xE := drew_ext (xt_ext hE)
                      have hq := Lib.hid (hspQ.out.keep xE hspQ.out.lt)
                      have rx6 := (keep_row xE rxQ).1
                      have ra6 := (keep_row xE raQ).1
                      have th6 := (keep_row xE thQ).1
                      have hy6 := Lib.hid (hysQ.out.ext xE)
                      have hB6 : Below w.heap.size w W := hQ.trans (Below.mono xE hQ.size)
                      obtain ⟨q0, q1, q2, q3⟩ := hq.out.get (k := ti) ht3
                      rw [HLT.out] at q0
                      rw [HHT.out] at q1
                      clear hE xE hspQ rxQ raQ thQ hysQ hQ
                      go_wp2_with fail
                      have hG := grown_setCell W ⟨gs, ti * 2 + 1, none⟩ (.int .i64 (mn ht (vd + wt.2)))
                      have hsp7 := Lib.hid (show SpOut (W.setCell ⟨gs, ti * 2 + 1, none⟩ (.int .i64 (mn ht (vd + wt.2)))) gs (dirH vd wt true fi ti s4) by rw [dirH_yes rfl (by rw [HHF.out]; exact hHH), HHT.out]; exact hq.out.setH ht3 _)
                      have rxW7 := row_grown rx6 hG (by simp only; omega)
                      have raW7 := row_grown ra6 hG (by simp only; omega)
                      have thW7 := row_grown th6 hG (by simp only; omega)
                      have hysW7 := Lib.hid (MeetsIn.grown hy6.out hG (by simp only; omega))
                      have hW7 : Below w.heap.size w (W.setCell ⟨gs, ti * 2 + 1, none⟩ (.int .i64 (mn ht (vd + wt.2)))) := below_grown hB6 hG hB6.size (by simp only; omega)
                      clear hG hq rx6 ra6 th6 hy6 hB6 q0 q1 q2 q3 e103 e104 e105 e106 e107 e108 e109 e110 e111 e112 e113 e114
                      generalize (W.setCell ⟨gs, ti * 2 + 1, none⟩ (.int .i64 (mn ht (vd + wt.2)))) = W7 at *
                      go_wp2_with fail
                      exact ⟨⟨r + 1, by omega, by go_num, rxW7, by show SpOut _ _ _; rw [HS.out, dir_split ht0 hne, H4.out]; exact hsp7.out, raW7, hysW7, hW7, .inr (by omega)⟩, by simp [intOf]; omega⟩
                    · go_quiet (fail)
                      go_wp2_with fail
                      clear cx fx zx c0 c1 f0 f1
                      have hsp7 := Lib.hid (show SpOut (W6.drewN nq) gs (dirH vd wt true fi ti s4) by rw [dirH_no ht3 (fun h => hHH (by have := h.2; rw [HHF.out] at this; exact this))]; exact hsp6.out)
                      have rxW7 : rowOf (W6.drewN nq) _ = _ := rxW6
                      have raW7 : rowOf (W6.drewN nq) _ = _ := raW6
                      have thW7 : rowOf (W6.drewN nq) _ = _ := thW6
                      have hysW7 := Lib.hid (show MeetsIn (W6.drewN nq) (some ⟨g2, off, none⟩) cp3 ys from hysW6.out)
                      have hW7 : Below w.heap.size w (W6.drewN nq) := below_drewN hW6 nq
                      clear rxW6 raW6 thW6 hysW6 hW6 hsp6
                      generalize (W6.drewN nq) = W7 at *
                      go_wp2_with fail
                      exact ⟨⟨r + 1, by omega, by go_num, rxW7, by show SpOut _ _ _; rw [HS.out, dir_split ht0 hne, H4.out]; exact hsp7.out, raW7, hysW7, hW7, .inr (by omega)⟩, by simp [intOf]; omega⟩
                · go_quiet (fail)
                  go_wp2_with fail
                  clear cx fx zx c0 c1 f0 f1
                  have hsp6 := Lib.hid (show SpOut (W5.drewN nq) gs (dirL vd wt fi ti s3) by rw [dirL_no ht3 (by rw [HLF.out]; omega)]; exact hsp5.out)
                  have rxW6 : rowOf (W5.drewN nq) _ = _ := rxW5
                  have raW6 : rowOf (W5.drewN nq) _ = _ := raW5
                  have thW6 : rowOf (W5.drewN nq) _ = _ := thW5
                  have hysW6 := Lib.hid (show MeetsIn (W5.drewN nq) (some ⟨g2, off, none⟩) cp3 ys from hysW5.out)
                  have hW6 : Below w.heap.size w (W5.drewN nq) := below_drewN hW5 nq
                  clear rxW5 raW5 thW5 hysW5 hW5 hsp5
                  generalize (W5.drewN nq) = W6 at *
                  obtain ⟨s4, hs4⟩ : ∃ y, dirL vd wt fi ti s3 = y := ⟨_, rfl⟩
                  have ht0 := ht3
                  have hl4 : s4.length = s3.length := by rw [← hs4, dirL_len]
                  rw [hs4] at hsp6
                  have H4 := Lib.hid hs4
                  rw [← hl4] at hf3 ht3
                  clear hs4 hl4
                  clear HLF HHF HLT HHT
                  obtain ⟨lf, hlf⟩ : ∃ y, (s4.getD fi (0, 0)).1 = y := ⟨_, rfl⟩
                  obtain ⟨hf, hhf⟩ : ∃ y, (s4.getD fi (0, 0)).2 = y := ⟨_, rfl⟩
                  obtain ⟨lt, hlt_⟩ : ∃ y, (s4.getD ti (0, 0)).1 = y := ⟨_, rfl⟩
                  obtain ⟨ht, hht⟩ : ∃ y, (s4.getD ti (0, 0)).2 = y := ⟨_, rfl⟩
                  have HLF := Lib.hid hlf
                  have HHF := Lib.hid hhf
                  have HLT := Lib.hid hlt_
                  have HHT := Lib.hid hht
                  clear hlf hhf hlt_ hht
                  obtain ⟨c0, c1, f0, f1⟩ := hsp6.out.get (k := fi) hf3
                  rw [HLF.out] at c0
                  rw [HHF.out] at c1
                  obtain ⟨rx, cx, fx, zx⟩ := row_facts rxW6
                  clear rx
                  cases vc with
                  | false =>
                    go_quiet (fail)
                    go_wp2_with fail
                    clear cx fx zx c0 c1 f0 f1
                    have hsp7 := Lib.hid (show SpOut (W6.drewN nq) gs (dirH vd wt false fi ti s4) by rw [dirH_no ht3 (fun h => by simp at h)]; exact hsp6.out)
                    have rxW7 : rowOf (W6.drewN nq) _ = _ := rxW6
                    have raW7 : rowOf (W6.drewN nq) _ = _ := raW6
                    have thW7 : rowOf (W6.drewN nq) _ = _ := thW6
                    have hysW7 := Lib.hid (show MeetsIn (W6.drewN nq) (some ⟨g2, off, none⟩) cp3 ys from hysW6.out)
                    have hW7 : Below w.heap.size w (W6.drewN nq) := below_drewN hW6 nq
                    clear rxW6 raW6 thW6 hysW6 hW6 hsp6
                    generalize (W6.drewN nq) = W7 at *
                    go_wp2_with fail
                    exact ⟨⟨r + 1, by omega, by go_num, rxW7, by show SpOut _ _ _; rw [HS.out, dir_split ht0 hne, H4.out]; exact hsp7.out, raW7, hysW7, hW7, .inr (by omega)⟩, by simp [intOf]; omega⟩
                  | true =>
                    by_cases hHH : hf ≤ vd
                    · go_quiet (fail)
                      go_wp2_with fail
                      clear cx fx zx c0 c1 f0 f1
                      have rxQ : rowOf (W6.drewN nq) _ = _ := rxW6
                      have raQ : rowOf (W6.drewN nq) _ = _ := raW6
                      have thQ : rowOf (W6.drewN nq) _ = _ := thW6
                      have hspQ := Lib.hid (show SpOut (W6.drewN nq) gs s4 from hsp6.out)
                      have hysQ := Lib.hid (show MeetsIn (W6.drewN nq) (some ⟨g2, off, none⟩) cp3 ys from hysW6.out)
                      have hQ : Below w.heap.size w (W6.drewN nq) := below_drewN hW6 nq
                      clear rxW6 raW6 thW6 hsp6 hysW6 hW6
                      generalize W6.drewN nq = Q at *
                      refine wp_drawsR (by kernel_rfl) [] [some 103, some 104, some 105, some 106, some 107, some 108, some 109, some 110, some 111, some 112, some 113, some 114] (by kernel_rfl) (fun ix v W => match ix with
                        | 0 => v = .slice (some ⟨gs, 0, none⟩) nn nn
                        | 1 => v = .int .i64 (ti : Int)
                        | 2 => v = .slice (some ⟨gs, 0, none⟩) nn nn
                        | 3 => v = .int .i64 (ti : Int)
                        | 4 => v = .pointer (some ⟨gs, ti * 2, none⟩)
                        | 5 => v = .pointer (some ⟨gs, ti * 2 + 1, none⟩)
                        | 6 => v = .int .i64 ht
                        | 7 => v = .pointer (some ⟨h, 1, none⟩)
                        | 8 => v = .int .i64 (vd + wt.2)
                        | 9 => v = .int .i64 (mn ht (vd + wt.2))
                        | 10 => v = .pointer (some ⟨gs, ti * 2, none⟩)
                        | 11 => v = .pointer (some ⟨gs, ti * 2 + 1, none⟩)
                        | _ => True) ⟨⟨?_, ?_⟩, ⟨?_, ?_⟩, ⟨?_, ?_⟩, ⟨?_, ?_⟩, ⟨?_, ?_⟩, ⟨?_, ?_⟩, ⟨?_, ?_⟩, ⟨?_, ?_⟩, ⟨?_, ?_⟩, ⟨?_, ?_⟩, ⟨?_, ?_⟩, ⟨?_, ?_⟩, ?_⟩
                      · intro g h; cases h
                      · intro b' W hE hb hdep K hK
                        have e11 : b'.tmps[11]?.getD undef = .slice (some ⟨gs, 0, none⟩) nn nn := hb 11 (by decide)
                        clear hdep hb
                        go_wp2
                        exact hK _ _ (XT.refl _ _) rfl
                      · intro g h; cases h
                      · intro b' W hE hb hdep K hK
                        have e19 : b'.tmps[19]?.getD undef = .int .i64 (ti : Int) := hb 19 (by decide)
                        clear hdep hb
                        go_wp2
                        exact hK _ _ (XT.refl _ _) rfl
                      · intro g h; cases h
                      · intro b' W hE hb hdep K hK
                        have e11 : b'.tmps[11]?.getD undef = .slice (some ⟨gs, 0, none⟩) nn nn := hb 11 (by decide)
                        clear hdep hb
                        go_wp2
                        exact hK _ _ (XT.refl _ _) rfl
                      · intro g h; cases h
                      · intro b' W hE hb hdep K hK
                        have e19 : b'.tmps[19]?.getD undef = .int .i64 (ti : Int) := hb 19 (by decide)
                        clear hdep hb
                        go_wp2
                        exact hK _ _ (XT.refl _ _) rfl
                      · intro g h; cases h
                      · intro b' W hE hb hdep K hK
                        have e105 : b'.tmps[105]?.getD undef = .slice (some ⟨gs, 0, none⟩) nn nn := pureX (hdep 2 (some 105) (by kernel_rfl) rfl)
                        have e106 : b'.tmps[106]?.getD undef = .int .i64 (ti : Int) := pureX (hdep 3 (some 106) (by kernel_rfl) rfl)
                        clear hdep hb
                        go_wp2
                        exact hK _ _ (XT.refl _ _) rfl
                      · intro g h; cases h
                      · intro b' W hE hb hdep K hK
                        have e107 : b'.tmps[107]?.getD undef = .pointer (some ⟨gs, ti * 2, none⟩) := pureX (hdep 4 (some 107) (by kernel_rfl) rfl)
                        clear hdep hb
                        go_wp2
                        exact hK _ _ (XT.refl _ _) rfl
                      · intro g h; cases h
                      · intro b' W hE hb hdep K hK
                        have e108 : b'.tmps[108]?.getD undef = .pointer (some ⟨gs, ti * 2 + 1, none⟩) := pureX (hdep 5 (some 108) (by kernel_rfl) rfl)
                        clear hdep hb
                        obtain ⟨q0, q1, q2, q3⟩ := (SpOut.keepE (xt_ext hE) hspQ.out hspQ.out.lt).get (k := ti) ht3
                        rw [HLT.out] at q0
                        rw [HHT.out] at q1
                        go_wp2
                        exact hK _ _ (XT.refl _ _) rfl
                      · intro g h; cases h
                      · intro b' W hE hb hdep K hK
                        have e20 : b'.tmps[20]?.getD undef = .pointer (some ⟨h, 0, none⟩) := hb 20 (by decide)
                        clear hdep hb
                        go_wp2
                        exact hK _ _ (XT.refl _ _) rfl
                      · intro g h; cases h
                      · intro b' W hE hb hdep K hK
                        have e110 : b'.tmps[110]?.getD undef = .pointer (some ⟨h, 1, none⟩) := pureX (hdep 7 (some 110) (by kernel_rfl) rfl)
                        clear hdep hb
                        obtain ⟨_, _, -, _⟩ := keep_row (xt_ext hE) ((thQ : rowOf _ _ = _))
                        go_wp2
                        exact hK _ _ (XT.refl _ _) rfl
                      · intro g h; cases h
                      · intro b' W hE hb hdep K hK
                        have e109 : b'.tmps[109]?.getD undef = .int .i64 ht := pureX (hdep 6 (some 109) (by kernel_rfl) rfl)
                        have e111 : b'.tmps[111]?.getD undef = .int .i64 (vd + wt.2) := pureX (hdep 8 (some 111) (by kernel_rfl) rfl)
                        clear hdep hb
                        go_wp2
                        exact hK _ _ (XT.refl _ _) rfl
                      · intro g h; cases h
                      · intro b' W hE hb hdep K hK
                        have e103 : b'.tmps[103]?.getD undef = .slice (some ⟨gs, 0, none⟩) nn nn := pureX (hdep 0 (some 103) (by kernel_rfl) rfl)
                        have e104 : b'.tmps[104]?.getD undef = .int .i64 (ti : Int) := pureX (hdep 1 (some 104) (by kernel_rfl) rfl)
                        clear hdep hb
                        go_wp2
                        exact hK _ _ (XT.refl _ _) rfl
                      · intro g h; cases h
                      · intro b' W hE hb hdep K hK
                        have e113 : b'.tmps[113]?.getD undef = .pointer (some ⟨gs, ti * 2, none⟩) := pureX (hdep 10 (some 113) (by kernel_rfl) rfl)
                        clear hdep hb
                        go_wp2
                        exact hK _ _ (XT.refl _ _) rfl
                      intro f W hE hR
                      have e103 : f 103 = .slice (some ⟨gs, 0, none⟩) nn nn := pureX (hR 0 (some 103) rfl)
                      have e104 : f 104 = .int .i64 (ti : Int) := pureX (hR 1 (some 104) rfl)
                      have e105 : f 105 = .slice (some ⟨gs, 0, none⟩) nn nn := pureX (hR 2 (some 105) rfl)
                      have e106 : f 106 = .int .i64 (ti : Int) := pureX (hR 3 (some 106) rfl)
                      have e107 : f 107 = .pointer (some ⟨gs, ti * 2, none⟩) := pureX (hR 4 (some 107) rfl)
                      have e108 : f 108 = .pointer (some ⟨gs, ti * 2 + 1, none⟩) := pureX (hR 5 (some 108) rfl)
                      have e109 : f 109 = .int .i64 ht := pureX (hR 6 (some 109) rfl)
                      have e110 : f 110 = .pointer (some ⟨h, 1, none⟩) := pureX (hR 7 (some 110) rfl)
                      have e111 : f 111 = .int .i64 (vd + wt.2) := pureX (hR 8 (some 111) rfl)
                      have e112 : f 112 = .int .i64 (mn ht (vd + wt.2)) := pureX (hR 9 (some 112) rfl)
                      have e113 : f 113 = .pointer (some ⟨gs, ti * 2, none⟩) := pureX (hR 10 (some 113) rfl)
                      have e114 : f 114 = .pointer (some ⟨gs, ti * 2 + 1, none⟩) := pureX (hR 11 (some 114) rfl)
                      clear hR
                      simp only [List.filterMap_cons, List.filterMap_nil, id, puts, Act.put, List.setIfInBounds_toArray, List.set_cons_succ, List.set_cons_zero, e103, e104, e105, e106, e107, e108, e109, e110, e111, e112, e113, e114]
                      have xE := drew_ext (xt_ext hE)
                      have hq := Lib.hid (hspQ.out.keep xE hspQ.out.lt)
                      have rx6 := (keep_row xE rxQ).1
                      have ra6 := (keep_row xE raQ).1
                      have th6 := (keep_row xE thQ).1
                      have hy6 := Lib.hid (hysQ.out.ext xE)
                      have hB6 : Below w.heap.size w W := hQ.trans (Below.mono xE hQ.size)
                      obtain ⟨q0, q1, q2, q3⟩ := hq.out.get (k := ti) ht3
                      rw [HLT.out] at q0
                      rw [HHT.out] at q1
                      clear hE xE hspQ rxQ raQ thQ hysQ hQ
                      go_wp2_with fail
                      have hG := grown_setCell W ⟨gs, ti * 2 + 1, none⟩ (.int .i64 (mn ht (vd + wt.2)))
                      have hsp7 := Lib.hid (show SpOut (W.setCell ⟨gs, ti * 2 + 1, none⟩ (.int .i64 (mn ht (vd + wt.2)))) gs (dirH vd wt true fi ti s4) by rw [dirH_yes rfl (by rw [HHF.out]; exact hHH), HHT.out]; exact hq.out.setH ht3 _)
                      have rxW7 := row_grown rx6 hG (by simp only; omega)
                      have raW7 := row_grown ra6 hG (by simp only; omega)
                      have thW7 := row_grown th6 hG (by simp only; omega)
                      have hysW7 := Lib.hid (MeetsIn.grown hy6.out hG (by simp only; omega))
                      have hW7 : Below w.heap.size w (W.setCell ⟨gs, ti * 2 + 1, none⟩ (.int .i64 (mn ht (vd + wt.2)))) := below_grown hB6 hG hB6.size (by simp only; omega)
                      clear hG hq rx6 ra6 th6 hy6 hB6 q0 q1 q2 q3 e103 e104 e105 e106 e107 e108 e109 e110 e111 e112 e113 e114
                      generalize (W.setCell ⟨gs, ti * 2 + 1, none⟩ (.int .i64 (mn ht (vd + wt.2)))) = W7 at *
                      go_wp2_with fail
                      exact ⟨⟨r + 1, by omega, by go_num, rxW7, by show SpOut _ _ _; rw [HS.out, dir_split ht0 hne, H4.out]; exact hsp7.out, raW7, hysW7, hW7, .inr (by omega)⟩, by simp [intOf]; omega⟩
                    · go_quiet (fail)
                      go_wp2_with fail
                      clear cx fx zx c0 c1 f0 f1
                      have hsp7 := Lib.hid (show SpOut (W6.drewN nq) gs (dirH vd wt true fi ti s4) by rw [dirH_no ht3 (fun h => hHH (by have := h.2; rw [HHF.out] at this; exact this))]; exact hsp6.out)
                      have rxW7 : rowOf (W6.drewN nq) _ = _ := rxW6
                      have raW7 : rowOf (W6.drewN nq) _ = _ := raW6
                      have thW7 : rowOf (W6.drewN nq) _ = _ := thW6
                      have hysW7 := Lib.hid (show MeetsIn (W6.drewN nq) (some ⟨g2, off, none⟩) cp3 ys from hysW6.out)
                      have hW7 : Below w.heap.size w (W6.drewN nq) := below_drewN hW6 nq
                      clear rxW6 raW6 thW6 hysW6 hW6 hsp6
                      generalize (W6.drewN nq) = W7 at *
                      go_wp2_with fail
                      exact ⟨⟨r + 1, by omega, by go_num, rxW7, by show SpOut _ _ _; rw [HS.out, dir_split ht0 hne, H4.out]; exact hsp7.out, raW7, hysW7, hW7, .inr (by omega)⟩, by simp [intOf]; omega⟩
            · obtain rfl : r = 2 := by omega
              go_wp2_with fail
              exact ⟨⟨j + 1, _, hlt, by go_num, hsp0, HSTEP, ra0, hys0.out, hB5⟩, by simp [intOf]; omega⟩
        · obtain rfl : j = nm := by omega
          have hkn : SickBy first ms wt day nn ss2 := by
            have hall : ys.take j = ys := List.take_of_length_le (by have := HYL.out; omega)
            have h := hsw.out
            rw [hall] at h
            refine ⟨by have := h.len; omega, fun k hk => h.known HFI.out HMS.out (fun x hx => .inl ((HIO.out.2.1 x).2 hx)) w1 w2 d2 (by omega)⟩
          go_wp2
          try rw [Exit.noGoto_ret]
          go_returns
          exact ⟨⟨gs, nn, ss2, rfl, by omega, hsp.out, hkn⟩, hB4⟩
end Go.Proofs.Ytafdcbdbllpcnaa
