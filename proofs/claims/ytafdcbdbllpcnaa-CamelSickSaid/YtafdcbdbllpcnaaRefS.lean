/- Contract of the reference's sick. -/
import Derived.Test.YtafdcbdbllpcnaaRefA
import Derived.Test.YtafdcbdbllpcnaaLeafK
import Derived.Test.YtafdcbdbllpcnaaMtCl
set_option linter.unusedVariables false
set_option linter.unusedSimpArgs false
namespace Go.Proofs.Ytafdcbdbllpcnaa
open Go.RowKit
open Go.Proofs

attribute [local go_sem] rowOf_alloc

/-- By which meetings it is passed on. -/
def EofC (ms : List Mt) (cl : Bool) (x : Mt) : Prop := x ∈ ms ∧ (cl = true → x.close = true)
/-- What is reckoned. -/
structure Told (first : List Int) (ms : List Mt) (cl : Bool) (wv n : Int) (xs : List Int) : Prop where
  fine : Fine first (EofC ms cl) wv n 1099511627776 xs
  base : ∀ i ∈ first, fI xs i ≤ 0
  reck : Reck (EofC ms cl) (fun x => x ∈ ms) wv (fI xs)

theorem info3z : (Try.prog.info? 3).map (fun i => (i.zero, i.size, i.bytes)) = some (some (.int .i64 0), 1, 8) := by kernel_rfl

set_option maxRecDepth 100000 in
set_option maxHeartbeats 8000000 in
theorem sick_any (nn : Nat) (wv : Int) (cl : Bool) (fa : Option Addr) (fcap nf : Nat) (first : List Int) (ma : Option Addr) (mcap nm : Nat) (ms : List Mt) (w : World) (hnf : nf = first.length) (hnm : nm = ms.length) (hf : IntsIn w fa fcap first) (hm : MeetsIn w ma mcap ms)
    (hn1 : 1 ≤ nn) (hn2 : nn ≤ 30) (hw1 : 1 ≤ wv) (hw2 : wv ≤ 60) (h1 : nf ≤ 30) (h2 : nm ≤ 200) (hfi : ∀ i ∈ first, 0 ≤ i ∧ i < (nn : Int)) (hms : ∀ x ∈ ms, okMt (nn : Int) x) :
    Calls Try.prog 80 #[.int .i64 (nn : Int), .slice fa nf fcap, .slice ma nm mcap, .int .i64 wv, .bool cl] w fun e w' => (∃ g cap xs, e = .returned (.slice (some ⟨g, 0, none⟩) nn cap) ∧ w.heap.size ≤ g ∧ OutAt w' g xs ∧ xs.length = nn ∧ Told first ms cl wv (nn : Int) xs) ∧ Below w.heap.size w w' := by
  have HF := Lib.hid hf
  have HM := Lib.hid hm
  have HNF := Lib.hid hnf
  have HNM := Lib.hid hnm
  have HFI := Lib.hid hfi
  have HMS := Lib.hid hms
  have h1' : (nf : Int) ≤ 30 := by omega
  have h2' : (nm : Int) ≤ 200 := by omega
  have hn1' : 1 ≤ (nn : Int) := by omega
  have hn2' : (nn : Int) ≤ 30 := by omega
  obtain ⟨i0, hi0, hz0, hz1, hz2⟩ := info_parts info3z
  clear hf hm hnf hnm hfi hms
  go_enter Try.func80, Try.ntmps80
  go_wp2
  go_loopw [11, 12] (fun v i wr => ∃ k : Nat, k ≤ nn ∧ i = .int .i64 (k : Int) ∧ Hid (wr.ownsRow w.heap.size 3 1 v k (List.replicate k (.int .i64 1099511627776))) ∧ Below w.heap.size w wr) (fun _ i _ => nn - (intOf i).toNat)
  case atStart => exact ⟨0, Nat.zero_le _, rfl, World.ownsRow_nil _ _ _ _, Below.refl _ _⟩
  case round =>
    obtain ⟨k, hk, rfl, hown, hB0⟩ := hrel
    by_cases hlt : k < nn
    · have hlt' : (k : Int) < (nn : Int) := by omega
      have hg0 := hB0.size
      go_wp2_with (first
        | (at_builtin; refine wpList_append_own _ rfl _ _ 27 rfl w.heap.size 3 i0 (.int .i64 0) 1 8 Try.underlying27 hi0 hz0 hz1 hz2 rfl (by decide) _ _ _ rfl (hown.out.alloc _) ⟨wr.heap.size, 0, none⟩ 1 1 [.int .i64 1099511627776] rfl rfl ?news (by simp [Value.oneCell']) (by unfold maxLen; omega) (by omega) (by simp; omega) ?_)
        | fail)
      case news =>
        intro j u hj
        match j with
        | 0 =>
          simp at hj
          subst hj
          rw [add_none]
          exact (cell_of_rowOf (row_here0 _ _ _)).1 0
        | j + 1 => simp at hj
      intro v' w1 hown' hgrow hnil'
      have hB1 : Below w.heap.size w w1 := (hB0.alloc hg0 _).grown hgrow (by simp; omega) (fun i e => (hown.out.lt i e).1)
      have HO1 := Lib.hid hown'
      clear hown' hgrow hnil' hown
      go_wp2
      refine ⟨⟨k + 1, hlt, by go_num, ?_, hB1⟩, by simp [intOf]; omega⟩
      show World.ownsRow _ _ _ _ _ _ _
      rw [List.replicate_succ']
      exact HO1.out
    · obtain rfl : k = nn := by omega
      obtain ⟨g, cap, rfl, hg, hO⟩ := out_owns (xs := List.replicate k (1099511627776 : Int)) (by simp) hn1 (by rw [List.map_replicate]; exact hown.out)
      have HG0 := Lib.hid (good_start (first := first) (E := EofC ms cl) (w := wv) (N := 1099511627776) (k := k) rfl)
      clear hown hi0 hz0 hz1 hz2
      go_wp2
      go_loopw [13] (fun i wr => ∃ (j : Nat) (xs : List Int), j ≤ nf ∧ i = .int .i64 (j : Int) ∧ Hid (OutAt wr g xs) ∧ Hid (Fine first (EofC ms cl) wv (k : Int) 1099511627776 xs) ∧ Hid (∀ i ∈ first.take j, fI xs i ≤ 0) ∧ Below w.heap.size w wr) (fun i _ => nf - (intOf i).toNat)
      case atStart => exact ⟨0, _, Nat.zero_le _, rfl, hO, HG0, by simp [Hid], hB0⟩
      case round =>
        obtain ⟨j, xs, hj, rfl, hO, hG, hbs, hB2⟩ := hrel
        by_cases hlt2 : j < nf
        · have hjf : j < first.length := by have := HNF.out; omega
          obtain ⟨g2, off, rfl, c0, hg2⟩ := (HF.out.below hB2 (Nat.le_refl _)).get hjf
          obtain ⟨v1, v2⟩ := HFI.out _ (List.getElem_mem hjf)
          have hvm := List.getElem_mem hjf
          rw [show first.getD j 0 = first[j] by simp [hjf]] at c0
          have htk := List.take_succ_eq_append_getElem hjf
          obtain ⟨q, hq⟩ : ∃ q : Nat, first[j] = (q : Int) := ⟨first[j].toNat, by omega⟩
          rw [hq] at c0 v2 hvm htk
          have hql : q < xs.length := by have := hG.out.len; omega
          have HQ := Lib.hid hvm
          have HT := Lib.hid htk
          obtain ⟨d0, f0, z0⟩ := hO.out.get hql
          have hlt' : (j : Int) < (nf : Int) := by omega
          clear hq hvm v1 htk
          go_wp2
          have hB3 : Below w.heap.size w (wr.setCell ⟨g, q, none⟩ (.int .i64 0)) := below_grown hB2 (grown_setCell _ _ _) hB2.size (by simp only; omega)
          refine ⟨⟨j + 1, _, hlt2, by go_num, hO.out.set hql 0, good_first hG.out hql HQ.out, ?_, hB3⟩, by simp [intOf]; omega⟩
          show ∀ i ∈ _, _
          rw [HT.out]
          exact base_first hql (fun i hi => (HFI.out i (List.mem_of_mem_take hi)).1) hbs.out
        · obtain rfl : j = nf := by omega
          have HB := Lib.hid (show ∀ i ∈ first, fI xs i ≤ 0 by have := hbs.out; rwa [HNF.out, List.take_length] at this)
          clear hbs
          go_wp2
          go_loopw [14] (fun c wr => ∃ (cb : Bool) (xs : List Int), c = .bool cb ∧ Hid (OutAt wr g xs) ∧ Hid (Fine first (EofC ms cl) wv (k : Int) 1099511627776 xs) ∧ Hid (∀ i ∈ first, fI xs i ≤ 0) ∧ Hid (cb = false → Reck (EofC ms cl) (fun x => x ∈ ms) wv (fI xs)) ∧ Below w.heap.size w wr) (fun c wr => 2 * worldSum wr g k + (match c with | .bool true => 1 | _ => 0))
          case atStart => exact ⟨true, xs, rfl, hO, hG, HB, (fun h => by cases h), hB2⟩
          case round =>
            obtain ⟨cb, xs0, rfl, hO0, hG0, hbs0, hrk0, hB3⟩ := hrel
            cases cb with
            | false =>
              go_wp2
              go_returns
              exact ⟨⟨g, ⟨cap, rfl⟩, hg, xs0, hO0.out, by have := hG0.out.len; omega, ⟨hG0.out, hbs0.out, hrk0.out (by first | rfl | trivial)⟩⟩, hB3⟩
            | true =>
              have hs0 := worldSum_out hO0.out (n := k) (by have := hG0.out.len; omega)
              have HS0 := Lib.hid hs0
              have HI0 := Lib.hid (Inn.start (ms := ms) hG0.out hbs0.out)
              clear hs0 hrk0
              go_wp2
              go_loopw [14, 15] (fun c i wr => ∃ (cb : Bool) (j : Nat) (xs : List Int), j ≤ nm ∧ c = .bool cb ∧ i = .int .i64 (j : Int) ∧ Hid (OutAt wr g xs) ∧ Hid (Inn first ms (EofC ms cl) wv (k : Int) 1099511627776 xs0 xs cb j) ∧ Below w.heap.size w wr) (fun _ i _ => nm - (intOf i).toNat)
              case atStart => exact ⟨false, 0, xs0, Nat.zero_le _, rfl, rfl, hO0, HI0, hB3⟩
              case round =>
                obtain ⟨cb, j, xs, hj, rfl, rfl, hO, hI, hB4⟩ := hrel
                by_cases hlt3 : j < nm
                · have hjm : j < ms.length := by have := HNM.out; omega
                  obtain ⟨g2, off, rfl, hx4, hg2⟩ := (HM.out.below hB4 (Nat.le_refl _)).get hjm
                  have hok : okMt (k : Int) (mtS ms j) := HMS.out _ (mtS_mem hjm)
                  have hget : ms[j] = mtS ms j := mtS_get hjm
                  obtain ⟨v, hv⟩ : ∃ v, mtS ms j = v := ⟨_, rfl⟩
                  rw [hv] at hx4 hok hget
                  obtain ⟨va, vb, vd, vc⟩ := v
                  obtain ⟨c0, c1, c2, c3⟩ := hx4
                  obtain ⟨o1, o2, o3, o4, o5, o6, o7⟩ := id hok
                  simp only at c0 c1 c2 c3 o1 o2 o3 o4 o5 o6 o7
                  obtain ⟨p, rfl⟩ : ∃ p : Nat, va = (p : Int) := ⟨va.toNat, by omega⟩
                  obtain ⟨q, rfl⟩ : ∃ q : Nat, vb = (q : Int) := ⟨vb.toNat, by omega⟩
                  have hlen := hI.out.good.len
                  have hpl : p < xs.length := by omega
                  have hql : q < xs.length := by omega
                  have hmem : (⟨(p : Int), (q : Int), vd, vc⟩ : Mt) ∈ ms := by rw [← hget]; exact List.getElem_mem hjm
                  have HGET := Lib.hid hget
                  have HOK := Lib.hid hok
                  have HMEM := Lib.hid hmem
                  have hlt' : (j : Int) < (nm : Int) := by omega
                  have hB4s := hB4.size
                  clear hv hok hget hmem hlen hO0 hbs0 HI0
                  cases cl with
                  | true =>
                    cases vc with
                    | false =>
                      have hI2 := Lib.hid (hI.out.skip hjm (by rw [HGET.out]; rintro ⟨-, h⟩; cases h rfl))
                      go_wp2_with fail
                      exact ⟨⟨cb, j + 1, xs, hlt3, rfl, by go_num, hO.out.alloc _, hI2.out, hB4.alloc hB4s _⟩, by simp [intOf]; omega⟩
                    | true =>
                      have HE := Lib.hid (show EofC ms true ⟨(p : Int), (q : Int), vd, true⟩ from ⟨HMEM.out, fun h => by first | rfl | cases h⟩)
                      go_wp2_with fail
                      have rx0 : rowOf (wr.alloc (.cells #[.int .i64 (p : Int), .int .i64 (q : Int), .int .i64 vd, .bool true] 79)) wr.heap.size = some #[.int .i64 (p : Int), .int .i64 (q : Int), .int .i64 vd, .bool true] := row_here0 _ _ _
                      have hO1 := Lib.hid (hO.out.alloc (.cells #[.int .i64 (p : Int), .int .i64 (q : Int), .int .i64 vd, .bool true] 79))
                      have hB5 := hB4.alloc hB4s (.cells #[.int .i64 (p : Int), .int .i64 (q : Int), .int .i64 vd, .bool true] 79)
                      have hgx : g < wr.heap.size := hO.out.lt
                      clear c0 c1 c2 c3 hO hB4 hB4s
                      generalize wr.heap.size = gx at *
                      generalize (wr.alloc (.cells #[.int .i64 (p : Int), .int .i64 (q : Int), .int .i64 vd, .bool true] 79)) = W0 at *
                      have HSTEP := Lib.hid (by
                        have h := hI.out.step (i := p) (j := q) hjm (by rw [HGET.out]; exact HE.out) (by rw [HGET.out]; exact HOK.out) (by omega) hw1 (fun i hi => (HFI.out i hi).1) (by rw [HGET.out]) (by rw [HGET.out])
                        rw [HGET.out] at h
                        exact h : Inn first ms (EofC ms true) wv (k : Int) 1099511627776 xs0 (half vd wv q p (half vd wv p q xs)) (cb || moved vd wv p q xs || moved vd wv q p (half vd wv p q xs)) (j + 1))
                      obtain ⟨ya, hya⟩ : ∃ y, xs.getD p 0 = y := ⟨_, rfl⟩
                      obtain ⟨yb, hyb⟩ : ∃ y, xs.getD q 0 = y := ⟨_, rfl⟩
                      obtain ⟨dp, fp, zp⟩ := hO1.out.get hpl
                      obtain ⟨dq, fq, zq⟩ := hO1.out.get hql
                      rw [hya] at dp
                      rw [hyb] at dq
                      obtain ⟨rx, cx, fx, zx⟩ := row_facts rx0
                      have HYA := Lib.hid hya
                      have HYB := Lib.hid hyb
                      clear hya hyb hI
                      by_cases hA : ya ≤ vd
                      · by_cases hC : vd + wv < yb
                        · skip
                          go_quiet (fail)
                          have m1 : moved vd wv p q xs = true := by simp only [moved, HYA.out, HYB.out, Bool.and_eq_true, Bool.and_eq_false_iff, decide_eq_true_eq, decide_eq_false_iff_not]; omega
                          have HS1 := Lib.hid (by have h := HSTEP.out; rw [m1] at h; exact h : Inn first ms (EofC ms true) wv (k : Int) 1099511627776 xs0 (half vd wv q p (half vd wv p q xs)) (cb || true || moved vd wv q p (half vd wv p q xs)) (j + 1))
                          have hl1 := half_len vd wv p q xs
                          have hO2 := Lib.hid (show OutAt ((W0.drewN nq).setCell ⟨g, q, none⟩ (.int .i64 (vd + wv))) g (half vd wv p q xs) by rw [half_moved m1]; exact (hO1.out.drewN nq).set hql (vd + wv))
                          have hB6 : Below w.heap.size w ((W0.drewN nq).setCell ⟨g, q, none⟩ (.int .i64 (vd + wv))) := below_grown (below_drewN hB5 nq) (grown_setCell _ _ _) hB5.size (by simp only; omega)
                          have rx1 : rowOf ((W0.drewN nq).setCell ⟨g, q, none⟩ (.int .i64 (vd + wv))) gx = some #[.int .i64 (p : Int), .int .i64 (q : Int), .int .i64 vd, .bool true] := row_grown (A := W0.drewN nq) rx0 (grown_setCell _ _ _) (by simp only; omega)
                          go_wp2_with fail
                          clear m1 HSTEP hB5 hO1 HYA HYB dp fp zp dq fq zq rx cx fx zx rx0
                          generalize (W0.drewN nq).setCell ⟨g, q, none⟩ (.int .i64 (vd + wv)) = W1 at *
                          generalize half vd wv p q xs = xs1 at *
                          clear nq
                          obtain ⟨za, hza⟩ : ∃ y, xs1.getD q 0 = y := ⟨_, rfl⟩
                          obtain ⟨zb, hzb⟩ : ∃ y, xs1.getD p 0 = y := ⟨_, rfl⟩
                          obtain ⟨dp, fp, zp⟩ := hO2.out.get (by rw [hl1]; exact hpl : p < xs1.length)
                          obtain ⟨dq, fq, zq⟩ := hO2.out.get (by rw [hl1]; exact hql : q < xs1.length)
                          rw [hzb] at dp
                          rw [hza] at dq
                          obtain ⟨rx, cx, fx, zx⟩ := row_facts rx1
                          have HZA := Lib.hid hza
                          have HZB := Lib.hid hzb
                          clear hza hzb rx1
                          by_cases hA2 : za ≤ vd
                          · by_cases hC2 : vd + wv < zb
                            · skip
                              go_quiet (fail)
                              have m2 : moved vd wv q p xs1 = true := by simp only [moved, HZA.out, HZB.out, Bool.and_eq_true, Bool.and_eq_false_iff, decide_eq_true_eq, decide_eq_false_iff_not]; omega
                              have HI3 := Lib.hid (by have h := HS1.out; rw [m2, show (cb || true || true) = true by simp] at h; exact h : Inn first ms (EofC ms true) wv (k : Int) 1099511627776 xs0 (half vd wv q p xs1) true (j + 1))
                              have hO3 := Lib.hid (show OutAt ((W1.drewN nq).setCell ⟨g, p, none⟩ (.int .i64 (vd + wv))) g (half vd wv q p xs1) by rw [half_moved m2]; exact (hO2.out.drewN nq).set (by rw [hl1]; exact hpl) (vd + wv))
                              have hB7 : Below w.heap.size w ((W1.drewN nq).setCell ⟨g, p, none⟩ (.int .i64 (vd + wv))) := below_grown (below_drewN hB6 nq) (grown_setCell _ _ _) hB6.size (by simp only; omega)
                              clear m2 HS1 hB6 hO2
                              go_wp2_with fail
                              exact ⟨⟨true, j + 1, _, hlt3, rfl, by go_num, hO3, HI3, hB7⟩, by simp [intOf]; omega⟩
                            · skip
                              go_quiet (fail)
                              have m2 : moved vd wv q p xs1 = false := by simp only [moved, HZA.out, HZB.out, Bool.and_eq_true, Bool.and_eq_false_iff, decide_eq_true_eq, decide_eq_false_iff_not]; omega
                              have HI3 := Lib.hid (by have h := HS1.out; rw [m2, show (cb || true || false) = true by simp] at h; exact h : Inn first ms (EofC ms true) wv (k : Int) 1099511627776 xs0 (half vd wv q p xs1) true (j + 1))
                              have hO3 := Lib.hid (show OutAt (W1.drewN nq) g (half vd wv q p xs1) by rw [half_still m2]; exact hO2.out.drewN nq)
                              have hB7 : Below w.heap.size w (W1.drewN nq) := below_drewN hB6 nq
                              clear m2 HS1 hB6 hO2
                              go_wp2_with fail
                              exact ⟨⟨true, j + 1, _, hlt3, rfl, by go_num, hO3, HI3, hB7⟩, by simp [intOf]; omega⟩
                          · skip
                            go_quiet (fail)
                            have m2 : moved vd wv q p xs1 = false := by simp only [moved, HZA.out, HZB.out, Bool.and_eq_true, Bool.and_eq_false_iff, decide_eq_true_eq, decide_eq_false_iff_not]; omega
                            have HI3 := Lib.hid (by have h := HS1.out; rw [m2, show (cb || true || false) = true by simp] at h; exact h : Inn first ms (EofC ms true) wv (k : Int) 1099511627776 xs0 (half vd wv q p xs1) true (j + 1))
                            have hO3 := Lib.hid (show OutAt (W1.drewN nq) g (half vd wv q p xs1) by rw [half_still m2]; exact hO2.out.drewN nq)
                            have hB7 : Below w.heap.size w (W1.drewN nq) := below_drewN hB6 nq
                            clear m2 HS1 hB6 hO2
                            go_wp2_with fail
                            exact ⟨⟨true, j + 1, _, hlt3, rfl, by go_num, hO3, HI3, hB7⟩, by simp [intOf]; omega⟩
                        · skip
                          go_quiet (fail)
                          have m1 : moved vd wv p q xs = false := by simp only [moved, HYA.out, HYB.out, Bool.and_eq_true, Bool.and_eq_false_iff, decide_eq_true_eq, decide_eq_false_iff_not]; omega
                          have HS1 := Lib.hid (by have h := HSTEP.out; rw [m1] at h; exact h : Inn first ms (EofC ms true) wv (k : Int) 1099511627776 xs0 (half vd wv q p (half vd wv p q xs)) (cb || false || moved vd wv q p (half vd wv p q xs)) (j + 1))
                          have hl1 := half_len vd wv p q xs
                          have hO2 := Lib.hid (show OutAt (W0.drewN nq) g (half vd wv p q xs) by rw [half_still m1]; exact hO1.out.drewN nq)
                          have hB6 : Below w.heap.size w (W0.drewN nq) := below_drewN hB5 nq
                          have rx1 : rowOf (W0.drewN nq) gx = some #[.int .i64 (p : Int), .int .i64 (q : Int), .int .i64 vd, .bool true] := rx0
                          go_wp2_with fail
                          clear m1 HSTEP hB5 hO1 HYA HYB dp fp zp dq fq zq rx cx fx zx rx0
                          generalize W0.drewN nq = W1 at *
                          generalize half vd wv p q xs = xs1 at *
                          clear nq
                          obtain ⟨za, hza⟩ : ∃ y, xs1.getD q 0 = y := ⟨_, rfl⟩
                          obtain ⟨zb, hzb⟩ : ∃ y, xs1.getD p 0 = y := ⟨_, rfl⟩
                          obtain ⟨dp, fp, zp⟩ := hO2.out.get (by rw [hl1]; exact hpl : p < xs1.length)
                          obtain ⟨dq, fq, zq⟩ := hO2.out.get (by rw [hl1]; exact hql : q < xs1.length)
                          rw [hzb] at dp
                          rw [hza] at dq
                          obtain ⟨rx, cx, fx, zx⟩ := row_facts rx1
                          have HZA := Lib.hid hza
                          have HZB := Lib.hid hzb
                          clear hza hzb rx1
                          by_cases hA2 : za ≤ vd
                          · by_cases hC2 : vd + wv < zb
                            · skip
                              go_quiet (fail)
                              have m2 : moved vd wv q p xs1 = true := by simp only [moved, HZA.out, HZB.out, Bool.and_eq_true, Bool.and_eq_false_iff, decide_eq_true_eq, decide_eq_false_iff_not]; omega
                              have HI3 := Lib.hid (by have h := HS1.out; rw [m2, show (cb || false || true) = true by simp] at h; exact h : Inn first ms (EofC ms true) wv (k : Int) 1099511627776 xs0 (half vd wv q p xs1) true (j + 1))
                              have hO3 := Lib.hid (show OutAt ((W1.drewN nq).setCell ⟨g, p, none⟩ (.int .i64 (vd + wv))) g (half vd wv q p xs1) by rw [half_moved m2]; exact (hO2.out.drewN nq).set (by rw [hl1]; exact hpl) (vd + wv))
                              have hB7 : Below w.heap.size w ((W1.drewN nq).setCell ⟨g, p, none⟩ (.int .i64 (vd + wv))) := below_grown (below_drewN hB6 nq) (grown_setCell _ _ _) hB6.size (by simp only; omega)
                              clear m2 HS1 hB6 hO2
                              go_wp2_with fail
                              exact ⟨⟨true, j + 1, _, hlt3, rfl, by go_num, hO3, HI3, hB7⟩, by simp [intOf]; omega⟩
                            · skip
                              go_quiet (fail)
                              have m2 : moved vd wv q p xs1 = false := by simp only [moved, HZA.out, HZB.out, Bool.and_eq_true, Bool.and_eq_false_iff, decide_eq_true_eq, decide_eq_false_iff_not]; omega
                              have HI3 := Lib.hid (by have h := HS1.out; rw [m2, show (cb || false || false) = cb by simp] at h; exact h : Inn first ms (EofC ms true) wv (k : Int) 1099511627776 xs0 (half vd wv q p xs1) cb (j + 1))
                              have hO3 := Lib.hid (show OutAt (W1.drewN nq) g (half vd wv q p xs1) by rw [half_still m2]; exact hO2.out.drewN nq)
                              have hB7 : Below w.heap.size w (W1.drewN nq) := below_drewN hB6 nq
                              clear m2 HS1 hB6 hO2
                              go_wp2_with fail
                              exact ⟨⟨cb, j + 1, _, hlt3, rfl, by go_num, hO3, HI3, hB7⟩, by simp [intOf]; omega⟩
                          · skip
                            go_quiet (fail)
                            have m2 : moved vd wv q p xs1 = false := by simp only [moved, HZA.out, HZB.out, Bool.and_eq_true, Bool.and_eq_false_iff, decide_eq_true_eq, decide_eq_false_iff_not]; omega
                            have HI3 := Lib.hid (by have h := HS1.out; rw [m2, show (cb || false || false) = cb by simp] at h; exact h : Inn first ms (EofC ms true) wv (k : Int) 1099511627776 xs0 (half vd wv q p xs1) cb (j + 1))
                            have hO3 := Lib.hid (show OutAt (W1.drewN nq) g (half vd wv q p xs1) by rw [half_still m2]; exact hO2.out.drewN nq)
                            have hB7 : Below w.heap.size w (W1.drewN nq) := below_drewN hB6 nq
                            clear m2 HS1 hB6 hO2
                            go_wp2_with fail
                            exact ⟨⟨cb, j + 1, _, hlt3, rfl, by go_num, hO3, HI3, hB7⟩, by simp [intOf]; omega⟩
                      · skip
                        go_quiet (fail)
                        have m1 : moved vd wv p q xs = false := by simp only [moved, HYA.out, HYB.out, Bool.and_eq_true, Bool.and_eq_false_iff, decide_eq_true_eq, decide_eq_false_iff_not]; omega
                        have HS1 := Lib.hid (by have h := HSTEP.out; rw [m1] at h; exact h : Inn first ms (EofC ms true) wv (k : Int) 1099511627776 xs0 (half vd wv q p (half vd wv p q xs)) (cb || false || moved vd wv q p (half vd wv p q xs)) (j + 1))
                        have hl1 := half_len vd wv p q xs
                        have hO2 := Lib.hid (show OutAt (W0.drewN nq) g (half vd wv p q xs) by rw [half_still m1]; exact hO1.out.drewN nq)
                        have hB6 : Below w.heap.size w (W0.drewN nq) := below_drewN hB5 nq
                        have rx1 : rowOf (W0.drewN nq) gx = some #[.int .i64 (p : Int), .int .i64 (q : Int), .int .i64 vd, .bool true] := rx0
                        go_wp2_with fail
                        clear m1 HSTEP hB5 hO1 HYA HYB dp fp zp dq fq zq rx cx fx zx rx0
                        generalize W0.drewN nq = W1 at *
                        generalize half vd wv p q xs = xs1 at *
                        clear nq
                        obtain ⟨za, hza⟩ : ∃ y, xs1.getD q 0 = y := ⟨_, rfl⟩
                        obtain ⟨zb, hzb⟩ : ∃ y, xs1.getD p 0 = y := ⟨_, rfl⟩
                        obtain ⟨dp, fp, zp⟩ := hO2.out.get (by rw [hl1]; exact hpl : p < xs1.length)
                        obtain ⟨dq, fq, zq⟩ := hO2.out.get (by rw [hl1]; exact hql : q < xs1.length)
                        rw [hzb] at dp
                        rw [hza] at dq
                        obtain ⟨rx, cx, fx, zx⟩ := row_facts rx1
                        have HZA := Lib.hid hza
                        have HZB := Lib.hid hzb
                        clear hza hzb rx1
                        by_cases hA2 : za ≤ vd
                        · by_cases hC2 : vd + wv < zb
                          · skip
                            go_quiet (fail)
                            have m2 : moved vd wv q p xs1 = true := by simp only [moved, HZA.out, HZB.out, Bool.and_eq_true, Bool.and_eq_false_iff, decide_eq_true_eq, decide_eq_false_iff_not]; omega
                            have HI3 := Lib.hid (by have h := HS1.out; rw [m2, show (cb || false || true) = true by simp] at h; exact h : Inn first ms (EofC ms true) wv (k : Int) 1099511627776 xs0 (half vd wv q p xs1) true (j + 1))
                            have hO3 := Lib.hid (show OutAt ((W1.drewN nq).setCell ⟨g, p, none⟩ (.int .i64 (vd + wv))) g (half vd wv q p xs1) by rw [half_moved m2]; exact (hO2.out.drewN nq).set (by rw [hl1]; exact hpl) (vd + wv))
                            have hB7 : Below w.heap.size w ((W1.drewN nq).setCell ⟨g, p, none⟩ (.int .i64 (vd + wv))) := below_grown (below_drewN hB6 nq) (grown_setCell _ _ _) hB6.size (by simp only; omega)
                            clear m2 HS1 hB6 hO2
                            go_wp2_with fail
                            exact ⟨⟨true, j + 1, _, hlt3, rfl, by go_num, hO3, HI3, hB7⟩, by simp [intOf]; omega⟩
                          · skip
                            go_quiet (fail)
                            have m2 : moved vd wv q p xs1 = false := by simp only [moved, HZA.out, HZB.out, Bool.and_eq_true, Bool.and_eq_false_iff, decide_eq_true_eq, decide_eq_false_iff_not]; omega
                            have HI3 := Lib.hid (by have h := HS1.out; rw [m2, show (cb || false || false) = cb by simp] at h; exact h : Inn first ms (EofC ms true) wv (k : Int) 1099511627776 xs0 (half vd wv q p xs1) cb (j + 1))
                            have hO3 := Lib.hid (show OutAt (W1.drewN nq) g (half vd wv q p xs1) by rw [half_still m2]; exact hO2.out.drewN nq)
                            have hB7 : Below w.heap.size w (W1.drewN nq) := below_drewN hB6 nq
                            clear m2 HS1 hB6 hO2
                            go_wp2_with fail
                            exact ⟨⟨cb, j + 1, _, hlt3, rfl, by go_num, hO3, HI3, hB7⟩, by simp [intOf]; omega⟩
                        · skip
                          go_quiet (fail)
                          have m2 : moved vd wv q p xs1 = false := by simp only [moved, HZA.out, HZB.out, Bool.and_eq_true, Bool.and_eq_false_iff, decide_eq_true_eq, decide_eq_false_iff_not]; omega
                          have HI3 := Lib.hid (by have h := HS1.out; rw [m2, show (cb || false || false) = cb by simp] at h; exact h : Inn first ms (EofC ms true) wv (k : Int) 1099511627776 xs0 (half vd wv q p xs1) cb (j + 1))
                          have hO3 := Lib.hid (show OutAt (W1.drewN nq) g (half vd wv q p xs1) by rw [half_still m2]; exact hO2.out.drewN nq)
                          have hB7 : Below w.heap.size w (W1.drewN nq) := below_drewN hB6 nq
                          clear m2 HS1 hB6 hO2
                          go_wp2_with fail
                          exact ⟨⟨cb, j + 1, _, hlt3, rfl, by go_num, hO3, HI3, hB7⟩, by simp [intOf]; omega⟩
                  | false =>
                    have HE := Lib.hid (show EofC ms false ⟨(p : Int), (q : Int), vd, vc⟩ from ⟨HMEM.out, fun h => by first | rfl | cases h⟩)
                    go_wp2_with fail
                    have rx0 : rowOf (wr.alloc (.cells #[.int .i64 (p : Int), .int .i64 (q : Int), .int .i64 vd, .bool vc] 79)) wr.heap.size = some #[.int .i64 (p : Int), .int .i64 (q : Int), .int .i64 vd, .bool vc] := row_here0 _ _ _
                    have hO1 := Lib.hid (hO.out.alloc (.cells #[.int .i64 (p : Int), .int .i64 (q : Int), .int .i64 vd, .bool vc] 79))
                    have hB5 := hB4.alloc hB4s (.cells #[.int .i64 (p : Int), .int .i64 (q : Int), .int .i64 vd, .bool vc] 79)
                    have hgx : g < wr.heap.size := hO.out.lt
                    clear c0 c1 c2 c3 hO hB4 hB4s
                    generalize wr.heap.size = gx at *
                    generalize (wr.alloc (.cells #[.int .i64 (p : Int), .int .i64 (q : Int), .int .i64 vd, .bool vc] 79)) = W0 at *
                    have HSTEP := Lib.hid (by
                      have h := hI.out.step (i := p) (j := q) hjm (by rw [HGET.out]; exact HE.out) (by rw [HGET.out]; exact HOK.out) (by omega) hw1 (fun i hi => (HFI.out i hi).1) (by rw [HGET.out]) (by rw [HGET.out])
                      rw [HGET.out] at h
                      exact h : Inn first ms (EofC ms false) wv (k : Int) 1099511627776 xs0 (half vd wv q p (half vd wv p q xs)) (cb || moved vd wv p q xs || moved vd wv q p (half vd wv p q xs)) (j + 1))
                    obtain ⟨ya, hya⟩ : ∃ y, xs.getD p 0 = y := ⟨_, rfl⟩
                    obtain ⟨yb, hyb⟩ : ∃ y, xs.getD q 0 = y := ⟨_, rfl⟩
                    obtain ⟨dp, fp, zp⟩ := hO1.out.get hpl
                    obtain ⟨dq, fq, zq⟩ := hO1.out.get hql
                    rw [hya] at dp
                    rw [hyb] at dq
                    obtain ⟨rx, cx, fx, zx⟩ := row_facts rx0
                    have HYA := Lib.hid hya
                    have HYB := Lib.hid hyb
                    clear hya hyb hI
                    by_cases hA : ya ≤ vd
                    · by_cases hC : vd + wv < yb
                      · skip
                        go_quiet (fail)
                        have m1 : moved vd wv p q xs = true := by simp only [moved, HYA.out, HYB.out, Bool.and_eq_true, Bool.and_eq_false_iff, decide_eq_true_eq, decide_eq_false_iff_not]; omega
                        have HS1 := Lib.hid (by have h := HSTEP.out; rw [m1] at h; exact h : Inn first ms (EofC ms false) wv (k : Int) 1099511627776 xs0 (half vd wv q p (half vd wv p q xs)) (cb || true || moved vd wv q p (half vd wv p q xs)) (j + 1))
                        have hl1 := half_len vd wv p q xs
                        have hO2 := Lib.hid (show OutAt ((W0.drewN nq).setCell ⟨g, q, none⟩ (.int .i64 (vd + wv))) g (half vd wv p q xs) by rw [half_moved m1]; exact (hO1.out.drewN nq).set hql (vd + wv))
                        have hB6 : Below w.heap.size w ((W0.drewN nq).setCell ⟨g, q, none⟩ (.int .i64 (vd + wv))) := below_grown (below_drewN hB5 nq) (grown_setCell _ _ _) hB5.size (by simp only; omega)
                        have rx1 : rowOf ((W0.drewN nq).setCell ⟨g, q, none⟩ (.int .i64 (vd + wv))) gx = some #[.int .i64 (p : Int), .int .i64 (q : Int), .int .i64 vd, .bool vc] := row_grown (A := W0.drewN nq) rx0 (grown_setCell _ _ _) (by simp only; omega)
                        go_wp2_with fail
                        clear m1 HSTEP hB5 hO1 HYA HYB dp fp zp dq fq zq rx cx fx zx rx0
                        generalize (W0.drewN nq).setCell ⟨g, q, none⟩ (.int .i64 (vd + wv)) = W1 at *
                        generalize half vd wv p q xs = xs1 at *
                        clear nq
                        obtain ⟨za, hza⟩ : ∃ y, xs1.getD q 0 = y := ⟨_, rfl⟩
                        obtain ⟨zb, hzb⟩ : ∃ y, xs1.getD p 0 = y := ⟨_, rfl⟩
                        obtain ⟨dp, fp, zp⟩ := hO2.out.get (by rw [hl1]; exact hpl : p < xs1.length)
                        obtain ⟨dq, fq, zq⟩ := hO2.out.get (by rw [hl1]; exact hql : q < xs1.length)
                        rw [hzb] at dp
                        rw [hza] at dq
                        obtain ⟨rx, cx, fx, zx⟩ := row_facts rx1
                        have HZA := Lib.hid hza
                        have HZB := Lib.hid hzb
                        clear hza hzb rx1
                        by_cases hA2 : za ≤ vd
                        · by_cases hC2 : vd + wv < zb
                          · skip
                            go_quiet (fail)
                            have m2 : moved vd wv q p xs1 = true := by simp only [moved, HZA.out, HZB.out, Bool.and_eq_true, Bool.and_eq_false_iff, decide_eq_true_eq, decide_eq_false_iff_not]; omega
                            have HI3 := Lib.hid (by have h := HS1.out; rw [m2, show (cb || true || true) = true by simp] at h; exact h : Inn first ms (EofC ms false) wv (k : Int) 1099511627776 xs0 (half vd wv q p xs1) true (j + 1))
                            have hO3 := Lib.hid (show OutAt ((W1.drewN nq).setCell ⟨g, p, none⟩ (.int .i64 (vd + wv))) g (half vd wv q p xs1) by rw [half_moved m2]; exact (hO2.out.drewN nq).set (by rw [hl1]; exact hpl) (vd + wv))
                            have hB7 : Below w.heap.size w ((W1.drewN nq).setCell ⟨g, p, none⟩ (.int .i64 (vd + wv))) := below_grown (below_drewN hB6 nq) (grown_setCell _ _ _) hB6.size (by simp only; omega)
                            clear m2 HS1 hB6 hO2
                            go_wp2_with fail
                            exact ⟨⟨true, j + 1, _, hlt3, rfl, by go_num, hO3, HI3, hB7⟩, by simp [intOf]; omega⟩
                          · skip
                            go_quiet (fail)
                            have m2 : moved vd wv q p xs1 = false := by simp only [moved, HZA.out, HZB.out, Bool.and_eq_true, Bool.and_eq_false_iff, decide_eq_true_eq, decide_eq_false_iff_not]; omega
                            have HI3 := Lib.hid (by have h := HS1.out; rw [m2, show (cb || true || false) = true by simp] at h; exact h : Inn first ms (EofC ms false) wv (k : Int) 1099511627776 xs0 (half vd wv q p xs1) true (j + 1))
                            have hO3 := Lib.hid (show OutAt (W1.drewN nq) g (half vd wv q p xs1) by rw [half_still m2]; exact hO2.out.drewN nq)
                            have hB7 : Below w.heap.size w (W1.drewN nq) := below_drewN hB6 nq
                            clear m2 HS1 hB6 hO2
                            go_wp2_with fail
                            exact ⟨⟨true, j + 1, _, hlt3, rfl, by go_num, hO3, HI3, hB7⟩, by simp [intOf]; omega⟩
                        · skip
                          go_quiet (fail)
                          have m2 : moved vd wv q p xs1 = false := by simp only [moved, HZA.out, HZB.out, Bool.and_eq_true, Bool.and_eq_false_iff, decide_eq_true_eq, decide_eq_false_iff_not]; omega
                          have HI3 := Lib.hid (by have h := HS1.out; rw [m2, show (cb || true || false) = true by simp] at h; exact h : Inn first ms (EofC ms false) wv (k : Int) 1099511627776 xs0 (half vd wv q p xs1) true (j + 1))
                          have hO3 := Lib.hid (show OutAt (W1.drewN nq) g (half vd wv q p xs1) by rw [half_still m2]; exact hO2.out.drewN nq)
                          have hB7 : Below w.heap.size w (W1.drewN nq) := below_drewN hB6 nq
                          clear m2 HS1 hB6 hO2
                          go_wp2_with fail
                          exact ⟨⟨true, j + 1, _, hlt3, rfl, by go_num, hO3, HI3, hB7⟩, by simp [intOf]; omega⟩
                      · skip
                        go_quiet (fail)
                        have m1 : moved vd wv p q xs = false := by simp only [moved, HYA.out, HYB.out, Bool.and_eq_true, Bool.and_eq_false_iff, decide_eq_true_eq, decide_eq_false_iff_not]; omega
                        have HS1 := Lib.hid (by have h := HSTEP.out; rw [m1] at h; exact h : Inn first ms (EofC ms false) wv (k : Int) 1099511627776 xs0 (half vd wv q p (half vd wv p q xs)) (cb || false || moved vd wv q p (half vd wv p q xs)) (j + 1))
                        have hl1 := half_len vd wv p q xs
                        have hO2 := Lib.hid (show OutAt (W0.drewN nq) g (half vd wv p q xs) by rw [half_still m1]; exact hO1.out.drewN nq)
                        have hB6 : Below w.heap.size w (W0.drewN nq) := below_drewN hB5 nq
                        have rx1 : rowOf (W0.drewN nq) gx = some #[.int .i64 (p : Int), .int .i64 (q : Int), .int .i64 vd, .bool vc] := rx0
                        go_wp2_with fail
                        clear m1 HSTEP hB5 hO1 HYA HYB dp fp zp dq fq zq rx cx fx zx rx0
                        generalize W0.drewN nq = W1 at *
                        generalize half vd wv p q xs = xs1 at *
                        clear nq
                        obtain ⟨za, hza⟩ : ∃ y, xs1.getD q 0 = y := ⟨_, rfl⟩
                        obtain ⟨zb, hzb⟩ : ∃ y, xs1.getD p 0 = y := ⟨_, rfl⟩
                        obtain ⟨dp, fp, zp⟩ := hO2.out.get (by rw [hl1]; exact hpl : p < xs1.length)
                        obtain ⟨dq, fq, zq⟩ := hO2.out.get (by rw [hl1]; exact hql : q < xs1.length)
                        rw [hzb] at dp
                        rw [hza] at dq
                        obtain ⟨rx, cx, fx, zx⟩ := row_facts rx1
                        have HZA := Lib.hid hza
                        have HZB := Lib.hid hzb
                        clear hza hzb rx1
                        by_cases hA2 : za ≤ vd
                        · by_cases hC2 : vd + wv < zb
                          · skip
                            go_quiet (fail)
                            have m2 : moved vd wv q p xs1 = true := by simp only [moved, HZA.out, HZB.out, Bool.and_eq_true, Bool.and_eq_false_iff, decide_eq_true_eq, decide_eq_false_iff_not]; omega
                            have HI3 := Lib.hid (by have h := HS1.out; rw [m2, show (cb || false || true) = true by simp] at h; exact h : Inn first ms (EofC ms false) wv (k : Int) 1099511627776 xs0 (half vd wv q p xs1) true (j + 1))
                            have hO3 := Lib.hid (show OutAt ((W1.drewN nq).setCell ⟨g, p, none⟩ (.int .i64 (vd + wv))) g (half vd wv q p xs1) by rw [half_moved m2]; exact (hO2.out.drewN nq).set (by rw [hl1]; exact hpl) (vd + wv))
                            have hB7 : Below w.heap.size w ((W1.drewN nq).setCell ⟨g, p, none⟩ (.int .i64 (vd + wv))) := below_grown (below_drewN hB6 nq) (grown_setCell _ _ _) hB6.size (by simp only; omega)
                            clear m2 HS1 hB6 hO2
                            go_wp2_with fail
                            exact ⟨⟨true, j + 1, _, hlt3, rfl, by go_num, hO3, HI3, hB7⟩, by simp [intOf]; omega⟩
                          · skip
                            go_quiet (fail)
                            have m2 : moved vd wv q p xs1 = false := by simp only [moved, HZA.out, HZB.out, Bool.and_eq_true, Bool.and_eq_false_iff, decide_eq_true_eq, decide_eq_false_iff_not]; omega
                            have HI3 := Lib.hid (by have h := HS1.out; rw [m2, show (cb || false || false) = cb by simp] at h; exact h : Inn first ms (EofC ms false) wv (k : Int) 1099511627776 xs0 (half vd wv q p xs1) cb (j + 1))
                            have hO3 := Lib.hid (show OutAt (W1.drewN nq) g (half vd wv q p xs1) by rw [half_still m2]; exact hO2.out.drewN nq)
                            have hB7 : Below w.heap.size w (W1.drewN nq) := below_drewN hB6 nq
                            clear m2 HS1 hB6 hO2
                            go_wp2_with fail
                            exact ⟨⟨cb, j + 1, _, hlt3, rfl, by go_num, hO3, HI3, hB7⟩, by simp [intOf]; omega⟩
                        · skip
                          go_quiet (fail)
                          have m2 : moved vd wv q p xs1 = false := by simp only [moved, HZA.out, HZB.out, Bool.and_eq_true, Bool.and_eq_false_iff, decide_eq_true_eq, decide_eq_false_iff_not]; omega
                          have HI3 := Lib.hid (by have h := HS1.out; rw [m2, show (cb || false || false) = cb by simp] at h; exact h : Inn first ms (EofC ms false) wv (k : Int) 1099511627776 xs0 (half vd wv q p xs1) cb (j + 1))
                          have hO3 := Lib.hid (show OutAt (W1.drewN nq) g (half vd wv q p xs1) by rw [half_still m2]; exact hO2.out.drewN nq)
                          have hB7 : Below w.heap.size w (W1.drewN nq) := below_drewN hB6 nq
                          clear m2 HS1 hB6 hO2
                          go_wp2_with fail
                          exact ⟨⟨cb, j + 1, _, hlt3, rfl, by go_num, hO3, HI3, hB7⟩, by simp [intOf]; omega⟩
                    · skip
                      go_quiet (fail)
                      have m1 : moved vd wv p q xs = false := by simp only [moved, HYA.out, HYB.out, Bool.and_eq_true, Bool.and_eq_false_iff, decide_eq_true_eq, decide_eq_false_iff_not]; omega
                      have HS1 := Lib.hid (by have h := HSTEP.out; rw [m1] at h; exact h : Inn first ms (EofC ms false) wv (k : Int) 1099511627776 xs0 (half vd wv q p (half vd wv p q xs)) (cb || false || moved vd wv q p (half vd wv p q xs)) (j + 1))
                      have hl1 := half_len vd wv p q xs
                      have hO2 := Lib.hid (show OutAt (W0.drewN nq) g (half vd wv p q xs) by rw [half_still m1]; exact hO1.out.drewN nq)
                      have hB6 : Below w.heap.size w (W0.drewN nq) := below_drewN hB5 nq
                      have rx1 : rowOf (W0.drewN nq) gx = some #[.int .i64 (p : Int), .int .i64 (q : Int), .int .i64 vd, .bool vc] := rx0
                      go_wp2_with fail
                      clear m1 HSTEP hB5 hO1 HYA HYB dp fp zp dq fq zq rx cx fx zx rx0
                      generalize W0.drewN nq = W1 at *
                      generalize half vd wv p q xs = xs1 at *
                      clear nq
                      obtain ⟨za, hza⟩ : ∃ y, xs1.getD q 0 = y := ⟨_, rfl⟩
                      obtain ⟨zb, hzb⟩ : ∃ y, xs1.getD p 0 = y := ⟨_, rfl⟩
                      obtain ⟨dp, fp, zp⟩ := hO2.out.get (by rw [hl1]; exact hpl : p < xs1.length)
                      obtain ⟨dq, fq, zq⟩ := hO2.out.get (by rw [hl1]; exact hql : q < xs1.length)
                      rw [hzb] at dp
                      rw [hza] at dq
                      obtain ⟨rx, cx, fx, zx⟩ := row_facts rx1
                      have HZA := Lib.hid hza
                      have HZB := Lib.hid hzb
                      clear hza hzb rx1
                      by_cases hA2 : za ≤ vd
                      · by_cases hC2 : vd + wv < zb
                        · skip
                          go_quiet (fail)
                          have m2 : moved vd wv q p xs1 = true := by simp only [moved, HZA.out, HZB.out, Bool.and_eq_true, Bool.and_eq_false_iff, decide_eq_true_eq, decide_eq_false_iff_not]; omega
                          have HI3 := Lib.hid (by have h := HS1.out; rw [m2, show (cb || false || true) = true by simp] at h; exact h : Inn first ms (EofC ms false) wv (k : Int) 1099511627776 xs0 (half vd wv q p xs1) true (j + 1))
                          have hO3 := Lib.hid (show OutAt ((W1.drewN nq).setCell ⟨g, p, none⟩ (.int .i64 (vd + wv))) g (half vd wv q p xs1) by rw [half_moved m2]; exact (hO2.out.drewN nq).set (by rw [hl1]; exact hpl) (vd + wv))
                          have hB7 : Below w.heap.size w ((W1.drewN nq).setCell ⟨g, p, none⟩ (.int .i64 (vd + wv))) := below_grown (below_drewN hB6 nq) (grown_setCell _ _ _) hB6.size (by simp only; omega)
                          clear m2 HS1 hB6 hO2
                          go_wp2_with fail
                          exact ⟨⟨true, j + 1, _, hlt3, rfl, by go_num, hO3, HI3, hB7⟩, by simp [intOf]; omega⟩
                        · skip
                          go_quiet (fail)
                          have m2 : moved vd wv q p xs1 = false := by simp only [moved, HZA.out, HZB.out, Bool.and_eq_true, Bool.and_eq_false_iff, decide_eq_true_eq, decide_eq_false_iff_not]; omega
                          have HI3 := Lib.hid (by have h := HS1.out; rw [m2, show (cb || false || false) = cb by simp] at h; exact h : Inn first ms (EofC ms false) wv (k : Int) 1099511627776 xs0 (half vd wv q p xs1) cb (j + 1))
                          have hO3 := Lib.hid (show OutAt (W1.drewN nq) g (half vd wv q p xs1) by rw [half_still m2]; exact hO2.out.drewN nq)
                          have hB7 : Below w.heap.size w (W1.drewN nq) := below_drewN hB6 nq
                          clear m2 HS1 hB6 hO2
                          go_wp2_with fail
                          exact ⟨⟨cb, j + 1, _, hlt3, rfl, by go_num, hO3, HI3, hB7⟩, by simp [intOf]; omega⟩
                      · skip
                        go_quiet (fail)
                        have m2 : moved vd wv q p xs1 = false := by simp only [moved, HZA.out, HZB.out, Bool.and_eq_true, Bool.and_eq_false_iff, decide_eq_true_eq, decide_eq_false_iff_not]; omega
                        have HI3 := Lib.hid (by have h := HS1.out; rw [m2, show (cb || false || false) = cb by simp] at h; exact h : Inn first ms (EofC ms false) wv (k : Int) 1099511627776 xs0 (half vd wv q p xs1) cb (j + 1))
                        have hO3 := Lib.hid (show OutAt (W1.drewN nq) g (half vd wv q p xs1) by rw [half_still m2]; exact hO2.out.drewN nq)
                        have hB7 : Below w.heap.size w (W1.drewN nq) := below_drewN hB6 nq
                        clear m2 HS1 hB6 hO2
                        go_wp2_with fail
                        exact ⟨⟨cb, j + 1, _, hlt3, rfl, by go_num, hO3, HI3, hB7⟩, by simp [intOf]; omega⟩
                · obtain rfl : j = nm := by omega
                  have HI2 := Lib.hid (show Inn first ms (EofC ms cl) wv (k : Int) 1099511627776 xs0 xs cb ms.length by rw [← HNM.out]; exact hI.out)
                  have hs2 := worldSum_out hO.out (n := k) (by have := hI.out.good.len; omega)
                  have HS2 := Lib.hid hs2
                  clear hs2
                  go_wp2
                  refine ⟨⟨cb, xs, rfl, hO, HI2.out.good, HI2.out.base, ?_, hB4⟩, ?_⟩
                  · intro h; subst h; exact HI2.out.calms
                  · rw [HS0.out, HS2.out]
                    cases cb with
                    | true => have := HI2.out.less rfl; simp; omega
                    | false => rw [(HI2.out.calm rfl).1]; simp
end Go.Proofs.Ytafdcbdbllpcnaa
