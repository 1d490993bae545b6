/- Contract of the reference's Heaviest. -/
import Derived.Test.YtafdcbdbllpcnaaRefN
import Derived.Test.YtafdcbdbllpcnaaLeafM
namespace Go.Proofs.Ytafdcbdbllpcnaa
open Go.RowKit
open Go.Proofs

attribute [local go_sem ↓] exec36l exec112l exec36s exec112s exec31s exec39s exec39l
attribute [local go_sem] load36 load112 store36 store112 store39 load39 store31at rowOf_alloc one_int one_bool

theorem asked_y (b : Br) (c : Cm) (a : Option Addr) (cap n : Nat) (ms : List Mr) (x : Int) (hn : n = ms.length) (hx : chkT b c ms = x) (w : World) (h : DaysIn w a cap ms) (hl : ms.length ≤ 100000) :
    Calls Try.prog 76 #[.agg #[.int .i64 b.full, .int .i64 b.fed, .int .i64 b.rest.1, .int .i64 b.rest.2, .int .i64 b.heat.1, .int .i64 b.heat.2, .int .i64 b.toil.1, .int .i64 b.toil.2, .int .i64 b.burn.1, .int .i64 b.burn.2, .int .i64 b.rub.1, .int .i64 b.rub.2, .int .i64 b.milk.1, .int .i64 b.milk.2, .int .i64 b.heal, .int .i64 b.strong.1, .int .i64 b.strong.2], .agg #[.int .i64 c.water.1, .int .i64 c.water.2, .int .i64 c.fat.1, .int .i64 c.fat.2, .int .i64 c.sore.1, .int .i64 c.sore.2, .bool c.milks], .slice a n cap] w fun e w' => e = .returned (.int .i64 x) ∧ Below w.heap.size w w' := by
  subst hn hx; exact asked_any b c a cap ms w h hl
theorem chkT_fit {b : Br} {c : Cm} {ms : List Mr} (h : chkT b c ms = 0) : BdB b ∧ BdC b c ∧ ms.all okM = true ∧ ms.length ≤ 60 := by
  unfold chkT at h
  by_cases h0 : chkC b c = 0
  · simp only [h0, if_true] at h
    by_cases h6 : 60 < ms.length
    · simp [h6] at h
    · simp only [h6, if_false] at h
      cases hm : ms.all okM with
      | false => simp [hm] at h
      | true => exact ⟨(chkC_ok h0).1, (chkC_ok h0).2, rfl, by omega⟩
  · simp only [h0, if_false] at h

theorem rHeaviest_bad (b : Br) (c : Cm) (a : Option Addr) (cap n : Nat) (ms : List Mr) (x : Int) (w : World) (hn : n = ms.length) (h : DaysIn w a cap ms) (hl : ms.length ≤ 100000) (hx : chkT b c ms = x) (h0 : x ≠ 0) :
    Calls Try.prog 40 #[.agg #[.int .i64 b.full, .int .i64 b.fed, .int .i64 b.rest.1, .int .i64 b.rest.2, .int .i64 b.heat.1, .int .i64 b.heat.2, .int .i64 b.toil.1, .int .i64 b.toil.2, .int .i64 b.burn.1, .int .i64 b.burn.2, .int .i64 b.rub.1, .int .i64 b.rub.2, .int .i64 b.milk.1, .int .i64 b.milk.2, .int .i64 b.heal, .int .i64 b.strong.1, .int .i64 b.strong.2], .agg #[.int .i64 c.water.1, .int .i64 c.water.2, .int .i64 c.fat.1, .int .i64 c.fat.2, .int .i64 c.sore.1, .int .i64 c.sore.2, .bool c.milks], .slice a n cap] w fun e w' => e = .returned (.tuple #[.int .i64 0, .int .i64 x]) ∧ Below w.heap.size w w' := by
  have HX := Lib.hid hx
  have HD := Lib.hid h
  have HN := Lib.hid hn
  have hne : (x == 0) = false := by simpa using h0
  clear hx h hn
  go_enter Try.func40, Try.ntmps40
  go_wp2_with fail
  refine (asked_y b c a cap n ms x HN.out HX.out _ (HD.out.below (B := w.heap.size) (by go_grown) (Nat.le_refl _) (by simp; omega)) hl).mono ?_
  rintro e W1 ⟨rfl, hB⟩
  have hW1 : Below w.heap.size w W1 := Below.trans (by go_grown) (hB.mono (by simp; try omega))
  have zW1 := hW1.size
  clear hB
  go_wp2
  go_returns
  exact ⟨rfl, hW1⟩

set_option maxRecDepth 100000 in
set_option maxHeartbeats 2000000 in
theorem rHeaviest_ok (b : Br) (c : Cm) (a : Option Addr) (cap n : Nat) (ms : List Mr) (R : Int) (q : Bool) (w : World) (hn : n = ms.length) (h : DaysIn w a cap ms) (hl : ms.length ≤ 100000) (hx : chkT b c ms = 0) (hR : binGo (bearS b c ms) 1000000 0 1000000 = R) (hq : bearS b c ms 0 = q) :
    Calls Try.prog 40 #[.agg #[.int .i64 b.full, .int .i64 b.fed, .int .i64 b.rest.1, .int .i64 b.rest.2, .int .i64 b.heat.1, .int .i64 b.heat.2, .int .i64 b.toil.1, .int .i64 b.toil.2, .int .i64 b.burn.1, .int .i64 b.burn.2, .int .i64 b.rub.1, .int .i64 b.rub.2, .int .i64 b.milk.1, .int .i64 b.milk.2, .int .i64 b.heal, .int .i64 b.strong.1, .int .i64 b.strong.2], .agg #[.int .i64 c.water.1, .int .i64 c.water.2, .int .i64 c.fat.1, .int .i64 c.fat.2, .int .i64 c.sore.1, .int .i64 c.sore.2, .bool c.milks], .slice a n cap] w fun e w' => e = .returned (.tuple (if q = true then #[.int .i64 R, .int .i64 0] else #[.int .i64 0, .int .i64 13])) ∧ Below w.heap.size w w' := by
  have HX := Lib.hid hx
  have HD := Lib.hid h
  have HN := Lib.hid hn
  have HR := Lib.hid hR
  have HQ := Lib.hid hq
  clear hx h hn hR hq
  have HCALL := Lib.hid (fun (x : Int) (r : Bool) (hr : bearS b c ms x = r) (W : World) (hB : Below w.heap.size w W) (h1 : 0 ≤ x) (h2 : x ≤ 1000000) => (by
    obtain ⟨hb, hc, hall, h6⟩ := chkT_fit HX.out
    exact rbears_any b c a cap n ms x r hr W HN.out (HD.out.below hB (Nat.le_refl _) hB.size) h6 hb hc hall h1 h2 : Calls Try.prog 79 #[.agg #[.int .i64 b.full, .int .i64 b.fed, .int .i64 b.rest.1, .int .i64 b.rest.2, .int .i64 b.heat.1, .int .i64 b.heat.2, .int .i64 b.toil.1, .int .i64 b.toil.2, .int .i64 b.burn.1, .int .i64 b.burn.2, .int .i64 b.rub.1, .int .i64 b.rub.2, .int .i64 b.milk.1, .int .i64 b.milk.2, .int .i64 b.heal, .int .i64 b.strong.1, .int .i64 b.strong.2], .agg #[.int .i64 c.water.1, .int .i64 c.water.2, .int .i64 c.fat.1, .int .i64 c.fat.2, .int .i64 c.sore.1, .int .i64 c.sore.2, .bool c.milks], .slice a n cap, .int .i64 x] W fun e w' => e = .returned (.bool r) ∧ Below W.heap.size W w'))
  go_enter Try.func40, Try.ntmps40
  go_wp2_with fail
  refine (asked_y b c a cap n ms 0 HN.out HX.out _ (HD.out.below (B := w.heap.size) (by go_grown) (Nat.le_refl _) (by simp; omega)) hl).mono ?_
  rintro e W1 ⟨rfl, hB⟩
  have hW1 : Below w.heap.size w W1 := Below.trans (by go_grown) (hB.mono (by simp; try omega))
  have zW1 := hW1.size
  obtain ⟨raW1, caW1, gaW1, zaW1⟩ := keep_row hB (g := w.heap.size) (by repeat (first | with_reducible assumption | with_reducible apply row_here0 | with_reducible apply row_here1 | with_reducible apply row_here2 | with_reducible apply row_here3 | with_reducible apply rowSkip))
  obtain ⟨rbW1, cbW1, gbW1, zbW1⟩ := keep_row hB (g := w.heap.size + 1) (by repeat (first | with_reducible assumption | with_reducible apply row_here0 | with_reducible apply row_here1 | with_reducible apply row_here2 | with_reducible apply row_here3 | with_reducible apply rowSkip))
  clear hB
  go_wp2_with fail
  refine (HCALL.out 0 q HQ.out _ hW1 (by omega) (by omega)).mono ?_
  rintro e W2 ⟨rfl, hB⟩
  have hW2 : Below w.heap.size w W2 := hW1.trans (Below.trans (by have := hW1.size; go_grown) (hB.mono (by have := hW1.size; simp; try omega)))
  have zW2 := hW2.size
  obtain ⟨raW2, caW2, gaW2, zaW2⟩ := keep_row hB (g := w.heap.size) (by repeat (first | with_reducible assumption | with_reducible apply row_here0 | with_reducible apply row_here1 | with_reducible apply row_here2 | with_reducible apply row_here3 | with_reducible apply rowSkip))
  obtain ⟨rbW2, cbW2, gbW2, zbW2⟩ := keep_row hB (g := w.heap.size + 1) (by repeat (first | with_reducible assumption | with_reducible apply row_here0 | with_reducible apply row_here1 | with_reducible apply row_here2 | with_reducible apply row_here3 | with_reducible apply rowSkip))
  clear hB
  clear raW1 caW1 gaW1 rbW1 cbW1 gbW1
  cases q with
  | false =>
    go_wp2
    go_returns
    exact ⟨rfl, hW2⟩
  | true =>
    go_wp2
    go_loopw [9, 10] (fun l h wr => ∃ (m : Nat) (lo hi : Int), l = .int .i64 lo ∧ h = .int .i64 hi ∧ 0 ≤ lo ∧ lo ≤ hi ∧ hi ≤ 1000000 ∧ hi - lo ≤ m ∧ Hid (binGo (bearS b c ms) m lo hi = R) ∧ rowOf wr w.heap.size = some #[.int .i64 b.full, .int .i64 b.fed, .int .i64 b.rest.1, .int .i64 b.rest.2, .int .i64 b.heat.1, .int .i64 b.heat.2, .int .i64 b.toil.1, .int .i64 b.toil.2, .int .i64 b.burn.1, .int .i64 b.burn.2, .int .i64 b.rub.1, .int .i64 b.rub.2, .int .i64 b.milk.1, .int .i64 b.milk.2, .int .i64 b.heal, .int .i64 b.strong.1, .int .i64 b.strong.2] ∧ rowOf wr (w.heap.size + 1) = some #[.int .i64 c.water.1, .int .i64 c.water.2, .int .i64 c.fat.1, .int .i64 c.fat.2, .int .i64 c.sore.1, .int .i64 c.sore.2, .bool c.milks] ∧ Below w.heap.size w wr) (fun l h _ => (intOf h - intOf l).toNat)
    case atStart => exact ⟨1000000, 0, 1000000, rfl, rfl, by omega, by omega, by omega, by omega, HR, raW2, rbW2, hW2⟩
    case round =>
      obtain ⟨m, lo, hi, rfl, rfl, h1, h2, h3, h4, hr, q1, q2, hB⟩ := hrel
      by_cases hlt : lo < hi
      · obtain ⟨raR, caR, gaR, zaR⟩ := row_facts q1
        obtain ⟨rbR, cbR, gbR, zbR⟩ := row_facts q2
        clear raW2 caW2 gaW2 rbW2 cbW2 gbW2 q1 q2
        go_wp2_with fail
        obtain ⟨x, hx⟩ : ∃ x, (lo + hi + 1) / 2 = x := ⟨_, rfl⟩
        rw [hx]
        have m1 : lo < x := by omega
        have m2 : x ≤ hi := by omega
        have HM := Lib.hid hx.symm
        clear hx
        cases m with
        | zero => omega
        | succ m =>
          obtain ⟨p, hp⟩ : ∃ p, bearS b c ms x = p := ⟨_, rfl⟩
          refine (HCALL.out x p hp wr hB (by omega) (by omega)).mono ?_
          rintro e W3 ⟨rfl, hB3⟩
          have hW3 := hB.trans (hB3.mono hB.size)
          obtain ⟨ra3, ca3, ga3, za3⟩ := keep_row hB3 raR
          obtain ⟨rb3, cb3, gb3, zb3⟩ := keep_row hB3 rbR
          clear hB3 raR caR gaR rbR cbR gbR
          cases p with
          | true =>
            have hr' := Lib.hid ((binGo_yes hlt HM.out hp).symm.trans hr.out)
            clear hp
            go_wp2
            case roundEnd => exact ⟨⟨m, x, hi, rfl, rfl, by omega, by omega, by omega, by omega, hr', ra3, rb3, hW3⟩, by simp [intOf]; omega⟩
          | false =>
            have hr' := Lib.hid ((binGo_no hlt HM.out hp).symm.trans hr.out)
            clear hp
            go_wp2
            case roundEnd => exact ⟨⟨m, lo, x - 1, rfl, rfl, by omega, by omega, by omega, by omega, hr', ra3, rb3, hW3⟩, by simp [intOf]; omega⟩
      · have h := hr.out
        rw [binGo_end hlt] at h
        go_wp2
        go_returns
        exact ⟨rfl, hB⟩
theorem rHeaviest_any (b : Br) (c : Cm) (a : Option Addr) (cap n : Nat) (ms : List Mr) (r : Int × Int) (hr : heaS b c ms (chkT b c ms) = r) (w : World) (hn : n = ms.length) (h : DaysIn w a cap ms) (hl : ms.length ≤ 100000) :
    Calls Try.prog 40 #[.agg #[.int .i64 b.full, .int .i64 b.fed, .int .i64 b.rest.1, .int .i64 b.rest.2, .int .i64 b.heat.1, .int .i64 b.heat.2, .int .i64 b.toil.1, .int .i64 b.toil.2, .int .i64 b.burn.1, .int .i64 b.burn.2, .int .i64 b.rub.1, .int .i64 b.rub.2, .int .i64 b.milk.1, .int .i64 b.milk.2, .int .i64 b.heal, .int .i64 b.strong.1, .int .i64 b.strong.2], .agg #[.int .i64 c.water.1, .int .i64 c.water.2, .int .i64 c.fat.1, .int .i64 c.fat.2, .int .i64 c.sore.1, .int .i64 c.sore.2, .bool c.milks], .slice a n cap] w fun e w' => e = .returned (.tuple #[.int .i64 r.1, .int .i64 r.2]) ∧ Below w.heap.size w w' := by
  subst hr
  by_cases h0 : chkT b c ms = 0
  · refine (rHeaviest_ok b c a cap n ms _ _ w hn h hl h0 rfl rfl).mono fun e w' hh => ⟨hh.1.trans ?_, hh.2⟩
    by_cases hq : bearS b c ms 0 = true
    · simp [heaS, h0, hq]
    · simp [heaS, h0, hq]
  · refine (rHeaviest_bad b c a cap n ms _ w hn h hl rfl h0).mono fun e w' hh => ⟨hh.1.trans ?_, hh.2⟩
    simp [heaS, h0]
end Go.Proofs.Ytafdcbdbllpcnaa
