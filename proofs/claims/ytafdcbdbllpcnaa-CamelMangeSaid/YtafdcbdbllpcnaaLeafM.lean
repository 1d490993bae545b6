/- Contracts over lists of days: package camel's checkTrip and the reference's asked. -/
import Derived.Test.YtafdcbdbllpcnaaLeafI
import Derived.Test.YtafdcbdbllpcnaaRefF
namespace Go.Proofs.Ytafdcbdbllpcnaa
open Go.RowKit
open Go.Proofs

attribute [local go_sem ↓] exec36l exec112l exec36s exec112s exec31s run_min2 run_max2
attribute [local go_sem] load36 load112 store36 store112 store31 build112 rowOf_alloc rowOf_drew setRow_alloc one_int one_bool run_min4

/-- A list of days that was handed over: nil, or so many that lie one behind the other. -/
def DaysIn (w : World) (a : Option Addr) (cap : Nat) (ms : List Mr) : Prop :=
  (a = none ∧ cap = 0 ∧ ms = []) ∨ ∃ b off, a = some ⟨b, off, none⟩ ∧ MarchesAt w b off ms ∧ b < w.heap.size
theorem march_below {B : Nat} {w w' : World} {b o : Nat} {m : Mr} (hB : Below B w w') (hb : b < B) (h : MarchAt w b o m) : MarchAt w' b o m := by
  obtain ⟨c0, c1, c2, c3, c4, c5, c6, c7⟩ := h
  exact ⟨at_belowb hB hb c0, at_belowb hB hb c1, at_belowb hB hb c2, at_belowb hB hb c3, at_belowb hB hb c4, at_belowb hB hb c5, at_belowb hB hb c6, at_belowb hB hb c7⟩
theorem marches_below {B : Nat} {w w' : World} {b off : Nat} {ms : List Mr} (hB : Below B w w') (hb : b < B) (h : MarchesAt w b off ms) : MarchesAt w' b off ms :=
  fun k hk => march_below hB hb (h k hk)
theorem DaysIn.below {B : Nat} {w w' : World} {a : Option Addr} {cap : Nat} {ms : List Mr} (h : DaysIn w a cap ms) (hB : Below B w w') (hs : w.heap.size ≤ B) (hz : w.heap.size ≤ w'.heap.size) : DaysIn w' a cap ms := by
  rcases h with h | ⟨b, off, h1, h3, h4⟩
  · exact .inl h
  · exact .inr ⟨b, off, h1, marches_below hB (by omega) h3, by omega⟩

theorem checkMarches_in (a : Option Addr) (cap : Nat) (ms : List Mr) (x : Int) (hx : (if ms.all okM = true then (0 : Int) else 12) = x) (w : World) (h : DaysIn w a cap ms) (hl : ms.length ≤ 100000) :
    Calls Try.prog 63 #[.slice a ms.length cap] w fun e w' => e = .returned (.int .i64 x) ∧ Below w.heap.size w w' := by
  subst hx
  rcases h with ⟨rfl, rfl, rfl⟩ | ⟨b, off, rfl, h3, h4⟩
  · go_enter Try.func63, Try.ntmps63
    go_wp2
    go_rounds 1
    all_goals go_returns
    all_goals exact ⟨rfl, Below.refl _ _⟩
  · exact checkMarches_any b off cap ms w h3 h4 hl

/-- The error of an animal and days. -/
def chkT (b : Br) (c : Cm) (ms : List Mr) : Int := if chkC b c = 0 then (if 60 < ms.length then 4 else if ms.all okM = true then 0 else 12) else chkC b c

theorem chkC_x (b : Br) (c : Cm) (x : Int) (hx : chkC b c = x) (w : World) :
    Calls Try.prog 33 #[.agg #[.int .i64 b.full, .int .i64 b.fed, .int .i64 b.rest.1, .int .i64 b.rest.2, .int .i64 b.heat.1, .int .i64 b.heat.2, .int .i64 b.toil.1, .int .i64 b.toil.2, .int .i64 b.burn.1, .int .i64 b.burn.2, .int .i64 b.rub.1, .int .i64 b.rub.2, .int .i64 b.milk.1, .int .i64 b.milk.2, .int .i64 b.heal, .int .i64 b.strong.1, .int .i64 b.strong.2], .agg #[.int .i64 c.water.1, .int .i64 c.water.2, .int .i64 c.fat.1, .int .i64 c.fat.2, .int .i64 c.sore.1, .int .i64 c.sore.2, .bool c.milks]] w fun e w' => e = .returned (.int .i64 x) ∧ Below w.heap.size w w' := by
  subst hx; exact CheckCamel_any b c w
theorem rchkC_x (b : Br) (c : Cm) (x : Int) (hx : chkC b c = x) (w : World) :
    Calls Try.prog 34 #[.agg #[.int .i64 b.full, .int .i64 b.fed, .int .i64 b.rest.1, .int .i64 b.rest.2, .int .i64 b.heat.1, .int .i64 b.heat.2, .int .i64 b.toil.1, .int .i64 b.toil.2, .int .i64 b.burn.1, .int .i64 b.burn.2, .int .i64 b.rub.1, .int .i64 b.rub.2, .int .i64 b.milk.1, .int .i64 b.milk.2, .int .i64 b.heal, .int .i64 b.strong.1, .int .i64 b.strong.2], .agg #[.int .i64 c.water.1, .int .i64 c.water.2, .int .i64 c.fat.1, .int .i64 c.fat.2, .int .i64 c.sore.1, .int .i64 c.sore.2, .bool c.milks]] w fun e w' => e = .returned (.int .i64 x) ∧ Below w.heap.size w w' := by
  subst hx; exact rCheckCamel_any b c w

set_option maxRecDepth 100000 in
set_option maxHeartbeats 1000000 in
theorem checkTrip_any (b : Br) (c : Cm) (a : Option Addr) (cap : Nat) (ms : List Mr) (w : World) (h : DaysIn w a cap ms) (hl : ms.length ≤ 100000) :
    Calls Try.prog 57 #[.agg #[.int .i64 b.full, .int .i64 b.fed, .int .i64 b.rest.1, .int .i64 b.rest.2, .int .i64 b.heat.1, .int .i64 b.heat.2, .int .i64 b.toil.1, .int .i64 b.toil.2, .int .i64 b.burn.1, .int .i64 b.burn.2, .int .i64 b.rub.1, .int .i64 b.rub.2, .int .i64 b.milk.1, .int .i64 b.milk.2, .int .i64 b.heal, .int .i64 b.strong.1, .int .i64 b.strong.2], .agg #[.int .i64 c.water.1, .int .i64 c.water.2, .int .i64 c.fat.1, .int .i64 c.fat.2, .int .i64 c.sore.1, .int .i64 c.sore.2, .bool c.milks], .slice a ms.length cap] w fun e w' => e = .returned (.int .i64 (chkT b c ms)) ∧ Below w.heap.size w w' := by
  have HD := Lib.hid h
  obtain ⟨y, hy⟩ : ∃ y, (if ms.all okM = true then (0 : Int) else 12) = y := ⟨_, rfl⟩
  have HY := Lib.hid hy
  by_cases h0 : chkC b c = 0
  · have HC := Lib.hid h0
    by_cases h6 : 60 < ms.length
    · have hv : chkT b c ms = 4 := by simp [chkT, h0, h6]
      rw [hv]
      clear hv h0 hy h
      go_enter Try.func57, Try.ntmps57
      go_wp2_with fail
      refine (chkC_x b c _ HC.out _).mono ?_
      rintro e W1 ⟨rfl, hB⟩
      have hW1 : Below w.heap.size w W1 := Below.trans (by go_grown) (hB.mono (by simp; try omega))
      have zW1 := hW1.size
      clear hB
      go_wp2
      go_returns
      exact ⟨rfl, hW1⟩
    · have hv : chkT b c ms = y := by simp only [chkT, h0, h6, if_true, if_false]; exact hy
      rw [hv]
      clear hv h0 hy h
      go_enter Try.func57, Try.ntmps57
      go_wp2_with fail
      refine (chkC_x b c _ HC.out _).mono ?_
      rintro e W1 ⟨rfl, hB⟩
      have hW1 : Below w.heap.size w W1 := Below.trans (by go_grown) (hB.mono (by simp; try omega))
      have zW1 := hW1.size
      clear hB
      have hD1 := Lib.hid (HD.out.below hW1 (Nat.le_refl _) zW1)
      go_wp2_with fail
      refine (checkMarches_in a cap ms y HY.out W1 hD1.out hl).mono ?_
      rintro e W2 ⟨rfl, hB⟩
      have hW2 : Below w.heap.size w W2 := hW1.trans (Below.trans (by have := hW1.size; go_grown) (hB.mono (by have := hW1.size; simp; try omega)))
      have zW2 := hW2.size
      clear hB
      go_wp2
      go_returns
      exact ⟨rfl, hW2⟩
  · obtain ⟨x, hx⟩ : ∃ x, chkC b c = x := ⟨_, rfl⟩
    have hv : chkT b c ms = x := by simp only [chkT, h0, if_false]; exact hx
    rw [hv]
    rw [hx] at h0
    have HC := Lib.hid hx
    have hne : (x == 0) = false := by simpa using h0
    clear hv h0 hy hx h
    go_enter Try.func57, Try.ntmps57
    go_wp2_with fail
    refine (chkC_x b c _ HC.out _).mono ?_
    rintro e W1 ⟨rfl, hB⟩
    have hW1 : Below w.heap.size w W1 := Below.trans (by go_grown) (hB.mono (by simp; try omega))
    have zW1 := hW1.size
    clear hB
    go_wp2
    go_returns
    exact ⟨rfl, hW1⟩

set_option maxRecDepth 100000 in
set_option maxHeartbeats 1000000 in
theorem asked_some (b : Br) (c : Cm) (g off cap : Nat) (ms : List Mr) (w : World) (h : MarchesAt w g off ms) (hg : g < w.heap.size) (h0 : chkC b c = 0) (h6 : ms.length ≤ 60) :
    Calls Try.prog 76 #[.agg #[.int .i64 b.full, .int .i64 b.fed, .int .i64 b.rest.1, .int .i64 b.rest.2, .int .i64 b.heat.1, .int .i64 b.heat.2, .int .i64 b.toil.1, .int .i64 b.toil.2, .int .i64 b.burn.1, .int .i64 b.burn.2, .int .i64 b.rub.1, .int .i64 b.rub.2, .int .i64 b.milk.1, .int .i64 b.milk.2, .int .i64 b.heal, .int .i64 b.strong.1, .int .i64 b.strong.2], .agg #[.int .i64 c.water.1, .int .i64 c.water.2, .int .i64 c.fat.1, .int .i64 c.fat.2, .int .i64 c.sore.1, .int .i64 c.sore.2, .bool c.milks], .slice (some ⟨g, off, none⟩) ms.length cap] w fun e w' => e = .returned (.int .i64 (if ms.all okM = true then 0 else 12)) ∧ Below w.heap.size w w' := by
  obtain ⟨y, hy⟩ : ∃ y, (if ms.all okM = true then (0 : Int) else 12) = y := ⟨_, rfl⟩
  rw [hy]
  have HX := Lib.hid hy
  have HC := Lib.hid h0
  have HS := Lib.hid h
  clear hy h0 h
  go_enter Try.func76, Try.ntmps76
  go_wp2_with fail
  refine (rchkC_x b c _ HC.out _).mono ?_
  rintro e W1 ⟨rfl, hB⟩
  have hW1 : Below w.heap.size w W1 := Below.trans (by go_grown) (hB.mono (by simp; try omega))
  have zW1 := hW1.size
  clear hB
  go_wp2_with fail
  go_loopw [8] (fun i wr => ∃ k : Nat, k ≤ ms.length ∧ i = .int .i64 k ∧ Hid ((ms.take k).all okM = true) ∧ Below w.heap.size w wr) (fun i _ => ms.length - (intOf i).toNat)
  case atStart => exact ⟨0, Nat.zero_le _, rfl, by simp [Hid], hW1⟩
  case round =>
    obtain ⟨k, hk, rfl, hall, hB0⟩ := hrel
    have hz := hB0.size
    by_cases hlt : k < ms.length
    · obtain ⟨c0, c1, c2, c3, c4, c5, c6, c7⟩ := march_below hB0 hg (HS.out k hlt)
      generalize hm : ms[k] = m at *
      have Hm := Lib.hid hm
      clear hm
      have hlt' : (k : Int) < (ms.length : Int) := by omega
      cases hok : okM m with
      | false =>
        have HN := Lib.hid hok
        clear hok
        go_wp2_with fail
        refine (rMarch_x m _ HN.out _).mono ?_
        rintro e W ⟨rfl, hB⟩
        have hw : Below w.heap.size w W := hB0.trans (hB.mono (by first | exact hz | (simp; omega)))
        clear hB
        go_wp2
        go_returns
        exact ⟨ret_int (by rw [← HX.out, if_neg (by rw [all_noM ms k hlt (by rw [Hm.out]; exact HN.out)]; simp)]), hw⟩
      | true =>
        have HN := Lib.hid hok
        clear hok
        go_wp2_with fail
        refine (rMarch_x m _ HN.out _).mono ?_
        rintro e W ⟨rfl, hB⟩
        have hw : Below w.heap.size w W := hB0.trans (hB.mono (by first | exact hz | (simp; omega)))
        clear hB
        go_wp2
        exact ⟨⟨k + 1, by omega, by go_num, all_stepM ms k hlt hall.out (by rw [Hm.out]; exact HN.out), hw⟩, by simp [intOf]; omega⟩
    · obtain rfl : k = ms.length := by omega
      go_wp2
      go_returns
      have h := hall.out
      rw [List.take_length] at h
      exact ⟨ret_int (by rw [← HX.out, if_pos h]), hB0⟩

set_option maxRecDepth 100000 in
set_option maxHeartbeats 1000000 in
theorem asked_any (b : Br) (c : Cm) (a : Option Addr) (cap : Nat) (ms : List Mr) (w : World) (h : DaysIn w a cap ms) (hl : ms.length ≤ 100000) :
    Calls Try.prog 76 #[.agg #[.int .i64 b.full, .int .i64 b.fed, .int .i64 b.rest.1, .int .i64 b.rest.2, .int .i64 b.heat.1, .int .i64 b.heat.2, .int .i64 b.toil.1, .int .i64 b.toil.2, .int .i64 b.burn.1, .int .i64 b.burn.2, .int .i64 b.rub.1, .int .i64 b.rub.2, .int .i64 b.milk.1, .int .i64 b.milk.2, .int .i64 b.heal, .int .i64 b.strong.1, .int .i64 b.strong.2], .agg #[.int .i64 c.water.1, .int .i64 c.water.2, .int .i64 c.fat.1, .int .i64 c.fat.2, .int .i64 c.sore.1, .int .i64 c.sore.2, .bool c.milks], .slice a ms.length cap] w fun e w' => e = .returned (.int .i64 (chkT b c ms)) ∧ Below w.heap.size w w' := by
  by_cases h0 : chkC b c = 0
  · by_cases h6 : 60 < ms.length
    · have hv : chkT b c ms = 4 := by simp [chkT, h0, h6]
      rw [hv]
      have HC := Lib.hid h0
      clear hv h0 h
      go_enter Try.func76, Try.ntmps76
      go_wp2_with fail
      refine (rchkC_x b c _ HC.out _).mono ?_
      rintro e W1 ⟨rfl, hB⟩
      have hW1 : Below w.heap.size w W1 := Below.trans (by go_grown) (hB.mono (by simp; try omega))
      have zW1 := hW1.size
      clear hB
      go_wp2
      go_returns
      exact ⟨rfl, hW1⟩
    · have hv : chkT b c ms = if ms.all okM = true then (0 : Int) else 12 := by simp only [chkT, h0, h6, if_true, if_false]
      rw [hv]
      rcases h with ⟨rfl, rfl, rfl⟩ | ⟨g, off, rfl, h3, h4⟩
      · have HC := Lib.hid h0
        clear h0 hv
        go_enter Try.func76, Try.ntmps76
        go_wp2_with fail
        refine (rchkC_x b c _ HC.out _).mono ?_
        rintro e W1 ⟨rfl, hB⟩
        have hW1 : Below w.heap.size w W1 := Below.trans (by go_grown) (hB.mono (by simp; try omega))
        have zW1 := hW1.size
        clear hB
        go_wp2_with fail
        go_rounds 1
        all_goals go_returns
        all_goals exact ⟨rfl, hW1⟩
      · exact asked_some b c g off cap ms w h3 h4 h0 (by omega)
  · obtain ⟨x, hx⟩ : ∃ x, chkC b c = x := ⟨_, rfl⟩
    have hv : chkT b c ms = x := by simp only [chkT, h0, if_false]; exact hx
    rw [hv]
    rw [hx] at h0
    have HC := Lib.hid hx
    have hne : (x == 0) = false := by simpa using h0
    clear hv h0 hx h
    go_enter Try.func76, Try.ntmps76
    go_wp2_with fail
    refine (rchkC_x b c _ HC.out _).mono ?_
    rintro e W1 ⟨rfl, hB⟩
    have hW1 : Below w.heap.size w W1 := Below.trans (by go_grown) (hB.mono (by simp; try omega))
    have zW1 := hW1.size
    clear hB
    go_wp2
    go_returns
    exact ⟨rfl, hW1⟩
end Go.Proofs.Ytafdcbdbllpcnaa
