/- Contract of package camel's Heaviest. -/
import Derived.Test.YtafdcbdbllpcnaaLeafT
import Derived.Test.YtafdcbdbllpcnaaGreatA
import Derived.Test.YtafdcbdbllpcnaaSpec3
import Derived.Test.YtafdcbdbllpcnaaLate
import Derived.Test.YtafdcbdbllpcnaaDayT
import Derived.Test.YtafdcbdbllpcnaaLeafN
namespace Go.Proofs.Ytafdcbdbllpcnaa
open Go.RowKit Go.Shelf
open Go.Proofs

attribute [local go_sem ↓] exec36l exec112l exec36s exec112s exec31s run_min2 run_max2
attribute [local go_sem] load36 load112 store36 store112 store31 build112 rowOf_alloc rowOf_drew setRow_alloc one_int one_bool run_min4
attribute [local go_sem ↓] exec39s
attribute [local go_sem] store39 rowOf_setCell_if Option.map_some

theorem chkT_y (b : Br) (c : Cm) (a : Option Addr) (cap n : Nat) (ms : List Mr) (x : Int) (hn : n = ms.length) (hx : chkT b c ms = x) (w : World) (h : DaysIn w a cap ms) (hl : ms.length ≤ 100000) :
    Calls Try.prog 57 #[.agg #[.int .i64 b.full, .int .i64 b.fed, .int .i64 b.rest.1, .int .i64 b.rest.2, .int .i64 b.heat.1, .int .i64 b.heat.2, .int .i64 b.toil.1, .int .i64 b.toil.2, .int .i64 b.burn.1, .int .i64 b.burn.2, .int .i64 b.rub.1, .int .i64 b.rub.2, .int .i64 b.milk.1, .int .i64 b.milk.2, .int .i64 b.heal, .int .i64 b.strong.1, .int .i64 b.strong.2], .agg #[.int .i64 c.water.1, .int .i64 c.water.2, .int .i64 c.fat.1, .int .i64 c.fat.2, .int .i64 c.sore.1, .int .i64 c.sore.2, .bool c.milks], .slice a n cap] w fun e w' => e = .returned (.int .i64 x) ∧ Below w.heap.size w w' := by
  subst hn hx; exact checkTrip_any b c a cap ms w h hl
theorem chkT_fine {b : Br} {c : Cm} {ms : List Mr} (h : chkT b c ms = 0) : BdB b ∧ BdC b c ∧ ms.all okM = true ∧ ms.length ≤ 60 := by
  unfold chkT at h
  by_cases h0 : chkC b c = 0
  · simp only [h0, if_true] at h
    by_cases h6 : 60 < ms.length
    · simp [h6] at h
    · simp only [h6, if_false] at h
      cases hm : ms.all okM with
      | false => simp [hm] at h
      | true => exact ⟨(chkC_ok h0).1, (chkC_ok h0).2, rfl, by omega⟩
  · simp only [h0, if_false] at h

theorem heavyF_any (b : Br) (c : Cm) (a : Option Addr) (cap n : Nat) (ms : List Mr) (x : Int) (r : Bool) (hr : bearS b c ms x = r) (g1 g2 : Nat) (w : World) (r1 : rowOf w g1 = some #[.int .i64 b.full, .int .i64 b.fed, .int .i64 b.rest.1, .int .i64 b.rest.2, .int .i64 b.heat.1, .int .i64 b.heat.2, .int .i64 b.toil.1, .int .i64 b.toil.2, .int .i64 b.burn.1, .int .i64 b.burn.2, .int .i64 b.rub.1, .int .i64 b.rub.2, .int .i64 b.milk.1, .int .i64 b.milk.2, .int .i64 b.heal, .int .i64 b.strong.1, .int .i64 b.strong.2, .int .i64 c.water.1, .int .i64 c.water.2, .int .i64 c.fat.1, .int .i64 c.fat.2, .int .i64 c.sore.1, .int .i64 c.sore.2, .bool c.milks]) (r2 : rowOf w g2 = some #[.slice a n cap])
    (hn : n = ms.length) (h : DaysIn w a cap ms) (h6 : ms.length ≤ 60) (hb : BdB b) (hc : BdC b c) (hall : ms.all okM = true) (hx1 : 0 ≤ x) (hx2 : x ≤ 1000000) :
    Calls Try.prog 60 #[.int .i64 x, .pointer (some ⟨g1, 0, none⟩), .pointer (some ⟨g2, 0, none⟩)] w fun e w' => e = .returned (.bool r) ∧ Below w.heap.size w w' := by
  obtain ⟨r1E, c1E, g1E, z1E⟩ := row_facts r1
  obtain ⟨r2E, c2E, g2E, z2E⟩ := row_facts r2
  have HC := Lib.hid (bears_any b c a cap n ms x r hr w hn h h6 hb hc hall hx1 hx2)
  clear hr hn h h6 hb hc hall hx1 hx2 r1 r2
  go_enter Try.func60, Try.ntmps60
  go_wp2_with fail
  refine HC.out.mono ?_
  rintro e W1 ⟨rfl, hW1⟩
  go_wp2
  go_returns
  exact ⟨rfl, hW1⟩

theorem Heaviest_bad (b : Br) (c : Cm) (a : Option Addr) (cap n : Nat) (ms : List Mr) (x : Int) (w : World) (hn : n = ms.length) (h : DaysIn w a cap ms) (hl : ms.length ≤ 100000) (hx : chkT b c ms = x) (h0 : x ≠ 0) :
    Calls Try.prog 21 #[.agg #[.int .i64 b.full, .int .i64 b.fed, .int .i64 b.rest.1, .int .i64 b.rest.2, .int .i64 b.heat.1, .int .i64 b.heat.2, .int .i64 b.toil.1, .int .i64 b.toil.2, .int .i64 b.burn.1, .int .i64 b.burn.2, .int .i64 b.rub.1, .int .i64 b.rub.2, .int .i64 b.milk.1, .int .i64 b.milk.2, .int .i64 b.heal, .int .i64 b.strong.1, .int .i64 b.strong.2], .agg #[.int .i64 c.water.1, .int .i64 c.water.2, .int .i64 c.fat.1, .int .i64 c.fat.2, .int .i64 c.sore.1, .int .i64 c.sore.2, .bool c.milks], .slice a n cap] w fun e w' => e = .returned (.tuple #[.int .i64 0, .int .i64 x]) ∧ Below w.heap.size w w' := by
  have HX := Lib.hid hx
  have HD := Lib.hid h
  have HN := Lib.hid hn
  have hne : (x == 0) = false := by simpa using h0
  clear hx h hn
  go_enter Try.func21, Try.ntmps21
  go_wp2_with fail
  refine (chkT_y b c a cap n ms x HN.out HX.out _ (HD.out.below (B := w.heap.size) (by go_grown) (Nat.le_refl _) (by simp; omega)) hl).mono ?_
  rintro e W1 ⟨rfl, hB⟩
  have hW1 : Below w.heap.size w W1 := Below.trans (by go_grown) (hB.mono (by simp; try omega))
  have zW1 := hW1.size
  clear hB
  go_wp2
  go_returns
  exact ⟨rfl, hW1⟩

set_option maxRecDepth 100000 in
set_option maxHeartbeats 2000000 in
theorem Heaviest_ok (b : Br) (c : Cm) (a : Option Addr) (cap n : Nat) (ms : List Mr) (R : Int) (q : Bool) (w : World) (hn : n = ms.length) (h : DaysIn w a cap ms) (hl : ms.length ≤ 100000) (hx : chkT b c ms = 0) (hR : binGo (bearS b c ms) 1000000 0 1000000 = R) (hq : bearS b c ms 0 = q) :
    Calls Try.prog 21 #[.agg #[.int .i64 b.full, .int .i64 b.fed, .int .i64 b.rest.1, .int .i64 b.rest.2, .int .i64 b.heat.1, .int .i64 b.heat.2, .int .i64 b.toil.1, .int .i64 b.toil.2, .int .i64 b.burn.1, .int .i64 b.burn.2, .int .i64 b.rub.1, .int .i64 b.rub.2, .int .i64 b.milk.1, .int .i64 b.milk.2, .int .i64 b.heal, .int .i64 b.strong.1, .int .i64 b.strong.2], .agg #[.int .i64 c.water.1, .int .i64 c.water.2, .int .i64 c.fat.1, .int .i64 c.fat.2, .int .i64 c.sore.1, .int .i64 c.sore.2, .bool c.milks], .slice a n cap] w fun e w' => e = .returned (.tuple (if q = true then #[.int .i64 R, .int .i64 0] else #[.int .i64 0, .int .i64 13])) ∧ Below w.heap.size w w' := by
  have HX := Lib.hid hx
  have HD := Lib.hid h
  have HN := Lib.hid hn
  have HR := Lib.hid hR
  have HQ := Lib.hid hq
  clear hx h hn hR hq
  go_enter Try.func21, Try.ntmps21
  go_wp2_with fail
  refine (chkT_y b c a cap n ms 0 HN.out HX.out _ (HD.out.below (B := w.heap.size) (by go_grown) (Nat.le_refl _) (by simp; omega)) hl).mono ?_
  rintro e W1 ⟨rfl, hB⟩
  have hW1 : Below w.heap.size w W1 := Below.trans (by go_grown) (hB.mono (by simp; try omega))
  have zW1 := hW1.size
  obtain ⟨raW1, caW1, gaW1, zaW1⟩ := keep_row hB (g := w.heap.size) (by repeat (first | with_reducible assumption | with_reducible apply row_here0 | with_reducible apply row_here1 | with_reducible apply row_here2 | with_reducible apply row_here3 | with_reducible apply rowSkip))
  obtain ⟨rbW1, cbW1, gbW1, zbW1⟩ := keep_row hB (g := w.heap.size + 1) (by repeat (first | with_reducible assumption | with_reducible apply row_here0 | with_reducible apply row_here1 | with_reducible apply row_here2 | with_reducible apply row_here3 | with_reducible apply rowSkip))
  obtain ⟨rsW1, csW1, gsW1, zsW1⟩ := keep_row hB (g := w.heap.size + 1 + 1) (by repeat (first | with_reducible assumption | with_reducible apply row_here0 | with_reducible apply row_here1 | with_reducible apply row_here2 | with_reducible apply row_here3 | with_reducible apply rowSkip))
  clear hB
  go_wp2_with fail
  refine (atWork_any b c _).mono ?_
  rintro e W2 ⟨rfl, hB⟩
  have hW2 : Below w.heap.size w W2 := hW1.trans (Below.trans (by have := hW1.size; go_grown) (hB.mono (by have := hW1.size; simp; try omega)))
  have zW2 := hW2.size
  obtain ⟨raW2, caW2, gaW2, zaW2⟩ := keep_row hB (g := w.heap.size) (by repeat (first | with_reducible assumption | with_reducible apply row_here0 | with_reducible apply row_here1 | with_reducible apply row_here2 | with_reducible apply row_here3 | with_reducible apply rowSkip))
  obtain ⟨rbW2, cbW2, gbW2, zbW2⟩ := keep_row hB (g := w.heap.size + 1) (by repeat (first | with_reducible assumption | with_reducible apply row_here0 | with_reducible apply row_here1 | with_reducible apply row_here2 | with_reducible apply row_here3 | with_reducible apply rowSkip))
  obtain ⟨rsW2, csW2, gsW2, zsW2⟩ := keep_row hB (g := w.heap.size + 1 + 1) (by repeat (first | with_reducible assumption | with_reducible apply row_here0 | with_reducible apply row_here1 | with_reducible apply row_here2 | with_reducible apply row_here3 | with_reducible apply rowSkip))
  clear hB
  clear raW1 caW1 gaW1 rbW1 cbW1 gbW1 rsW1 csW1 gsW1
  go_wp2_with fail
  have hK := greatest_any (bearS b c ms) W2.heap.size (w.heap.size + 1 + 1) (W2.alloc (.cells #[.int .i64 b.full, .int .i64 b.fed, .int .i64 b.rest.1, .int .i64 b.rest.2, .int .i64 b.heat.1, .int .i64 b.heat.2, .int .i64 b.toil.1, .int .i64 b.toil.2, .int .i64 b.burn.1, .int .i64 b.burn.2, .int .i64 b.rub.1, .int .i64 b.rub.2, .int .i64 b.milk.1, .int .i64 b.milk.2, .int .i64 b.heal, .int .i64 b.strong.1, .int .i64 b.strong.2, .int .i64 c.water.1, .int .i64 c.water.2, .int .i64 c.fat.1, .int .i64 c.fat.2, .int .i64 c.sore.1, .int .i64 c.sore.2, .bool c.milks] 112)) R HR.out (by
    intro x W h1 h2 hB
    obtain ⟨hb, hc, hall, h6⟩ := chkT_fine HX.out
    exact heavyF_any b c a cap n ms x _ rfl _ _ W (keep_row hB (row_here0 _ _ _)).1 (keep_row hB (rowSkip rsW2)).1 HN.out (HD.out.below ((hW2.alloc zW2 _).trans (hB.mono (by simp; omega))) (Nat.le_refl _) (by have := hB.size; simp at this; omega)) h6 hb hc hall h1 h2)
  rw [HQ.out] at hK
  refine hK.mono ?_
  clear hK
  rintro e W3 ⟨rfl, hB⟩
  have hW3 : Below w.heap.size w W3 := (hW2.alloc zW2 _).trans (hB.mono (by simp; omega))
  clear hB
  cases q with
  | true =>
    go_wp2
    go_returns
    exact ⟨rfl, hW3⟩
  | false =>
    go_wp2
    go_returns
    exact ⟨rfl, hW3⟩
theorem Heaviest_any (b : Br) (c : Cm) (a : Option Addr) (cap n : Nat) (ms : List Mr) (r : Int × Int) (hr : heaS b c ms (chkT b c ms) = r) (w : World) (hn : n = ms.length) (h : DaysIn w a cap ms) (hl : ms.length ≤ 100000) :
    Calls Try.prog 21 #[.agg #[.int .i64 b.full, .int .i64 b.fed, .int .i64 b.rest.1, .int .i64 b.rest.2, .int .i64 b.heat.1, .int .i64 b.heat.2, .int .i64 b.toil.1, .int .i64 b.toil.2, .int .i64 b.burn.1, .int .i64 b.burn.2, .int .i64 b.rub.1, .int .i64 b.rub.2, .int .i64 b.milk.1, .int .i64 b.milk.2, .int .i64 b.heal, .int .i64 b.strong.1, .int .i64 b.strong.2], .agg #[.int .i64 c.water.1, .int .i64 c.water.2, .int .i64 c.fat.1, .int .i64 c.fat.2, .int .i64 c.sore.1, .int .i64 c.sore.2, .bool c.milks], .slice a n cap] w fun e w' => e = .returned (.tuple #[.int .i64 r.1, .int .i64 r.2]) ∧ Below w.heap.size w w' := by
  subst hr
  by_cases h0 : chkT b c ms = 0
  · refine (Heaviest_ok b c a cap n ms _ _ w hn h hl h0 rfl rfl).mono fun e w' hh => ⟨hh.1.trans ?_, hh.2⟩
    by_cases hq : bearS b c ms 0 = true
    · simp [heaS, h0, hq]
    · simp [heaS, h0, hq]
  · refine (Heaviest_bad b c a cap n ms _ w hn h hl rfl h0).mono fun e w' hh => ⟨hh.1.trans ?_, hh.2⟩
    simp [heaS, h0]
end Go.Proofs.Ytafdcbdbllpcnaa
/- Contracts of the outright properties' helpers: ready, at, pick. -/
namespace Go.Proofs.Ytafdcbdbllpcnaa
open Go.RowKit
open Go.Proofs

attribute [local go_sem ↓] exec36l exec112l exec36s exec112s exec31s run_min2 run_max2
attribute [local go_sem] load36 load112 store36 store112 store31 build112 rowOf_alloc rowOf_drew setRow_alloc one_int one_bool run_min4

theorem exec45l : ∀ ρ dst x ty pos after guard, execOp ρ { dst, op := .load 45 x, type := ty, pos, after, guard } = wideLoad 45 (ρ x) := execOp_wideLoad 45
theorem load45 (g : Nat) (w : World) : (wideLoad 45 (.pointer (some ⟨g, 0, none⟩))).run Try.prog w = match rowOf w g with
      | some cs => if cs.size = 8 then .ok (.value (.agg cs)) w else wideLoadElse Try.prog 45 g w
      | none => wideLoadElse Try.prog 45 g w := run_wideLoad (P := Try.prog) 8 Try.underlying45 rfl info45 g w
theorem cams_row {W : World} {g : Nat} {cs : List Cm} (h : rowOf W g = some (cs.flatMap camCells).toArray) : CamelsAt W g 0 cs := by
  obtain ⟨hc, -, -⟩ := cell_of_rowOf h
  intro k hk
  have key : ∀ i v, (camCells cs[k])[i]? = some v → W.cell? ⟨g, 0 + k * 7 + i, none⟩ = some v := by
    intro i v hv
    have hi : i < 7 := (List.getElem?_eq_some_iff.1 hv).1
    rw [hc, ← hv, ← flat_at camCells 7 (fun _ => rfl) cs k i hk hi, List.getElem?_toArray, Nat.zero_add]
  exact ⟨key 0 _ rfl, key 1 _ rfl, key 2 _ rfl, key 3 _ rfl, key 4 _ rfl, key 5 _ rfl, key 6 _ rfl⟩
theorem mars_row {W : World} {g : Nat} {ms : List Mr} (h : rowOf W g = some (ms.flatMap marCells).toArray) : MarchesAt W g 0 ms := by
  obtain ⟨hc, -, -⟩ := cell_of_rowOf h
  intro k hk
  have key : ∀ i v, (marCells ms[k])[i]? = some v → W.cell? ⟨g, 0 + k * 8 + i, none⟩ = some v := by
    intro i v hv
    have hi : i < 8 := (List.getElem?_eq_some_iff.1 hv).1
    rw [hc, ← hv, ← flat_at marCells 8 (fun _ => rfl) ms k i hk hi, List.getElem?_toArray, Nat.zero_add]
  exact ⟨key 0 _ rfl, key 1 _ rfl, key 2 _ rfl, key 3 _ rfl, key 4 _ rfl, key 5 _ rfl, key 6 _ rfl, key 7 _ rfl⟩
theorem days_row {W : World} {g : Nat} {ms : List Mr} (cap : Nat) (h : rowOf W g = some (ms.flatMap marCells).toArray) : DaysIn W (some ⟨g, 0, none⟩) cap ms := .inr ⟨g, 0, rfl, mars_row h, (cell_of_rowOf h).2.2⟩

/-- A breed, an animal and days are valid. -/
def rdyS (b : Br) (c : Cm) (ms : List Mr) : Bool := decide (chkC b c = 0) && decide (ms.length ≤ 60) && ms.all okM

set_option maxRecDepth 100000 in
set_option maxHeartbeats 1000000 in
theorem ready_all (b : Br) (c : Cm) (a : Option Addr) (cap n : Nat) (ms : List Mr) (y : Bool) (w : World) (hn : n = ms.length) (h : DaysIn w a cap ms) (h0 : chkC b c = 0) (h6 : n ≤ 60) (hy : ms.all okM = y) :
    Calls Try.prog 44 #[.agg #[.int .i64 b.full, .int .i64 b.fed, .int .i64 b.rest.1, .int .i64 b.rest.2, .int .i64 b.heat.1, .int .i64 b.heat.2, .int .i64 b.toil.1, .int .i64 b.toil.2, .int .i64 b.burn.1, .int .i64 b.burn.2, .int .i64 b.rub.1, .int .i64 b.rub.2, .int .i64 b.milk.1, .int .i64 b.milk.2, .int .i64 b.heal, .int .i64 b.strong.1, .int .i64 b.strong.2], .agg #[.int .i64 c.water.1, .int .i64 c.water.2, .int .i64 c.fat.1, .int .i64 c.fat.2, .int .i64 c.sore.1, .int .i64 c.sore.2, .bool c.milks], .slice a n cap] w fun e w' => e = .returned (.bool y) ∧ Below w.heap.size w w' := by
  have HX := Lib.hid hy
  have HC := Lib.hid h0
  have HS := Lib.hid h
  have HN := Lib.hid hn
  have hn60 : ¬ (60 : Int) < (n : Int) := by omega
  clear hy h0 h hn
  go_enter Try.func44, Try.ntmps44
  go_wp2_with fail
  refine (rchkC_x b c _ HC.out _).mono ?_
  rintro e W1 ⟨rfl, hB⟩
  have hW1 : Below w.heap.size w W1 := Below.trans (by go_grown) (hB.mono (by simp; try omega))
  have zW1 := hW1.size
  clear hB
  go_wp2_with fail
  go_loopw [20] (fun i wr => ∃ k : Nat, k ≤ n ∧ i = .int .i64 k ∧ Hid ((ms.take k).all okM = true) ∧ Below w.heap.size w wr) (fun i _ => n - (intOf i).toNat)
  case atStart => exact ⟨0, Nat.zero_le _, rfl, by simp [Hid], hW1⟩
  case round =>
    obtain ⟨k, hk, rfl, hall, hB0⟩ := hrel
    have hz := hB0.size
    by_cases hlt : k < n
    · have hkl : k < ms.length := by have := HN.out; omega
      have hlt' : (k : Int) < (n : Int) := by omega
      rcases HS.out with ⟨-, -, hnil⟩ | ⟨g, off, rfl, hms, hg⟩
      · rw [hnil] at hkl; simp at hkl
      · obtain ⟨c0, c1, c2, c3, c4, c5, c6, c7⟩ := march_below hB0 hg (hms k hkl)
        clear hms
        generalize hm : ms[k] = m at *
        have Hm := Lib.hid hm
        clear hm
        cases hok : okM m with
        | false =>
          have HK := Lib.hid hok
          clear hok
          go_wp2_with fail
          refine (rMarch_x m _ HK.out _).mono ?_
          rintro e W ⟨rfl, hB⟩
          have hw : Below w.heap.size w W := hB0.trans (Below.trans (by go_grown) (hB.mono (by first | exact hz | (simp; omega))))
          clear hB
          go_wp2
          go_returns
          exact ⟨ret_bool (by rw [← HX.out, all_noM ms k hkl (by rw [Hm.out]; exact HK.out)]), hw⟩
        | true =>
          have HK := Lib.hid hok
          clear hok
          go_wp2_with fail
          refine (rMarch_x m _ HK.out _).mono ?_
          rintro e W ⟨rfl, hB⟩
          have hw : Below w.heap.size w W := hB0.trans (Below.trans (by go_grown) (hB.mono (by first | exact hz | (simp; omega))))
          clear hB
          go_wp2
          exact ⟨⟨k + 1, by omega, by go_num, all_stepM ms k hkl hall.out (by rw [Hm.out]; exact HK.out), hw⟩, by simp [intOf]; omega⟩
    · obtain rfl : k = n := by omega
      go_wp2
      go_returns
      have h := hall.out
      rw [HN.out, List.take_length] at h
      exact ⟨ret_bool (by rw [← HX.out, h]), hB0⟩
theorem ready_many (b : Br) (c : Cm) (a : Option Addr) (cap n : Nat) (w : World) (h0 : chkC b c = 0) (h6 : 60 < n) :
    Calls Try.prog 44 #[.agg #[.int .i64 b.full, .int .i64 b.fed, .int .i64 b.rest.1, .int .i64 b.rest.2, .int .i64 b.heat.1, .int .i64 b.heat.2, .int .i64 b.toil.1, .int .i64 b.toil.2, .int .i64 b.burn.1, .int .i64 b.burn.2, .int .i64 b.rub.1, .int .i64 b.rub.2, .int .i64 b.milk.1, .int .i64 b.milk.2, .int .i64 b.heal, .int .i64 b.strong.1, .int .i64 b.strong.2], .agg #[.int .i64 c.water.1, .int .i64 c.water.2, .int .i64 c.fat.1, .int .i64 c.fat.2, .int .i64 c.sore.1, .int .i64 c.sore.2, .bool c.milks], .slice a n cap] w fun e w' => e = .returned (.bool false) ∧ Below w.heap.size w w' := by
  have HC := Lib.hid h0
  have hn60 : (60 : Int) < (n : Int) := by omega
  clear h0
  go_enter Try.func44, Try.ntmps44
  go_wp2_with fail
  refine (rchkC_x b c _ HC.out _).mono ?_
  rintro e W1 ⟨rfl, hB⟩
  have hW1 : Below w.heap.size w W1 := Below.trans (by go_grown) (hB.mono (by simp; try omega))
  have zW1 := hW1.size
  clear hB
  go_wp2
  go_returns
  exact ⟨rfl, hW1⟩
theorem ready_bad (b : Br) (c : Cm) (a : Option Addr) (cap n : Nat) (x : Int) (w : World) (hx : chkC b c = x) (h0 : x ≠ 0) :
    Calls Try.prog 44 #[.agg #[.int .i64 b.full, .int .i64 b.fed, .int .i64 b.rest.1, .int .i64 b.rest.2, .int .i64 b.heat.1, .int .i64 b.heat.2, .int .i64 b.toil.1, .int .i64 b.toil.2, .int .i64 b.burn.1, .int .i64 b.burn.2, .int .i64 b.rub.1, .int .i64 b.rub.2, .int .i64 b.milk.1, .int .i64 b.milk.2, .int .i64 b.heal, .int .i64 b.strong.1, .int .i64 b.strong.2], .agg #[.int .i64 c.water.1, .int .i64 c.water.2, .int .i64 c.fat.1, .int .i64 c.fat.2, .int .i64 c.sore.1, .int .i64 c.sore.2, .bool c.milks], .slice a n cap] w fun e w' => e = .returned (.bool false) ∧ Below w.heap.size w w' := by
  have HC := Lib.hid hx
  have hne : (x == 0) = false := by simpa using h0
  clear hx
  go_enter Try.func44, Try.ntmps44
  go_wp2_with fail
  refine (rchkC_x b c _ HC.out _).mono ?_
  rintro e W1 ⟨rfl, hB⟩
  have hW1 : Below w.heap.size w W1 := Below.trans (by go_grown) (hB.mono (by simp; try omega))
  have zW1 := hW1.size
  clear hB
  go_wp2
  go_returns
  exact ⟨rfl, hW1⟩
theorem ready_any (b : Br) (c : Cm) (a : Option Addr) (cap n : Nat) (ms : List Mr) (y : Bool) (w : World) (hn : n = ms.length) (h : DaysIn w a cap ms) (hy : rdyS b c ms = y) :
    Calls Try.prog 44 #[.agg #[.int .i64 b.full, .int .i64 b.fed, .int .i64 b.rest.1, .int .i64 b.rest.2, .int .i64 b.heat.1, .int .i64 b.heat.2, .int .i64 b.toil.1, .int .i64 b.toil.2, .int .i64 b.burn.1, .int .i64 b.burn.2, .int .i64 b.rub.1, .int .i64 b.rub.2, .int .i64 b.milk.1, .int .i64 b.milk.2, .int .i64 b.heal, .int .i64 b.strong.1, .int .i64 b.strong.2], .agg #[.int .i64 c.water.1, .int .i64 c.water.2, .int .i64 c.fat.1, .int .i64 c.fat.2, .int .i64 c.sore.1, .int .i64 c.sore.2, .bool c.milks], .slice a n cap] w fun e w' => e = .returned (.bool y) ∧ Below w.heap.size w w' := by
  subst hy
  by_cases h0 : chkC b c = 0
  · by_cases h6 : n ≤ 60
    · exact ready_all b c a cap n ms _ w hn h h0 h6 (by simp [rdyS, h0, show ms.length ≤ 60 by omega])
    · rw [show rdyS b c ms = false by simp [rdyS, show ¬ ms.length ≤ 60 by omega]]
      exact ready_many b c a cap n w h0 (by omega)
  · rw [show rdyS b c ms = false by simp [rdyS, h0]]
    exact ready_bad b c a cap n _ w rfl h0
end Go.Proofs.Ytafdcbdbllpcnaa
