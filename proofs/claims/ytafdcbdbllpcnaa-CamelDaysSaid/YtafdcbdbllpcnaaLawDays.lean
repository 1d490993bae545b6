/- The walk of the second property: After, Days and Lasts agree with the reference's, for every breed, animal, list of days and day. -/
import Derived.Test.YtafdcbdbllpcnaaCloneA
import Derived.Test.YtafdcbdbllpcnaaLeafL
import Derived.Test.YtafdcbdbllpcnaaRefH
namespace Go.Proofs.Ytafdcbdbllpcnaa
open Go.RowKit
open Go.Proofs

attribute [local go_sem ↓] exec36l exec112l exec36s exec112s exec31s run_min2 run_max2
attribute [local go_sem] load36 load112 store36 store112 store31 build112 rowOf_alloc rowOf_drew setRow_alloc one_int one_bool run_min4
attribute [local go_sem ↓] exec39s exec39l
attribute [local go_sem] store39 load39

theorem DaysIn.ext {W W' : World} {a : Option Addr} {cap : Nat} {ms : List Mr} (h : DaysIn W a cap ms) (hE : Ext W W') : DaysIn W' a cap ms := h.below hE (Nat.le_refl _) hE.size
theorem aftF_bd (b : Br) (c : Cm) (m : Mr) : 0 ≤ aftF b c m ∧ aftF b c m ≤ 2 := by
  unfold aftF
  repeat' split
  all_goals omega
theorem After_x (b : Br) (c : Cm) (m : Mr) (r : Cm) (f e : Int) (h1 : aftC b c m = r) (h2 : aftF b c m = f) (h3 : chkA b c m = e) (w : World) :
    Calls Try.prog 25 #[.agg #[.int .i64 b.full, .int .i64 b.fed, .int .i64 b.rest.1, .int .i64 b.rest.2, .int .i64 b.heat.1, .int .i64 b.heat.2, .int .i64 b.toil.1, .int .i64 b.toil.2, .int .i64 b.burn.1, .int .i64 b.burn.2, .int .i64 b.rub.1, .int .i64 b.rub.2, .int .i64 b.milk.1, .int .i64 b.milk.2, .int .i64 b.heal, .int .i64 b.strong.1, .int .i64 b.strong.2], .agg #[.int .i64 c.water.1, .int .i64 c.water.2, .int .i64 c.fat.1, .int .i64 c.fat.2, .int .i64 c.sore.1, .int .i64 c.sore.2, .bool c.milks], .agg #[.int .i64 m.hours, .int .i64 m.load, .int .i64 m.heat.1, .int .i64 m.heat.2, .int .i64 m.grass.1, .int .i64 m.grass.2, .int .i64 m.drinks.1, .int .i64 m.drinks.2]] w fun e' w' => e' = .returned (.tuple #[.agg #[.int .i64 r.water.1, .int .i64 r.water.2, .int .i64 r.fat.1, .int .i64 r.fat.2, .int .i64 r.sore.1, .int .i64 r.sore.2, .bool r.milks], .int .u8 f, .int .i64 e]) ∧ Below w.heap.size w w' := by
  subst h1 h2 h3; exact After_any b c m w
theorem rAfter_y (b : Br) (c : Cm) (m : Mr) (r : Cm) (f e : Int) (h1 : aftC b c m = r) (h2 : aftF b c m = f) (h3 : chkA b c m = e) (w : World) :
    Calls Try.prog 35 #[.agg #[.int .i64 b.full, .int .i64 b.fed, .int .i64 b.rest.1, .int .i64 b.rest.2, .int .i64 b.heat.1, .int .i64 b.heat.2, .int .i64 b.toil.1, .int .i64 b.toil.2, .int .i64 b.burn.1, .int .i64 b.burn.2, .int .i64 b.rub.1, .int .i64 b.rub.2, .int .i64 b.milk.1, .int .i64 b.milk.2, .int .i64 b.heal, .int .i64 b.strong.1, .int .i64 b.strong.2], .agg #[.int .i64 c.water.1, .int .i64 c.water.2, .int .i64 c.fat.1, .int .i64 c.fat.2, .int .i64 c.sore.1, .int .i64 c.sore.2, .bool c.milks], .agg #[.int .i64 m.hours, .int .i64 m.load, .int .i64 m.heat.1, .int .i64 m.heat.2, .int .i64 m.grass.1, .int .i64 m.grass.2, .int .i64 m.drinks.1, .int .i64 m.drinks.2]] w fun e' w' => e' = .returned (.tuple #[.agg #[.int .i64 r.water.1, .int .i64 r.water.2, .int .i64 r.fat.1, .int .i64 r.fat.2, .int .i64 r.sore.1, .int .i64 r.sore.2, .bool r.milks], .int .i64 f, .int .i64 e]) ∧ Below w.heap.size w w' := by
  subst h1 h2 h3; exact rAfter_any b c m w
theorem Days_x (b : Br) (c : Cm) (a : Option Addr) (cap n : Nat) (ms : List Mr) (L : List Cm) (F A E : Int) (hn : n = ms.length) (h1 : outL b c ms = L) (h2 : outF b c ms = F) (h3 : outA b c ms = A) (h4 : outE b c ms = E) (w : World) (h : DaysIn w a cap ms) (hl : ms.length ≤ 100000) :
    Calls Try.prog 26 #[.agg #[.int .i64 b.full, .int .i64 b.fed, .int .i64 b.rest.1, .int .i64 b.rest.2, .int .i64 b.heat.1, .int .i64 b.heat.2, .int .i64 b.toil.1, .int .i64 b.toil.2, .int .i64 b.burn.1, .int .i64 b.burn.2, .int .i64 b.rub.1, .int .i64 b.rub.2, .int .i64 b.milk.1, .int .i64 b.milk.2, .int .i64 b.heal, .int .i64 b.strong.1, .int .i64 b.strong.2], .agg #[.int .i64 c.water.1, .int .i64 c.water.2, .int .i64 c.fat.1, .int .i64 c.fat.2, .int .i64 c.sore.1, .int .i64 c.sore.2, .bool c.milks], .slice a n cap] w fun e w' => (∃ v, e = .returned (.tuple #[v, .int .u8 F, .int .i64 A, .int .i64 E]) ∧ CamList w' v L) ∧ Below w.heap.size w w' := by
  subst hn h1 h2 h3 h4; exact Days_any b c a cap ms w h hl
theorem rDays_x (b : Br) (c : Cm) (a : Option Addr) (cap n : Nat) (ms : List Mr) (L : List Cm) (F A E : Int) (hn : n = ms.length) (h1 : outL b c ms = L) (h2 : outF b c ms = F) (h3 : outA b c ms = A) (h4 : outE b c ms = E) (w : World) (h : DaysIn w a cap ms) (hl : ms.length ≤ 100000) :
    Calls Try.prog 36 #[.agg #[.int .i64 b.full, .int .i64 b.fed, .int .i64 b.rest.1, .int .i64 b.rest.2, .int .i64 b.heat.1, .int .i64 b.heat.2, .int .i64 b.toil.1, .int .i64 b.toil.2, .int .i64 b.burn.1, .int .i64 b.burn.2, .int .i64 b.rub.1, .int .i64 b.rub.2, .int .i64 b.milk.1, .int .i64 b.milk.2, .int .i64 b.heal, .int .i64 b.strong.1, .int .i64 b.strong.2], .agg #[.int .i64 c.water.1, .int .i64 c.water.2, .int .i64 c.fat.1, .int .i64 c.fat.2, .int .i64 c.sore.1, .int .i64 c.sore.2, .bool c.milks], .slice a n cap] w fun e w' => (∃ v, e = .returned (.tuple #[v, .int .i64 F, .int .i64 A, .int .i64 E]) ∧ CamList w' v L) ∧ Below w.heap.size w w' := by
  subst hn h1 h2 h3 h4; exact rDays_any b c a cap ms w h hl
theorem Lasts_x (b : Br) (c : Cm) (m : Mr) (r : Int × Int) (e : Int) (h1 : lasR b c m = r) (h2 : chkT b c [m] = e) (w : World) :
    Calls Try.prog 37 #[.agg #[.int .i64 b.full, .int .i64 b.fed, .int .i64 b.rest.1, .int .i64 b.rest.2, .int .i64 b.heat.1, .int .i64 b.heat.2, .int .i64 b.toil.1, .int .i64 b.toil.2, .int .i64 b.burn.1, .int .i64 b.burn.2, .int .i64 b.rub.1, .int .i64 b.rub.2, .int .i64 b.milk.1, .int .i64 b.milk.2, .int .i64 b.heal, .int .i64 b.strong.1, .int .i64 b.strong.2], .agg #[.int .i64 c.water.1, .int .i64 c.water.2, .int .i64 c.fat.1, .int .i64 c.fat.2, .int .i64 c.sore.1, .int .i64 c.sore.2, .bool c.milks], .agg #[.int .i64 m.hours, .int .i64 m.load, .int .i64 m.heat.1, .int .i64 m.heat.2, .int .i64 m.grass.1, .int .i64 m.grass.2, .int .i64 m.drinks.1, .int .i64 m.drinks.2]] w fun e' w' => e' = .returned (.tuple #[.agg #[.int .i64 r.1, .int .i64 r.2], .int .i64 e]) ∧ Below w.heap.size w w' := by
  subst h1 h2; exact Lasts_any b c m w
theorem rLasts_x (b : Br) (c : Cm) (m : Mr) (r : Int × Int) (e : Int) (h1 : lasR b c m = r) (h2 : chkT b c [m] = e) (w : World) :
    Calls Try.prog 38 #[.agg #[.int .i64 b.full, .int .i64 b.fed, .int .i64 b.rest.1, .int .i64 b.rest.2, .int .i64 b.heat.1, .int .i64 b.heat.2, .int .i64 b.toil.1, .int .i64 b.toil.2, .int .i64 b.burn.1, .int .i64 b.burn.2, .int .i64 b.rub.1, .int .i64 b.rub.2, .int .i64 b.milk.1, .int .i64 b.milk.2, .int .i64 b.heal, .int .i64 b.strong.1, .int .i64 b.strong.2], .agg #[.int .i64 c.water.1, .int .i64 c.water.2, .int .i64 c.fat.1, .int .i64 c.fat.2, .int .i64 c.sore.1, .int .i64 c.sore.2, .bool c.milks], .agg #[.int .i64 m.hours, .int .i64 m.load, .int .i64 m.heat.1, .int .i64 m.heat.2, .int .i64 m.grass.1, .int .i64 m.grass.2, .int .i64 m.drinks.1, .int .i64 m.drinks.2]] w fun e' w' => e' = .returned (.tuple #[.agg #[.int .i64 r.1, .int .i64 r.2], .int .i64 e]) ∧ Below w.heap.size w w' := by
  subst h1 h2; exact rLasts_any b c m w

theorem days_at {w : World} {a : Option Addr} {cap : Nat} {ms : List Mr} (h : DaysIn w a cap ms) {k : Nat} (hk : k < ms.length) : ∃ g off, a = some ⟨g, off, none⟩ ∧ MarchAt w g (off + k * 8) (mdS ms k) ∧ g < w.heap.size := by
  rcases h with ⟨-, -, h⟩ | ⟨g, off, h1, h2, h3⟩
  · subst h; simp at hk
  · exact ⟨g, off, h1, by rw [← mdS_get hk]; exact h2 k hk, h3⟩
theorem owns_new {w : World} {g base e size : Nat} (hg : w.heap.size = g) (hb : base ≤ g) : (w.alloc (.cells #[] e)).ownsRow base e size (.slice (some ⟨g, 0, none⟩) 0 0) 0 [] := by
  subst hg; exact World.ownsRow_made _ #[] 0 hb (by decide) (by simp)
theorem days_src2 {w W : World} {a : Option Addr} {cap n : Nat} {ms : List Mr} (hn : n = ms.length) (h : DaysIn w a cap ms) (hE : Below w.heap.size w W) : (a = none ∧ n = 0 ∧ cap = 0) ∨ ∃ ad, a = some ad ∧ ∀ j u, (ms.flatMap marCells)[j]? = some u → W.cell? (ad.add j) = some u := by
  subst hn; exact days_src (h.ext hE)

set_option maxRecDepth 100000 in
set_option maxHeartbeats 8000000 in
theorem camelDays_walk (b : Br) (c : Cm) (a : Option Addr) (cap n : Nat) (ms : List Mr) (m : Mr) (w : World) (hn : n = ms.length) (h : n ≤ 100 → DaysIn w a cap ms) :
    Calls Try.prog 5 #[.agg #[.int .i64 b.full, .int .i64 b.fed, .int .i64 b.rest.1, .int .i64 b.rest.2, .int .i64 b.heat.1, .int .i64 b.heat.2, .int .i64 b.toil.1, .int .i64 b.toil.2, .int .i64 b.burn.1, .int .i64 b.burn.2, .int .i64 b.rub.1, .int .i64 b.rub.2, .int .i64 b.milk.1, .int .i64 b.milk.2, .int .i64 b.heal, .int .i64 b.strong.1, .int .i64 b.strong.2], .agg #[.int .i64 c.water.1, .int .i64 c.water.2, .int .i64 c.fat.1, .int .i64 c.fat.2, .int .i64 c.sore.1, .int .i64 c.sore.2, .bool c.milks], .slice a n cap, .agg #[.int .i64 m.hours, .int .i64 m.load, .int .i64 m.heat.1, .int .i64 m.heat.2, .int .i64 m.grass.1, .int .i64 m.grass.2, .int .i64 m.drinks.1, .int .i64 m.drinks.2]] w fun e w' => e = .returned (.bool true) ∧ Below w.heap.size w w' := by
  by_cases h100 : n ≤ 100
  · obtain ⟨ra, hra⟩ : ∃ r, aftC b c m = r := ⟨_, rfl⟩
    obtain ⟨rf, hrf⟩ : ∃ r, aftF b c m = r := ⟨_, rfl⟩
    obtain ⟨re, hre⟩ : ∃ r, chkA b c m = r := ⟨_, rfl⟩
    obtain ⟨L, hL⟩ : ∃ r, outL b c ms = r := ⟨_, rfl⟩
    obtain ⟨F, hF⟩ : ∃ r, outF b c ms = r := ⟨_, rfl⟩
    obtain ⟨A, hA⟩ : ∃ r, outA b c ms = r := ⟨_, rfl⟩
    obtain ⟨E, hE⟩ : ∃ r, outE b c ms = r := ⟨_, rfl⟩
    obtain ⟨la, hla⟩ : ∃ r, lasR b c m = r := ⟨_, rfl⟩
    obtain ⟨le, hle⟩ : ∃ r, chkT b c [m] = r := ⟨_, rfl⟩
    obtain ⟨f1, f2⟩ : 0 ≤ rf ∧ rf ≤ 2 := by rw [← hrf]; exact aftF_bd b c m
    obtain ⟨F1, F2⟩ : 0 ≤ F ∧ F ≤ 2 := by rw [← hF]; exact outF_bd b c ms
    have hLl : L.length ≤ 100000 := by rw [← hL]; exact Nat.le_trans (outL_len b c ms) (by omega)
    have HN := Lib.hid hn
    have hl : ms.length ≤ 100000 := by omega
    have Hra := Lib.hid hra
    have Hrf := Lib.hid hrf
    have Hre := Lib.hid hre
    have HL := Lib.hid hL
    have HF := Lib.hid hF
    have HA := Lib.hid hA
    have HE := Lib.hid hE
    have Hla := Lib.hid hla
    have Hle := Lib.hid hle
    have H0 := Lib.hid (h h100)
    have hn100 : (n : Int) ≤ 100 := by omega
    obtain ⟨i0, hi0, hz0, hz1, hz2⟩ := info_parts info45z
    clear hra hrf hre hL hF hA hE hla hle hn h
    go_enter Try.func5, Try.ntmps5
    go_wp2_with (first
      | (at_builtin; refine wpList_clone rfl _ _ 47 rfl (w.heap.size + 1 + 1 + 1) 45 i0 (.agg #[.int .i64 0, .int .i64 0, .int .i64 0, .int .i64 0, .int .i64 0, .int .i64 0, .int .i64 0, .int .i64 0]) 8 64 Try.underlying47 hi0 hz0 hz1 hz2 rfl (by decide) (w.heap.size + 1 + 1 + 1) 0 rfl ?own a n cap (ms.flatMap marCells) rfl ?len ?src mar_one (by unfold maxLen; omega) (by omega) (by simp) ?_)
      | fail)
    case own => exact owns_new (by simp) (Nat.le_refl _)
    case len => rw [flat_len marCells 8 mar_len, HN.out]
    case src => exact days_src2 HN.out H0.out (by go_grown)
    intro g cp w1 hown1 hgrow1
    have raWA' := row_grownO (g := w.heap.size) (by repeat (first | with_reducible apply row_here0 | with_reducible apply row_here1 | with_reducible apply row_here2 | with_reducible apply rowSkip)) hgrow1 (fun i e => by cases e; omega)
    have rbWA' := row_grownO (g := w.heap.size + 1) (by repeat (first | with_reducible apply row_here0 | with_reducible apply row_here1 | with_reducible apply row_here2 | with_reducible apply rowSkip)) hgrow1 (fun i e => by cases e; omega)
    have rmWA' := row_grownO (g := w.heap.size + 1 + 1) (by repeat (first | with_reducible apply row_here0 | with_reducible apply row_here1 | with_reducible apply row_here2 | with_reducible apply rowSkip)) hgrow1 (fun i e => by cases e; omega)
    have hWA : Below w.heap.size w w1 := Below.grown (by go_grown) hgrow1 (by simp; omega) (fun i e => by cases e; omega)
    obtain ⟨hO1, hO2⟩ := days_own HN.out hown1
    have zWA := hWA.size
    have olWA := Lib.hid hO1
    have llWA := Lib.hid (H0.out.below hWA (Nat.le_refl _) zWA)
    clear hown1 hgrow1 hi0 hz0 hz1 hz2 hO1
    generalize w1 = WA at *
    obtain ⟨raWA, caWA, gaWA, zaWA⟩ := row_facts raWA'
    clear raWA'
    obtain ⟨rbWA, cbWA, gbWA, zbWA⟩ := row_facts rbWA'
    clear rbWA'
    obtain ⟨rmWA, cmWA, gmWA, zmWA⟩ := row_facts rmWA'
    clear rmWA'
    go_wp2_with fail
    refine (After_x b c m ra rf re Hra.out Hrf.out Hre.out _).mono ?_
    rintro e W2 ⟨rfl, hB⟩
    have xW2 : Ext WA W2 := Below.trans (by go_grown) (hB.mono (by simp; try omega))
    have olW2 := Lib.hid (olWA.out.ext xW2)
    have llW2 := Lib.hid (llWA.out.ext xW2)
    have hW2 : Below w.heap.size w W2 := hWA.trans (Below.trans (by have := hWA.size; go_grown) (hB.mono (by have := hWA.size; simp; try omega)))
    have zW2 := hW2.size
    obtain ⟨raW2, caW2, gaW2, zaW2⟩ := keep_row hB (g := w.heap.size) (by repeat (first | with_reducible assumption | with_reducible apply row_here0 | with_reducible apply row_here1 | with_reducible apply row_here2 | with_reducible apply row_here3 | with_reducible apply rowSkip))
    obtain ⟨rbW2, cbW2, gbW2, zbW2⟩ := keep_row hB (g := w.heap.size + 1) (by repeat (first | with_reducible assumption | with_reducible apply row_here0 | with_reducible apply row_here1 | with_reducible apply row_here2 | with_reducible apply row_here3 | with_reducible apply rowSkip))
    obtain ⟨rmW2, cmW2, gmW2, zmW2⟩ := keep_row hB (g := w.heap.size + 1 + 1) (by repeat (first | with_reducible assumption | with_reducible apply row_here0 | with_reducible apply row_here1 | with_reducible apply row_here2 | with_reducible apply row_here3 | with_reducible apply rowSkip))
    clear hB
    clear raWA caWA gaWA rbWA cbWA gbWA rmWA cmWA gmWA
    go_wp2_with fail
    refine (rAfter_y b c m ra rf re Hra.out Hrf.out Hre.out _).mono ?_
    rintro e W3 ⟨rfl, hB⟩
    have xW3 : Ext W2 W3 := Below.trans (by go_grown) (hB.mono (by simp; try omega))
    have olW3 := Lib.hid (olW2.out.ext xW3)
    have llW3 := Lib.hid (llW2.out.ext xW3)
    have hW3 : Below w.heap.size w W3 := hW2.trans (Below.trans (by have := hW2.size; go_grown) (hB.mono (by have := hW2.size; simp; try omega)))
    have zW3 := hW3.size
    obtain ⟨raW3, caW3, gaW3, zaW3⟩ := keep_row hB (g := w.heap.size) (by repeat (first | with_reducible assumption | with_reducible apply row_here0 | with_reducible apply row_here1 | with_reducible apply row_here2 | with_reducible apply row_here3 | with_reducible apply rowSkip))
    obtain ⟨rbW3, cbW3, gbW3, zbW3⟩ := keep_row hB (g := w.heap.size + 1) (by repeat (first | with_reducible assumption | with_reducible apply row_here0 | with_reducible apply row_here1 | with_reducible apply row_here2 | with_reducible apply row_here3 | with_reducible apply rowSkip))
    obtain ⟨rmW3, cmW3, gmW3, zmW3⟩ := keep_row hB (g := w.heap.size + 1 + 1) (by repeat (first | with_reducible assumption | with_reducible apply row_here0 | with_reducible apply row_here1 | with_reducible apply row_here2 | with_reducible apply row_here3 | with_reducible apply rowSkip))
    obtain ⟨rpW3, cpW3, gpW3, zpW3⟩ := keep_row hB (g := W2.heap.size) (by repeat (first | with_reducible assumption | with_reducible apply row_here0 | with_reducible apply row_here1 | with_reducible apply row_here2 | with_reducible apply row_here3 | with_reducible apply rowSkip))
    clear hB
    clear raW2 caW2 gaW2 rbW2 cbW2 gbW2 rmW2 cmW2 gmW2
    go_wp2_with fail
    refine (Days_x b c (some ⟨g, 0, none⟩) cp n ms L F A E HN.out HL.out HF.out HA.out HE.out _ (olW3.out.ext (ext_alloc _ _)) hl).mono ?_
    rintro e W4 ⟨⟨v1, rfl, hC1⟩, hB⟩
    have xW4 : Ext W3 W4 := Below.trans (by go_grown) (hB.mono (by simp; try omega))
    have olW4 := Lib.hid (olW3.out.ext xW4)
    have llW4 := Lib.hid (llW3.out.ext xW4)
    have hW4 : Below w.heap.size w W4 := hW3.trans (Below.trans (by have := hW3.size; go_grown) (hB.mono (by have := hW3.size; simp; try omega)))
    have zW4 := hW4.size
    obtain ⟨raW4, caW4, gaW4, zaW4⟩ := keep_row hB (g := w.heap.size) (by repeat (first | with_reducible assumption | with_reducible apply row_here0 | with_reducible apply row_here1 | with_reducible apply row_here2 | with_reducible apply row_here3 | with_reducible apply rowSkip))
    obtain ⟨rbW4, cbW4, gbW4, zbW4⟩ := keep_row hB (g := w.heap.size + 1) (by repeat (first | with_reducible assumption | with_reducible apply row_here0 | with_reducible apply row_here1 | with_reducible apply row_here2 | with_reducible apply row_here3 | with_reducible apply rowSkip))
    obtain ⟨rmW4, cmW4, gmW4, zmW4⟩ := keep_row hB (g := w.heap.size + 1 + 1) (by repeat (first | with_reducible assumption | with_reducible apply row_here0 | with_reducible apply row_here1 | with_reducible apply row_here2 | with_reducible apply row_here3 | with_reducible apply rowSkip))
    obtain ⟨rpW4, cpW4, gpW4, zpW4⟩ := keep_row hB (g := W2.heap.size) (by repeat (first | with_reducible assumption | with_reducible apply row_here0 | with_reducible apply row_here1 | with_reducible apply row_here2 | with_reducible apply row_here3 | with_reducible apply rowSkip))
    obtain ⟨rqW4, cqW4, gqW4, zqW4⟩ := keep_row hB (g := W3.heap.size) (by repeat (first | with_reducible assumption | with_reducible apply row_here0 | with_reducible apply row_here1 | with_reducible apply row_here2 | with_reducible apply row_here3 | with_reducible apply rowSkip))
    clear hB
    clear raW3 caW3 gaW3 rbW3 cbW3 gbW3 rmW3 cmW3 gmW3 rpW3 cpW3 gpW3
    have cC1W4 := Lib.hid hC1
    clear hC1
    go_wp2_with fail
    refine (rDays_x b c a cap n ms L F A E HN.out HL.out HF.out HA.out HE.out _ llW4.out hl).mono ?_
    rintro e W5 ⟨⟨v2, rfl, hC2⟩, hB⟩
    have xW5 : Ext W4 W5 := Below.trans (by go_grown) (hB.mono (by simp; try omega))
    have olW5 := Lib.hid (olW4.out.ext xW5)
    have llW5 := Lib.hid (llW4.out.ext xW5)
    have cC1W5 := Lib.hid (cC1W4.out.ext xW5)
    have hW5 : Below w.heap.size w W5 := hW4.trans (Below.trans (by have := hW4.size; go_grown) (hB.mono (by have := hW4.size; simp; try omega)))
    have zW5 := hW5.size
    obtain ⟨raW5, caW5, gaW5, zaW5⟩ := keep_row hB (g := w.heap.size) (by repeat (first | with_reducible assumption | with_reducible apply row_here0 | with_reducible apply row_here1 | with_reducible apply row_here2 | with_reducible apply row_here3 | with_reducible apply rowSkip))
    obtain ⟨rbW5, cbW5, gbW5, zbW5⟩ := keep_row hB (g := w.heap.size + 1) (by repeat (first | with_reducible assumption | with_reducible apply row_here0 | with_reducible apply row_here1 | with_reducible apply row_here2 | with_reducible apply row_here3 | with_reducible apply rowSkip))
    obtain ⟨rmW5, cmW5, gmW5, zmW5⟩ := keep_row hB (g := w.heap.size + 1 + 1) (by repeat (first | with_reducible assumption | with_reducible apply row_here0 | with_reducible apply row_here1 | with_reducible apply row_here2 | with_reducible apply row_here3 | with_reducible apply rowSkip))
    obtain ⟨rpW5, cpW5, gpW5, zpW5⟩ := keep_row hB (g := W2.heap.size) (by repeat (first | with_reducible assumption | with_reducible apply row_here0 | with_reducible apply row_here1 | with_reducible apply row_here2 | with_reducible apply row_here3 | with_reducible apply rowSkip))
    obtain ⟨rqW5, cqW5, gqW5, zqW5⟩ := keep_row hB (g := W3.heap.size) (by repeat (first | with_reducible assumption | with_reducible apply row_here0 | with_reducible apply row_here1 | with_reducible apply row_here2 | with_reducible apply row_here3 | with_reducible apply rowSkip))
    clear hB
    clear raW4 caW4 gaW4 rbW4 cbW4 gbW4 rmW4 cmW4 gmW4 rpW4 cpW4 gpW4 rqW4 cqW4 gqW4
    have cC2W5 := Lib.hid hC2
    clear hC2
    go_wp2_with fail
    refine (Lasts_x b c m la le Hla.out Hle.out _).mono ?_
    rintro e W6 ⟨rfl, hB⟩
    have xW6 : Ext W5 W6 := Below.trans (by go_grown) (hB.mono (by simp; try omega))
    have olW6 := Lib.hid (olW5.out.ext xW6)
    have llW6 := Lib.hid (llW5.out.ext xW6)
    have cC1W6 := Lib.hid (cC1W5.out.ext xW6)
    have cC2W6 := Lib.hid (cC2W5.out.ext xW6)
    have hW6 : Below w.heap.size w W6 := hW5.trans (Below.trans (by have := hW5.size; go_grown) (hB.mono (by have := hW5.size; simp; try omega)))
    have zW6 := hW6.size
    obtain ⟨raW6, caW6, gaW6, zaW6⟩ := keep_row hB (g := w.heap.size) (by repeat (first | with_reducible assumption | with_reducible apply row_here0 | with_reducible apply row_here1 | with_reducible apply row_here2 | with_reducible apply row_here3 | with_reducible apply rowSkip))
    obtain ⟨rbW6, cbW6, gbW6, zbW6⟩ := keep_row hB (g := w.heap.size + 1) (by repeat (first | with_reducible assumption | with_reducible apply row_here0 | with_reducible apply row_here1 | with_reducible apply row_here2 | with_reducible apply row_here3 | with_reducible apply rowSkip))
    obtain ⟨rmW6, cmW6, gmW6, zmW6⟩ := keep_row hB (g := w.heap.size + 1 + 1) (by repeat (first | with_reducible assumption | with_reducible apply row_here0 | with_reducible apply row_here1 | with_reducible apply row_here2 | with_reducible apply row_here3 | with_reducible apply rowSkip))
    obtain ⟨rpW6, cpW6, gpW6, zpW6⟩ := keep_row hB (g := W2.heap.size) (by repeat (first | with_reducible assumption | with_reducible apply row_here0 | with_reducible apply row_here1 | with_reducible apply row_here2 | with_reducible apply row_here3 | with_reducible apply rowSkip))
    obtain ⟨rqW6, cqW6, gqW6, zqW6⟩ := keep_row hB (g := W3.heap.size) (by repeat (first | with_reducible assumption | with_reducible apply row_here0 | with_reducible apply row_here1 | with_reducible apply row_here2 | with_reducible apply row_here3 | with_reducible apply rowSkip))
    clear hB
    clear raW5 caW5 gaW5 rbW5 cbW5 gbW5 rmW5 cmW5 gmW5 rpW5 cpW5 gpW5 rqW5 cqW5 gqW5
    go_wp2_with fail
    refine (rLasts_x b c m la le Hla.out Hle.out _).mono ?_
    rintro e W7 ⟨rfl, hB⟩
    have xW7 : Ext W6 W7 := Below.trans (by go_grown) (hB.mono (by simp; try omega))
    have olW7 := Lib.hid (olW6.out.ext xW7)
    have llW7 := Lib.hid (llW6.out.ext xW7)
    have cC1W7 := Lib.hid (cC1W6.out.ext xW7)
    have cC2W7 := Lib.hid (cC2W6.out.ext xW7)
    have hW7 : Below w.heap.size w W7 := hW6.trans (Below.trans (by have := hW6.size; go_grown) (hB.mono (by have := hW6.size; simp; try omega)))
    have zW7 := hW7.size
    obtain ⟨raW7, caW7, gaW7, zaW7⟩ := keep_row hB (g := w.heap.size) (by repeat (first | with_reducible assumption | with_reducible apply row_here0 | with_reducible apply row_here1 | with_reducible apply row_here2 | with_reducible apply row_here3 | with_reducible apply rowSkip))
    obtain ⟨rbW7, cbW7, gbW7, zbW7⟩ := keep_row hB (g := w.heap.size + 1) (by repeat (first | with_reducible assumption | with_reducible apply row_here0 | with_reducible apply row_here1 | with_reducible apply row_here2 | with_reducible apply row_here3 | with_reducible apply rowSkip))
    obtain ⟨rmW7, cmW7, gmW7, zmW7⟩ := keep_row hB (g := w.heap.size + 1 + 1) (by repeat (first | with_reducible assumption | with_reducible apply row_here0 | with_reducible apply row_here1 | with_reducible apply row_here2 | with_reducible apply row_here3 | with_reducible apply rowSkip))
    obtain ⟨rpW7, cpW7, gpW7, zpW7⟩ := keep_row hB (g := W2.heap.size) (by repeat (first | with_reducible assumption | with_reducible apply row_here0 | with_reducible apply row_here1 | with_reducible apply row_here2 | with_reducible apply row_here3 | with_reducible apply rowSkip))
    obtain ⟨rqW7, cqW7, gqW7, zqW7⟩ := keep_row hB (g := W3.heap.size) (by repeat (first | with_reducible assumption | with_reducible apply row_here0 | with_reducible apply row_here1 | with_reducible apply row_here2 | with_reducible apply row_here3 | with_reducible apply rowSkip))
    obtain ⟨rsW7, csW7, gsW7, zsW7⟩ := keep_row hB (g := W6.heap.size) (by repeat (first | with_reducible assumption | with_reducible apply row_here0 | with_reducible apply row_here1 | with_reducible apply row_here2 | with_reducible apply row_here3 | with_reducible apply rowSkip))
    clear hB
    clear raW6 caW6 gaW6 rbW6 cbW6 gbW6 rmW6 cmW6 gmW6 rpW6 cpW6 gpW6 rqW6 cqW6 gqW6
    go_wp2_with fail
    have hW8 : Below w.heap.size w (W7.alloc (.cells #[.int .i64 la.1, .int .i64 la.2] 31)) := by have := zW7; go_grown
    have xW8 : Ext W7 (W7.alloc (.cells #[.int .i64 la.1, .int .i64 la.2] 31)) := ext_alloc _ _
    have olW8 := Lib.hid (olW7.out.ext xW8)
    have llW8 := Lib.hid (llW7.out.ext xW8)
    have cC1W8 := Lib.hid (cC1W7.out.ext xW8)
    have cC2W8 := Lib.hid (cC2W7.out.ext xW8)
    have rpW8 : rowOf (W7.alloc (.cells #[.int .i64 la.1, .int .i64 la.2] 31)) W2.heap.size = some _ := rowSkip rpW7
    have rqW8 : rowOf (W7.alloc (.cells #[.int .i64 la.1, .int .i64 la.2] 31)) W3.heap.size = some _ := rowSkip rqW7
    have rsW8 : rowOf (W7.alloc (.cells #[.int .i64 la.1, .int .i64 la.2] 31)) W6.heap.size = some _ := rowSkip rsW7
    have rtW8 : rowOf (W7.alloc (.cells #[.int .i64 la.1, .int .i64 la.2] 31)) W7.heap.size = some _ := row_here0 _ _ _
    clear olW2 llW2 olW3 llW3 olW4 llW4 olW5 llW5 olW6 llW6 olW7 llW7 cC1W5 cC1W6 cC1W7 cC2W6 cC2W7 xW2 xW3 xW4 xW5 xW6 xW7 xW8 olWA llWA cC1W4 cC2W5
    clear raW7 caW7 gaW7 rbW7 cbW7 gbW7 rmW7 cmW7 gmW7 rpW7 cpW7 gpW7 rqW7 cqW7 gqW7 rsW7 csW7 gsW7
    have zW8 := hW8.size
    generalize hgt : W7.heap.size = gt at *
    generalize (W7.alloc (.cells #[.int .i64 la.1, .int .i64 la.2] 31)) = W8 at *
    go_loopw [85] (fun i wr => ∃ k : Nat, k ≤ n ∧ i = .int .i64 (k : Int) ∧ Hid (Ext W8 wr)) (fun i _ => n - (intOf i).toNat)
    case atStart => exact ⟨0, Nat.zero_le _, rfl, Ext.refl _⟩
    case round =>
      obtain ⟨k, hk, rfl, hE8⟩ := hrel
      by_cases hlt : k < n
      · have hlm : k < ms.length := by have := HN.out; omega
        obtain ⟨g1, o1, e1, m1, l1⟩ := days_at (olW8.out.ext hE8.out) hlm
        obtain ⟨g2, o2, rfl, m2, l2⟩ := days_at (llW8.out.ext hE8.out) hlm
        cases e1
        rw [Nat.zero_add] at m1
        generalize mdS ms k = md at m1 m2
        obtain ⟨c0, c1, c2, c3, c4, c5, c6, c7⟩ := m1
        obtain ⟨d0, d1, d2, d3, d4, d5, d6, d7⟩ := m2
        have hlt' : (k : Int) < (n : Int) := by omega
        go_wp2_with fail
        go_quiet (fail)
        go_wp2
        exact ⟨⟨k + 1, by omega, by go_num, below_drewN hE8.out _⟩, by simp [intOf]; omega⟩
      · obtain rfl : k = n := by omega
        obtain ⟨rpR, cpR, gpR, zpR⟩ := row_facts (hE8.out.row rpW8)
        obtain ⟨rqR, cqR, gqR, zqR⟩ := row_facts (hE8.out.row rqW8)
        have rsR := hE8.out.row rsW8
        have rtR := hE8.out.row rtW8
        have hC1 := Lib.hid (cC1W8.out.ext hE8.out)
        have hC2 := Lib.hid (cC2W8.out.ext hE8.out)
        have hWR := Lib.hid (hW8.trans (Below.mono hE8.out zW8))
        clear rpW8 rqW8 rsW8 rtW8 cC1W8 cC2W8 olW8 llW8 hE8
        go_wp2_with fail
        refine (same_any hC1.out hC2.out hLl).mono ?_
        rintro e W9 ⟨rfl, hB⟩
        obtain ⟨rs9, cs9, gs9, zs9⟩ := keep_row hB rsR
        obtain ⟨rt9, ct9, gt9, zt9⟩ := keep_row hB rtR
        have hW9 : Below w.heap.size w W9 := hWR.out.trans (hB.mono hWR.out.size)
        clear hB
        go_wp2
        go_returns
        exact ⟨rfl, hW9⟩
  · have HN := Lib.hid h100
    have hn100 : ¬ (n : Int) ≤ 100 := by omega
    have hn101 : (100 : Int) < (n : Int) := by omega
    clear h h100 hn
    go_enter Try.func5, Try.ntmps5
    go_wp2
    go_returns
    exact ⟨rfl, by go_grown⟩
end Go.Proofs.Ytafdcbdbllpcnaa
