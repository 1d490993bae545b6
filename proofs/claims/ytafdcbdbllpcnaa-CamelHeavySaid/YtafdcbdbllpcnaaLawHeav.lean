/- What is borne with a load is borne with a lighter one; halves find the greatest. -/
import Derived.Test.YtafdcbdbllpcnaaShapeW
import Derived.Test.YtafdcbdbllpcnaaGreatA
import Derived.Test.YtafdcbdbllpcnaaMtCl
import Derived.Test.YtafdcbdbllpcnaaLeafU
import Derived.Test.YtafdcbdbllpcnaaShapeL
import Derived.Test.YtafdcbdbllpcnaaNarrS
set_option linter.unusedVariables false
set_option linter.unusedSimpArgs false
namespace Go.Proofs.Ytafdcbdbllpcnaa

theorem binGo_said {p : Int → Bool} : ∀ (n : Nat) (lo hi top : Int), 0 ≤ lo → lo ≤ hi → hi ≤ top → hi - lo ≤ n → (∀ x y, 0 ≤ x → x ≤ y → y ≤ top → p y = true → p x = true) → p lo = true → (hi < top → p (hi + 1) = false) →
    0 ≤ binGo p n lo hi ∧ binGo p n lo hi ≤ top ∧ p (binGo p n lo hi) = true ∧ (binGo p n lo hi < top → p (binGo p n lo hi + 1) = false)
  | 0, lo, hi, top, h0, h1, h2, h3, _, h5, h6 => by
    have e : lo = hi := by omega
    subst e
    exact ⟨h0, h2, h5, h6⟩
  | n + 1, lo, hi, top, h0, h1, h2, h3, h4, h5, h6 => by
    by_cases hlt : lo < hi
    · obtain ⟨m, hm⟩ : ∃ m, m = (lo + hi + 1) / 2 := ⟨_, rfl⟩
      have m1 : lo < m := by omega
      have m2 : m ≤ hi := by omega
      cases hp : p m with
      | true =>
        rw [binGo_yes hlt hm hp]
        exact binGo_said n m hi top (by omega) m2 h2 (by omega) h4 hp h6
      | false =>
        rw [binGo_no hlt hm hp]
        exact binGo_said n lo (m - 1) top h0 (by omega) (by omega) (by omega) h4 h5 (fun _ => by rw [Int.sub_add_cancel]; exact hp)
    · rw [binGo_end hlt]
      have e : lo = hi := by omega
      subst e
      exact ⟨h0, h2, h5, h6⟩

/-- An animal that is no worse at the ends that count. -/
structure Btr (c d : Cm) : Prop where
  water : c.water.1 ≤ d.water.1
  fat : c.fat.1 ≤ d.fat.1
  sore : d.sore.2 ≤ c.sore.2
  milks : d.milks = c.milks
section
variable {b : Br} {c d : Cm} {m : Mr} {x y : Int}
theorem ldM_bd (hm : BdM m) (h0 : 0 ≤ x) (h1 : x ≤ 1000000) : BdM (ldM x m) := ⟨hm.hours, ⟨h0, h1⟩, hm.heat, hm.grass, hm.drinks⟩
theorem ldM_hi (h : x ≤ y) : Hi b b (ldM x m) (ldM y m) := ⟨Int.le_refl _, Int.le_refl _, Int.le_refl _, Int.le_refl _, Int.le_refl _, Int.le_refl _, Int.le_refl _, h, Int.le_refl _⟩
theorem Btr.eve (h : Btr c d) (hb : BdB b) (hm : BdM (ldM x m)) (hxy : x ≤ y) : Btr (eveC b c (ldM y m)) (eveC b d (ldM x m)) := by
  refine ⟨?_, ?_, ?_, h.milks⟩
  · show (refS b.full c.water (waS b c.milks (ldM y m)) m.drinks).1 ≤ (refS b.full d.water (waS b d.milks (ldM x m)) m.drinks).1
    rw [h.milks]
    exact refS_lo h.water (waS_hi hb hm (ldM_hi hxy) _) (Int.le_refl _)
  · exact refS_lo h.fat (faS_hi hb hm (ldM_hi hxy)) (Int.le_refl _)
  · exact soreS_hi h.sore (soS_hi hb hm (ldM_hi hxy)) rfl
theorem Btr.opens (h : Btr c d) (hb : BdB b) (hm : BdM (ldM x m)) (hxy : x ≤ y) (ho : openS b d (ldM x m) = true) : openS b c (ldM y m) = true := by
  have h1 := waS_hi hb hm (ldM_hi (b := b) (m := m) hxy) c.milks
  have h2 := faS_hi hb hm (ldM_hi (b := b) (m := m) hxy)
  have h3 := h.water
  have h4 := h.fat
  simp only [openS, Bool.or_eq_true, decide_eq_true_eq, h.milks] at *
  omega
theorem open_dies (hb : BdB b) (hc : BdC b c) (hm : BdM m) (h : diesS b c m = true) : openS b c m = true := by
  have h1 := waS_bd c.milks hb hm
  have h2 := faS_bd hb hm
  have h3 := hc.water
  have h4 := hc.fat
  simp only [diesS, openS, Bool.or_eq_true, decide_eq_true_eq] at *
  omega
theorem fate0 (hb : BdB b) (hc : BdC b c) (hm : BdM m) : fateS b c m = 0 ↔ openS b c m = false := by
  unfold fateS
  cases ho : openS b c m with
  | true => split <;> simp
  | false =>
    cases hd : diesS b c m with
    | true => rw [open_dies hb hc hm hd] at ho; cases ho
    | false => simp
theorem Btr.car (h : Btr c d) (hb : BdB b) (hc : BdC b c) : (carS b c).1 ≤ (carS b d).1 := by
  have w1 := h.water; have f1 := h.fat; have s1 := h.sore
  have k1 := hb.full; have k2 := hb.fed
  obtain ⟨g1, -, -, -⟩ := fitS_bd hb hc
  have q1 : 2000 * c.water.1 / b.full ≤ 2000 * d.water.1 / b.full := Int.ediv_le_ediv (by omega) (by omega)
  have q2 : 2000 * c.fat.1 / b.fed ≤ 2000 * d.fat.1 / b.fed := Int.ediv_le_ediv (by omega) (by omega)
  have hf : (fitS b c).1 ≤ (fitS b d).1 := by
    simp only [fitS, mn_min]
    omega
  exact Int.ediv_le_ediv (by omega) (mul_mono hb.strong.1 (Int.le_refl _) g1 hf)
end

section
variable {b : Br} {c : Cm} {ms : List Mr} {x y : Int}
theorem morn_btr (hb : BdB b) (h : ms.all okM = true) (h0 : 0 ≤ x) (hxy : x ≤ y) (hy : y ≤ 1000000) : ∀ k, k ≤ ms.length → Btr (mornC b c (ldS y ms) k) (mornC b c (ldS x ms) k)
  | 0, _ => ⟨Int.le_refl _, Int.le_refl _, Int.le_refl _, rfl⟩
  | k + 1, hk => by
    have hm := okM_bd (mdS_ok h (show k < ms.length by omega))
    have ih := morn_btr hb h h0 hxy hy k (by omega)
    simp only [mornC]
    rw [mdS_ld (by omega), mdS_ld (by omega)]
    exact ih.eve hb (ldM_bd hm h0 (by omega)) hxy
theorem okDay_mono (hb : BdB b) (hc : BdC b c) (h : ms.all okM = true) (h0 : 0 ≤ x) (hxy : x ≤ y) (hy : y ≤ 1000000) {k : Nat} (hk : k < ms.length) (ho : okDay b c (ldS y ms) y k = true) : okDay b c (ldS x ms) x k = true := by
  have hm := okM_bd (mdS_ok h hk)
  have hB := morn_btr (c := c) hb h h0 hxy hy k (by omega)
  have hcx := mornC_bd hb hc (ldS_ok h h0 (by omega)) k (by rw [ldS_len]; omega)
  have hcy := mornC_bd hb hc (ldS_ok h (by omega) hy) k (by rw [ldS_len]; omega)
  have hmx := ldM_bd hm h0 (show x ≤ 1000000 by omega)
  have hmy := ldM_bd hm (show 0 ≤ y by omega) hy
  unfold okDay fatK at ho ⊢
  rw [mdS_ld hk] at ho ⊢
  simp only [Bool.and_eq_true, Bool.or_eq_true, decide_eq_true_eq] at ho ⊢
  obtain ⟨h1, h2⟩ := ho
  refine ⟨?_, ?_⟩
  · rw [fate0 hb hcy hmy] at h1
    rw [fate0 hb hcx hmx]
    cases hq : openS b (mornC b c (ldS x ms) k) (ldM x (mdS ms k)) with
    | false => rfl
    | true => rw [hB.opens hb hmx hxy hq] at h1; cases h1
  · rcases h2 with h2 | h2
    · exact .inl h2
    · exact .inr (by have := hB.car hb hcy; omega)
theorem bearS_mono (hb : BdB b) (hc : BdC b c) (h : ms.all okM = true) (h0 : 0 ≤ x) (hxy : x ≤ y) (hy : y ≤ 1000000) (ho : bearS b c ms y = true) : bearS b c ms x = true := by
  unfold bearS at ho
  rw [List.all_eq_true] at ho
  exact bearS_yes fun k hk => okDay_mono hb hc h h0 hxy hy hk (ho k (List.mem_range.2 hk))
/-- What is said of the heaviest load. -/
theorem heavy_said {n e : Int} (h : chkC b c = 0) (hl : ms.length ≤ 60) (hm : ms.all okM = true) (hr : heaS b c ms (chkT b c ms) = (n, e)) :
    (e = 13 ∧ n = 0 ∧ bearS b c ms 0 = false) ∨ (e = 0 ∧ 0 ≤ n ∧ n ≤ 1000000 ∧ bearS b c ms n = true ∧ (n < 1000000 → ∀ y, n < y → y ≤ 1000000 → bearS b c ms y = false)) := by
  obtain ⟨hb, hc⟩ := chkC_ok h
  have ht : chkT b c ms = 0 := by
    unfold chkT
    rw [if_pos h, if_neg (by omega), if_pos hm]
  rw [ht, heaS, if_pos rfl] at hr
  by_cases h0 : bearS b c ms 0 = true
  · rw [if_pos h0] at hr
    injection hr with hn he
    subst he
    obtain ⟨a1, a2, a3, a4⟩ := binGo_said (p := bearS b c ms) 1000000 0 1000000 1000000 (by omega) (by omega) (by omega) (by omega) (fun x y hx hxy hy hp => bearS_mono hb hc hm hx hxy hy hp) h0 (by omega)
    rw [hn] at a1 a2 a3 a4
    refine .inr ⟨rfl, a1, a2, a3, fun hlt y hy1 hy2 => ?_⟩
    cases hp : bearS b c ms y with
    | false => rfl
    | true =>
      have := bearS_mono hb hc hm (show 0 ≤ n + 1 by omega) (show n + 1 ≤ y by omega) hy2 hp
      rw [a4 hlt] at this
      cases this
  · rw [if_neg h0] at hr
    injection hr with hn he
    exact .inl ⟨he.symm, hn.symm, by simpa using h0⟩
end
end Go.Proofs.Ytafdcbdbllpcnaa
/- The closure of the outright property of the heaviest load: whether a load is borne for sure. -/
namespace Go.Proofs.Ytafdcbdbllpcnaa
open Go.RowKit
open Go.Proofs

attribute [local go_sem ↓] exec36l exec36s exec45s exec39s exec39l
attribute [local go_sem] load36 store36 load39 store45 store39 rowOf_alloc rowOf_drew setRow_alloc one_int one_bool

theorem bear_said {b : Br} {c : Cm} {ms : List Mr} {x : Int} {k : Nat} (hb : BdB b) (hc : BdC b c) (hall : ms.all okM = true) (h0 : 0 ≤ x) (h1 : x ≤ 1000000) (hk : k < ms.length) :
    chkC b (mornC b c (ldS x ms) k) = 0 ∧
    ((chkA b (mornC b c (ldS x ms) k) (ldM x (mdS ms k)) = 13 ∧ okDay b c (ldS x ms) x k = false) ∨
     (chkA b (mornC b c (ldS x ms) k) (ldM x (mdS ms k)) = 0 ∧ aftF b (mornC b c (ldS x ms) k) (ldM x (mdS ms k)) = 1 ∧ okDay b c (ldS x ms) x k = false) ∨
     (chkA b (mornC b c (ldS x ms) k) (ldM x (mdS ms k)) = 0 ∧ aftF b (mornC b c (ldS x ms) k) (ldM x (mdS ms k)) = 0 ∧ aftC b (mornC b c (ldS x ms) k) (ldM x (mdS ms k)) = mornC b c (ldS x ms) (k + 1) ∧
       (okDay b c (ldS x ms) x k = true ↔ (0 < (mdS ms k).hours → x ≤ (carR b (mornC b c (ldS x ms) k)).1)))) := by
  have hm := mdS_ok hall hk
  have hcx := mornC_bd hb hc (ldS_ok hall h0 h1) k (by rw [ldS_len]; omega)
  have h2 := chkC_of hb hcx
  have hmx := ldM_ok hm h0 h1
  have e : mdS (ldS x ms) k = ldM x (mdS ms k) := mdS_ld hk
  refine ⟨h2, ?_⟩
  have eh : mornC b c (ldS x ms) (k + 1) = eveC b (mornC b c (ldS x ms) k) (ldM x (mdS ms k)) := by rw [← e]; rfl
  have ef : fatK b c (ldS x ms) k = fateS b (mornC b c (ldS x ms) k) (ldM x (mdS ms k)) := by rw [← e]; rfl
  rw [eh]
  unfold okDay
  rw [ef, e]
  rw [carR, if_pos h2]
  generalize mornC b c (ldS x ms) k = cm at *
  generalize hmd : ldM x (mdS ms k) = md at *
  have ehr : md.hours = (mdS ms k).hours := by rw [← hmd]; rfl
  rw [ehr]
  cases hd : diesS b cm md with
  | true => left; exact ⟨by simp [chkA, h2, hmx, hd], by simp [fateS, hd]⟩
  | false =>
    right
    have e1 : chkA b cm md = 0 := by simp [chkA, h2, hmx, hd]
    cases ho : openS b cm md with
    | true => left; exact ⟨e1, by simp [aftF, e1, ho], by simp [fateS, hd, ho]⟩
    | false =>
      right
      refine ⟨e1, by simp [aftF, e1, ho], by simp [aftC, e1], ?_⟩
      simp only [fateS, hd, ho, Bool.false_eq_true, if_false, decide_true, Bool.true_and, Bool.or_eq_true, decide_eq_true_eq]
      constructor
      · rintro (h | h) h3
        · omega
        · exact h
      · intro h
        by_cases h3 : 0 < (mdS ms k).hours
        · exact .inr (h h3)
        · exact .inl h3

set_option maxRecDepth 100000 in
set_option maxHeartbeats 8000000 in
theorem bearL_any (b : Br) (c : Cm) (a : Option Addr) (cap n : Nat) (ms : List Mr) (x : Int) (r : Bool) (hr : bearS b c ms x = r) (g1 g2 g3 : Nat) (w : World) (r1 : rowOf w g1 = some #[.int .i64 c.water.1, .int .i64 c.water.2, .int .i64 c.fat.1, .int .i64 c.fat.2, .int .i64 c.sore.1, .int .i64 c.sore.2, .bool c.milks]) (r2 : rowOf w g2 = some #[.slice a n cap]) (r3 : rowOf w g3 = some #[.int .i64 b.full, .int .i64 b.fed, .int .i64 b.rest.1, .int .i64 b.rest.2, .int .i64 b.heat.1, .int .i64 b.heat.2, .int .i64 b.toil.1, .int .i64 b.toil.2, .int .i64 b.burn.1, .int .i64 b.burn.2, .int .i64 b.rub.1, .int .i64 b.rub.2, .int .i64 b.milk.1, .int .i64 b.milk.2, .int .i64 b.heal, .int .i64 b.strong.1, .int .i64 b.strong.2])
    (hn : n = ms.length) (h : DaysIn w a cap ms) (h6 : ms.length ≤ 60) (hb : BdB b) (hc : BdC b c) (hall : ms.all okM = true) (hx1 : 0 ≤ x) (hx2 : x ≤ 1000000) :
    Calls Try.prog 51 #[.int .i64 x, .pointer (some ⟨g1, 0, none⟩), .pointer (some ⟨g2, 0, none⟩), .pointer (some ⟨g3, 0, none⟩)] w fun e w' => e = .returned (.bool r) ∧ Below w.heap.size w w' := by
  have HR := Lib.hid hr
  have HN := Lib.hid hn
  have HD := Lib.hid h
  have HB := Lib.hid hb
  have HC := Lib.hid hc
  have HA := Lib.hid hall
  have HX1 := Lib.hid hx1
  have HX2 := Lib.hid hx2
  have hn60 : (n : Int) ≤ 60 := by omega
  obtain ⟨r1E, c1E, g1E, z1E⟩ := row_facts r1
  obtain ⟨r2E, c2E, g2E, z2E⟩ := row_facts r2
  obtain ⟨r3E, c3E, g3E, z3E⟩ := row_facts r3
  clear hr hn h h6 hb hc hall r1 r2 r3 hx1 hx2
  go_enter Try.func51, Try.ntmps51
  go_wp2_with fail
  go_loopw [17] (fun i wr => ∃ k : Nat, k ≤ n ∧ i = .int .i64 (k : Int) ∧ Hid (∀ j, j < k → okDay b c (ldS x ms) x j = true) ∧ Hid (rowOf wr w.heap.size = some #[.int .i64 (mornC b c (ldS x ms) k).water.1, .int .i64 (mornC b c (ldS x ms) k).water.2, .int .i64 (mornC b c (ldS x ms) k).fat.1, .int .i64 (mornC b c (ldS x ms) k).fat.2, .int .i64 (mornC b c (ldS x ms) k).sore.1, .int .i64 (mornC b c (ldS x ms) k).sore.2, .bool (mornC b c (ldS x ms) k).milks]) ∧ Below w.heap.size w wr) (fun i _ => n - (intOf i).toNat)
  case atStart => exact ⟨0, Nat.zero_le _, rfl, fun j hj => absurd hj (by omega), (show rowOf _ _ = some #[.int .i64 c.water.1, .int .i64 c.water.2, .int .i64 c.fat.1, .int .i64 c.fat.2, .int .i64 c.sore.1, .int .i64 c.sore.2, .bool c.milks] from row_here0 _ _ _), by go_grown⟩
  case round =>
    obtain ⟨k, hk, rfl, hal, hr0, hwr⟩ := hrel
    by_cases hlt : k < n
    · have hkm : k < ms.length := by have := HN.out; omega
      obtain ⟨g, off, rfl, hMs, hg⟩ : ∃ g off, a = some ⟨g, off, none⟩ ∧ MarchesAt w g off ms ∧ g < w.heap.size := by
        rcases HD.out with ⟨_, _, h⟩ | h
        · subst h; have : n = 0 := HN.out; omega
        · exact h
      have hm1 := march_below hwr hg (hMs k hkm)
      rw [mdS_get hkm] at hm1
      obtain ⟨m0, m1, m2, m3, m4, m5, m6, m7⟩ := hm1
      have hlt' : (k : Int) < (n : Int) := by omega
      have hsd := bear_said HB.out HC.out HA.out HX1.out HX2.out hkm
      obtain ⟨cm, hcm⟩ : ∃ cm, mornC b c (ldS x ms) k = cm := ⟨_, rfl⟩
      obtain ⟨md, hmd⟩ : ∃ md, mdS ms k = md := ⟨_, rfl⟩
      rw [hcm] at hr0 hsd
      rw [hmd] at hsd m0 m1 m2 m3 m4 m5 m6 m7
      obtain ⟨s, hs⟩ : ∃ s, carR b cm = s := ⟨_, rfl⟩
      obtain ⟨p, hp⟩ : ∃ p, aftC b cm (ldM x md) = p := ⟨_, rfl⟩
      obtain ⟨fp, hfp⟩ : ∃ p, aftF b cm (ldM x md) = p := ⟨_, rfl⟩
      obtain ⟨xp, hxp⟩ : ∃ p, chkA b cm (ldM x md) = p := ⟨_, rfl⟩
      rw [hs, hp, hfp, hxp] at hsd
      have HS := Lib.hid hs
      have HP := Lib.hid hp
      have HFP := Lib.hid hfp
      have HXP := Lib.hid hxp
      have HC0 := Lib.hid hsd.1
      have HSD := Lib.hid hsd.2
      have zwr := hwr.size
      obtain ⟨raR, caR, gaR, zaR⟩ := row_facts hr0.out
      obtain ⟨r1R, c1R, g1R, z1R⟩ := keep_row hwr r1E
      obtain ⟨r2R, c2R, g2R, z2R⟩ := keep_row hwr r2E
      obtain ⟨r3R, c3R, g3R, z3R⟩ := keep_row hwr r3E
      clear hsd hs hp hfp hxp hcm hmd hMs r1E c1E g1E r2E c2E g2E r3E c3E g3E hr0
      have rdwr : True := trivial
      have rtwr := r3R
      have rawr := raR
      go_wp2_with fail
      refine (Carries_x b cm s 0 HS.out HC0.out _).mono ?_
      rintro e W1 ⟨rfl, hB⟩
      have hW1 : Below w.heap.size w W1 := hwr.trans (Below.trans (by have := hwr.size; go_grown) (hB.mono (by have := hwr.size; simp; try omega)))
      have zW1 := hW1.size
      obtain ⟨rdW1, cdW1, gdW1, zdW1⟩ := keep_row hB (g := wr.heap.size) (by repeat (first | with_reducible assumption | with_reducible apply row_here0 | with_reducible apply row_here1 | with_reducible apply row_here2 | with_reducible apply row_here3 | with_reducible apply rowSkip))
      obtain ⟨raW1, caW1, gaW1, zaW1⟩ := keep_row hB (g := w.heap.size) (by repeat (first | with_reducible assumption | with_reducible apply row_here0 | with_reducible apply row_here1 | with_reducible apply row_here2 | with_reducible apply row_here3 | with_reducible apply rowSkip))
      obtain ⟨rtW1, ctW1, gtW1, ztW1⟩ := keep_row hB (g := g3) (by repeat (first | with_reducible assumption | with_reducible apply row_here0 | with_reducible apply row_here1 | with_reducible apply row_here2 | with_reducible apply row_here3 | with_reducible apply rowSkip))
      clear hB
      clear raR caR gaR zaR r1R c1R g1R z1R r2R c2R g2R z2R r3R c3R g3R z3R m0 m1 m2 m3 m4 m5 m6 m7 rtwr rawr rdwr
      go_wp2_with fail
      refine (After_x b cm (ldM x md) p fp xp HP.out HFP.out HXP.out _).mono ?_
      rintro e W2 ⟨rfl, hB⟩
      have hW2 : Below w.heap.size w W2 := hW1.trans (Below.trans (by have := hW1.size; go_grown) (hB.mono (by have := hW1.size; simp; try omega)))
      have zW2 := hW2.size
      obtain ⟨rdW2, cdW2, gdW2, zdW2⟩ := keep_row hB (g := wr.heap.size) (by repeat (first | with_reducible assumption | with_reducible apply row_here0 | with_reducible apply row_here1 | with_reducible apply row_here2 | with_reducible apply row_here3 | with_reducible apply rowSkip))
      obtain ⟨raW2, caW2, gaW2, zaW2⟩ := keep_row hB (g := w.heap.size) (by repeat (first | with_reducible assumption | with_reducible apply row_here0 | with_reducible apply row_here1 | with_reducible apply row_here2 | with_reducible apply row_here3 | with_reducible apply rowSkip))
      obtain ⟨rtW2, ctW2, gtW2, ztW2⟩ := keep_row hB (g := g3) (by repeat (first | with_reducible assumption | with_reducible apply row_here0 | with_reducible apply row_here1 | with_reducible apply row_here2 | with_reducible apply row_here3 | with_reducible apply rowSkip))
      obtain ⟨rsW2, csW2, gsW2, zsW2⟩ := keep_row hB (g := W1.heap.size) (by repeat (first | with_reducible assumption | with_reducible apply row_here0 | with_reducible apply row_here1 | with_reducible apply row_here2 | with_reducible apply row_here3 | with_reducible apply rowSkip))
      clear hB
      clear hW1 zW1 rdW1 cdW1 gdW1 zdW1 raW1 caW1 gaW1 zaW1 rtW1 ctW1 gtW1 ztW1
      rcases HSD.out with ⟨h1, ho⟩ | ⟨h1, h2, ho⟩ | ⟨h1, h2, h3, ho⟩
      · obtain rfl : false = r := (bearS_no hkm ho).symm.trans HR.out
        subst h1
        clear HP HFP HXP HSD
        go_wp2
        go_returns
        exact ⟨rfl, by go_grown⟩
      · obtain rfl : false = r := (bearS_no hkm ho).symm.trans HR.out
        subst h1 h2
        clear HP HFP HXP HSD
        go_wp2
        go_returns
        exact ⟨rfl, by go_grown⟩
      · subst h1 h2
        have HH3 := Lib.hid h3
        clear h3 HP HFP HXP HSD
        by_cases hh : 0 < md.hours
        · by_cases hx : s.1 < x
          · have hno : okDay b c (ldS x ms) x k = false := by
              cases hq : okDay b c (ldS x ms) x k with
              | false => rfl
              | true => have := ho.1 hq hh; omega
            obtain rfl : false = r := (bearS_no hkm hno).symm.trans HR.out
            clear ho hno
            go_wp2
            go_returns
            exact ⟨rfl, by go_grown⟩
          · have hx2 : x ≤ s.1 := by omega
            have HOK := Lib.hid (ho.2 (fun _ => hx2))
            clear ho
            go_wp2_with fail
            have s8 := stored_setRow raW2 #[.int .i64 p.water.1, .int .i64 p.water.2, .int .i64 p.fat.1, .int .i64 p.fat.2, .int .i64 p.sore.1, .int .i64 p.sore.2, .bool p.milks]
            have hz8 := s8.below w.heap.size (Nat.le_refl _)
            refine ⟨⟨k + 1, hlt, by go_num, fun j hj => ?_, ?_, (hW2.trans hz8).alloc (by simp; omega) _⟩, by simp [intOf]; omega⟩
            · rcases Nat.lt_or_ge j k with h | h
              · exact hal.out j h
              · obtain rfl : j = k := by omega
                exact HOK.out
            · rw [← HH3.out]; exact rowSkip s8.row
        · have hh2 : md.hours ≤ 0 := by omega
          have HOK := Lib.hid (ho.2 (fun h => absurd h hh))
          clear ho
          go_wp2_with fail
          have s8 := stored_setRow raW2 #[.int .i64 p.water.1, .int .i64 p.water.2, .int .i64 p.fat.1, .int .i64 p.fat.2, .int .i64 p.sore.1, .int .i64 p.sore.2, .bool p.milks]
          have hz8 := s8.below w.heap.size (Nat.le_refl _)
          refine ⟨⟨k + 1, hlt, by go_num, fun j hj => ?_, ?_, (hW2.trans hz8).alloc (by simp; omega) _⟩, by simp [intOf]; omega⟩
          · rcases Nat.lt_or_ge j k with h | h
            · exact hal.out j h
            · obtain rfl : j = k := by omega
              exact HOK.out
          · rw [← HH3.out]; exact rowSkip s8.row
    · obtain rfl : k = n := by omega
      have hr : bearS b c ms x = true := bearS_yes fun j hj => hal.out j (by have := HN.out; omega)
      obtain rfl : true = r := hr.symm.trans HR.out
      go_wp2
      go_returns
      exact ⟨rfl, hwr⟩
end Go.Proofs.Ytafdcbdbllpcnaa
/- The walk of the outright property of the heaviest load. -/
namespace Go.Proofs.Ytafdcbdbllpcnaa
open Go.RowKit
open Go.Proofs

attribute [local go_sem ↓] exec36l exec36s exec39s exec39l
attribute [local go_sem] load36 store36 load39 store39 rowOf_alloc rowOf_drew setRow_alloc one_int one_bool

theorem Heaviest_x (b : Br) (c : Cm) (a : Option Addr) (cap n : Nat) (ms : List Mr) (r e : Int) (hr : heaS b c ms (chkT b c ms) = (r, e)) (w : World) (hn : n = ms.length) (h : DaysIn w a cap ms) (hl : ms.length ≤ 100000) :
    Calls Try.prog 21 #[.agg #[.int .i64 b.full, .int .i64 b.fed, .int .i64 b.rest.1, .int .i64 b.rest.2, .int .i64 b.heat.1, .int .i64 b.heat.2, .int .i64 b.toil.1, .int .i64 b.toil.2, .int .i64 b.burn.1, .int .i64 b.burn.2, .int .i64 b.rub.1, .int .i64 b.rub.2, .int .i64 b.milk.1, .int .i64 b.milk.2, .int .i64 b.heal, .int .i64 b.strong.1, .int .i64 b.strong.2], .agg #[.int .i64 c.water.1, .int .i64 c.water.2, .int .i64 c.fat.1, .int .i64 c.fat.2, .int .i64 c.sore.1, .int .i64 c.sore.2, .bool c.milks], .slice a n cap] w fun e' w' => e' = .returned (.tuple #[.int .i64 r, .int .i64 e]) ∧ Below w.heap.size w w' :=
  Heaviest_any b c a cap n ms (r, e) hr w hn h hl
theorem rdyS_parts {b : Br} {c : Cm} {ms : List Mr} (h : rdyS b c ms = true) : chkC b c = 0 ∧ ms.length ≤ 60 ∧ ms.all okM = true := by
  simp only [rdyS, Bool.and_eq_true, decide_eq_true_eq] at h
  exact ⟨h.1.1, h.1.2, h.2⟩

set_option maxRecDepth 100000 in
set_option maxHeartbeats 8000000 in
theorem camelHeavy_walk (halive : ∀ W, Calls Try.prog 14 #[] W fun e w' => e = .returned (.bool true) ∧ Below W.heap.size W w') (b : Br) (c : Cm) (a : Option Addr) (cap n : Nat) (ms : List Mr) (more : Int) (w : World) (hn : n = ms.length) (h : DaysIn w a cap ms) (hu : inU more) :
    Calls Try.prog 9 #[.agg #[.int .i64 b.full, .int .i64 b.fed, .int .i64 b.rest.1, .int .i64 b.rest.2, .int .i64 b.heat.1, .int .i64 b.heat.2, .int .i64 b.toil.1, .int .i64 b.toil.2, .int .i64 b.burn.1, .int .i64 b.burn.2, .int .i64 b.rub.1, .int .i64 b.rub.2, .int .i64 b.milk.1, .int .i64 b.milk.2, .int .i64 b.heal, .int .i64 b.strong.1, .int .i64 b.strong.2], .agg #[.int .i64 c.water.1, .int .i64 c.water.2, .int .i64 c.fat.1, .int .i64 c.fat.2, .int .i64 c.sore.1, .int .i64 c.sore.2, .bool c.milks], .slice a n cap, .int .u32 more] w fun e w' => e = .returned (.bool true) ∧ Below w.heap.size w w' := by
  have HAL := Lib.hid halive
  have HN := Lib.hid hn
  have HD := Lib.hid h
  cases hr : rdyS b c ms with
  | false =>
    have HR := Lib.hid hr
    clear halive hn h hu hr
    go_enter Try.func9, Try.ntmps9
    go_wp2_with fail
    refine (HAL.out _).mono ?_
    rintro e W1 ⟨rfl, hB⟩
    have hW1 : Below w.heap.size w W1 := Below.trans (by go_grown) (hB.mono (by simp; try omega))
    have zW1 := hW1.size
    obtain ⟨rbW1, cbW1, gbW1, zbW1⟩ := keep_row hB (g := w.heap.size) (by repeat (first | with_reducible assumption | with_reducible apply row_here0 | with_reducible apply row_here1 | with_reducible apply row_here2 | with_reducible apply row_here3 | with_reducible apply rowSkip))
    obtain ⟨rcW1, ccW1, gcW1, zcW1⟩ := keep_row hB (g := w.heap.size + 1) (by repeat (first | with_reducible assumption | with_reducible apply row_here0 | with_reducible apply row_here1 | with_reducible apply row_here2 | with_reducible apply row_here3 | with_reducible apply rowSkip))
    obtain ⟨rsW1, csW1, gsW1, zsW1⟩ := keep_row hB (g := w.heap.size + 1 + 1) (by repeat (first | with_reducible assumption | with_reducible apply row_here0 | with_reducible apply row_here1 | with_reducible apply row_here2 | with_reducible apply row_here3 | with_reducible apply rowSkip))
    clear hB
    go_wp2_with fail
    refine (ready_any b c a cap n ms _ _ HN.out (HD.out.below hW1 (Nat.le_refl _) zW1) HR.out).mono ?_
    rintro e W2 ⟨rfl, hB⟩
    have hW2 : Below w.heap.size w W2 := hW1.trans (Below.trans (by have := hW1.size; go_grown) (hB.mono (by have := hW1.size; simp; try omega)))
    have zW2 := hW2.size
    obtain ⟨rbW2, cbW2, gbW2, zbW2⟩ := keep_row hB (g := w.heap.size) (by repeat (first | with_reducible assumption | with_reducible apply row_here0 | with_reducible apply row_here1 | with_reducible apply row_here2 | with_reducible apply row_here3 | with_reducible apply rowSkip))
    obtain ⟨rcW2, ccW2, gcW2, zcW2⟩ := keep_row hB (g := w.heap.size + 1) (by repeat (first | with_reducible assumption | with_reducible apply row_here0 | with_reducible apply row_here1 | with_reducible apply row_here2 | with_reducible apply row_here3 | with_reducible apply rowSkip))
    obtain ⟨rsW2, csW2, gsW2, zsW2⟩ := keep_row hB (g := w.heap.size + 1 + 1) (by repeat (first | with_reducible assumption | with_reducible apply row_here0 | with_reducible apply row_here1 | with_reducible apply row_here2 | with_reducible apply row_here3 | with_reducible apply rowSkip))
    clear hB
    go_wp2
    go_returns
    exact ⟨rfl, hW2⟩
  | true =>
    have HR := Lib.hid hr
    obtain ⟨hc0, hl60, hall⟩ := rdyS_parts hr
    have HB := Lib.hid (chkC_ok hc0).1
    have HC := Lib.hid (chkC_ok hc0).2
    have HA := Lib.hid hall
    have hl : ms.length ≤ 100000 := by omega
    obtain ⟨r, e, hre⟩ : ∃ r e, heaS b c ms (chkT b c ms) = (r, e) := ⟨_, _, rfl⟩
    have HRE := Lib.hid hre
    have hsd := heavy_said hc0 hl60 hall hre
    have HSD := Lib.hid hsd
    clear halive hn h hr hc0 hall hre hsd
    go_enter Try.func9, Try.ntmps9
    go_wp2_with fail
    refine (HAL.out _).mono ?_
    rintro e W1 ⟨rfl, hB⟩
    have hW1 : Below w.heap.size w W1 := Below.trans (by go_grown) (hB.mono (by simp; try omega))
    have zW1 := hW1.size
    obtain ⟨rbW1, cbW1, gbW1, zbW1⟩ := keep_row hB (g := w.heap.size) (by repeat (first | with_reducible assumption | with_reducible apply row_here0 | with_reducible apply row_here1 | with_reducible apply row_here2 | with_reducible apply row_here3 | with_reducible apply rowSkip))
    obtain ⟨rcW1, ccW1, gcW1, zcW1⟩ := keep_row hB (g := w.heap.size + 1) (by repeat (first | with_reducible assumption | with_reducible apply row_here0 | with_reducible apply row_here1 | with_reducible apply row_here2 | with_reducible apply row_here3 | with_reducible apply rowSkip))
    obtain ⟨rsW1, csW1, gsW1, zsW1⟩ := keep_row hB (g := w.heap.size + 1 + 1) (by repeat (first | with_reducible assumption | with_reducible apply row_here0 | with_reducible apply row_here1 | with_reducible apply row_here2 | with_reducible apply row_here3 | with_reducible apply rowSkip))
    clear hB
    go_wp2_with fail
    refine (ready_any b c a cap n ms _ _ HN.out (HD.out.below hW1 (Nat.le_refl _) zW1) HR.out).mono ?_
    rintro e W2 ⟨rfl, hB⟩
    have hW2 : Below w.heap.size w W2 := hW1.trans (Below.trans (by have := hW1.size; go_grown) (hB.mono (by have := hW1.size; simp; try omega)))
    have zW2 := hW2.size
    obtain ⟨rbW2, cbW2, gbW2, zbW2⟩ := keep_row hB (g := w.heap.size) (by repeat (first | with_reducible assumption | with_reducible apply row_here0 | with_reducible apply row_here1 | with_reducible apply row_here2 | with_reducible apply row_here3 | with_reducible apply rowSkip))
    obtain ⟨rcW2, ccW2, gcW2, zcW2⟩ := keep_row hB (g := w.heap.size + 1) (by repeat (first | with_reducible assumption | with_reducible apply row_here0 | with_reducible apply row_here1 | with_reducible apply row_here2 | with_reducible apply row_here3 | with_reducible apply rowSkip))
    obtain ⟨rsW2, csW2, gsW2, zsW2⟩ := keep_row hB (g := w.heap.size + 1 + 1) (by repeat (first | with_reducible assumption | with_reducible apply row_here0 | with_reducible apply row_here1 | with_reducible apply row_here2 | with_reducible apply row_here3 | with_reducible apply rowSkip))
    clear hB
    clear hW1 zW1 rbW1 cbW1 gbW1 zbW1 rcW1 ccW1 gcW1 zcW1 rsW1 csW1 gsW1 zsW1
    go_wp2_with fail
    refine (Heaviest_x b c a cap n ms r e HRE.out _ HN.out (HD.out.below hW2 (Nat.le_refl _) zW2) hl).mono ?_
    rintro e W3 ⟨rfl, hB⟩
    have hW3 : Below w.heap.size w W3 := hW2.trans (Below.trans (by have := hW2.size; go_grown) (hB.mono (by have := hW2.size; simp; try omega)))
    have zW3 := hW3.size
    obtain ⟨rbW3, cbW3, gbW3, zbW3⟩ := keep_row hB (g := w.heap.size) (by repeat (first | with_reducible assumption | with_reducible apply row_here0 | with_reducible apply row_here1 | with_reducible apply row_here2 | with_reducible apply row_here3 | with_reducible apply rowSkip))
    obtain ⟨rcW3, ccW3, gcW3, zcW3⟩ := keep_row hB (g := w.heap.size + 1) (by repeat (first | with_reducible assumption | with_reducible apply row_here0 | with_reducible apply row_here1 | with_reducible apply row_here2 | with_reducible apply row_here3 | with_reducible apply rowSkip))
    obtain ⟨rsW3, csW3, gsW3, zsW3⟩ := keep_row hB (g := w.heap.size + 1 + 1) (by repeat (first | with_reducible assumption | with_reducible apply row_here0 | with_reducible apply row_here1 | with_reducible apply row_here2 | with_reducible apply row_here3 | with_reducible apply rowSkip))
    clear hB
    clear hW2 zW2 rbW2 cbW2 gbW2 zbW2 rcW2 ccW2 gcW2 zcW2 rsW2 csW2 gsW2 zsW2
    have HK : Hid (∀ (x : Int) (y : Bool) (W : World), bearS b c ms x = y → Below W3.heap.size W3 W → W3.heap.size ≤ W.heap.size → 0 ≤ x → x ≤ 1000000 → Calls Try.prog 51 #[.int .i64 x, .pointer (some ⟨w.heap.size + 1, 0, none⟩), .pointer (some ⟨w.heap.size + 1 + 1, 0, none⟩), .pointer (some ⟨w.heap.size, 0, none⟩)] W fun e w' => e = .returned (.bool y) ∧ Below W.heap.size W w') := by
      intro x y W hxy hB hz h1 h2
      exact bearL_any b c a cap n ms x y hxy _ _ _ W (keep_row hB rcW3).1 (keep_row hB rsW3).1 (keep_row hB rbW3).1 HN.out (HD.out.below (hW3.trans (Below.mono hB zW3)) (Nat.le_refl _) (Nat.le_trans zW3 hz)) hl60 HB.out HC.out HA.out h1 h2
    rcases HSD.out with ⟨rfl, rfl, h0⟩ | ⟨rfl, h1, h2, h3, h4⟩
    · go_wp2_with fail
      refine (HK.out 0 false W3 h0 (Below.refl _ _) (Nat.le_refl _) (by omega) (by omega)).mono ?_
      rintro e W4 ⟨rfl, hB⟩
      have hW4 := hW3.trans (Below.mono hB zW3)
      clear hB HSD HRE
      go_wp2
      go_returns
      exact ⟨rfl, hW4⟩
    · go_wp2_with fail
      refine (HK.out r true W3 h3 (Below.refl _ _) (Nat.le_refl _) h1 h2).mono ?_
      rintro e W4 ⟨rfl, hB⟩
      have hW4 := hW3.trans (Below.mono hB zW3)
      have xW4 : Below W3.heap.size W3 W4 := hB
      have zW4 := hB.size
      clear HSD HRE
      by_cases hr : r = 1000000
      · subst hr
        go_wp2
        go_returns
        exact ⟨rfl, hW4⟩
      · have hlt : r < 1000000 := by omega
        obtain ⟨q, hq⟩ : ∃ q, more % (1000000 - r) = q := ⟨_, rfl⟩
        obtain ⟨u1, u2⟩ := hu
        have b0 := emod_in (by omega) hq
        have t0 := tmod_x u1 hq
        obtain ⟨b1, b2⟩ := b0
        have n1 := Lib.hid (h4 hlt (r + 1) (by omega) (by omega))
        have n2 := Lib.hid (h4 hlt (r + 1 + q) (by omega) (by omega))
        clear h4 hq hB
        go_wp2_with fail
        refine (HK.out (r + 1) false W4 n1.out xW4 zW4 (by omega) (by omega)).mono ?_
        rintro e W5 ⟨rfl, hB⟩
        have hW5 := hW4.trans (Below.mono hB (Nat.le_trans zW3 zW4))
        have xW5 : Below W3.heap.size W3 W5 := xW4.trans (Below.mono hB zW4)
        have zW5 := Nat.le_trans zW4 hB.size
        clear hB
        go_wp2_with fail
        refine (HK.out (r + 1 + q) false W5 n2.out xW5 zW5 (by omega) (by omega)).mono ?_
        rintro e W6 ⟨rfl, hB⟩
        have hW6 := hW5.trans (Below.mono hB (Nat.le_trans zW3 zW5))
        clear hB
        go_wp2
        go_returns
        exact ⟨rfl, hW6⟩
end Go.Proofs.Ytafdcbdbllpcnaa
