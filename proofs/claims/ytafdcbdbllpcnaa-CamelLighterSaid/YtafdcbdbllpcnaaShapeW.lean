/- A day that asks less leaves an animal no worse: what the reckoning keeps of the order. -/
import Derived.Test.YtafdcbdbllpcnaaSpec4
import Derived.Test.YtafdcbdbllpcnaaShapeL
import Derived.Test.YtafdcbdbllpcnaaLawPick
set_option linter.unusedVariables false
set_option linter.unusedSimpArgs false
namespace Go.Proofs.Ytafdcbdbllpcnaa

theorem refS_lo {most : Int} {h h' k k' g g' : Int × Int} (a : h.1 ≤ h'.1) (b : k'.2 ≤ k.2) (c : g.1 ≤ g'.1) : (refS most h k g).1 ≤ (refS most h' k' g').1 := by
  simp only [refS, cl, ad, ls, mn_min, mx_max]; omega
theorem refS_hi {most : Int} {h h' k k' g g' : Int × Int} (a : h.2 ≤ h'.2) (b : k'.1 ≤ k.1) (c : g.2 ≤ g'.2) : (refS most h k g).2 ≤ (refS most h' k' g').2 := by
  simp only [refS, cl, ad, ls, mn_min, mx_max]; omega
theorem mul_mono {a b c d : Int} (h0 : 0 ≤ a) (h1 : a ≤ b) (h2 : 0 ≤ c) (h3 : c ≤ d) : a * c ≤ b * d := Int.mul_le_mul h1 h3 h2 (by omega)
theorem sc_lo {d : Int} {s s' t t' : Int × Int} (hd : 1 ≤ d) (a : 0 ≤ s.1) (b : s.1 ≤ s'.1) (c : 0 ≤ t.1) (e : t.1 ≤ t'.1) : (sc d s t).1 ≤ (sc d s' t').1 :=
  Int.ediv_le_ediv (by omega) (mul_mono a b c e)
theorem sc_hi {d : Int} {s s' t t' : Int × Int} (hd : 1 ≤ d) (a : 0 ≤ s.2) (b : s.2 ≤ s'.2) (c : 0 ≤ t.2) (e : t.2 ≤ t'.2) : (sc d s t).2 ≤ (sc d s' t').2 := by
  have := mul_mono a b c e
  exact Int.ediv_le_ediv (by omega) (by omega)
/-- The day asks at least: b, m at the low ends no more than b', m'. -/
structure Lo (b b' : Br) (m m' : Mr) : Prop where
  rest : b.rest.1 ≤ b'.rest.1
  heat : b.heat.1 ≤ b'.heat.1
  toil : b.toil.1 ≤ b'.toil.1
  burn : b.burn.1 ≤ b'.burn.1
  rub : b.rub.1 ≤ b'.rub.1
  milk : b.milk.1 ≤ b'.milk.1
  hours : m.hours ≤ m'.hours
  load : m.load ≤ m'.load
  warm : m.heat.1 ≤ m'.heat.1
structure Hi (b b' : Br) (m m' : Mr) : Prop where
  rest : b.rest.2 ≤ b'.rest.2
  heat : b.heat.2 ≤ b'.heat.2
  toil : b.toil.2 ≤ b'.toil.2
  burn : b.burn.2 ≤ b'.burn.2
  rub : b.rub.2 ≤ b'.rub.2
  milk : b.milk.2 ≤ b'.milk.2
  hours : m.hours ≤ m'.hours
  load : m.load ≤ m'.load
  warm : m.heat.2 ≤ m'.heat.2
section
variable {b b' : Br} {m m' : Mr}
theorem bu_mono (hm : BdM m) (h1 : m.hours ≤ m'.hours) (h2 : m.load ≤ m'.load) : (buS m).1 ≤ (buS m').1 ∧ (buS m).2 ≤ (buS m').2 := by
  have := mul_mono hm.hours.1 h1 (by have := hm.load.1; omega : 0 ≤ 100000 + m.load) (by omega : 100000 + m.load ≤ 100000 + m'.load)
  exact ⟨this, this⟩
theorem ru_mono (hm : BdM m) (h1 : m.hours ≤ m'.hours) (h2 : m.load ≤ m'.load) : (ruS m).1 ≤ (ruS m').1 ∧ (ruS m).2 ≤ (ruS m').2 := by
  have := mul_mono hm.hours.1 h1 hm.load.1 h2
  exact ⟨this, this⟩
theorem waS_lo (hb : BdB b) (hm : BdM m) (h : Lo b b' m m') (k : Bool) : (waS b k m).1 ≤ (waS b' k m').1 := by
  have h1 : (sc 1 b.heat (hsS m)).1 ≤ (sc 1 b'.heat (hsS m')).1 := sc_lo (by omega) hb.heat.1 h.heat (hsS_bd hm).1 (by have := h.warm; simp only [hsS, mx_max]; omega)
  have h2 : (sc 100000 b.toil (buS m)).1 ≤ (sc 100000 b'.toil (buS m')).1 := sc_lo (by omega) hb.toil.1 h.toil (buS_bd hm).1 (bu_mono hm h.hours h.load).1
  have h3 := h.rest
  have h4 := h.milk
  cases k <;> simp only [waS, wa0S, ad, if_true, if_false, Bool.false_eq_true] <;> omega
theorem waS_hi (hb : BdB b) (hm : BdM m) (h : Hi b b' m m') (k : Bool) : (waS b k m).2 ≤ (waS b' k m').2 := by
  have h1 : (sc 1 b.heat (hsS m)).2 ≤ (sc 1 b'.heat (hsS m')).2 := sc_hi (by omega) (by have := hb.heat; omega) h.heat (hsS_bd hm).2.2.1 (by have := h.warm; simp only [hsS, mx_max]; omega)
  have h2 : (sc 100000 b.toil (buS m)).2 ≤ (sc 100000 b'.toil (buS m')).2 := sc_hi (by omega) (by have := hb.toil; omega) h.toil (buS_bd hm).2.2.1 (bu_mono hm h.hours h.load).2
  have h3 := h.rest
  have h4 := h.milk
  cases k <;> simp only [waS, wa0S, ad, if_true, if_false, Bool.false_eq_true] <;> omega
theorem faS_lo (hb : BdB b) (hm : BdM m) (h : Lo b b' m m') : (faS b m).1 ≤ (faS b' m').1 := sc_lo (by omega) hb.burn.1 h.burn (buS_bd hm).1 (bu_mono hm h.hours h.load).1
theorem faS_hi (hb : BdB b) (hm : BdM m) (h : Hi b b' m m') : (faS b m).2 ≤ (faS b' m').2 := sc_hi (by omega) (by have := hb.burn; omega) h.burn (buS_bd hm).2.2.1 (bu_mono hm h.hours h.load).2
theorem soS_lo (hb : BdB b) (hm : BdM m) (h : Lo b b' m m') : (soS b m).1 ≤ (soS b' m').1 := sc_lo (by omega) hb.rub.1 h.rub (ruS_bd hm).1 (ru_mono hm h.hours h.load).1
theorem soS_hi (hb : BdB b) (hm : BdM m) (h : Hi b b' m m') : (soS b m).2 ≤ (soS b' m').2 := sc_hi (by omega) (by have := hb.rub; omega) h.rub (ruS_bd hm).2.2.1 (ru_mono hm h.hours h.load).2
theorem soreS_lo {c c' : Cm} (h1 : c.sore.1 ≤ c'.sore.1) (h2 : (soS b m).1 ≤ (soS b' m').1) (h3 : healS b m = healS b' m') : (soreS b c m).1 ≤ (soreS b' c' m').1 := by
  simp only [soreS, cl, ad, ls, mn_min, mx_max, h3]; omega
theorem soreS_hi {c c' : Cm} (h1 : c.sore.2 ≤ c'.sore.2) (h2 : (soS b m).2 ≤ (soS b' m').2) (h3 : healS b m = healS b' m') : (soreS b c m).2 ≤ (soreS b' c' m').2 := by
  simp only [soreS, cl, ad, ls, mn_min, mx_max, h3]; omega
end

/-- A lighter day: n asks no more than m, and gives no less. -/
structure Lgt (n m : Mr) : Prop where
  hours : n.hours ≤ m.hours
  none : n.hours = 0 ↔ m.hours = 0
  load : n.load ≤ m.load
  heat : n.heat = m.heat
  grass : m.grass.1 ≤ n.grass.1 ∧ m.grass.2 ≤ n.grass.2
  drinks : m.drinks.1 ≤ n.drinks.1 ∧ m.drinks.2 ≤ n.drinks.2
theorem Lgt.lo {n m : Mr} (h : Lgt n m) (b : Br) : Lo b b n m := ⟨Int.le_refl _, Int.le_refl _, Int.le_refl _, Int.le_refl _, Int.le_refl _, Int.le_refl _, h.hours, h.load, by rw [h.heat]; exact Int.le_refl _⟩
theorem Lgt.hi {n m : Mr} (h : Lgt n m) (b : Br) : Hi b b n m := ⟨Int.le_refl _, Int.le_refl _, Int.le_refl _, Int.le_refl _, Int.le_refl _, Int.le_refl _, h.hours, h.load, by rw [h.heat]; exact Int.le_refl _⟩
theorem Lgt.heal {n m : Mr} (h : Lgt n m) (b : Br) : healS b n = healS b m := by
  unfold healS
  by_cases h0 : m.hours = 0
  · rw [if_pos h0, if_pos (h.none.2 h0)]
  · rw [if_neg h0, if_neg (fun e => h0 (h.none.1 e))]
theorem Lgt.eve {n m : Mr} {b : Br} (hb : BdB b) (hn : BdM n) (h : Lgt n m) (c : Cm) :
    (eveC b c m).water.1 ≤ (eveC b c n).water.1 ∧ (eveC b c m).water.2 ≤ (eveC b c n).water.2 ∧ (eveC b c m).fat.1 ≤ (eveC b c n).fat.1 ∧ (eveC b c m).fat.2 ≤ (eveC b c n).fat.2 ∧ (eveC b c n).sore.1 ≤ (eveC b c m).sore.1 ∧ (eveC b c n).sore.2 ≤ (eveC b c m).sore.2 :=
  ⟨refS_lo (Int.le_refl _) (waS_hi hb hn (h.hi b) _) h.drinks.1, refS_hi (Int.le_refl _) (waS_lo hb hn (h.lo b) _) h.drinks.2,
    refS_lo (Int.le_refl _) (faS_hi hb hn (h.hi b)) h.grass.1, refS_hi (Int.le_refl _) (faS_lo hb hn (h.lo b)) h.grass.2,
    soreS_lo (Int.le_refl _) (soS_lo hb hn (h.lo b)) (h.heal b), soreS_hi (Int.le_refl _) (soS_hi hb hn (h.hi b)) (h.heal b)⟩
theorem Lgt.dies {n m : Mr} {b : Br} (hb : BdB b) (hn : BdM n) (h : Lgt n m) (c : Cm) (hd : diesS b c n = true) : diesS b c m = true := by
  have h1 := waS_lo hb hn (h.lo b) c.milks
  have h2 := faS_lo hb hn (h.lo b)
  simp only [diesS, Bool.or_eq_true, decide_eq_true_eq] at *
  omega
theorem Lgt.opens {n m : Mr} {b : Br} (hb : BdB b) (hn : BdM n) (h : Lgt n m) (c : Cm) (hd : openS b c n = true) : openS b c m = true := by
  have h1 := waS_hi hb hn (h.hi b) c.milks
  have h2 := faS_hi hb hn (h.hi b)
  simp only [openS, Bool.or_eq_true, decide_eq_true_eq] at *
  omega
end Go.Proofs.Ytafdcbdbllpcnaa
/- The shape of the arguments: lists of numbers of 32 bits. -/
namespace Go.Proofs.Ytafdcbdbllpcnaa
open Go.ChangeShapes Go.WideShapes Go.ChangeAt Go.RowKit
open Go.Proofs

set_option maxRecDepth 100000
section
variable {H : Type} {enc : TypeId × Value → H} {W : World} {base : Nat} {spare : Nat → Bool} {held : Bool}

theorem cells91 : Try.prog.cellsOf 91 = 1 := by kernel_rfl
theorem wf_u32 {n : Int} (h : (Lit.int .u32 n).wf = true) : inU n := by
  simp only [Lit.wf, Bool.and_eq_true, decide_eq_true_eq] at h
  have h1 : IntKind.min .u32 = 0 := by decide
  have h2 : IntKind.max .u32 = 4294967295 := by decide
  rw [h1, h2] at h
  unfold inU
  omega
theorem shapeU {w : World} {r : Reach} {b0 : Nat} {v : Value} (h : Value.okWide Try.prog w r b0 91 v) : ∃ n, v = .int .u32 n := by
  simp only [Value.okWide, Try.underlying91] at h
  exact cell_int Try.underlying91 h
theorem shapeU2 {v : Value} {d : DataW H} {ps : List MemPlace} {b0 : Nat} (hv : Value.okWide Try.prog W .any b0 91 v) (h : DataW.Trod enc Try.prog W base (fun _ => true) held 91 v d ps) : ∃ n, v = .int .u32 n ∧ inU n := by
  obtain ⟨n, rfl⟩ := shapeU hv
  obtain ⟨fuel, h⟩ := h
  obtain ⟨m, he, -, hw⟩ := DataW.trod_int Try.underlying91 h
  simp [Value.cells] at he
  subst he
  exact ⟨_, rfl, wf_u32 hw⟩
theorem shapeWords {v : Value} {d : DataW H} {ps : List MemPlace} {b0 : Nat} (hv : Value.okWide Try.prog W .any b0 82 v) (h : DataW.Trod enc Try.prog W base (fun _ => true) held 82 v d ps) : ∃ a cap ms, v = .slice a ms.length cap ∧ WordsIn W a cap ms ∧ ∀ x ∈ ms, inU x := by
  rcases okWide_slice Try.underlying82 hv with rfl | ⟨b, off, len, cap, rfl, hlc, hb⟩
  · exact ⟨none, 0, [], rfl, .inl ⟨rfl, rfl, rfl⟩, by simp⟩
  · obtain ⟨fuel, h⟩ := h
    rcases Go.Deep.open_slice Try.underlying82 h with ⟨h, -⟩ | ⟨a, len', cap', m, n, D, Pl, he, -, -, -, hm, hx, hel⟩
    · simp [Value.cells] at h
    · simp [Value.cells] at he
      obtain ⟨rfl, rfl, rfl⟩ := he
      simp at hm
      subst hm
      obtain ⟨ms, hl, hms⟩ := choose_list len (fun i (m : Int) => W.cell? ⟨b, off + i, none⟩ = some (.int .u32 m) ∧ inU m) (fun i hi => by
        obtain ⟨cs, h1, h2⟩ := hel i (by omega)
        obtain ⟨m, rfl, -, hw⟩ := DataW.trod_int Try.underlying91 h2
        refine ⟨m, ?_, wf_u32 hw⟩
        rw [cells91] at h1
        obtain ⟨-, -, hc⟩ := World.cells?_some h1
        have := hc 0 (by omega)
        rw [add_none, add_none, Nat.mul_one] at this
        exact this)
      refine ⟨some ⟨b, off, none⟩, _, ms, by rw [hl], .inr ⟨b, off, rfl, fun k hk => (hms k hk).1, hb⟩, fun x hx => ?_⟩
      obtain ⟨k, hk, rfl⟩ := List.mem_iff_getElem.1 hx
      exact (hms k hk).2
end
end Go.Proofs.Ytafdcbdbllpcnaa
