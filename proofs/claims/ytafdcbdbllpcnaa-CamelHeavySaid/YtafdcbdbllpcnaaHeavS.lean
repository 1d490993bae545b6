/- The shape of the arguments: lists of numbers of 32 bits. -/
import Derived.Test.YtafdcbdbllpcnaaIter
import Derived.Test.YtafdcbdbllpcnaaLawPick
import Derived.Test.YtafdcbdbllpcnaaSpec4
import Derived.Test.YtafdcbdbllpcnaaDayT
import Derived.Test.YtafdcbdbllpcnaaSpec3
namespace Go.Proofs.Ytafdcbdbllpcnaa
open Go.ChangeShapes Go.WideShapes Go.ChangeAt Go.RowKit
open Go.Proofs

set_option maxRecDepth 100000
section
variable {H : Type} {enc : TypeId × Value → H} {W : World} {base : Nat} {spare : Nat → Bool} {held : Bool}

theorem cells91 : Try.prog.cellsOf 91 = 1 := by kernel_rfl
theorem wf_u32 {n : Int} (h : (Lit.int .u32 n).wf = true) : inU n := by
  simp only [Lit.wf, Bool.and_eq_true, decide_eq_true_eq] at h
  have h1 : IntKind.min .u32 = 0 := by decide
  have h2 : IntKind.max .u32 = 4294967295 := by decide
  rw [h1, h2] at h
  unfold inU
  omega
theorem shapeU {w : World} {r : Reach} {b0 : Nat} {v : Value} (h : Value.okWide Try.prog w r b0 91 v) : ∃ n, v = .int .u32 n := by
  simp only [Value.okWide, Try.underlying91] at h
  exact cell_int Try.underlying91 h
theorem shapeU2 {v : Value} {d : DataW H} {ps : List MemPlace} {b0 : Nat} (hv : Value.okWide Try.prog W .any b0 91 v) (h : DataW.Trod enc Try.prog W base (fun _ => true) held 91 v d ps) : ∃ n, v = .int .u32 n ∧ inU n := by
  obtain ⟨n, rfl⟩ := shapeU hv
  obtain ⟨fuel, h⟩ := h
  obtain ⟨m, he, -, hw⟩ := DataW.trod_int Try.underlying91 h
  simp [Value.cells] at he
  subst he
  exact ⟨_, rfl, wf_u32 hw⟩
theorem shapeWords {v : Value} {d : DataW H} {ps : List MemPlace} {b0 : Nat} (hv : Value.okWide Try.prog W .any b0 82 v) (h : DataW.Trod enc Try.prog W base (fun _ => true) held 82 v d ps) : ∃ a cap ms, v = .slice a ms.length cap ∧ WordsIn W a cap ms ∧ ∀ x ∈ ms, inU x := by
  rcases okWide_slice Try.underlying82 hv with rfl | ⟨b, off, len, cap, rfl, hlc, hb⟩
  · exact ⟨none, 0, [], rfl, .inl ⟨rfl, rfl, rfl⟩, by simp⟩
  · obtain ⟨fuel, h⟩ := h
    rcases Go.Deep.open_slice Try.underlying82 h with ⟨h, -⟩ | ⟨a, len', cap', m, n, D, Pl, he, -, -, -, hm, hx, hel⟩
    · simp [Value.cells] at h
    · simp [Value.cells] at he
      obtain ⟨rfl, rfl, rfl⟩ := he
      simp at hm
      subst hm
      obtain ⟨ms, hl, hms⟩ := choose_list len (fun i (m : Int) => W.cell? ⟨b, off + i, none⟩ = some (.int .u32 m) ∧ inU m) (fun i hi => by
        obtain ⟨cs, h1, h2⟩ := hel i (by omega)
        obtain ⟨m, rfl, -, hw⟩ := DataW.trod_int Try.underlying91 h2
        refine ⟨m, ?_, wf_u32 hw⟩
        rw [cells91] at h1
        obtain ⟨-, -, hc⟩ := World.cells?_some h1
        have := hc 0 (by omega)
        rw [add_none, add_none, Nat.mul_one] at this
        exact this)
      refine ⟨some ⟨b, off, none⟩, _, ms, by rw [hl], .inr ⟨b, off, rfl, fun k hk => (hms k hk).1, hb⟩, fun x hx => ?_⟩
      obtain ⟨k, hk, rfl⟩ := List.mem_iff_getElem.1 hx
      exact (hms k hk).2
end
end Go.Proofs.Ytafdcbdbllpcnaa
/- A day that asks less leaves an animal no worse: what the reckoning keeps of the order. -/
namespace Go.Proofs.Ytafdcbdbllpcnaa

theorem refS_lo {most : Int} {h h' k k' g g' : Int × Int} (a : h.1 ≤ h'.1) (b : k'.2 ≤ k.2) (c : g.1 ≤ g'.1) : (refS most h k g).1 ≤ (refS most h' k' g').1 := by
  simp only [refS, cl, ad, ls, mn_min, mx_max]; omega
theorem refS_hi {most : Int} {h h' k k' g g' : Int × Int} (a : h.2 ≤ h'.2) (b : k'.1 ≤ k.1) (c : g.2 ≤ g'.2) : (refS most h k g).2 ≤ (refS most h' k' g').2 := by
  simp only [refS, cl, ad, ls, mn_min, mx_max]; omega
theorem mul_mono {a b c d : Int} (h0 : 0 ≤ a) (h1 : a ≤ b) (h2 : 0 ≤ c) (h3 : c ≤ d) : a * c ≤ b * d := Int.mul_le_mul h1 h3 h2 (by omega)
theorem sc_lo {d : Int} {s s' t t' : Int × Int} (hd : 1 ≤ d) (a : 0 ≤ s.1) (b : s.1 ≤ s'.1) (c : 0 ≤ t.1) (e : t.1 ≤ t'.1) : (sc d s t).1 ≤ (sc d s' t').1 :=
  Int.ediv_le_ediv (by omega) (mul_mono a b c e)
theorem sc_hi {d : Int} {s s' t t' : Int × Int} (hd : 1 ≤ d) (a : 0 ≤ s.2) (b : s.2 ≤ s'.2) (c : 0 ≤ t.2) (e : t.2 ≤ t'.2) : (sc d s t).2 ≤ (sc d s' t').2 := by
  have := mul_mono a b c e
  exact Int.ediv_le_ediv (by omega) (by omega)
/-- The day asks at least: b, m at the low ends no more than b', m'. -/
structure Lo (b b' : Br) (m m' : Mr) : Prop where
  rest : b.rest.1 ≤ b'.rest.1
  heat : b.heat.1 ≤ b'.heat.1
  toil : b.toil.1 ≤ b'.toil.1
  burn : b.burn.1 ≤ b'.burn.1
  rub : b.rub.1 ≤ b'.rub.1
  milk : b.milk.1 ≤ b'.milk.1
  hours : m.hours ≤ m'.hours
  load : m.load ≤ m'.load
  warm : m.heat.1 ≤ m'.heat.1
structure Hi (b b' : Br) (m m' : Mr) : Prop where
  rest : b.rest.2 ≤ b'.rest.2
  heat : b.heat.2 ≤ b'.heat.2
  toil : b.toil.2 ≤ b'.toil.2
  burn : b.burn.2 ≤ b'.burn.2
  rub : b.rub.2 ≤ b'.rub.2
  milk : b.milk.2 ≤ b'.milk.2
  hours : m.hours ≤ m'.hours
  load : m.load ≤ m'.load
  warm : m.heat.2 ≤ m'.heat.2
section
variable {b b' : Br} {m m' : Mr}
theorem bu_mono (hm : BdM m) (h1 : m.hours ≤ m'.hours) (h2 : m.load ≤ m'.load) : (buS m).1 ≤ (buS m').1 ∧ (buS m).2 ≤ (buS m').2 := by
  have := mul_mono hm.hours.1 h1 (by have := hm.load.1; omega : 0 ≤ 100000 + m.load) (by omega : 100000 + m.load ≤ 100000 + m'.load)
  exact ⟨this, this⟩
theorem ru_mono (hm : BdM m) (h1 : m.hours ≤ m'.hours) (h2 : m.load ≤ m'.load) : (ruS m).1 ≤ (ruS m').1 ∧ (ruS m).2 ≤ (ruS m').2 := by
  have := mul_mono hm.hours.1 h1 hm.load.1 h2
  exact ⟨this, this⟩
theorem waS_lo (hb : BdB b) (hm : BdM m) (h : Lo b b' m m') (k : Bool) : (waS b k m).1 ≤ (waS b' k m').1 := by
  have h1 : (sc 1 b.heat (hsS m)).1 ≤ (sc 1 b'.heat (hsS m')).1 := sc_lo (by omega) hb.heat.1 h.heat (hsS_bd hm).1 (by have := h.warm; simp only [hsS, mx_max]; omega)
  have h2 : (sc 100000 b.toil (buS m)).1 ≤ (sc 100000 b'.toil (buS m')).1 := sc_lo (by omega) hb.toil.1 h.toil (buS_bd hm).1 (bu_mono hm h.hours h.load).1
  have h3 := h.rest
  have h4 := h.milk
  cases k <;> simp only [waS, wa0S, ad, if_true, if_false, Bool.false_eq_true] <;> omega
theorem waS_hi (hb : BdB b) (hm : BdM m) (h : Hi b b' m m') (k : Bool) : (waS b k m).2 ≤ (waS b' k m').2 := by
  have h1 : (sc 1 b.heat (hsS m)).2 ≤ (sc 1 b'.heat (hsS m')).2 := sc_hi (by omega) (by have := hb.heat; omega) h.heat (hsS_bd hm).2.2.1 (by have := h.warm; simp only [hsS, mx_max]; omega)
  have h2 : (sc 100000 b.toil (buS m)).2 ≤ (sc 100000 b'.toil (buS m')).2 := sc_hi (by omega) (by have := hb.toil; omega) h.toil (buS_bd hm).2.2.1 (bu_mono hm h.hours h.load).2
  have h3 := h.rest
  have h4 := h.milk
  cases k <;> simp only [waS, wa0S, ad, if_true, if_false, Bool.false_eq_true] <;> omega
theorem faS_lo (hb : BdB b) (hm : BdM m) (h : Lo b b' m m') : (faS b m).1 ≤ (faS b' m').1 := sc_lo (by omega) hb.burn.1 h.burn (buS_bd hm).1 (bu_mono hm h.hours h.load).1
theorem faS_hi (hb : BdB b) (hm : BdM m) (h : Hi b b' m m') : (faS b m).2 ≤ (faS b' m').2 := sc_hi (by omega) (by have := hb.burn; omega) h.burn (buS_bd hm).2.2.1 (bu_mono hm h.hours h.load).2
theorem soS_lo (hb : BdB b) (hm : BdM m) (h : Lo b b' m m') : (soS b m).1 ≤ (soS b' m').1 := sc_lo (by omega) hb.rub.1 h.rub (ruS_bd hm).1 (ru_mono hm h.hours h.load).1
theorem soS_hi (hb : BdB b) (hm : BdM m) (h : Hi b b' m m') : (soS b m).2 ≤ (soS b' m').2 := sc_hi (by omega) (by have := hb.rub; omega) h.rub (ruS_bd hm).2.2.1 (ru_mono hm h.hours h.load).2
theorem soreS_lo {c c' : Cm} (h1 : c.sore.1 ≤ c'.sore.1) (h2 : (soS b m).1 ≤ (soS b' m').1) (h3 : healS b m = healS b' m') : (soreS b c m).1 ≤ (soreS b' c' m').1 := by
  simp only [soreS, cl, ad, ls, mn_min, mx_max, h3]; omega
theorem soreS_hi {c c' : Cm} (h1 : c.sore.2 ≤ c'.sore.2) (h2 : (soS b m).2 ≤ (soS b' m').2) (h3 : healS b m = healS b' m') : (soreS b c m).2 ≤ (soreS b' c' m').2 := by
  simp only [soreS, cl, ad, ls, mn_min, mx_max, h3]; omega
end

/-- A lighter day: n asks no more than m, and gives no less. -/
structure Lgt (n m : Mr) : Prop where
  hours : n.hours ≤ m.hours
  none : n.hours = 0 ↔ m.hours = 0
  load : n.load ≤ m.load
  heat : n.heat = m.heat
  grass : m.grass.1 ≤ n.grass.1 ∧ m.grass.2 ≤ n.grass.2
  drinks : m.drinks.1 ≤ n.drinks.1 ∧ m.drinks.2 ≤ n.drinks.2
theorem Lgt.lo {n m : Mr} (h : Lgt n m) (b : Br) : Lo b b n m := ⟨Int.le_refl _, Int.le_refl _, Int.le_refl _, Int.le_refl _, Int.le_refl _, Int.le_refl _, h.hours, h.load, by rw [h.heat]; exact Int.le_refl _⟩
theorem Lgt.hi {n m : Mr} (h : Lgt n m) (b : Br) : Hi b b n m := ⟨Int.le_refl _, Int.le_refl _, Int.le_refl _, Int.le_refl _, Int.le_refl _, Int.le_refl _, h.hours, h.load, by rw [h.heat]; exact Int.le_refl _⟩
theorem Lgt.heal {n m : Mr} (h : Lgt n m) (b : Br) : healS b n = healS b m := by
  unfold healS
  by_cases h0 : m.hours = 0
  · rw [if_pos h0, if_pos (h.none.2 h0)]
  · rw [if_neg h0, if_neg (fun e => h0 (h.none.1 e))]
theorem Lgt.eve {n m : Mr} {b : Br} (hb : BdB b) (hn : BdM n) (h : Lgt n m) (c : Cm) :
    (eveC b c m).water.1 ≤ (eveC b c n).water.1 ∧ (eveC b c m).water.2 ≤ (eveC b c n).water.2 ∧ (eveC b c m).fat.1 ≤ (eveC b c n).fat.1 ∧ (eveC b c m).fat.2 ≤ (eveC b c n).fat.2 ∧ (eveC b c n).sore.1 ≤ (eveC b c m).sore.1 ∧ (eveC b c n).sore.2 ≤ (eveC b c m).sore.2 :=
  ⟨refS_lo (Int.le_refl _) (waS_hi hb hn (h.hi b) _) h.drinks.1, refS_hi (Int.le_refl _) (waS_lo hb hn (h.lo b) _) h.drinks.2,
    refS_lo (Int.le_refl _) (faS_hi hb hn (h.hi b)) h.grass.1, refS_hi (Int.le_refl _) (faS_lo hb hn (h.lo b)) h.grass.2,
    soreS_lo (Int.le_refl _) (soS_lo hb hn (h.lo b)) (h.heal b), soreS_hi (Int.le_refl _) (soS_hi hb hn (h.hi b)) (h.heal b)⟩
theorem Lgt.dies {n m : Mr} {b : Br} (hb : BdB b) (hn : BdM n) (h : Lgt n m) (c : Cm) (hd : diesS b c n = true) : diesS b c m = true := by
  have h1 := waS_lo hb hn (h.lo b) c.milks
  have h2 := faS_lo hb hn (h.lo b)
  simp only [diesS, Bool.or_eq_true, decide_eq_true_eq] at *
  omega
theorem Lgt.opens {n m : Mr} {b : Br} (hb : BdB b) (hn : BdM n) (h : Lgt n m) (c : Cm) (hd : openS b c n = true) : openS b c m = true := by
  have h1 := waS_hi hb hn (h.hi b) c.milks
  have h2 := faS_hi hb hn (h.hi b)
  simp only [openS, Bool.or_eq_true, decide_eq_true_eq] at *
  omega
end Go.Proofs.Ytafdcbdbllpcnaa
/- The heaviest load that is borne, plain. -/
namespace Go.Proofs.Ytafdcbdbllpcnaa

/-- A day, and days, with another load. -/
def ldM (x : Int) (m : Mr) : Mr := ⟨m.hours, x, m.heat, m.grass, m.drinks⟩
def ldS (x : Int) (ms : List Mr) : List Mr := ms.map (ldM x)
theorem ldS_len (x : Int) (ms : List Mr) : (ldS x ms).length = ms.length := by simp [ldS]
theorem mdS_ld {x : Int} {ms : List Mr} {k : Nat} (hk : k < ms.length) : mdS (ldS x ms) k = ldM x (mdS ms k) := by
  simp [mdS, ldS, hk]
theorem ldM_ok {x : Int} {m : Mr} (h : okM m = true) (h1 : 0 ≤ x) (h2 : x ≤ 1000000) : okM (ldM x m) = true := by
  simp only [okM, inB, Bool.and_eq_true, decide_eq_true_eq] at h
  obtain ⟨⟨⟨⟨⟨a1, a2⟩, -, -⟩, a5⟩, a6⟩, a7⟩ := h
  simp [okM, ldM, inB, a1, a2, a5, a6, a7, h1, h2]
theorem ldS_ok {x : Int} {ms : List Mr} (h : ms.all okM = true) (h1 : 0 ≤ x) (h2 : x ≤ 1000000) : (ldS x ms).all okM = true := by
  rw [List.all_eq_true] at h ⊢
  intro m hm
  obtain ⟨m', hm', rfl⟩ := List.mem_map.1 hm
  exact ldM_ok (h m' hm') h1 h2
/-- On day k the animal lives for sure, and if it walks it carries the load for sure. -/
def okDay (b : Br) (c : Cm) (ms : List Mr) (x : Int) (k : Nat) : Bool := decide (fatK b c ms k = 0) && (decide (¬ 0 < (mdS ms k).hours) || decide (x ≤ (carS b (mornC b c ms k)).1))
def bearS (b : Br) (c : Cm) (ms : List Mr) (x : Int) : Bool := (List.range ms.length).all (okDay b c (ldS x ms) x)
theorem bearS_yes {b : Br} {c : Cm} {ms : List Mr} {x : Int} (h : ∀ k, k < ms.length → okDay b c (ldS x ms) x k = true) : bearS b c ms x = true := by
  unfold bearS
  rw [List.all_eq_true]
  exact fun k hk => h k (List.mem_range.1 hk)
theorem bearS_no {b : Br} {c : Cm} {ms : List Mr} {x : Int} {k : Nat} (hk : k < ms.length) (h : okDay b c (ldS x ms) x k = false) : bearS b c ms x = false := by
  unfold bearS
  rw [List.all_eq_false]
  exact ⟨k, List.mem_range.2 hk, by rw [h]; simp⟩
theorem okDay_yes {b : Br} {c : Cm} {ms : List Mr} {x : Int} {k : Nat} (h1 : fatK b c ms k = 0) (h2 : 0 < (mdS ms k).hours → x ≤ (carS b (mornC b c ms k)).1) : okDay b c ms x k = true := by
  unfold okDay
  simp only [Bool.and_eq_true, Bool.or_eq_true, decide_eq_true_eq]
  refine ⟨h1, ?_⟩
  by_cases h : 0 < (mdS ms k).hours
  · exact .inr (h2 h)
  · exact .inl h
theorem okDay_fate {b : Br} {c : Cm} {ms : List Mr} {x : Int} {k : Nat} (h1 : fatK b c ms k ≠ 0) : okDay b c ms x k = false := by
  unfold okDay
  simp [h1]
theorem okDay_load {b : Br} {c : Cm} {ms : List Mr} {x : Int} {k : Nat} (h1 : 0 < (mdS ms k).hours) (h2 : (carS b (mornC b c ms k)).1 < x) : okDay b c ms x k = false := by
  unfold okDay
  have h3 : ¬ x ≤ (carS b (mornC b c ms k)).1 := by omega
  simp [h1, h3]
theorem okDay_lives {b : Br} {c : Cm} {ms : List Mr} {x : Int} {k : Nat} (h : okDay b c ms x k = true) : dieK b c ms k = false := by
  unfold okDay at h
  simp only [Bool.and_eq_true, decide_eq_true_eq] at h
  cases hd : dieK b c ms k with
  | false => rfl
  | true => have := fatK_dies hd; omega

/-- The greatest number from lo to hi for which p holds, by halves. -/
def binGo (p : Int → Bool) : Nat → Int → Int → Int
  | 0, lo, _ => lo
  | n + 1, lo, hi => if lo < hi then (if p ((lo + hi + 1) / 2) = true then binGo p n ((lo + hi + 1) / 2) hi else binGo p n lo ((lo + hi + 1) / 2 - 1)) else lo
theorem binGo_yes {p : Int → Bool} {n : Nat} {lo hi m : Int} (h : lo < hi) (hm : m = (lo + hi + 1) / 2) (hp : p m = true) : binGo p (n + 1) lo hi = binGo p n m hi := by
  subst hm; rw [binGo, if_pos h, if_pos hp]
theorem binGo_no {p : Int → Bool} {n : Nat} {lo hi m : Int} (h : lo < hi) (hm : m = (lo + hi + 1) / 2) (hp : p m = false) : binGo p (n + 1) lo hi = binGo p n lo (m - 1) := by
  subst hm; rw [binGo, if_pos h, if_neg (by rw [hp]; simp)]
theorem binGo_end {p : Int → Bool} {n : Nat} {lo hi : Int} (h : ¬ lo < hi) : binGo p n lo hi = lo := by
  cases n with
  | zero => rfl
  | succ n => rw [binGo, if_neg h]
/-- The heaviest load, or the error. -/
def heaS (b : Br) (c : Cm) (ms : List Mr) (e : Int) : Int × Int := if e = 0 then (if bearS b c ms 0 = true then (binGo (bearS b c ms) 1000000 0 1000000, 0) else (0, 13)) else (0, e)
end Go.Proofs.Ytafdcbdbllpcnaa
/- What is borne with a load is borne with a lighter one; halves find the greatest. -/
namespace Go.Proofs.Ytafdcbdbllpcnaa

theorem binGo_said {p : Int → Bool} : ∀ (n : Nat) (lo hi top : Int), 0 ≤ lo → lo ≤ hi → hi ≤ top → hi - lo ≤ n → (∀ x y, 0 ≤ x → x ≤ y → y ≤ top → p y = true → p x = true) → p lo = true → (hi < top → p (hi + 1) = false) →
    0 ≤ binGo p n lo hi ∧ binGo p n lo hi ≤ top ∧ p (binGo p n lo hi) = true ∧ (binGo p n lo hi < top → p (binGo p n lo hi + 1) = false)
  | 0, lo, hi, top, h0, h1, h2, h3, _, h5, h6 => by
    have e : lo = hi := by omega
    subst e
    exact ⟨h0, h2, h5, h6⟩
  | n + 1, lo, hi, top, h0, h1, h2, h3, h4, h5, h6 => by
    by_cases hlt : lo < hi
    · obtain ⟨m, hm⟩ : ∃ m, m = (lo + hi + 1) / 2 := ⟨_, rfl⟩
      have m1 : lo < m := by omega
      have m2 : m ≤ hi := by omega
      cases hp : p m with
      | true =>
        rw [binGo_yes hlt hm hp]
        exact binGo_said n m hi top (by omega) m2 h2 (by omega) h4 hp h6
      | false =>
        rw [binGo_no hlt hm hp]
        exact binGo_said n lo (m - 1) top h0 (by omega) (by omega) (by omega) h4 h5 (fun _ => by rw [Int.sub_add_cancel]; exact hp)
    · rw [binGo_end hlt]
      have e : lo = hi := by omega
      subst e
      exact ⟨h0, h2, h5, h6⟩

/-- An animal that is no worse at the ends that count. -/
structure Btr (c d : Cm) : Prop where
  water : c.water.1 ≤ d.water.1
  fat : c.fat.1 ≤ d.fat.1
  sore : d.sore.2 ≤ c.sore.2
  milks : d.milks = c.milks
section
variable {b : Br} {c d : Cm} {m : Mr} {x y : Int}
theorem ldM_bd (hm : BdM m) (h0 : 0 ≤ x) (h1 : x ≤ 1000000) : BdM (ldM x m) := ⟨hm.hours, ⟨h0, h1⟩, hm.heat, hm.grass, hm.drinks⟩
theorem ldM_hi (h : x ≤ y) : Hi b b (ldM x m) (ldM y m) := ⟨Int.le_refl _, Int.le_refl _, Int.le_refl _, Int.le_refl _, Int.le_refl _, Int.le_refl _, Int.le_refl _, h, Int.le_refl _⟩
theorem Btr.eve (h : Btr c d) (hb : BdB b) (hm : BdM (ldM x m)) (hxy : x ≤ y) : Btr (eveC b c (ldM y m)) (eveC b d (ldM x m)) := by
  refine ⟨?_, ?_, ?_, h.milks⟩
  · show (refS b.full c.water (waS b c.milks (ldM y m)) m.drinks).1 ≤ (refS b.full d.water (waS b d.milks (ldM x m)) m.drinks).1
    rw [h.milks]
    exact refS_lo h.water (waS_hi hb hm (ldM_hi hxy) _) (Int.le_refl _)
  · exact refS_lo h.fat (faS_hi hb hm (ldM_hi hxy)) (Int.le_refl _)
  · exact soreS_hi h.sore (soS_hi hb hm (ldM_hi hxy)) rfl
theorem Btr.opens (h : Btr c d) (hb : BdB b) (hm : BdM (ldM x m)) (hxy : x ≤ y) (ho : openS b d (ldM x m) = true) : openS b c (ldM y m) = true := by
  have h1 := waS_hi hb hm (ldM_hi (b := b) (m := m) hxy) c.milks
  have h2 := faS_hi hb hm (ldM_hi (b := b) (m := m) hxy)
  have h3 := h.water
  have h4 := h.fat
  simp only [openS, Bool.or_eq_true, decide_eq_true_eq, h.milks] at *
  omega
theorem open_dies (hb : BdB b) (hc : BdC b c) (hm : BdM m) (h : diesS b c m = true) : openS b c m = true := by
  have h1 := waS_bd c.milks hb hm
  have h2 := faS_bd hb hm
  have h3 := hc.water
  have h4 := hc.fat
  simp only [diesS, openS, Bool.or_eq_true, decide_eq_true_eq] at *
  omega
theorem fate0 (hb : BdB b) (hc : BdC b c) (hm : BdM m) : fateS b c m = 0 ↔ openS b c m = false := by
  unfold fateS
  cases ho : openS b c m with
  | true => split <;> simp
  | false =>
    cases hd : diesS b c m with
    | true => rw [open_dies hb hc hm hd] at ho; cases ho
    | false => simp
theorem Btr.car (h : Btr c d) (hb : BdB b) (hc : BdC b c) : (carS b c).1 ≤ (carS b d).1 := by
  have w1 := h.water; have f1 := h.fat; have s1 := h.sore
  have k1 := hb.full; have k2 := hb.fed
  obtain ⟨g1, -, -, -⟩ := fitS_bd hb hc
  have q1 : 2000 * c.water.1 / b.full ≤ 2000 * d.water.1 / b.full := Int.ediv_le_ediv (by omega) (by omega)
  have q2 : 2000 * c.fat.1 / b.fed ≤ 2000 * d.fat.1 / b.fed := Int.ediv_le_ediv (by omega) (by omega)
  have hf : (fitS b c).1 ≤ (fitS b d).1 := by
    simp only [fitS, mn_min]
    omega
  exact Int.ediv_le_ediv (by omega) (mul_mono hb.strong.1 (Int.le_refl _) g1 hf)
end

section
variable {b : Br} {c : Cm} {ms : List Mr} {x y : Int}
theorem morn_btr (hb : BdB b) (h : ms.all okM = true) (h0 : 0 ≤ x) (hxy : x ≤ y) (hy : y ≤ 1000000) : ∀ k, k ≤ ms.length → Btr (mornC b c (ldS y ms) k) (mornC b c (ldS x ms) k)
  | 0, _ => ⟨Int.le_refl _, Int.le_refl _, Int.le_refl _, rfl⟩
  | k + 1, hk => by
    have hm := okM_bd (mdS_ok h (show k < ms.length by omega))
    have ih := morn_btr hb h h0 hxy hy k (by omega)
    simp only [mornC]
    rw [mdS_ld (by omega), mdS_ld (by omega)]
    exact ih.eve hb (ldM_bd hm h0 (by omega)) hxy
theorem okDay_mono (hb : BdB b) (hc : BdC b c) (h : ms.all okM = true) (h0 : 0 ≤ x) (hxy : x ≤ y) (hy : y ≤ 1000000) {k : Nat} (hk : k < ms.length) (ho : okDay b c (ldS y ms) y k = true) : okDay b c (ldS x ms) x k = true := by
  have hm := okM_bd (mdS_ok h hk)
  have hB := morn_btr (c := c) hb h h0 hxy hy k (by omega)
  have hcx := mornC_bd hb hc (ldS_ok h h0 (by omega)) k (by rw [ldS_len]; omega)
  have hcy := mornC_bd hb hc (ldS_ok h (by omega) hy) k (by rw [ldS_len]; omega)
  have hmx := ldM_bd hm h0 (show x ≤ 1000000 by omega)
  have hmy := ldM_bd hm (show 0 ≤ y by omega) hy
  unfold okDay fatK at ho ⊢
  rw [mdS_ld hk] at ho ⊢
  simp only [Bool.and_eq_true, Bool.or_eq_true, decide_eq_true_eq] at ho ⊢
  obtain ⟨h1, h2⟩ := ho
  refine ⟨?_, ?_⟩
  · rw [fate0 hb hcy hmy] at h1
    rw [fate0 hb hcx hmx]
    cases hq : openS b (mornC b c (ldS x ms) k) (ldM x (mdS ms k)) with
    | false => rfl
    | true => rw [hB.opens hb hmx hxy hq] at h1; cases h1
  · rcases h2 with h2 | h2
    · exact .inl h2
    · exact .inr (by have := hB.car hb hcy; omega)
theorem bearS_mono (hb : BdB b) (hc : BdC b c) (h : ms.all okM = true) (h0 : 0 ≤ x) (hxy : x ≤ y) (hy : y ≤ 1000000) (ho : bearS b c ms y = true) : bearS b c ms x = true := by
  unfold bearS at ho
  rw [List.all_eq_true] at ho
  exact bearS_yes fun k hk => okDay_mono hb hc h h0 hxy hy hk (ho k (List.mem_range.2 hk))
/-- What is said of the heaviest load. -/
theorem heavy_said {n e : Int} (h : chkC b c = 0) (hl : ms.length ≤ 60) (hm : ms.all okM = true) (hr : heaS b c ms (chkT b c ms) = (n, e)) :
    (e = 13 ∧ n = 0 ∧ bearS b c ms 0 = false) ∨ (e = 0 ∧ 0 ≤ n ∧ n ≤ 1000000 ∧ bearS b c ms n = true ∧ (n < 1000000 → ∀ y, n < y → y ≤ 1000000 → bearS b c ms y = false)) := by
  obtain ⟨hb, hc⟩ := chkC_ok h
  have ht : chkT b c ms = 0 := by
    unfold chkT
    rw [if_pos h, if_neg (by omega), if_pos hm]
  rw [ht, heaS, if_pos rfl] at hr
  by_cases h0 : bearS b c ms 0 = true
  · rw [if_pos h0] at hr
    injection hr with hn he
    subst he
    obtain ⟨a1, a2, a3, a4⟩ := binGo_said (p := bearS b c ms) 1000000 0 1000000 1000000 (by omega) (by omega) (by omega) (by omega) (fun x y hx hxy hy hp => bearS_mono hb hc hm hx hxy hy hp) h0 (by omega)
    rw [hn] at a1 a2 a3 a4
    refine .inr ⟨rfl, a1, a2, a3, fun hlt y hy1 hy2 => ?_⟩
    cases hp : bearS b c ms y with
    | false => rfl
    | true =>
      have := bearS_mono hb hc hm (show 0 ≤ n + 1 by omega) (show n + 1 ≤ y by omega) hy2 hp
      rw [a4 hlt] at this
      cases this
  · rw [if_neg h0] at hr
    injection hr with hn he
    exact .inl ⟨he.symm, hn.symm, by simpa using h0⟩
end
end Go.Proofs.Ytafdcbdbllpcnaa
