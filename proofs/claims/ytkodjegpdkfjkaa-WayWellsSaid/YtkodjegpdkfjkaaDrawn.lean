/- A law for a region that draws its order: each operation but the last is shown once, in whatever later world, from the operations that it waits for; the last one stands behind all others. Over every program. -/
import Derived.Orders
import Derived.Below
import Derived.WalkKit
import Derived.Test.YtkodjegpdkfjkaaBig
set_option linter.unusedVariables false
set_option linter.unusedSimpArgs false
namespace Go.Proofs.Ytkodjegpdkfjkaa
open Go.RowKit

/-- W' is W with more memory: nothing that was there has turned. -/
def Ext (W W' : World) : Prop := Below W.heap.size W W'
theorem Ext.refl (W : World) : Ext W W := Below.refl _ _
theorem Ext.trans {a b c : World} (h : Ext a b) (k : Ext b c) : Ext a c := Below.trans h (Below.mono k h.size)

/-- Does operation k wait for operation j? -/
def waitsFor (ops : Array Oper) (k j : Nat) : Bool := ((ops[k]?).map fun o => o.after.toList.any fun e => e.on == j && Region.binds .any e).getD false

/-- The region's shape: operation j < m writes slot ds[j], none twice, none is guarded; the last one waits for all others. -/
def Region.shapely (ops : Array Oper) (ds : List Tmp) : Bool :=
  ops.size == ds.length + 1 && decide ds.Nodup &&
  (List.range ds.length).all (fun j => ((ops[j]?).map fun o => o.dst == ds[j]? && o.guard.isNone).getD false && waitsFor ops ds.length j) &&
  ((ops[ds.length]?).map fun o => o.guard.isNone).getD false &&
  (List.range ops.size).all (fun k => ((ops[k]?).map fun o => o.after.all fun e => decide (e.on < k)).getD false)

def puts (f : Tmp → Value) : List Tmp → Act → Act
  | [], a => a
  | d :: ds, a => puts f ds (a.put (some d) (f d))

theorem puts_spec (f : Tmp → Value) : ∀ (ds : List Tmp) (a : Act), (puts f ds a).defers = a.defers ∧ (puts f ds a).tmps.size = a.tmps.size ∧ ∀ t, t < a.tmps.size → (puts f ds a).tmps[t]? = if t ∈ ds then some (f t) else a.tmps[t]?
  | [], a => ⟨rfl, rfl, fun t _ => by simp [puts]⟩
  | d :: ds, a => by
    obtain ⟨h1, h2, h3⟩ := puts_spec f ds (a.put (some d) (f d))
    refine ⟨h1, by rw [puts, h2]; simp [Act.put], fun t ht => ?_⟩
    rw [puts, h3 t (by simpa [Act.put] using ht)]
    by_cases hm : t ∈ ds
    · simp [hm]
    · by_cases hd : t = d
      · subst hd; simp [hm, Act.put, ht]
      · simp [hm, hd, Act.put, Array.getElem?_setIfInBounds_ne (Ne.symm hd)]

theorem puts_eval {f : Tmp → Value} {ds : List Tmp} {a : Act} {t : Tmp} (hm : t ∈ ds) (hin : ds.all (· < a.tmps.size) = true) : (puts f ds a).eval (.tmp t) = f t := by
  obtain ⟨_, h2, h3⟩ := puts_spec f ds a
  have ht : t < a.tmps.size := by simp only [List.all_eq_true, decide_eq_true_eq] at hin; exact hin t hm
  simp only [Act.eval, Array.getD_eq_getD_getElem?, h3 t ht, if_pos hm, Option.getD_some]

theorem puts_other {f : Tmp → Value} : ∀ {ds : List Tmp} {a : Act} {t : Tmp}, t ∉ ds → (puts f ds a).eval (.tmp t) = a.eval (.tmp t)
  | [], _, _, _ => rfl
  | d :: ds, a, t, h => by
    simp only [List.mem_cons, not_or] at h
    rw [puts, puts_other h.2]
    exact Act.eval_put (fun d' e e' => h.1 (by cases e; cases e'; rfl))
theorem row_facts {w : World} {g : Nat} {cs : Array Value} (h : rowOf w g = some cs) : rowOf w g = some cs ∧ (∀ j, w.cell? ⟨g, j, none⟩ = cs[j]?) ∧ (∀ j, w.frozen? ⟨g, j, none⟩ = false) ∧ g < w.heap.size := ⟨h, cell_of_rowOf h⟩

section
variable {P : Program} {ops : Array Oper} {Q : Exit → Act → World → Prop}

/-- What holds of the frame and the world when the operations 'listed' have run. -/
structure Good (ds : List Tmp) (R : Nat → Value → World → Prop) (a0 : Act) (w0 : World) (listed : Array Bool) (a : Act) (w : World) : Prop where
  size : listed.size = ds.length + 1
  last : listed.getD ds.length true = false
  ext : Ext w0 w
  defers : a.defers = a0.defers
  tsize : a.tmps.size = a0.tmps.size
  rest : ∀ t, (∀ j, listed.getD j false = true → ds[j]? ≠ some t) → a.tmps[t]? = a0.tmps[t]?
  done : ∀ j d, ds[j]? = some d → listed.getD j false = true → ∃ W, Ext W w ∧ R j (a.tmps.getD d undef) W

theorem countP_one {p p' : Nat → Bool} (i : Nat) (h : p i = true) (h' : p' i = false) (he : ∀ j, j ≠ i → p' j = p j) : ∀ l : List Nat, l.Nodup → (i ∈ l → l.countP p' + 1 = l.countP p) ∧ (i ∉ l → l.countP p' = l.countP p)
  | [], _ => ⟨fun h => by simp at h, fun _ => rfl⟩
  | x :: l, hn => by
    rw [List.nodup_cons] at hn
    obtain ⟨h1, h2⟩ := countP_one i h h' he l hn.2
    refine ⟨fun hm => ?_, fun hm => ?_⟩
    · by_cases hx : x = i
      · subst hx
        rw [List.countP_cons_of_pos h, List.countP_cons_of_neg (by simp [h']), h2 hn.1]
      · have := h1 (by simp at hm; exact hm.resolve_left (Ne.symm hx))
        rw [List.countP_cons, List.countP_cons, he x hx]
        omega
    · simp only [List.mem_cons, not_or] at hm
      rw [List.countP_cons, List.countP_cons, he x (Ne.symm hm.1), h2 hm.2]

/-- How many operations have not run. -/
def left (n : Nat) (listed : Array Bool) : Nat := (List.range n).countP fun i => !listed.getD i true

theorem left_set {n i : Nat} {listed : Array Bool} (hi : i < n) (hs : listed.size = n) (h : listed.getD i true = false) : left n (listed.setIfInBounds i true) + 1 = left n listed := by
  refine (countP_one i (by simpa using h) ?_ (fun j hj => ?_) _ List.nodup_range).1 (List.mem_range.2 hi)
  · have : (listed.setIfInBounds i true).getD i true = true := by simp [Array.getElem?_setIfInBounds]; split <;> rfl
    simp [this]
  · rw [getD_set_ne true (Ne.symm hj)]

theorem ready_none {n : Nat} {listed : Array Bool} (hs : listed.size = n) (h : ∀ i, i < n → listed.getD i true = true) : Region.ready .any ops listed = [] := by
  rw [List.eq_nil_iff_forall_not_mem]
  intro j hj
  rw [mem_ready] at hj
  by_cases hlt : j < n
  · rw [h j hlt] at hj; simp at hj
  · have : listed.getD j true = true := by simp [Array.getElem?_eq_none (show listed.size ≤ j by omega)]
    rw [this] at hj; simp at hj

theorem wpAny_end {n : Nat} {listed : Array Bool} (hs : listed.size = n) (h : ∀ i, i < n → listed.getD i true = true) (fuel : Nat) {a : Act} {w : World} (hq : Q .normal a w) : wpAny P .any ops Q fuel listed a w := by
  have hr := ready_none (ops := ops) hs h
  cases fuel with
  | zero => exact ⟨hr, hq⟩
  | succ f => exact ⟨fun _ => hq, fun i hi => by rw [hr] at hi; simp at hi⟩

theorem getD_false_of {listed : Array Bool} {j : Nat} (hj : j < listed.size) (b : Bool) : listed.getD j b = listed.getD j false := by
  simp [Array.getElem?_eq_getElem hj]

theorem wpAny_drawn (ds : List Tmp) (R : Nat → Value → World → Prop) (a0 : Act) (w0 : World) (hs : Region.shapely ops ds = true)
    (hin : ∀ d ∈ ds, d < a0.tmps.size)
    (step : ∀ (k : Nat) (o : Oper) (d : Tmp) (b : Act) (W : World), ops[k]? = some o → ds[k]? = some d → Ext w0 W → (∀ t, t ∉ ds → b.eval (.tmp t) = a0.eval (.tmp t)) →
      (∀ j dj, waitsFor ops k j = true → ds[j]? = some dj → ∃ Wj, Ext Wj W ∧ R j (b.eval (.tmp dj)) Wj) →
      ∀ K : Act → World → Prop, (∀ v W', Ext W W' → R k v W' → K (b.put (some d) v) W') → o.wp P b W K Q)
    (last : ∀ (o : Oper) (f : Tmp → Value) (W : World), ops[ds.length]? = some o → Ext w0 W → (∀ j d, ds[j]? = some d → ∃ Wj, Ext Wj W ∧ R j (f d) Wj) →
      wpList P ops Q [o] (puts f ds a0) W) :
    ∀ (fuel : Nat) (listed : Array Bool) (a : Act) (w : World), Good ds R a0 w0 listed a w → left (ds.length + 1) listed ≤ fuel → wpAny P .any ops Q fuel listed a w := by
  simp only [Region.shapely, Bool.and_eq_true, beq_iff_eq, decide_eq_true_eq, List.all_eq_true, List.mem_range] at hs
  obtain ⟨⟨⟨⟨hsz, hnd⟩, hall⟩, hlast⟩, hback⟩ := hs
  intro fuel
  induction fuel with
  | zero =>
    intro listed a w hg hl
    exfalso
    have := left_set (listed := listed) (show ds.length < ds.length + 1 by omega) hg.size hg.last
    omega
  | succ fuel ih =>
    intro listed a w hg hl
    refine ⟨fun hr => ?_, fun i hi => ?_⟩
    · -- something is left, so something is ready: the first that has not run
      exfalso
      have hex : ∃ i, i < ds.length + 1 ∧ listed.getD i true = false ∧ ∀ j, j < i → listed.getD j true = true := by
        have : ∀ n, (∃ i, i < n ∧ listed.getD i true = false) → ∃ i, i < n ∧ listed.getD i true = false ∧ ∀ j, j < i → listed.getD j true = true := by
          intro n
          induction n with
          | zero => rintro ⟨i, hi, _⟩; omega
          | succ n ihn =>
            rintro ⟨i, hi, hf⟩
            by_cases hx : ∃ i, i < n ∧ listed.getD i true = false
            · obtain ⟨i, h1, h2⟩ := ihn hx
              exact ⟨i, by omega, h2⟩
            · have hin : i = n := by
                rcases Nat.lt_or_ge i n with h | h
                · exact absurd ⟨i, h, hf⟩ hx
                · omega
              subst hin
              refine ⟨i, hi, hf, fun j hj => ?_⟩
              cases hjj : listed.getD j true with
              | true => rfl
              | false => exact absurd ⟨j, hj, hjj⟩ hx
        exact this _ ⟨ds.length, by omega, hg.last⟩
      obtain ⟨i, hi, hf, hb⟩ := hex
      have : i ∈ Region.ready .any ops listed := by
        rw [mem_ready]
        refine ⟨hf, ops[i]'(by omega), Array.getElem?_eq_getElem _, fun e he _ => ?_⟩
        have h1 := hback i (by omega)
        rw [Array.getElem?_eq_getElem (by omega)] at h1
        simp only [Option.map_some, Option.getD_some, Array.all_eq_true_iff_forall_mem, decide_eq_true_eq] at h1
        have h2 := h1 e he
        rw [← getD_false_of (by have := hg.size; omega) true]
        exact hb _ h2
      rw [hr] at this
      simp at this
    · have hi' := hi
      rw [mem_ready] at hi
      obtain ⟨hf, o, ho, hed⟩ := hi
      have hlt : i < ds.length + 1 := by
        have := (Array.getElem?_eq_some_iff.1 ho).1
        omega
      have hcnt := left_set hlt hg.size hf
      have hsz' : (listed.setIfInBounds i true).size = ds.length + 1 := by simp [hg.size]
      have hwait : ∀ j, waitsFor ops i j = true → listed.getD j false = true := by
        intro j hj
        simp only [waitsFor, ho, Option.map_some, Option.getD_some, List.any_eq_true, Bool.and_eq_true, beq_iff_eq] at hj
        obtain ⟨e, he, h1, h2⟩ := hj
        rw [← h1]
        exact hed e (by simpa using he) h2
      rcases Nat.lt_or_ge i ds.length with hil | hil
      · have h1 := (hall i hil).1
        simp only [ho, Option.map_some, Option.getD_some, Bool.and_eq_true, beq_iff_eq, Option.isNone_iff_eq_none] at h1
        obtain ⟨hd, hgd⟩ := h1
        obtain ⟨d, hdd⟩ : ∃ d, ds[i]? = some d := ⟨ds[i], List.getElem?_eq_getElem hil⟩
        have hdin : d < a.tmps.size := by rw [hg.tsize]; exact hin d (List.mem_of_getElem? hdd)
        simp only [wpOp, ho, Region.wanted, hgd, if_true]
        refine .inl ?_
        refine step i o d a w ho hdd hg.ext (fun t ht => ?_) (fun j dj hj hdj => ?_) _ (fun v W' hE hR => ?_)
        · have := hg.rest t (fun j _ e => ht (List.mem_of_getElem? e))
          simp only [Act.eval, Array.getD_eq_getD_getElem?, this]
        · exact hg.done j dj hdj (hwait j hj)
        · refine ih _ _ _ ⟨hsz', ?_, hg.ext.trans hE, hg.defers, by simp [Act.put, hg.tsize], fun t ht => ?_, fun j dj hdj hj => ?_⟩ (by omega)
          · rw [getD_set_ne true (by omega)]; exact hg.last
          · have htd : t ≠ d := fun e => by
              refine ht i ?_ (by rw [e]; exact hdd)
              simp [show i < listed.size by have := hg.size; omega]
            have h2 : (a.put (some d) v).tmps[t]? = a.tmps[t]? := by simp [Act.put, Array.getElem?_setIfInBounds_ne (Ne.symm htd)]
            rw [h2]
            refine hg.rest t fun j hj => ht j ?_
            by_cases hij : i = j
            · subst hij; simp [show i < listed.size by have := hg.size; omega]
            · rw [getD_set_ne false hij]; exact hj
          · by_cases hij : i = j
            · subst hij
              obtain rfl : d = dj := Option.some.inj (hdd.symm.trans hdj)
              refine ⟨W', Ext.refl _, ?_⟩
              have : (a.put (some d) v).tmps.getD d undef = v := by simp [Act.put, hdin]
              rw [this]; exact hR
            · rw [getD_set_ne false hij] at hj
              obtain ⟨Wj, h3, h4⟩ := hg.done j dj hdj hj
              have hne : d ≠ dj := fun e => hij ((List.getElem?_inj hil hnd).1 (by rw [hdd, hdj, e]))
              refine ⟨Wj, h3.trans hE, ?_⟩
              have : (a.put (some d) v).tmps.getD dj undef = a.tmps.getD dj undef := by simp [Act.put, Array.getElem?_setIfInBounds_ne hne]
              rw [this]; exact h4
      · obtain rfl : i = ds.length := by omega
        simp only [ho, Option.map_some, Option.getD_some, Option.isNone_iff_eq_none] at hlast
        have hall' : ∀ j, j < ds.length → listed.getD j false = true := fun j hj => hwait j (hall j hj).2
        have ha : puts (fun t => a.tmps.getD t undef) ds a0 = a := by
          obtain ⟨p1, p2, p3⟩ := puts_spec (fun t => a.tmps.getD t undef) ds a0
          have e1 : (puts (fun t => a.tmps.getD t undef) ds a0).tmps = a.tmps := by
            apply Array.ext_getElem?
            intro t
            by_cases ht : t < a0.tmps.size
            · rw [p3 t ht]
              by_cases hm : t ∈ ds
              · rw [if_pos hm, Array.getElem?_eq_getElem (by rw [hg.tsize]; exact ht)]
                simp [show t < a.tmps.size by rw [hg.tsize]; exact ht]
              · rw [if_neg hm]
                exact (hg.rest t fun j _ e => hm (List.mem_of_getElem? e)).symm
            · rw [Array.getElem?_eq_none (by omega), Array.getElem?_eq_none (by rw [hg.tsize]; omega)]
          have e2 : (puts (fun t => a.tmps.getD t undef) ds a0).defers = a.defers := by rw [p1, hg.defers]
          cases hp : puts (fun t => a.tmps.getD t undef) ds a0 with
          | mk x y =>
            cases a with
            | mk x' y' =>
              rw [hp] at e1 e2
              simp only at e1 e2
              rw [e1, e2]
        have hl := last o (fun t => a.tmps.getD t undef) w ho hg.ext (fun j d hd => hg.done j d hd (hall' j (List.getElem?_eq_some_iff.1 hd).1))
        rw [ha] at hl
        have hend : ∀ (a' : Act) (w' : World), wpList P ops Q [] a' w' → wpAny P .any ops Q fuel (listed.setIfInBounds ds.length true) a' w' := fun a' w' hq => wpAny_end hsz' (fun j hj => ?_) _ hq
        · unfold wpList at hl
          simp only [wpOp, ho]
          simp only [Region.wanted, hlast, if_true] at hl ⊢
          exact hl.imp (Oper.wp_mono hend) id
        by_cases hij : ds.length = j
        · subst hij; simp [show ds.length < listed.size by have := hg.size; omega]
        · rw [getD_set_ne true hij, getD_false_of (by have := hg.size; omega)]
          exact hall' j (by omega)

/-- THE LAW. 'ds': the slots of all operations but the last. R k v W: what is so of operation k's value v when it has run, in the world W behind it; it stands in every later world. -/
theorem wp_drawn {id : Nat} {a0 : Act} {w0 : World} (hm : P.follows .mixedOrders = true) (ds : List Tmp) (hs : Region.shapely ops ds = true) (hin : ds.all (· < a0.tmps.size) = true) (R : Nat → Value → World → Prop)
    (step : ∀ (k : Nat) (o : Oper) (d : Tmp) (b : Act) (W : World), ops[k]? = some o → ds[k]? = some d → Ext w0.drew W → (∀ t, t ∉ ds → b.eval (.tmp t) = a0.eval (.tmp t)) →
      (∀ j dj, waitsFor ops k j = true → ds[j]? = some dj → ∃ Wj, Ext Wj W ∧ R j (b.eval (.tmp dj)) Wj) →
      ∀ K : Act → World → Prop, (∀ v W', Ext W W' → R k v W' → K (b.put (some d) v) W') → o.wp P b W K Q)
    (last : ∀ (o : Oper) (f : Tmp → Value) (W : World), ops[ds.length]? = some o → Ext w0.drew W → (∀ j d, ds[j]? = some d → ∃ Wj, Ext Wj W ∧ R j (f d) Wj) →
      wpList P ops Q [o] (puts f ds a0) W) : (Code.region id ops true).wp P Q a0 w0 := by
  have hsz : ops.size = ds.length + 1 := by
    simp only [Region.shapely, Bool.and_eq_true, beq_iff_eq] at hs
    exact hs.1.1.1.1
  refine wp_region_any hm (wpAny_drawn ds R a0 w0.drew hs (by simpa using hin) step last _ _ _ _ ⟨by simp [hsz], by simp [hsz], Ext.refl _, rfl, rfl, fun _ _ => rfl, fun j d _ hj => ?_⟩ ?_)
  · exfalso
    rw [Array.getD_eq_getD_getElem?, Array.getElem?_replicate] at hj
    split at hj <;> simp at hj
  · rw [hsz]
    exact Nat.le_trans List.countP_le_length (by simp)
/-- The same, an obligation an operation, in the text's order. -/
def stepsOK (P : Program) (ops : Array Oper) (Q : Exit → Act → World → Prop) (ds0 : List Tmp) (a0 : Act) (w1 : World) (R : Nat → Value → World → Prop) : Nat → List Oper → List Tmp → Prop
  | k, o :: os, d :: ds => (∀ (b : Act) (W : World), Ext w1 W → (∀ t, t ∉ ds0 → b.tmps[t]?.getD undef = a0.tmps[t]?.getD undef) →
      (∀ j dj, waitsFor ops k j = true → ds0[j]? = some dj → ∃ Wj, Ext Wj W ∧ R j (b.tmps[dj]?.getD undef) Wj) →
      ∀ K : Act → World → Prop, (∀ v W', Ext W W' → R k v W' → K (b.put (some d) v) W') → o.wp P b W K Q) ∧ stepsOK P ops Q ds0 a0 w1 R (k + 1) os ds
  | _, [o], [] => ∀ (f : Tmp → Value) (W : World), Ext w1 W → (∀ j d, ds0[j]? = some d → ∃ Wj, Ext Wj W ∧ R j (f d) Wj) → wpList P ops Q [o] (puts f ds0 a0) W
  | _, _, _ => True

theorem stepsOK_get {ds0 : List Tmp} {a0 : Act} {w1 : World} {R : Nat → Value → World → Prop} : ∀ (os : List Oper) (ds : List Tmp) (k i : Nat), stepsOK P ops Q ds0 a0 w1 R k os ds → ∀ (o : Oper) (d : Tmp), os[i]? = some o → ds[i]? = some d →
    (∀ (b : Act) (W : World), Ext w1 W → (∀ t, t ∉ ds0 → b.tmps[t]?.getD undef = a0.tmps[t]?.getD undef) →
      (∀ j dj, waitsFor ops (k + i) j = true → ds0[j]? = some dj → ∃ Wj, Ext Wj W ∧ R j (b.tmps[dj]?.getD undef) Wj) →
      ∀ K : Act → World → Prop, (∀ v W', Ext W W' → R (k + i) v W' → K (b.put (some d) v) W') → o.wp P b W K Q)
  | [], _, _, _, _, _, _, h, _ => by simp at h
  | _ :: _, [], _, _, _, _, _, _, h => by simp at h
  | o' :: os, d' :: ds, k, 0, h, o, d, ho, hd => by
    simp at ho hd; subst ho; subst hd
    exact h.1
  | o' :: os, d' :: ds, k, i + 1, h, o, d, ho, hd => by
    have := stepsOK_get os ds (k + 1) i h.2 o d (by simpa using ho) (by simpa using hd)
    rw [show k + 1 + i = k + (i + 1) by omega] at this
    exact this

theorem stepsOK_last {ds0 : List Tmp} {a0 : Act} {w1 : World} {R : Nat → Value → World → Prop} : ∀ (os : List Oper) (ds : List Tmp) (k : Nat), stepsOK P ops Q ds0 a0 w1 R k os ds → os.length = ds.length + 1 → ∀ o, os[ds.length]? = some o →
    ∀ (f : Tmp → Value) (W : World), Ext w1 W → (∀ j d, ds0[j]? = some d → ∃ Wj, Ext Wj W ∧ R j (f d) Wj) → wpList P ops Q [o] (puts f ds0 a0) W
  | [], _, _, _, hl, _, _ => by simp at hl
  | [o'], [], _, h, _, o, ho => by simp at ho; subst ho; exact h
  | _ :: _ :: _, [], _, _, hl, _, _ => by simp at hl
  | _ :: os, _ :: ds, k, h, hl, o, ho => stepsOK_last os ds (k + 1) h.2 (by simpa using hl) o (by simpa using ho)

theorem wp_drawn_list {id : Nat} {a0 : Act} {w0 : World} {os : List Oper} (hm : P.follows .mixedOrders = true) (ds : List Tmp) (hs : Region.shapely os.toArray ds = true) (hin : ds.all (· < a0.tmps.size) = true) (R : Nat → Value → World → Prop)
    (step : stepsOK P os.toArray Q ds a0 w0.drew R 0 os ds) : (Code.region id os.toArray true).wp P Q a0 w0 := by
  have hl : os.length = ds.length + 1 := by
    simp only [Region.shapely, Bool.and_eq_true, beq_iff_eq] at hs
    simpa using hs.1.1.1.1
  exact wp_drawn hm ds hs hin R (fun k o d b W ho hd hE hb hdep K hK => stepsOK_get (ops := os.toArray) os ds 0 k step o d (by simpa using ho) hd b W hE (fun t ht => by simpa [Act.eval] using hb t ht) (fun j dj h1 h2 => by simpa [Act.eval] using hdep j dj (by simpa using h1) h2) K (by simpa using hK))
    (fun o f W ho => stepsOK_last (ops := os.toArray) os ds 0 step hl o (by simpa using ho) f W)
/-- The block that a pointer or a slice points to. -/
def blk : Value → Nat
  | .slice (some a) _ _ => a.block
  | .pointer (some a) => a.block
  | _ => 0
/-- v is a slice over a block that holds a row. -/
structure SL (v : Value) (n : Nat) (row : Array Value) (W : World) : Prop where
  eq : v = .slice (some ⟨blk v, 0, none⟩) n n
  row : rowOf W (blk v) = some row
/-- v points to a block from 'base' on that holds a row. -/
structure PT (v : Value) (row : Array Value) (base : Nat) (W : World) : Prop where
  eq : v = .pointer (some ⟨blk v, 0, none⟩)
  row : rowOf W (blk v) = some row
  base : base ≤ blk v
theorem sliceR {W : World} {v : Value} {n : Nat} {row : Array Value} (h : ∃ Wj, Ext Wj W ∧ SL v n row Wj) : SL v n row W := let ⟨_, e, h⟩ := h; ⟨h.1, (keep_row e h.2).1⟩
theorem pointR {W : World} {v : Value} {row : Array Value} {base : Nat} (h : ∃ Wj, Ext Wj W ∧ PT v row base Wj) : PT v row base W := let ⟨_, e, h⟩ := h; ⟨h.1, (keep_row e h.2).1, h.3⟩
theorem pureR {W : World} {p : Prop} (h : ∃ Wj, Ext Wj W ∧ p) : p := let ⟨_, _, h⟩ := h; h
theorem drew_ext {W0 W : World} (h : Ext W0.drew W) : Ext W0 W := ⟨h.os, h.tape, h.output, h.size, h.block⟩
theorem ext_alloc (W : World) (o : Obj) : Ext W (W.alloc o) := (Below.refl _ _).alloc (Nat.le_refl _) o
theorem Ext.row {W W' : World} (h : Ext W W') {g : Nat} {cs : Array Value} (hr : rowOf W g = some cs) : rowOf W' g = some cs := (keep_row h hr).1
theorem Ext.below {B : Nat} {w W W' : World} (h : Ext W W') (hw : Below B w W) (hB : B ≤ W.heap.size) : Below B w W' := hw.trans (Below.mono h hB)

/-- What is so behind a store of a whole row. -/
structure Stored (h : Nat) (vs : Array Value) (W W' : World) : Prop where
  size : W'.heap.size = W.heap.size
  row : rowOf W' h = some vs
  other : ∀ g, g ≠ h → rowOf W' g = rowOf W g
  below : ∀ B, B ≤ h → Below B W W'

theorem Stored.keeps {h : Nat} {vs : Array Value} {W W' : World} (hS : Stored h vs W W') {g : Nat} (hg : g ≠ h) {cs : Array Value} (hr : rowOf W g = some cs) : rowOf W' g = some cs := (hS.other g hg).trans hr
theorem stored_setRow {W : World} {h : Nat} {cs : Array Value} (hr : rowOf W h = some cs) (vs : Array Value) : Stored h vs W (W.setRow h vs) := by
  obtain ⟨t, hg⟩ := rowOf_some hr
  refine ⟨by simp, ?_, fun g hgh => ?_, fun B hB => Below_setRow (Below.refl _ _) hB vs⟩
  · unfold rowOf; simp [setRow_heap W h cs vs t _ hg]
  · unfold rowOf; rw [setRow_other W h g vs hgh]

theorem wp_store_whole {o : Oper} {a : Act} {W : World} {K : Act → World → Prop} (ty : TypeId) (x y : Operand) (ho : o.op = .store ty x y) {h : Nat} {cs vs : Array Value} (hx : a.eval x = .pointer (some ⟨h, 0, none⟩)) (hy : a.eval y = .agg vs)
    (hr : rowOf W h = some cs) (hi : (P.info? ty).map (·.size) = some vs.size) (hs : cs.size = vs.size) (h1 : vs.all (·.oneCell') = true)
    (hk : ∀ W', Stored h vs W W' → K (a.put o.dst undef) W') : o.wp P a W K Q := by
  obtain ⟨t, hg⟩ := rowOf_some hr
  exact wp_store_row ty x y ho h vs hx hy t cs hg hi hs h1 (hk _ (stored_setRow hr vs))
theorem wp_store_new {o : Oper} {a : Act} {W : World} {K : Act → World → Prop} (ty : TypeId) (x y : Operand) (ho : o.op = .store ty x y) {cs vs : Array Value} {p : Nat → Prop} (hy : a.eval y = .agg vs)
    (hx : ∃ h, a.eval x = .pointer (some ⟨h, 0, none⟩) ∧ rowOf W h = some cs ∧ p h) (hi : (P.info? ty).map (·.size) = some vs.size) (hs : cs.size = vs.size) (h1 : vs.all (·.oneCell') = true)
    (hk : ∀ h W', p h → a.eval x = .pointer (some ⟨h, 0, none⟩) → h < W.heap.size → Stored h vs W W' → K (a.put o.dst undef) W') : o.wp P a W K Q := by
  obtain ⟨h, hx, hr, hp⟩ := hx
  exact wp_store_whole ty x y ho hx hy hr hi hs h1 (fun W' hS => hk h W' hp hx (cell_of_rowOf hr).2.2 hS)
theorem wpL_store_new {o : Oper} {rest : List Oper} {a : Act} {W : World} (hg : o.guard = none) (ty : TypeId) (x y : Operand) (ho : o.op = .store ty x y) {cs vs : Array Value} {p : Nat → Prop} (hy : a.eval y = .agg vs)
    (hx : ∃ h, a.eval x = .pointer (some ⟨h, 0, none⟩) ∧ rowOf W h = some cs ∧ p h) (hi : (P.info? ty).map (·.size) = some vs.size) (hs : cs.size = vs.size) (h1 : vs.all (·.oneCell') = true)
    (hk : ∀ h W', p h → a.eval x = .pointer (some ⟨h, 0, none⟩) → h < W.heap.size → Stored h vs W W' → wpList P ops Q rest (a.put o.dst undef) W') : wpList P ops Q (o :: rest) a W :=
  wpList_plain hg fun _ hK => wp_store_new ty x y ho hy hx hi hs h1 (fun h W' h1 h2 h3 h4 => hK _ _ (hk h W' h1 h2 h3 h4))
theorem wpL_store_pt {o : Oper} {rest : List Oper} {a : Act} {W : World} (hg : o.guard = none) (ty : TypeId) (x y : Operand) (ho : o.op = .store ty x y) {cs vs : Array Value} {base : Nat} {v : Value} (hy : a.eval y = .agg vs)
    (hx : a.eval x = v) (hp : PT v cs base W) (hi : (P.info? ty).map (·.size) = some vs.size) (hs : cs.size = vs.size) (h1 : vs.all (·.oneCell') = true)
    (hk : ∀ h W', base ≤ h → v = .pointer (some ⟨h, 0, none⟩) → h < W.heap.size → Stored h vs W W' → wpList P ops Q rest (a.put o.dst undef) W') : wpList P ops Q (o :: rest) a W :=
  wpList_plain hg fun _ hK => wp_store_whole ty x y ho (hx.trans hp.eq) hy hp.row hi hs h1 (fun W' hS => hK _ _ (hk _ W' hp.base hp.eq (cell_of_rowOf hp.row).2.2 hS))
theorem wpL_store_known {o : Oper} {rest : List Oper} {a : Act} {W : World} (hg : o.guard = none) (ty : TypeId) (x y : Operand) (ho : o.op = .store ty x y) {cs vs : Array Value} {h : Nat} (hy : a.eval y = .agg vs)
    (hx : a.eval x = .pointer (some ⟨h, 0, none⟩)) (hr : rowOf W h = some cs) (hi : (P.info? ty).map (·.size) = some vs.size) (hs : cs.size = vs.size) (h1 : vs.all (·.oneCell') = true)
    (hk : ∀ W', Stored h vs W W' → wpList P ops Q rest (a.put o.dst undef) W') : wpList P ops Q (o :: rest) a W :=
  wpList_plain hg fun _ hK => wp_store_whole ty x y ho hx hy hr hi hs h1 (fun W' hS => hK _ _ (hk W' hS))
end
end Go.Proofs.Ytkodjegpdkfjkaa
