/- The nearest well, as a known call. -/
import Derived.Test.YtimbhebamjnfmaaNy
set_option linter.unusedVariables false
set_option linter.unusedSimpArgs false
namespace Go.Proofs.Ytimbhebamjnfmaa
open Go.RowKit Go.Maps Go.V Go.WideElems Go.WideShapes
def unI : List AV → Option (List Int)
  | [] => some []
  | .int .i64 n :: l => (unI l).map (n :: ·)
  | _ => none
theorem unI_eq : ∀ {l : List AV} {a : List Int}, unI l = some a → l = a.map (AV.int .i64) := by
  intro l
  induction l with
  | nil => intro a h; simp [unI] at h; simp [h]
  | cons x l ih =>
    intro a h
    unfold unI at h
    split at h
    · rename_i e; cases e
    · rename_i n l' e
      cases e
      simp only [Option.map_eq_some_iff] at h
      obtain ⟨a', h1, h2⟩ := h
      rw [ih h1, ← h2]; rfl
    · cases h
def inI (n : Int) : Bool := decide (-9223372036854775808 ≤ n) && decide (n ≤ 9223372036854775807)
def nodI : List Int → Bool
  | [] => true
  | a :: l => !(l.any fun b => b == a) && nodI l
theorem nodI_ok : ∀ {l : List Int}, nodI l = true → l.Nodup
  | [], _ => List.nodup_nil
  | a :: l, h => by
    simp only [nodI, Bool.and_eq_true, Bool.not_eq_true', List.any_eq_false, beq_iff_eq] at h
    exact List.nodup_cons.2 ⟨fun hm => h.1 a hm rfl, nodI_ok h.2⟩
/-- A best one stands among them. -/
def nearB (ks vs : List Int) (r : Int) : Bool :=
  decide (ks.length = vs.length) && decide (ks.length ≤ 1000) && ks.all inI && vs.all inI && nodI ks && (match ks with
  | [] => decide (r = 0)
  | _ => (ks.zip vs).any fun p => decide (p.1 = r) && (ks.zip vs).all fun q => decide (p.2 < q.2) || (decide (p.2 = q.2) && decide (r ≤ q.1)))
theorem inI_wf {n : Int} (h : inI n = true) : (Lit.int .i64 n).wf = true := by
  simp only [inI, Bool.and_eq_true, decide_eq_true_eq] at h
  simp only [Lit.wf, Bool.and_eq_true, decide_eq_true_eq]
  have h1 : IntKind.i64.min = -9223372036854775808 := by decide
  have h2 : IntKind.i64.max = 9223372036854775807 := by decide
  rw [h1, h2]; exact h
section
variable {H : Type} {es : Array MapEntry} {cl : Nat} {ks vs : List Int}
theorem near_fit (hk : es.size = ks.length) (hv : es.size = vs.length) (h1 : ∀ (i : Nat) k e, ks[i]? = some k → es[i]? = some e → e.key = .int .i64 k) (h2 : ∀ (i : Nat) k e, vs[i]? = some k → es[i]? = some e → e.val = .int .i64 k)
    (hb : BornOK (es.toList.map (·.born)) cl) (hl : ks.length ≤ 1000) (w1 : ks.all inI = true) (w2 : vs.all inI = true) (hn : ks.Nodup) : Fit (H := H) Try.prog 3 (plainElem Try.prog 3) es cl := by
  have hkeys : es.toList.map (·.key) = ks.map (Value.int .i64) := by
    apply List.ext_getElem
    · simpa using hk
    · intro i g1 g2
      have i1 : i < es.size := by simpa using g1
      have i2 : i < ks.length := by simpa using g2
      have := h1 i ks[i] es[i] (by simp [i2]) (by simp [i1])
      simpa using this
  have hm : maxLen = 9223372036854775807 := by decide
  refine ⟨by omega, ⟨fun x hx => hb.1 _ (List.mem_map_of_mem hx), hb.2, ?_⟩, fun x hx => ?_⟩
  · rw [hkeys]
    exact List.pairwise_map.2 (hn.imp fun hne e => hne (by cases e; rfl))
  · obtain ⟨i, hi, rfl⟩ := List.getElem_of_mem hx
    have i1 : i < es.size := by simpa using hi
    have i2 : i < ks.length := by omega
    have i3 : i < vs.length := by omega
    have a1 := h1 i ks[i] es[i] (by simp [i2]) (by simp [i1])
    have a2 := h2 i vs[i] es[i] (by simp [i3]) (by simp [i1])
    have b1 := inI_wf (List.all_eq_true.1 w1 _ (List.getElem_mem i2))
    have b2 := inI_wf (List.all_eq_true.1 w2 _ (List.getElem_mem i3))
    refine ⟨(.int .i64 ks[i], .lit (.int .i64 vs[i])), ?_⟩
    simp [rd, a1, a2, keyOf_int_mk Try.underlying3 b1, plainElem_int Try.underlying3 b2]
theorem near_at (hk : es.size = ks.length) (hv : es.size = vs.length) (h1 : ∀ (i : Nat) k e, ks[i]? = some k → es[i]? = some e → e.key = .int .i64 k) (h2 : ∀ (i : Nat) k e, vs[i]? = some k → es[i]? = some e → e.val = .int .i64 k)
    (w1 : ks.all inI = true) (w2 : vs.all inI = true) (F : Fit (H := H) Try.prog 3 (plainElem Try.prog 3) es cl) {i : Nat} (i2 : i < ks.length) (i3 : i < vs.length) (zd : DataW H) :
    (DataW.map ((es.toList.map (rg Try.prog 3 (plainElem Try.prog 3))).foldr DataW.insert [])).atKey (.int .i64 ks[i]) zd = .lit (.int .i64 vs[i]) := by
  have i1 : i < es.size := by omega
  have a1 := h1 i ks[i] es[i] (by simp [i2]) (by simp [i1])
  have a2 := h2 i vs[i] es[i] (by simp [i3]) (by simp [i1])
  have b1 := inI_wf (List.all_eq_true.1 w1 _ (List.getElem_mem i2))
  have b2 := inI_wf (List.all_eq_true.1 w2 _ (List.getElem_mem i3))
  have hy0 : rd Try.prog 3 (plainElem (H := H) Try.prog 3) es[i] = some (.int .i64 ks[i], .lit (.int .i64 vs[i])) := by
    simp [rd, a1, a2, keyOf_int_mk Try.underlying3 b1, plainElem_int Try.underlying3 b2]
  rw [(atKey_sorted (es.toList.map (rg Try.prog 3 (plainElem Try.prog 3))) (fit_rising key3 F) (.int .i64 ks[i]) trivial).2 (rg Try.prog 3 (plainElem Try.prog 3) es[i]) (List.mem_map.2 ⟨es[i], by simp, rfl⟩) (by rw [rg_of hy0]), rg_of hy0]
theorem near_of (hk : es.size = ks.length) (h1 : ∀ (i : Nat) k e, ks[i]? = some k → es[i]? = some e → e.key = .int .i64 k) (w1 : ks.all inI = true)
    (F : Fit (H := H) Try.prog 3 (plainElem Try.prog 3) es cl) {x c : Int} (hat : ∀ zd, (DataW.map ((es.toList.map (rg Try.prog 3 (plainElem (H := H) Try.prog 3))).foldr DataW.insert [])).atKey (.int .i64 x) zd = .lit (.int .i64 c)) : ∃ i, ∃ h : i < ks.length, ks[i] = x := by
  rcases Classical.em (∃ i, ∃ h : i < ks.length, ks[i] = x) with h | h
  · exact h
  · exfalso
    have := (atKey_sorted (es.toList.map (rg Try.prog 3 (plainElem (H := H) Try.prog 3))) (fit_rising key3 F) (.int .i64 x) trivial).1 (fun p hp e1 => by
      obtain ⟨e, he, rfl⟩ := List.mem_map.1 hp
      obtain ⟨i, hi, rfl⟩ := List.getElem_of_mem he
      have i1 : i < es.size := by simpa using hi
      have i2 : i < ks.length := by omega
      have a1 := h1 i ks[i] es[i] (by simp [i2]) (by simp [i1])
      obtain ⟨y, hy⟩ := F.reads es[i] (by simp)
      have m1 := rd_key hy
      have b1 := inI_wf (List.all_eq_true.1 w1 _ (List.getElem_mem i2))
      simp only [Array.getElem_toList] at e1 
      rw [rg_of hy] at e1
      rw [e1, a1, keyOf_int_mk Try.underlying3 b1] at m1
      cases m1
      exact h ⟨i, i2, rfl⟩) (.lit (.int .i64 (c + 1)))
    have e2 := (hat (.lit (.int .i64 (c + 1)))).symm.trans this
    simp only [DataW.lit.injEq, Lit.int.injEq, true_and] at e2
    omega
end
theorem grown_adv {w w' : World} {Sc : Nat → Prop} (h : w.grownBy w' none) : Adv Sc (fun _ => none) (hget noH) w Sc (fun _ => none) (hget noH) w' := by
  refine ⟨fun _ _ e => e, fun _ e => e, fun _ e => .inl e, h.os, h.tape, h.output, h.size, fun b hb _ => h.block b hb (by simp), fun b e => .inl e, fun b e n hb => ?_⟩
  have hlt : b < w.heap.size := by
    unfold World.shape? at hb
    rcases Nat.lt_or_ge b w.heap.size with g | g
    · exact g
    · rw [Array.getElem?_eq_none g] at hb; cases hb
  unfold World.shape? at hb ⊢
  rw [h.block b hlt (by simp)]; exact hb
def nearOK (k : Memo) : Bool := k.f == 178 && match k.args, k.t with
  | [.mapL ks vs], .int .i64 r => match unI ks, unI vs with
    | some a, some b => nearB a b r
    | _, _ => false
  | _, _ => false
theorem near_pu {k : Memo} (h : nearOK k = true) : PuOK Try.prog k.f k.args k.t := by
  obtain ⟨f, args, t⟩ := k
  simp only [nearOK, Bool.and_eq_true, beq_iff_eq] at h
  obtain ⟨rfl, h⟩ := h
  split at h
  · rename_i kA vA r
    split at h
    · rename_i ks vs e1 e2
      rw [unI_eq e1, unI_eq e2]
      simp only [nearB, Bool.and_eq_true, decide_eq_true_eq] at h
      obtain ⟨⟨⟨⟨⟨q1, q2⟩, q3⟩, q4⟩, q5⟩, q6⟩ := h
      have hnd := nodI_ok q5
      intro Sc w us hs hargs
      obtain ⟨u, rfl, hu⟩ : ∃ u, us = #[u] ∧ Rep w Sc (fun _ => none) (.mapL (ks.map (AV.int .i64)) (vs.map (AV.int .i64))) u := by
        obtain ⟨hl, hr⟩ := hargs
        have h1 : us.size = 1 := by simpa using hl
        refine ⟨us[0], ?_, hr 0 _ us[0] rfl (by simp [h1])⟩
        apply Array.ext
        · simp [h1]
        · intro i a1 a2
          have : i = 0 := by simp at a2; omega
          subst this; rfl
      obtain ⟨b, es, cl, rfl, g1, g2, g3, g4, g5, g6, g7⟩ := hu.inv_mapB
      rw [List.length_map] at g3 g4
      have h1 : ∀ (i : Nat) k e, ks[i]? = some k → es[i]? = some e → e.key = .int .i64 k := fun i k e a1 a2 => (g5 i (.int .i64 k) e (by simp [a1]) a2).inv_int
      have h2 : ∀ (i : Nat) k e, vs[i]? = some k → es[i]? = some e → e.val = .int .i64 k := fun i k e a1 a2 => (g6 i (.int .i64 k) e (by simp [a1]) a2).inv_int
      have F : Fit (H := Unit) Try.prog 3 (plainElem Try.prog 3) es cl := near_fit g3 g4 h1 h2 g7 q2 q3 q4 hnd
      refine (near_any b es.size _ w ⟨es, cl, g2, F, Nat.le_refl _, rfl⟩).mono ?_
      rintro e w' ⟨r', f', left, rfl, hN, hl, hg⟩
      have hr : r' = r := by
        rcases hN with ⟨-, h0, hN⟩ | ⟨-, cb, hb, hN⟩
        · cases ks with
          | nil => simp only [decide_eq_true_eq] at q6; rw [h0, q6]
          | cons k ks' =>
            exfalso
            have i3 : 0 < vs.length := by rw [← q1]; simp
            have := hN _ _ (fun zd => near_at g3 g4 h1 h2 q3 q4 F (i := 0) (by simp) i3 zd)
            rw [hl] at this; cases this
        · obtain ⟨j, hj, ej⟩ := near_of g3 h1 q3 F hb
          have hjv : j < vs.length := by omega
          have ecb : vs[j] = cb := by
            have a1 := near_at g3 g4 h1 h2 q3 q4 F hj hjv (.lit (.int .i64 0))
            rw [ej, hb] at a1
            simp only [DataW.lit.injEq, Lit.int.injEq, true_and] at a1
            exact a1.symm
          have hmem : ∀ i, (hi : i < ks.length) → (hi' : i < vs.length) → (ks[i], vs[i]) ∈ ks.zip vs := fun i hi hi' => by
            have hz : i < (ks.zip vs).length := by rw [List.length_zip]; omega
            have : (ks.zip vs)[i] = (ks[i], vs[i]) := by simp
            rw [← this]; exact List.getElem_mem hz
          have q6' : ((ks.zip vs).any fun p => decide (p.1 = r) && (ks.zip vs).all fun q => decide (p.2 < q.2) || (decide (p.2 = q.2) && decide (r ≤ q.1))) = true := by
            cases ks with
            | nil => simp at hj
            | cons k ks' => exact q6
          obtain ⟨p, hp, hq⟩ := List.any_eq_true.1 q6'
          simp only [Bool.and_eq_true, decide_eq_true_eq] at hq
          have c1 := List.all_eq_true.1 hq.2 _ (hmem j hj hjv)
          simp only [Bool.or_eq_true, Bool.and_eq_true, decide_eq_true_eq] at c1
          obtain ⟨i, hi, hpi⟩ := List.getElem_of_mem hp
          rw [List.length_zip] at hi
          have hi1 : i < ks.length := by omega
          have hi2 : i < vs.length := by omega
          have hpe : p = (ks[i], vs[i]) := by rw [← hpi]; simp
          have c2 := hN ks[i] vs[i] (hl _) (fun zd => near_at g3 g4 h1 h2 q3 q4 F hi1 hi2 zd)
          rw [hpe] at c1 hq
          simp only at c1 hq
          rw [ecb, ej] at c1
          rw [hq.1] at c2
          omega
      subst hr
      exact ⟨_, rfl, .int .i64 r', noH, [], Sc, fun _ => none, grown_adv hg, ⟨fun id b hb => by simp [hget, noH] at hb, fun id id' b b' loc loc' hb => by simp [hget, noH] at hb, fun b hb => Nat.lt_of_lt_of_le (hs.bd b hb) hg.size⟩, .int, rfl, List.nodup_nil⟩
    · cases h
  · cases h
end Go.Proofs.Ytimbhebamjnfmaa
