/- Soundness: results of calls; the call as an operation. -/
import Derived.Test.YtiailejekbnkgaaGreatJE
set_option linter.unusedVariables false
set_option linter.unusedSimpArgs false
namespace Go.V
open Go.RowKit
variable {P : Program}

theorem hasLstL_mem : ∀ {cs : List AV}, hasLstL cs = false → ∀ c ∈ cs, c.isLst = false
  | [], _, c, hc => by simp at hc
  | x :: cs, h, c, hc => by
    simp only [List.mem_cons] at hc
    cases x <;> simp only [hasLstL] at h <;> first
      | (cases h; done)
      | (rcases hc with rfl | hc
         · rfl
         · exact hasLstL_mem h c hc)
section res
variable {S' S'' : Nat → Prop} {φ' : Phi} {H' : Heap} {w' : World}
/-- A result's tree is taken over: its blocks, its value. -/
def DetOK (P : Program) (w' : World) (S'' : Nat → Prop) (φ' : Phi) (H' : Heap) (nx : Nat) (att : AV × Wr × Nat) (ids : List Nat) (vv : Value) : Prop :=
  ∃ es, att.2.1 = mkWr nx es ∧ att.2.2 = nx + es.length ∧ es.length = ids.length ∧
    (∀ (k : Nat) e, es[k]? = some e → ∃ id loc, ids[k]? = some id ∧ (hget H' id).isSome = true ∧ φ' id = some loc ∧ e.loc.blk = loc.blk ∧ SimBlk P w' S'' (fun _ => none) e.loc (.row e.loc.sz e.xs)) ∧
    ∀ φ : Phi, (∀ (k : Nat) e, es[k]? = some e → φ (nx + k) = some e.loc) → Rep w' S'' φ att.1 vv
theorem detOK_pure {nx : Nat} {t : AV} {vv : Value} (h : ∀ φ : Phi, Rep w' S'' φ t vv) : DetOK P w' S'' φ' H' nx (t, [], nx) [] vv :=
  ⟨[], rfl, rfl, rfl, by simp, fun φ _ => h φ⟩
theorem detC {v t : AV} {ids : List Nat} {vv : Value} (hs : Sim P S' φ' (hget H') w') (he : detachC H' v = some (t, ids)) (hv : Rep w' S' φ' v vv) (hST : (∀ b, S' b → S'' b) ∨ t.hasLst0 = false) (nx : Nat) : DetOK P w' S'' φ' H' nx (attachC nx t) ids vv := by
  unfold detachC at he
  split at he
  · rename_i id off len
    split at he
    · rename_i s xs e1
      split at he
      · rename_i hc
        cases he
        obtain ⟨loc, cap, e', n', hφ, hsh, hn', hlc, hval⟩ := hv.inv_own
        obtain ⟨loc', g1, g2, g3⟩ := hs.blk id _ e1
        rw [hφ] at g1; cases g1
        have hlen : ((xs.drop off).take len).length = len := by simp; omega
        have hls : loc.sz = s := g2.1
        obtain ⟨q1, q2⟩ := g2.sub (off := off) (len := len)
        obtain ⟨blk1, blk2, cur, ce, f3, f4, f5⟩ := g2
        have hST' : ∀ c, (∃ x ∈ (xs.drop off).take len, c ∈ x) → (∀ b, S' b → S'' b) ∨ c.isLst = false := fun c ⟨x, hx, hcx⟩ => by
          rcases hST with h1 | h1
          · exact .inl h1
          · right
            simp only [AV.hasLst0, List.any_eq_false] at h1
            exact hasLstL_mem (by simpa using h1 x hx) c hcx
        refine ⟨[⟨⟨loc.blk, loc.base + off * s, s⟩, (xs.drop off).take len⟩], rfl, rfl, rfl, fun k e hk => ?_, fun φ hφs => ?_⟩
        · cases k with
          | succ k => simp at hk
          | zero =>
            simp at hk; subst hk
            refine ⟨id, loc, rfl, by rw [e1]; rfl, hφ, rfl, rfl, q1, cur, ce, f3, ?_, fun i j x a r1 r2 => ?_⟩
            · have : (off + len) * s ≤ xs.length * s := Nat.mul_le_mul_right _ hc.1
              rw [Nat.add_mul] at this
              simp only [hlen]; omega
            · obtain ⟨o1, u, p1, p2⟩ := q2 i j x a r1 r2
              have hcell : w'.cell? ⟨loc.blk, loc.base + off * loc.sz + i * s + j, none⟩ = cur[loc.base + off * s + i * s + j]? := by simp [World.cell?, f3, hls]
              rw [hcell] at p1
              have hno := hc.2
              rw [List.all_eq_true] at hno
              have := hno x (List.mem_of_getElem? r1)
              rw [List.all_eq_true] at this
              exact ⟨o1, u, p1, p2.move (this a (List.mem_of_getElem? r2)) (hST' a ⟨x, List.mem_of_getElem? r1, List.mem_of_getElem? r2⟩)⟩
        · have h0 := hφs 0 _ rfl
          have := Rep.own (w := w') (S := S'') (off := 0) (len := len) (cap := cap) h0 hsh (by
            rw [hls] at hn'
            simp only [Nat.zero_add]; rw [Nat.add_mul] at hn'; omega) hlc
          rw [hval, hls]
          simp only [attachC, hlen]
          simpa using this
      · cases he
    · cases he
  · rename_i id i j sz len
    cases e0 : subOf H' id i j sz len with
    | none => simp [e0] at he
    | some ys =>
      simp only [e0, Option.bind_some] at he
      split at he
      · rename_i hno
        cases he
        obtain ⟨s, xs, x, b1, b2, b3, b4⟩ := subOf_spec e0
        obtain ⟨loc, cap, e', n', hφ, hsh, hn', hlc, hval⟩ := hv.inv_sub
        obtain ⟨loc', g1, g2, g3⟩ := hs.blk id _ b1
        rw [hφ] at g1; cases g1
        have hvw := g2.view (j := j) (sz := sz) (n := len) b2 b3
        rw [← b4] at hvw
        have hlen : ys.length = len := by rw [b4, chunks_length]
        obtain ⟨v1, v2, cur, ce, f3, v4, v5⟩ := hvw
        have hST' : ∀ c, (∃ x ∈ ys, c ∈ x) → (∀ b, S' b → S'' b) ∨ c.isLst = false := fun c ⟨x, hx, hcx⟩ => by
          rcases hST with h1 | h1
          · exact .inl h1
          · right
            simp only [AV.hasLst0, List.any_eq_false] at h1
            exact hasLstL_mem (by simpa using h1 x hx) c hcx
        refine ⟨[⟨⟨loc.blk, loc.base + i * loc.sz + j, sz⟩, ys⟩], rfl, rfl, rfl, fun k e hk => ?_, fun φ hφs => ?_⟩
        · cases k with
          | succ k => simp at hk
          | zero =>
            simp at hk; subst hk
            refine ⟨id, loc, rfl, by rw [b1]; rfl, hφ, rfl, rfl, v2, cur, ce, f3, v4, fun a l y c r1 r2 => ?_⟩
            obtain ⟨o1, u, p1, p2⟩ := v5 a l y c r1 r2
            rw [List.all_eq_true] at hno
            have := hno y (List.mem_of_getElem? r1)
            rw [List.all_eq_true] at this
            exact ⟨o1, u, p1, p2.move (this c (List.mem_of_getElem? r2)) (hST' c ⟨y, List.mem_of_getElem? r1, List.mem_of_getElem? r2⟩)⟩
        · have h0 := hφs 0 _ rfl
          have := Rep.own (w := w') (S := S'') (off := 0) (len := len) (cap := cap) h0 hsh (by simp only [Nat.zero_add]; exact hn') hlc
          rw [hval]
          simp only [attachC, hlen]
          simpa using this
      · cases he
  · split at he
    · rename_i hn
      cases he
      have ha : attachC nx v = (v, [], nx) := by cases v <;> first | rfl | (simp [AV.noId] at hn)
      rw [ha]
      refine detOK_pure fun φ => hv.move hn ?_
      rcases hST with h1 | h1
      · exact .inl h1
      · right; cases v <;> first | rfl | (simp [AV.hasLst0] at h1)
    · cases he
theorem detOK_cons {nx : Nat} {att1 : AV × Wr × Nat} {ids1 ids2 : List Nat} {vv : Value} {as : List AV} {wr2 : Wr} {nx2 : Nat} {vs : List Value}
    (h1 : DetOK P w' S'' φ' H' nx att1 ids1 vv)
    (h2 : ∃ es, wr2 = mkWr att1.2.2 es ∧ nx2 = att1.2.2 + es.length ∧ es.length = ids2.length ∧
      (∀ (k : Nat) e, es[k]? = some e → ∃ id loc, ids2[k]? = some id ∧ (hget H' id).isSome = true ∧ φ' id = some loc ∧ e.loc.blk = loc.blk ∧ SimBlk P w' S'' (fun _ => none) e.loc (.row e.loc.sz e.xs)) ∧
      ∀ φ : Phi, (∀ (k : Nat) e, es[k]? = some e → φ (att1.2.2 + k) = some e.loc) → Reps w' S'' φ as vs.toArray) :
    ∃ es, att1.2.1 ++ wr2 = mkWr nx es ∧ nx2 = nx + es.length ∧ es.length = (ids1 ++ ids2).length ∧
      (∀ (k : Nat) e, es[k]? = some e → ∃ id loc, (ids1 ++ ids2)[k]? = some id ∧ (hget H' id).isSome = true ∧ φ' id = some loc ∧ e.loc.blk = loc.blk ∧ SimBlk P w' S'' (fun _ => none) e.loc (.row e.loc.sz e.xs)) ∧
      ∀ φ : Phi, (∀ (k : Nat) e, es[k]? = some e → φ (nx + k) = some e.loc) → Reps w' S'' φ (att1.1 :: as) (vv :: vs).toArray := by
  obtain ⟨e1, a1, a2, a3, a4, a5⟩ := h1
  obtain ⟨e2, b1, b2, b3, b4, b5⟩ := h2
  rw [a2] at b1 b2 b5
  refine ⟨e1 ++ e2, by rw [mkWr_append, a1, b1], by simp [b2, Nat.add_assoc], by simp [a3, b3], fun k e hk => ?_, fun φ hφ => ?_⟩
  · by_cases h : k < e1.length
    · rw [List.getElem?_append_left h] at hk
      obtain ⟨id, loc, c1, c2⟩ := a4 k e hk
      exact ⟨id, loc, by rw [List.getElem?_append_left (by omega)]; exact c1, c2⟩
    · rw [List.getElem?_append_right (by omega)] at hk
      obtain ⟨id, loc, c1, c2⟩ := b4 _ e hk
      exact ⟨id, loc, by rw [List.getElem?_append_right (by omega), ← a3]; exact c1, c2⟩
  · refine Reps.cons (a5 φ fun k e hk => hφ k e ?_) (b5 φ fun k e hk => ?_)
    · have : k < e1.length := by
        rcases Nat.lt_or_ge k e1.length with h' | h'
        · exact h'
        · rw [List.getElem?_eq_none h'] at hk; cases hk
      rw [List.getElem?_append_left this]; exact hk
    · have := hφ (e1.length + k) e (by rw [List.getElem?_append_right (by omega), Nat.add_sub_cancel_left]; exact hk)
      rwa [← Nat.add_assoc] at this
def DetLs (P : Program) (w' : World) (S'' : Nat → Prop) (φ' : Phi) (H' : Heap) (nx : Nat) (att : List AV × Wr × Nat) (ids : List Nat) (vs : List Value) : Prop :=
  ∃ es, att.2.1 = mkWr nx es ∧ att.2.2 = nx + es.length ∧ es.length = ids.length ∧
    (∀ (k : Nat) e, es[k]? = some e → ∃ id loc, ids[k]? = some id ∧ (hget H' id).isSome = true ∧ φ' id = some loc ∧ e.loc.blk = loc.blk ∧ SimBlk P w' S'' (fun _ => none) e.loc (.row e.loc.sz e.xs)) ∧
    ∀ φ : Phi, (∀ (k : Nat) e, es[k]? = some e → φ (nx + k) = some e.loc) → Reps w' S'' φ att.1 vs.toArray
theorem detL : ∀ {vs ts : List AV} {ids : List Nat} {us : List Value}, Sim P S' φ' (hget H') w' → detachL H' vs = some (ts, ids) → Reps w' S' φ' vs us.toArray → ((∀ b, S' b → S'' b) ∨ ∀ t ∈ ts, t.hasLst0 = false) → ∀ nx, DetLs P w' S'' φ' H' nx (attachL nx ts) ids us
  | [], ts, ids, us, hs, he, hv, hST, nx => by
    cases he
    have : us = [] := by have := hv.1; simpa using this
    subst this
    exact ⟨[], rfl, rfl, rfl, by simp, fun φ _ => reps_nil⟩
  | v :: vs, ts, ids, us, hs, he, hv, hST, nx => by
    simp only [detachL] at he
    split at he
    · rename_i a r as' rs e1 e2
      cases he
      cases us with
      | nil => have := hv.1; simp at this
      | cons u us =>
        refine detOK_cons (detC hs e1 (hv.2 0 v u (by simp) (by simp)) (hST.imp id fun h => h _ (by simp)) nx) ?_
        exact detL hs e2 ⟨by have := hv.1; simpa using this, fun i c x q1 q2 => hv.2 (i + 1) c x (by simpa using q1) (by simpa using q2)⟩ (hST.imp id fun h t ht => h t (by simp [ht])) _
    · cases he
theorem detachC_noAgg {H : Heap} {v t : AV} {ids : List Nat} (h : detachC H v = some (t, ids)) : (∀ y, t ≠ .agg y) ∧ ∀ vs, t ≠ .tup vs := by
  unfold detachC at h
  split at h
  · split at h
    · split at h
      · cases h; exact ⟨(fun _ e => by cases e), (fun _ e => by cases e)⟩
      · cases h
    · cases h
  · rename_i id i j sz len
    cases e0 : subOf H id i j sz len with
    | none => simp [e0] at h
    | some ys =>
      simp only [e0, Option.bind_some] at h
      split at h
      · cases h; exact ⟨(fun _ e => by cases e), (fun _ e => by cases e)⟩
      · cases h
  · split at h
    · rename_i hn; cases h; exact ⟨(fun _ e => by subst e; simp [AV.noId] at hn), (fun _ e => by subst e; simp [AV.noId] at hn)⟩
    · cases h
/-- Whether a list of trees has a slice of old memory. -/
theorem attach1_C {nx : Nat} {t : AV} (h : ∀ y, t ≠ .agg y) : attach1 nx t = attachC nx t := by cases t <;> first | rfl | exact absurd rfl (h _)
theorem det1 {v t : AV} {ids : List Nat} {vv : Value} (hs : Sim P S' φ' (hget H') w') (he : detach1 H' v = some (t, ids)) (hv : Rep w' S' φ' v vv) (hST : (∀ b, S' b → S'' b) ∨ t.hasLst1 = false) (nx : Nat) : DetOK P w' S'' φ' H' nx (attach1 nx t) ids vv := by
  unfold detach1 at he
  split at he
  · rename_i cs
    cases e1 : detachL H' cs with
    | none => simp [e1] at he
    | some p =>
      obtain ⟨as, r⟩ := p
      simp [e1] at he
      obtain ⟨rfl, rfl⟩ := he
      obtain ⟨us, rfl, f2⟩ := hv.inv_agg
      have hST2 : (∀ b, S' b → S'' b) ∨ ∀ t ∈ as, t.hasLst0 = false := by
        rcases hST with h1 | h1
        · exact .inl h1
        · right
          simp only [AV.hasLst1, List.any_eq_false] at h1
          exact fun t ht => by simpa using h1 t ht
      obtain ⟨es, a1, a2, a3, a4, a5⟩ := detL (us := us.toList) hs e1 (by simpa using f2) hST2 nx
      refine ⟨es, a1, a2, a3, a4, fun φ hφ => ?_⟩
      have := a5 φ hφ
      exact .agg (by simpa using this.1) (by simpa using this.2)
  · rw [attach1_C (detachC_noAgg he).1]
    refine detC hs he hv (hST.imp id fun h => ?_) nx
    have := (detachC_noAgg he).1
    cases t <;> first | exact h | exact absurd rfl (this _)
theorem det1_noTup {H : Heap} {v t : AV} {ids : List Nat} (h : detach1 H v = some (t, ids)) : ∀ vs, t ≠ .tup vs := by
  unfold detach1 at h
  split at h
  · rename_i cs
    cases e1 : detachL H cs with
    | none => simp [e1] at h
    | some p => simp [e1] at h; obtain ⟨rfl, -⟩ := h; exact fun _ e => by cases e
  · exact (detachC_noAgg h).2
theorem detM : ∀ {vs ts : List AV} {ids : List Nat} {us : List Value}, Sim P S' φ' (hget H') w' → detachM H' vs = some (ts, ids) → Reps w' S' φ' vs us.toArray → ((∀ b, S' b → S'' b) ∨ ∀ t ∈ ts, t.hasLst1 = false) → ∀ nx, DetLs P w' S'' φ' H' nx (attachM nx ts) ids us
  | [], ts, ids, us, hs, he, hv, hST, nx => by
    cases he
    have : us = [] := by have := hv.1; simpa using this
    subst this
    exact ⟨[], rfl, rfl, rfl, by simp, fun φ _ => reps_nil⟩
  | v :: vs, ts, ids, us, hs, he, hv, hST, nx => by
    simp only [detachM] at he
    split at he
    · rename_i a r as' rs e1 e2
      cases he
      cases us with
      | nil => have := hv.1; simp at this
      | cons u us =>
        refine detOK_cons (det1 hs e1 (hv.2 0 v u (by simp) (by simp)) (hST.imp id fun h => h _ (by simp)) nx) ?_
        exact detM hs e2 ⟨by have := hv.1; simpa using this, fun i c x q1 q2 => hv.2 (i + 1) c x (by simpa using q1) (by simpa using q2)⟩ (hST.imp id fun h t ht => h t (by simp [ht])) _
    · cases he
theorem det {v t : AV} {ids : List Nat} {vv : Value} (hs : Sim P S' φ' (hget H') w') (he : detach H' v = some (t, ids)) (hv : Rep w' S' φ' v vv) (hST : (∀ b, S' b → S'' b) ∨ t.hasLst = false) (nx : Nat) : DetOK P w' S'' φ' H' nx (attach nx t) ids vv := by
  unfold detach at he
  split at he
  · rename_i cs
    cases e1 : detachM H' cs with
    | none => simp [e1] at he
    | some p =>
      obtain ⟨as, r⟩ := p
      simp [e1] at he
      obtain ⟨rfl, rfl⟩ := he
      obtain ⟨us, rfl, f2⟩ := hv.inv_tup
      have hST2 : (∀ b, S' b → S'' b) ∨ ∀ t ∈ as, t.hasLst1 = false := by
        rcases hST with h1 | h1
        · exact .inl h1
        · right
          simp only [AV.hasLst, List.any_eq_false] at h1
          exact fun t ht => by simpa using h1 t ht
      obtain ⟨es, a1, a2, a3, a4, a5⟩ := detM (us := us.toList) hs e1 (by simpa using f2) hST2 nx
      refine ⟨es, a1, a2, a3, a4, fun φ hφ => ?_⟩
      have := a5 φ hφ
      exact .tup (by simpa using this.1) (by simpa using this.2)
  · have hnt := det1_noTup he
    have ha : attach nx t = attach1 nx t := by cases t <;> first | rfl | exact absurd rfl (hnt _)
    rw [ha]
    refine det1 hs he hv (hST.imp id fun h => ?_) nx
    cases t <;> first | exact h | exact absurd rfl (hnt _)
end res

/-! The call -/
section ops
variable {P : Program} {T : FuncId → Option IFn} {cb : Cb} {S : Nat → Prop} {φ : Phi} {h : Mem} {H : Heap} {w : World} {nx : Nat}
theorem call_pure (hT : TOK P T) (hcb : CbOK P cb) {f : FuncId} {args args' : List AV} {rd : List Nat} {t : AV} {H0 : Heap} {us : Array Value} {fn : IFn} (hfn : T f = some fn) (h1 : reifyArgs H args = some (args', rd)) (h2 : cb (.pu f) args' noH = some (t, H0)) (h3 : rd = [] ∨ t.hasLst = false)
    (hrd : ∀ id ∈ rd, h id = hget H id) (hs : Sim P S φ h w) (hv : Reps w S φ args us) (hn : ∀ id, nx ≤ id → id < (attach nx t).2.2 → φ id = none) :
    (∀ vs, (callFunc f vs).run P w = .ok (.enter f vs) w) ∧ Calls P f us w fun e w' => ∃ v, e = .returned v ∧ Ends P S φ h w (attach nx t).1 (attach nx t).2.1 nx (attach nx t).2.2 v w' := by
  obtain ⟨g, c, g1, g2, g3, -⟩ := cFn_spec (hT f fn hfn)
  refine ⟨fun vs => run_callFunc g1 g2 g3 vs, ?_⟩
  obtain ⟨Sc, hSc⟩ : ∃ Sc : Nat → Prop, Sc = fun b => S b ∨ (rd ≠ [] ∧ Own φ h b) := ⟨_, rfl⟩
  have hown_lt : ∀ b, Own φ h b → b < w.heap.size := by
    rintro b ⟨id, x, loc, q1, q2, rfl⟩
    obtain ⟨l', p1, p2, -⟩ := hs.blk id x q1
    rw [q2] at p1; cases p1
    exact p2.lt
  have hsc : Sim P Sc (fun _ => none) (hget noH) w := ⟨fun id b hb => by simp [hget, noH] at hb, fun id id' b b' l l' hb => by simp [hget, noH] at hb, fun b hb => by
    rw [hSc] at hb
    rcases hb with hb | hb
    · exact hs.bd b hb
    · exact hown_lt b hb.2⟩
  have hargs := reifyArgs_rep (Sc := Sc) (us := us.toList) h1 hrd hs (by simpa using hv) (fun b hb => by rw [hSc]; exact .inl hb) (fun hne b hb => by rw [hSc]; exact .inr ⟨hne, hb⟩)
  refine (hcb.pu f args' noH t H0 h2 Sc w us hsc (by simpa using hargs)).mono ?_
  rintro e w' ⟨vv, rfl, v, H', ids, S', φ', adv, sim, rep, e2, hnd⟩
  refine ⟨vv, rfl, ?_⟩
  have hnone : ∀ b, ¬ Own (fun _ => none) (hget noH) b := by rintro b ⟨id, x, loc, q1, q2, q3⟩; cases q2
  have hblk : ∀ b, b < w.heap.size → w'.heap[b]? = w.heap[b]? := fun b hb => adv.keep b hb (hnone b)
  obtain ⟨S'', hS''⟩ : ∃ S'' : Nat → Prop, S'' = fun b => S b ∨ (rd = [] ∧ S' b) := ⟨_, rfl⟩
  have hS1 : ∀ b, S b → S'' b := fun b hb => by rw [hS'']; exact .inl hb
  have hS2 : ∀ b, S'' b → S b ∨ w.heap.size ≤ b := fun b hb => by
    rw [hS''] at hb
    rcases hb with hb | ⟨hr, hb⟩
    · exact .inl hb
    · rcases adv.new b hb with hb | hb
      · rw [hSc] at hb
        rcases hb with hb | hb
        · exact .inl hb
        · exact absurd hr hb.1
      · exact .inr hb
  have hST : (∀ b, S' b → S'' b) ∨ t.hasLst = false := by
    rcases h3 with h3 | h3
    · exact .inl fun b hb => by rw [hS'']; exact .inr ⟨h3, hb⟩
    · exact .inr h3
  obtain ⟨es, a1, a2, a3, a4, a5⟩ := det (nx := nx) sim e2 rep hST
  have hlen : ∀ k e, es[k]? = some e → k < es.length := fun k e hk => by
    rcases Nat.lt_or_ge k es.length with h' | h'
    · exact h'
    · rw [List.getElem?_eq_none h'] at hk; cases hk
  obtain ⟨q1, q2⟩ := adopt_sim (nx := nx) (es := es) (w' := w') hs (fun id i1 i2 => hn id i1 (by rw [a2]; exact i2)) hblk adv.size adv.os adv.tape adv.output adv.shape hS1 hS2 (fun b hb => by
      rcases hS2 b hb with hb' | hb'
      · exact Nat.lt_of_lt_of_le (hs.bd b hb') adv.size
      · rw [hS''] at hb
        rcases hb with hb | ⟨-, hb⟩
        · exact Nat.lt_of_lt_of_le (hs.bd b hb) adv.size
        · exact sim.bd b hb)
    (fun k e hk => by
      obtain ⟨id, loc, b1, b2, b3, b4, b5⟩ := a4 k e hk
      obtain ⟨x, hx⟩ := Option.isSome_iff_exists.1 b2
      obtain ⟨l', c1, c2, c3⟩ := sim.blk id x hx
      rw [b3] at c1; cases c1
      have hge : w.heap.size ≤ loc.blk := by
        rcases adv.own loc.blk ⟨id, x, loc, hx, b3, rfl⟩ with h' | h'
        · exact absurd h' (hnone _)
        · exact h'
      refine ⟨b5, fun hb => ?_, by rw [b4]; exact hge⟩
      rw [hS'', b4] at hb
      rcases hb with hb | ⟨-, hb⟩
      · have := hs.bd _ hb; omega
      · exact c3 hb)
    (fun k k' e e' hk hk' he => by
      obtain ⟨id, loc, b1, b2, b3, b4, b5⟩ := a4 k e hk
      obtain ⟨id', loc', b1', b2', b3', b4', b5'⟩ := a4 k' e' hk'
      obtain ⟨x, hx⟩ := Option.isSome_iff_exists.1 b2
      obtain ⟨x', hx'⟩ := Option.isSome_iff_exists.1 b2'
      have hid := sim.inj id id' x x' loc loc' hx hx' b3 b3' (by rw [← b4, ← b4', he])
      subst hid
      have l1 : k < ids.length := by rw [← a3]; exact hlen k e hk
      have l2 : k' < ids.length := by rw [← a3]; exact hlen k' e' hk'
      have e1 : ids[k] = id := by have : ids[k]? = some ids[k] := by simp [l1]
                                  rw [this] at b1; cases b1; rfl
      have e2 : ids[k'] = id := by have : ids[k']? = some ids[k'] := by simp [l2]
                                   rw [this] at b1'; cases b1'; rfl
      exact (List.getElem_inj hnd).1 (e1.trans e2.symm))
  rw [a1, a2]
  exact ⟨S'', phiE φ nx es, q1, q2, a5 _ fun k e hk => phiE_at φ nx es k e hk, fun id hid => phiE_only φ nx es id hid⟩
end ops
end Go.V
/- Soundness: every operation. -/
set_option linter.unusedVariables false
set_option linter.unusedSimpArgs false
namespace Go.V
open Go.RowKit
variable {P : Program}

theorem call_exec {a : Act} {o : Oper} {c : Call} {f : FuncId} (ho : o.op = .call c) (hc : c.callee = .value (.func f)) : (execOp a.eval o) = (do let d ← (pure { target := .fn (.func f) #[], args := #[] ++ c.args.map a.eval } : Sem Deferred); invoke d.target d.args) := by
  unfold execOp
  simp only [ho, resolve, hc, Deferred.ofValue, Act.eval]
section ops
variable {P : Program} {T : FuncId → Option IFn} {cb : Cb} {S : Nat → Prop} {φ : Phi} {h : Mem} {H : Heap} {w : World} {env : List AV} {a : Act} {o : Oper} {nx : Nat}
theorem args_arr {c : Call} {as : List Arg} (h : cOpds c.args.toList = some as) (hr : Reps w S φ env a.tmps) : Reps w S φ (as.map (arg env)) (c.args.map a.eval) := by
  have := args_rep hr h
  have e : (c.args.toList.map a.eval).toArray = c.args.map a.eval := by rw [← Array.toList_map]
  rw [e] at this; exact this
theorem snd_callC {c : Call} {f : FuncId} {args : List AV} {us : Array Value} {v : AV} {rd : List Nat} {wr : Wr} {nx' : Nat} (hT : TOK P T) (hcb : CbOK P cb)
    (hex : ∀ w, (execOp a.eval o).run P w = (callFunc f us).run P w) (hargs : Reps w S φ args us)
    (he : callOp T cb f args H nx = some (.eff v rd wr nx')) (hrd : ∀ id ∈ rd, h id = hget H id) (hs : Sim P S φ h w) (hn : ∀ id, nx ≤ id → id < nx' → φ id = none) : OpOK P o a w (Ends P S φ h w v wr nx nx') := by
  unfold callOp at he
  split at he
  · cases he
  · rename_i fn hfn
    split at he
    · cases hq : cb (.fn f) args H with
      | none => simp [hq] at he
      | some p =>
        simp only [hq, Option.bind_some] at he
        split at he <;> cases he
    · split at he
      · rename_i args' rd' e1
        split at he
        · rename_i t H0 e2
          split at he
          · rename_i e3
            cases he
            obtain ⟨q1, q2⟩ := call_pure hT hcb hfn e1 e2 e3 hrd hs hargs hn
            exact .inr (.inr ⟨f, us, w, by rw [hex, q1], q2⟩)
          · cases he
        · cases he
      · cases he
theorem callv_exec {c : Call} {g : Operand} {f : FuncId} {vf vc : Array Value} (ho : o.op = .call c) (hc : c.callee = .value g) (hg : a.eval g = .func (.func f) vf vc) (w : World) : (execOp a.eval o).run P w = (callFunc f (vf ++ c.args.map a.eval ++ vc)).run P w := by
  unfold execOp
  simp only [ho, resolve, hc, hg, Deferred.ofValue, Sem.run_bind, Sem.run_pure, Result.andThen_ok, invoke]
theorem one_arg {c : Call} {x : Arg} (hargs : cOpds c.args.toList = some [x]) : ∃ p, c.args = #[p] ∧ cOpd p = some x := by
  cases hl : c.args.toList with
  | nil => rw [hl] at hargs; cases hargs
  | cons p ps =>
    rw [hl] at hargs
    simp only [cOpds] at hargs
    split at hargs
    · rename_i q1 q2 e1 e2
      cases hargs
      cases ps with
      | nil => exact ⟨p, by have : c.args = (c.args.toList).toArray := by simp
                            rw [this, hl], e1⟩
      | cons r rs =>
        simp only [cOpds] at e2
        split at e2 <;> cases e2
    · cases hargs
theorem two_arg {c : Call} {x y : Arg} (hargs : cOpds c.args.toList = some [x, y]) : ∃ p q, c.args = #[p, q] ∧ cOpd p = some x ∧ cOpd q = some y := by
  cases hl : c.args.toList with
  | nil => rw [hl] at hargs; cases hargs
  | cons p ps =>
    rw [hl] at hargs
    simp only [cOpds] at hargs
    split at hargs
    · rename_i q1 q2 e1 e2
      cases hargs
      cases ps with
      | nil => cases e2
      | cons r rs =>
        simp only [cOpds] at e2
        split at e2
        · rename_i q3 q4 e3 e4
          cases e2
          cases rs with
          | nil => exact ⟨p, r, by have : c.args = (c.args.toList).toArray := by simp
                                   rw [this, hl], e1, e3⟩
          | cons r' rs' =>
            simp only [cOpds] at e4
            split at e4 <;> cases e4
        · cases e2
    · cases hargs
theorem inv_exec {c : Call} {x : Operand} {name : String} {t : TypeId} {v : Value} {f : FuncId} (ho : o.op = .call c) (hc : c.callee = .invoke x name) (hx : a.eval x = .iface t v) (hf : lookT t (methTbl P name) = some f) (w : World) :
    (execOp a.eval o).run P w = (callFunc f (#[v] ++ c.args.map a.eval)).run P w := by
  unfold execOp
  simp only [ho, resolve, hc, hx, Sem.run_bind, Sem.run_pure, Result.andThen_ok, invoke]
  have h1 : (#[Value.iface t v] ++ c.args.map a.eval)[0]? = some (.iface t v) := by rw [Array.getElem?_append_left (by simp)]; rfl
  have h2 : (#[Value.iface t v] ++ c.args.map a.eval).extract 1 (#[Value.iface t v] ++ c.args.map a.eval).size = c.args.map a.eval := by
    apply Array.ext'
    simp [List.take_of_length_le]
  have h3 : 1 ≤ Made.depth := by unfold Made.depth; omega
  have hd : (P.types.size + Made.depth) = (P.types.size + (Made.depth - 1)) + 1 := by omega
  simp only [h1, h2, callMethod, Sem.run_bind, run_program, Result.andThen_ok, hd, run_method hf]
theorem op_eff (hT : TOK P T) (hcb : CbOK P cb) {op : Op} {io : PO} (hc : cOp P op = some io) (ho : o.op = op) {v : AV} {rd : List Nat} {wr : Wr} {nx' : Nat} (he : evalOp T cb env H nx io = some (.eff v rd wr nx')) (hrd : ∀ id ∈ rd, h id = hget H id) (hs : Sim P S φ h w) (hr : Reps w S φ env a.tmps) (hn : ∀ id, nx ≤ id → id < nx' → φ id = none) :
    OpOK P o a w (Ends P S φ h w v wr nx nx') := by
  have hn1 : nx < nx' → φ nx = none := fun hlt => hn nx (Nat.le_refl _) hlt
  cases op with
  | move x =>
    simp only [cOp] at hc
    cases hx : cOpd x with
    | none => simp [hx] at hc
    | some ax => simp [hx] at hc; subst hc; cases he; exact snd_mv (by unfold execOp; simp only [ho]) hx hs hr
  | assign x =>
    simp only [cOp] at hc
    cases hx : cOpd x with
    | none => simp [hx] at hc
    | some ax => simp [hx] at hc; subst hc; cases he; exact snd_mv (by unfold execOp; simp only [ho]) hx hs hr
  | pick x y z =>
    simp only [cOp] at hc
    split at hc
    · rename_i ac ax ay e1 e2 e3
      cases hc
      simp only [evalOp] at he
      split at he
      · rename_i b hb; cases he; exact snd_pick ho e1 e2 e3 hb hs hr
      · cases he
    · cases hc
  | alloc e =>
    simp only [cOp] at hc
    cases hz : zeroK P e with
    | none => simp [hz] at hc
    | some z =>
      simp [hz] at hc; subst hc
      simp only [evalOp] at he
      split at he
      · cases he; exact snd_new ho hz hs (hn1 (by omega))
      · cases he
  | box e x =>
    simp only [cOp] at hc
    cases hx : cOpd x with
    | none => simp [hx] at hc
    | some ax =>
      simp [hx] at hc; subst hc
      simp only [evalOp] at he
      split at he
      · rename_i h1; cases he; exact snd_box ho hx h1 hs hr (hn1 (by omega))
      · cases he
  | build t ps =>
    simp only [cOp] at hc
    split at hc
    · rename_i d z e1 e2
      split at hc
      · rename_i hg
        cases hp : cParts P d ps.toList with
        | none => simp [hp] at hc
        | some ps' =>
          simp [hp] at hc; subst hc
          simp only [evalOp] at he
          cases hf : fillA env ps' z with
          | none => simp [hf] at he
          | some cs => simp [hf] at he; obtain ⟨rfl, rfl, rfl, rfl⟩ := he; exact snd_build ho e1 e2 hg hp hf hs hr
      · cases hc
    · cases hc
  | buildSlice t n ps =>
    simp only [cOp] at hc
    split at hc
    · rename_i e hu
      split at hc
      · rename_i s z ps' e1 e2 e3
        split at hc
        · cases hc
        · rename_i h0
          cases hc
          simp only [evalOp] at he
          split at he
          · rename_i hcc
            cases hf : fillS env s ps' (List.replicate n z) with
            | none => simp [hf] at he
            | some xs => simp [hf] at he; obtain ⟨rfl, rfl, rfl, rfl⟩ := he; exact snd_buildS ho hu e1 e2 e3 (by simpa using h0) hcc hf hs hr (hn1 (by omega))
          · cases he
      · cases hc
    · cases hc
  | load t x =>
    simp only [cOp] at hc
    split at hc
    · rename_i k ax e1 e2; cases hc; exact snd_load ho e1 e2 he hrd hs hr
    · cases hc
  | store t x y =>
    simp only [cOp] at hc
    split at hc
    · rename_i n ax ay e1 e2 e3; cases hc; exact snd_store ho e1 e2 e3 he hrd hs hr
    · cases hc
  | fieldAddr s x i =>
    simp only [cOp] at hc
    split at hc
    · rename_i fs ax hu hx
      cases hf : fs[i]? with
      | none => simp [hf] at hc
      | some f =>
        simp only [hf, Option.bind_some] at hc
        split at hc
        · cases hc
        · rename_i n hne hsz; cases hc; exact snd_fieldA ho hu hf hsz (fun e => hne e) hx he hs hr
        · cases hc
    · cases hc
  | indexAddr t x y =>
    simp only [cOp] at hc
    split at hc
    · rename_i e ax ay hu hx hy
      cases hk : sizeK P e with
      | none => simp [hk] at hc
      | some n => simp [hk] at hc; subst hc; exact snd_indexS ho hu hk hx hy he hrd hs hr
    · rename_i len e ax ay hu hx hy
      cases hk : sizeK P e with
      | none => simp [hk] at hc
      | some n => simp [hk] at hc; subst hc; exact snd_indexA ho hu hk hx hy he hs hr
    · cases hc
  | field t x i =>
    simp only [cOp] at hc
    split at hc
    · rename_i fs ax hu hx
      cases hf : fs[i]? with
      | none => simp [hf] at hc
      | some f =>
        cases hk : partK P f.type with
        | none => simp [hf, hk] at hc
        | some k => simp [hf, hk] at hc; subst hc; exact snd_field ho hu hf hk hx he hs hr
    · cases hc
  | index t x y =>
    simp only [cOp] at hc
    split at hc
    · rename_i ax ay hu hx hy
      cases hc
      exact snd_strX ho hu hx hy he hs hr
    · rename_i len e ax ay hu hx hy
      split at hc
      · rename_i k s hk hsz; cases hc; exact snd_indexV ho hu hk hsz hx hy he hs hr
      · cases hc
    · cases hc
  | binOp op t x y t' =>
    simp only [cOp] at hc
    split at hc
    · rename_i ax ay hx hy
      split at hc
      · cases hc
        simp only [evalOp] at he
        cases hb : binA op (arg env ax) (arg env ay) with
        | none => simp [hb] at he
        | some z => simp [hb] at he; obtain ⟨rfl, rfl, rfl, rfl⟩ := he; exact snd_bin ho hx hy hb hs hr
      · rename_i hnt
        have hnt' : isIntT P t = false := by simpa using hnt
        split at hc
        · rename_i hif
          split at hc
          · rename_i hnil
            split at hc
            · cases hc; exact snd_isNilI (neg := false) ho hif hx hnil he hs hr
            · cases hc; exact snd_isNilI (neg := true) ho hif hx hnil he hs hr
            · cases hc
          · cases hc
        split at hc
        · rename_i hst
          split at hc
          · cases hc; exact snd_eqS (neg := false) ho hst hx hy he hs hr
          · cases hc; exact snd_eqS (neg := true) ho hst hx hy he hs hr
          · cases hc
        split at hc
        · unfold cNil at hc
          split at hc
          · rename_i hnil; cases hc; simp only [Bool.and_eq_true] at hnil; exact snd_isNil (neg := false) ho hnil.1 hnil.2 hx he hs hr
          · exact snd_eqv (neg := false) ho hc hx hy hnt' he hs hr
        · unfold cNil at hc
          split at hc
          · rename_i hnil; cases hc; simp only [Bool.and_eq_true] at hnil; exact snd_isNil (neg := true) ho hnil.1 hnil.2 hx he hs hr
          · exact snd_eqv (neg := true) ho hc hx hy hnt' he hs hr
        · cases hc
    · cases hc
  | unOp op t x =>
    simp only [cOp] at hc
    cases hx : cOpd x with
    | none => simp [hx] at hc
    | some ax =>
      simp [hx] at hc; subst hc
      simp only [evalOp] at he
      cases hb : unA op (arg env ax) with
      | none => simp [hb] at he
      | some z => simp [hb] at he; obtain ⟨rfl, rfl, rfl, rfl⟩ := he; exact snd_un ho hx hb hs hr
  | convert s d x =>
    simp only [cOp] at hc
    split at hc
    · rename_i k0 k ax h1 h2 hx
      cases hc
      simp only [evalOp] at he
      split at he
      · rename_i k' n e1; cases he; exact snd_conv ho h1 h2 hx e1 hs hr
      · cases he
    · rename_i e ax h1 h2 hx
      split at hc
      · rename_i hb
        cases hc
        simp only [Bool.and_eq_true, beq_iff_eq] at hb
        exact snd_bstr ho h1 h2 hb.1 hx he hrd hs hr
      · cases hc
    · cases hc
  | makeSlice t x y =>
    simp only [cOp] at hc
    split at hc
    · rename_i e ax ay hu hx hy
      split at hc
      · rename_i i z hi hz
        split at hc
        · cases hc
        · cases hc; exact snd_mkS ho hu hi hz hx hy he hs hr hn1
      · cases hc
    · cases hc
  | nilCheck x =>
    simp only [cOp, Option.map_eq_some_iff] at hc
    obtain ⟨ax, hx, rfl⟩ := hc
    exact snd_nck ho hx he hs hr
  | slice t x lo hi mx =>
    cases mx with
    | none =>
      simp only [cOp] at hc
      split at hc
      · rename_i e ax alo ahi hu hx hlo hhi
        cases hk : sizeK P e with
        | none => simp [hk] at hc
        | some n => simp [hk] at hc; subst hc; exact snd_sl ho hu hk hx hlo hhi he hrd hs hr
      · rename_i n e ax ahi hu hx hlo hhi
        have hlo' : lo = none := by
          cases lo with
          | none => rfl
          | some y => simp [cOpt, Option.map_eq_some_iff] at hlo
        subst hlo'
        cases hk : sizeK P e with
        | none => simp [hk] at hc
        | some s => simp [hk] at hc; subst hc; exact snd_slA ho hu hk hx hhi he hrd hs hr
      · cases hc
    | some mx =>
      cases hi with
      | none => simp [cOp] at hc
      | some hi =>
        simp only [cOp] at hc
        split at hc
        · rename_i e ax alo ahi amx hu hx hlo hhi hmx
          cases hk : sizeK P e with
          | none => simp [hk] at hc
          | some n => simp [hk] at hc; subst hc; exact snd_sl3 ho hu hk hx hlo hhi hmx he hrd hs hr
        · cases hc
  | extract x i =>
    simp only [cOp] at hc
    cases hx : cOpd x with
    | none => simp [hx] at hc
    | some ax =>
      simp [hx] at hc; subst hc
      simp only [evalOp] at he
      split at he
      · rename_i vs e1
        cases e2 : vs[i]? with
        | none => simp [e2] at he
        | some z => simp [e2] at he; obtain ⟨rfl, rfl, rfl, rfl⟩ := he; exact snd_ext ho hx e1 e2 hs hr
      · cases he
  | makeFunc fn first caps =>
    cases fn with
    | func f =>
      simp only [cOp] at hc
      split at hc
      · rename_i af ac h1 h2; cases hc; cases he; exact snd_mkF ho h1 h2 hs hr
      · cases hc
    | _ => simp [cOp] at hc
  | call c =>
    simp only [cOp] at hc
    split at hc
    · rename_i b args hcal hargs
      unfold cBuiltin at hc
      split at hc
      · -- len
        rename_i x
        obtain ⟨p, hp1, hp2⟩ := one_arg hargs
        split at hc
        · rename_i e ht
          cases hc
          cases h0 : c.argTypes[0]? with
          | none => simp [h0] at ht
          | some t => simp [h0] at ht; exact snd_len ho hcal hp1 h0 ht hp2 he hs hr
        · rename_i n e ht
          cases hc
          cases he
          cases h0 : c.argTypes[0]? with
          | none => simp [h0] at ht
          | some t => simp [h0] at ht; exact snd_lenC ho hcal hp1 h0 ht hs
        · rename_i k e ht
          cases hc
          cases h0 : c.argTypes[0]? with
          | none => simp [h0] at ht
          | some t => simp [h0] at ht; exact snd_lenM (c := c) (m := p) (fun w => by obtain ⟨consts, hex⟩ := builtin_exec (a := a) ho hcal; rw [hex]; simp [invoke, builtin, hp1]) h0 ht hp2 he hrd hs hr
        · cases hc
      · -- delete
        rename_i m k
        obtain ⟨p, q, hp1, hp2, hp3⟩ := two_arg hargs
        cases h0 : c.argTypes[0]? with
        | none => simp [h0] at hc
        | some t =>
          cases hm : mapK P t with
          | none => simp [h0, hm] at hc
          | some r =>
            obtain ⟨kk, e⟩ := r
            simp [h0, hm] at hc; subst hc
            exact snd_mdel (c := c) (m := p) (k := q) (fun w => by obtain ⟨consts, hex⟩ := builtin_exec (a := a) ho hcal; rw [hex]; simp [invoke, builtin, hp1]) h0 hm hp2 hp3 he hrd hs hr
      · cases hc; cases he
      · -- copy
        rename_i x y
        obtain ⟨p, q, hp1, hp2, hp3⟩ := two_arg hargs
        split at hc
        · rename_i e e' h1 h2
          cases h0 : c.argTypes[0]? with
          | none => simp [h0] at h1
          | some t =>
            simp [h0] at h1
            cases hk : sizeK P e with
            | none => simp [hk] at hc
            | some n => simp [hk] at hc; subst hc; exact snd_cpy (u := 0) (e' := e') ho hcal hp1 h0 h1 hk hp2 hp3 he hrd hs hr
        · cases hc
      · -- append
        rename_i x y
        have ha := two_arg hargs
        obtain ⟨p, q, hp1, hp2, hp3⟩ := ha
        split at hc
        · rename_i e u ht hu1
          split at hc
          · rename_i i z hi hz
            split at hc
            · rename_i hcc
              simp only [beq_iff_eq] at hcc
              cases h0 : c.argTypes[0]? with
              | none => simp [h0] at ht
              | some t =>
                simp [h0] at ht
                split at hc
                · rename_i hsl
                  cases hc
                  obtain ⟨e', he'⟩ : ∃ e', P.underlying u = some (.slice e') := by
                    unfold isSliceT at hsl
                    split at hsl
                    · rename_i e' he'; exact ⟨e', he'⟩
                    · cases hsl
                  exact snd_app ho hcal hp1 h0 ht hu1 he' hi hz hcc hp2 hp3 he hrd hs hr hn1
                · split at hc
                  · rename_i hit
                    cases hc
                    obtain ⟨k', hk'⟩ : ∃ k', P.underlying u = some (.int k') := by
                      unfold isIntT at hit
                      split at hit
                      · rename_i e' he'; exact ⟨e', he'⟩
                      · cases hit
                    exact snd_appZ ho hcal hp1 h0 ht hu1 hk' hi hz hcc hp2 hp3 he hs hr hn1
                  · cases hc
            · cases hc
          · cases hc
        · cases hc
      · -- cap
        rename_i x
        obtain ⟨p, hp1, hp2⟩ := one_arg hargs
        split at hc
        · rename_i e ht
          cases hc
          cases h0 : c.argTypes[0]? with
          | none => simp [h0] at ht
          | some t => simp [h0] at ht; exact snd_cap ho hcal hp1 h0 ht hp2 he hs hr
        · cases hc
      · -- clear
        rename_i x
        obtain ⟨p, hp1, hp2⟩ := one_arg hargs
        split at hc
        · rename_i e ht
          split at hc
          · rename_i n z hk hz
            split at hc
            · rename_i hzl
              cases hc
              simp only [beq_iff_eq] at hzl
              cases h0 : c.argTypes[0]? with
              | none => simp [h0] at ht
              | some t => simp [h0] at ht; exact snd_clr ho hcal hp1 h0 ht hk hz hzl hp2 he hrd hs hr
            · cases hc
          · cases hc
        · cases hc
      · cases hc; exact snd_mx (mx := false) ho hcal hargs he hs hr
      · cases hc; exact snd_mx (mx := true) ho hcal hargs he hs hr
      · cases hc
    · rename_i f args hcal hargs
      cases hc
      simp only [evalOp] at he
      exact snd_callC (c := c) (us := c.args.map a.eval) hT hcb (fun w => by rw [call_exec ho hcal]; simp [invoke]) (args_arr hargs hr) he hrd hs hn
    · rename_i g args hng hcal hargs
      cases hg : cOpd g with
      | none => simp [hg] at hc
      | some ag =>
        simp [hg] at hc; subst hc
        simp only [evalOp] at he
        split at he
        · rename_i f first caps e1
          have hv := arg_rep hr hg
          rw [e1] at hv
          obtain ⟨vf, vc, k1, k2, k3⟩ : ∃ vf vc, a.eval g = .func (.func f) vf vc ∧ Reps w S φ first vf ∧ Reps w S φ caps vc := by
            generalize a.eval g = q at hv
            cases hv with
            | fn hl h hl' h' => exact ⟨_, _, rfl, ⟨hl, h⟩, ⟨hl', h'⟩⟩
          exact snd_callC (c := c) hT hcb (callv_exec ho hcal k1) ((k2.append (args_arr hargs hr)).append k3) he hrd hs hn
        · rename_i id e1
          cases hq : cb (.yl id) (args.map (arg env)) H with
          | none => simp [hq] at he
          | some p => simp [hq] at he
        · cases he
    · rename_i x name args hcal hargs
      cases hx : cOpd x with
      | none => simp [hx] at hc
      | some ax =>
        simp [hx] at hc; subst hc
        simp only [evalOp] at he
        split at he
        · rename_i t v0 e1
          have hv := arg_rep hr hx
          rw [e1] at hv
          obtain ⟨u, k1, k2⟩ := hv.inv_ifc
          split at he
          · rename_i f hf
            exact snd_callC (c := c) hT hcb (inv_exec ho hcal k1 hf) (by simpa using (reps_one k2).append (args_arr hargs hr)) he hrd hs hn
          · cases he
        · cases he
    · cases hc
  | makeMap t r =>
    cases r with
    | some r => simp [cOp] at hc
    | none =>
      simp only [cOp, Option.map_eq_some_iff] at hc
      obtain ⟨_, _, rfl⟩ := hc
      cases he
      exact snd_mkM ho hs (hn1 (by omega))
  | lookup t x i ok =>
    simp only [cOp] at hc
    split at hc
    · rename_i kk e ax ai hm hx hi
      cases hz : zeroV P e with
      | none => simp [hz] at hc
      | some z => simp [hz] at hc; subst hc; exact snd_look ho hm hx hi hz he hrd hs hr
    · cases hc
  | mapUpdate t m k x =>
    simp only [cOp] at hc
    split at hc
    · rename_i kk e am ak ax hm h1 h2 h3
      cases hc
      exact snd_mset (by unfold execOp; simp only [ho]) hm h1 h2 h3 he hrd hs hr
    · cases hc
  | insert t m k x =>
    simp only [cOp] at hc
    split at hc
    · rename_i kk e am ak ax hm h1 h2 h3
      cases hc
      exact snd_mset (by unfold execOp; simp only [ho]) hm h1 h2 h3 he hrd hs hr
    · cases hc
  | mapEntry t m k =>
    simp only [cOp] at hc
    split at hc
    · rename_i kk e am ak hm h1 h2
      cases hz : zeroV P e with
      | none => simp [hz] at hc
      | some z => simp [hz] at hc; subst hc; exact snd_ment ho hm h1 h2 hz he hrd hs hr
    · cases hc
  | entryStore t m s x =>
    simp only [cOp] at hc
    split at hc
    · rename_i am as ax h1 h2 h3
      cases hc
      exact snd_mest ho h1 h2 h3 he hrd hs hr
    · cases hc
  | makeInterface t x =>
    simp only [cOp] at hc
    split at hc
    · rename_i ht
      cases hx : cOpd x with
      | none => simp [hx] at hc
      | some ax => simp [hx] at hc; subst hc; cases he; exact snd_mkI ho ht hx hs hr
    · cases hc
  | typeAssert x u t ok =>
    simp only [cOp] at hc
    split at hc
    · rename_i ht
      split at hc
      · rename_i ax hx
        cases ok with
        | true =>
          simp only [if_true, Option.map_eq_some_iff] at hc
          obtain ⟨z, hz, rfl⟩ := hc
          exact snd_tas ho ht hx (.inl ⟨rfl, z, hz, rfl⟩) he hrd hs hr
        | false =>
          simp only [Bool.false_eq_true, if_false] at hc
          cases hc
          exact snd_tas ho ht hx (.inr ⟨rfl, rfl⟩) he hrd hs hr
      · cases hc
    · cases hc
  | defer c =>
    simp only [cOp] at hc
    split at hc
    · simp only [Option.map_eq_some_iff] at hc
      obtain ⟨_, _, rfl⟩ := hc
      cases he
    · cases hc
  | panic x =>
    simp only [cOp, Option.map_eq_some_iff] at hc
    obtain ⟨_, _, rfl⟩ := hc
    cases he
  | _ => simp [cOp] at hc
end ops
end Go.V
/- Soundness: calls that work on the caller's memory as one operation among others. -/
set_option linter.unusedVariables false
set_option linter.unusedSimpArgs false
namespace Go.V
open Go.RowKit
variable {P : Program}

/-! Equal values -/
theorem eq0_eq {a b : AV} (h : eq0 a b = true) : a = b := by
  unfold eq0 at h
  split at h <;> first | rfl | (cases h; done) | (rw [(MapKept.bytes_beq _ _).1 h]; done) | (simp at h; simp_all; done)
theorem eqLs_eq {α : Type} {f : α → α → Bool} (hf : ∀ a b, f a b = true → a = b) : ∀ {as bs : List α}, eqLs f as bs = true → as = bs
  | [], [], _ => rfl
  | a :: as, b :: bs, h => by
    simp only [eqLs, Bool.and_eq_true] at h
    rw [hf a b h.1, eqLs_eq hf h.2]
  | [], _ :: _, h => by simp [eqLs] at h
  | _ :: _, [], h => by simp [eqLs] at h
theorem eqD_eq : ∀ {d : Nat} {a b : AV}, eqD d a b = true → a = b
  | 0, a, b, h => eq0_eq h
  | d + 1, a, b, h => by
    have ih : ∀ a b, eqD d a b = true → a = b := fun a b => eqD_eq
    simp only [eqD] at h
    split at h
    · rw [eqLs_eq ih h]
    · rw [eqLs_eq ih h]
    · simp only [Bool.and_eq_true] at h
      rw [eqLs_eq ih h.1, eqLs_eq ih h.2]
    · simp only [Bool.and_eq_true, beq_iff_eq] at h
      rw [h.1, ih _ _ h.2]
    · simp only [Bool.and_eq_true, beq_iff_eq] at h
      rw [h.1.1.1, h.1.1.2, h.1.2, eqLs_eq (fun a b => eqLs_eq ih) h.2]
    · simp only [Bool.and_eq_true, beq_iff_eq] at h
      rw [h.1, eqLs_eq (fun a b => eqLs_eq ih) h.2]
    · simp only [Bool.and_eq_true, beq_iff_eq] at h
      rw [h.1, eqLs_eq (fun a b => eqLs_eq ih) h.2]
    · simp only [Bool.and_eq_true, beq_iff_eq] at h
      rw [h.1.1, eqLs_eq ih h.1.2, eqLs_eq ih h.2]
    · exact eq0_eq h
theorem eqBlk_eq {a b : Blk} (h : eqBlk a b = true) : a = b := by
  unfold eqBlk at h
  split at h
  · simp only [Bool.and_eq_true, beq_iff_eq] at h
    rw [h.1, eqLs_eq (fun a b => eqLs_eq fun a b => eqD_eq) h.2]
  · simp only [Bool.and_eq_true, beq_iff_eq] at h
    rw [h.1, eqLs_eq (fun m n hmn => by
      simp only [Bool.and_eq_true, beq_iff_eq] at hmn
      obtain ⟨m1, m2, m3⟩ := m
      obtain ⟨n1, n2, n3⟩ := n
      exact Prod.ext (eqD_eq hmn.1.1) (Prod.ext (eqD_eq hmn.1.2) hmn.2)) h.2]
  · cases h
theorem sameB_eq {a b : Option Blk} (h : sameB a b = true) : a = b := by
  unfold sameB at h
  split at h
  · rw [eqBlk_eq h]
  · rfl
  · cases h

/-! Which places are named -/
theorem mem_idsL {v : AV} : ∀ {vs : List AV} {i : Nat}, (∃ k : Nat, vs[k]? = some v) → i ∈ v.ids → i ∈ idsL vs
  | [], i, ⟨k, h⟩, _ => by simp at h
  | u :: vs, i, ⟨k, h⟩, hi => by
    cases k with
    | zero => simp at h; subst h; simp [idsL, hi]
    | succ k => simp [idsL, mem_idsL ⟨k, by simpa using h⟩ hi]
theorem Rep.ofIds {w : World} {S : Nat → Prop} {φ : Phi} {a : AV} {v : Value} (h : Rep w S φ a v) : ∀ {φ' : Phi}, (∀ i ∈ a.ids, ∀ loc, φ i = some loc → φ' i = some loc) → Rep w S φ' a v := by
  induction h with
  | int => intro _ _; exact .int
  | bool => intro _ _; exact .bool
  | str => intro _ _; exact .str
  | agg hl _ ih => intro φ' hφ; exact .agg hl fun i c v h1 h2 => ih i c v h1 h2 fun k hk => hφ k (by simp only [AV.ids]; exact mem_idsL ⟨i, h1⟩ hk)
  | tup hl _ ih => intro φ' hφ; exact .tup hl fun i c v h1 h2 => ih i c v h1 h2 fun k hk => hφ k (by simp only [AV.ids]; exact mem_idsL ⟨i, h1⟩ hk)
  | lst vals hs h1 hl hc hr _ => intro _ _; exact .lst vals hs h1 hl hc hr
  | lstNil => intro _ _; exact .lstNil
  | ptrL vals hs h1 hc hr _ => intro _ _; exact .ptrL vals hs h1 hc hr
  | own h1 h2 h3 h4 => intro φ' hφ; exact .own (hφ _ (by simp [AV.ids]) _ h1) h2 h3 h4
  | ptr h1 => intro φ' hφ; exact .ptr (hφ _ (by simp [AV.ids]) _ h1)
  | emp h => intro _ _; exact .emp h
  | nilS => intro _ _; exact .nilS
  | nilP => intro _ _; exact .nilP
  | nilF => intro _ _; exact .nilF
  | fn hl _ hl' _ ih ih' =>
    intro φ' hφ
    exact .fn hl (fun i c v h1 h2 => ih i c v h1 h2 fun k hk => hφ k (by simp only [AV.ids, List.mem_append]; exact .inl (mem_idsL ⟨i, h1⟩ hk))) hl' (fun i c v h1 h2 => ih' i c v h1 h2 fun k hk => hφ k (by simp only [AV.ids, List.mem_append]; exact .inr (mem_idsL ⟨i, h1⟩ hk)))
  | yld h1 => intro φ' hφ; exact .yld (hφ _ (by simp [AV.ids]) _ h1)
  | map h1 => intro φ' hφ; exact .map (hφ _ (by simp [AV.ids]) _ h1)
  | mapN => intro _ _; exact .mapN
  | mapL h1 h2 h3 h4 h5 h6 h7 _ _ => intro _ _; exact .mapL h1 h2 h3 h4 h5 h6 h7
  | ifc _ ih => intro φ' hφ; exact .ifc (ih fun k hk => hφ k (by simpa only [AV.ids] using hk))
  | ifcN => intro _ _; exact .ifcN
  | sub h1 h2 h3 h4 => intro φ' hφ; exact .sub (hφ _ (by simp [AV.ids]) _ h1) h2 h3 h4
  | clp h1 h2 h3 => intro φ' hφ; exact .clp (hφ _ (by simp [AV.ids]) _ h1) h2 h3
theorem Reps.ofIds {w : World} {S : Nat → Prop} {φ φ' : Phi} {cs : List AV} {vs : Array Value} (h : Reps w S φ cs vs) (hφ : ∀ i ∈ idsL cs, ∀ loc, φ i = some loc → φ' i = some loc) : Reps w S φ' cs vs :=
  ⟨h.1, fun i c v h1 h2 => (h.2 i c v h1 h2).ofIds fun k hk => hφ k (mem_idsL ⟨i, h1⟩ hk)⟩
theorem SimBlk.ofIds {w : World} {S : Nat → Prop} {φ φ' : Phi} {loc : Loc} {b : Blk} {l : List Nat} (h : SimBlk P w S φ loc b) (hl : b.ids = some l) (hφ : ∀ i ∈ l, ∀ loc, φ i = some loc → φ' i = some loc) : SimBlk P w S φ' loc b := by
  cases b with
  | row s xs =>
    cases hl
    obtain ⟨f1, f2, c, e, f3, f4, f5⟩ := h
    refine ⟨f1, f2, c, e, f3, f4, fun i j x a g1 g2 => ?_⟩
    obtain ⟨o1, v, r1, r2⟩ := f5 i j x a g1 g2
    exact ⟨o1, v, r1, r2.ofIds fun k hk => hφ k (List.mem_flatMap.2 ⟨x, List.mem_of_getElem? g1, mem_idsL ⟨j, g2⟩ hk⟩)⟩
  | map ms cl =>
    cases hl
    obtain ⟨es, f1, f2, f3⟩ := h
    refine ⟨es, f1, f2, fun i m e g1 g2 => ?_⟩
    obtain ⟨r1, r2, r3⟩ := f3 i m e g1 g2
    exact ⟨r1.ofIds fun k hk => hφ k (List.mem_flatMap.2 ⟨m, List.mem_of_getElem? g1, by simp [hk]⟩), r2.ofIds fun k hk => hφ k (List.mem_flatMap.2 ⟨m, List.mem_of_getElem? g1, by simp [hk]⟩), r3⟩
  | loop => cases hl
  | mark => cases hl
theorem maskL_get (ids : List Nat) : ∀ (l : List (Option Blk)) (k i : Nat), (match (maskL ids l k)[i]? with | some (some x) => some x | _ => none) = if ids.contains (k + i) then (match l[i]? with | some (some x) => some x | _ => none) else none
  | [], k, i => by simp [maskL]
  | b :: l, k, 0 => by
    simp only [maskL, List.getElem?_cons_zero, Nat.add_zero]
    cases h : ids.contains k <;> simp
  | b :: l, k, i + 1 => by
    have := maskL_get ids l (k + 1) i
    simp only [maskL, List.getElem?_cons_succ]
    rw [this, show k + 1 + i = k + (i + 1) by omega]
theorem hget_mask (ids : List Nat) (H : Heap) (nx : Nat) (i : Nat) : hget ⟨maskL ids H.l 0, nx⟩ i = if ids.contains i then hget H i else none := by
  have := maskL_get ids H.l 0 i
  rw [Nat.zero_add] at this
  unfold hget
  exact this
theorem wrOf_spec {H H' : Heap} {ids : List Nat} {nx : Nat} (h : Mem) (i : Nat) (hlen : H.l.length ≤ H'.l.length) : updH h (wrOf H H' ids nx) i = if i < H'.l.length ∧ (if i < nx then ids.contains i = true ∧ sameB (hget H i) (hget H' i) = false else (hget H' i).isSome = true) then hget H' i else h i := by
  have gen : ∀ (f : Nat → Option Blk) (p : Nat → Bool) (l : List Nat) (h : Mem), updH h (l.filterMap fun i => if p i then some (i, f i) else none) i = if i ∈ l ∧ p i = true then f i else h i := by
    intro f p l
    induction l with
    | nil => intro h; simp [updH]
    | cons a l ih =>
      intro h
      cases hp : p a with
      | false =>
        simp only [List.filterMap_cons, hp, Bool.false_eq_true, if_false]
        rw [ih h]
        by_cases hi : i = a
        · subst hi; simp [hp]
        · simp [hi]
      | true =>
        simp only [List.filterMap_cons, hp, if_true]
        have e : updH h ((a, f a) :: l.filterMap fun i => if p i then some (i, f i) else none) = updH (fun k => if k = a then f a else h k) (l.filterMap fun i => if p i then some (i, f i) else none) := rfl
        rw [e, ih]
        by_cases hi : i = a
        · subst hi; simp [hp]
        · simp [hi]
  have he : wrOf H H' ids nx = (List.range H'.l.length).filterMap fun i => if (if i < nx then ids.contains i && !sameB (hget H i) (hget H' i) else (hget H' i).isSome) then some (i, hget H' i) else none := by
    unfold wrOf
    congr 1
    funext k
    by_cases hk : k < nx <;> simp [hk]
  rw [he, gen]
  by_cases hi : i < nx
  · simp [hi]
  · simp [hi]
section
variable {T : FuncId → Option IFn} {cb : Cb} {S : Nat → Prop} {φ : Phi} {h : Mem} {H : Heap} {w : World} {nx : Nat}
theorem closed_spec {ids : List Nat} (h : closedOK H nx ids = true) {i : Nat} (hi : i ∈ ids) : i < nx ∧ ∃ b l, hget H i = some b ∧ b.ids = some l ∧ ∀ k ∈ l, k ∈ ids := by
  unfold closedOK at h
  rw [List.all_eq_true] at h
  have := h i hi
  simp only [Bool.and_eq_true, decide_eq_true_eq] at this
  obtain ⟨h1, h2⟩ := this
  refine ⟨h1, ?_⟩
  split at h2
  · rename_i l e
    cases hb : hget H i with
    | none => simp [hb] at e
    | some b =>
      simp only [hb, Option.bind_some] at e
      rw [List.all_eq_true] at h2
      exact ⟨b, l, rfl, e, fun k hk => by simpa using h2 k hk⟩
  · cases h2
theorem okId_spec {ids : List Nat} {nx nx' i : Nat} (h : okId ids nx nx' i = true) : i ∈ ids ∨ (nx ≤ i ∧ i < nx') := by
  simpa [okId] using h
theorem hget_lt {i : Nat} {b : Blk} (h : hget H i = some b) : i < H.l.length := by
  unfold hget at h
  split at h
  · rename_i x e
    rcases Nat.lt_or_ge i H.l.length with h' | h'
    · exact h'
    · rw [List.getElem?_eq_none h'] at e; cases e
  · cases h
theorem whole_eff (hT : TOK P T) (hcb : CbOK P cb) {f : FuncId} {args : List AV} {us : Array Value} {v : AV} {rd : List Nat} {wr : Wr} {nx' : Nat} (he : wholeC T cb f args H nx = some (.eff v rd wr nx')) (hrd : ∀ id ∈ rd, h id = hget H id) (hs : Sim P S φ h w) (hargs : Reps w S φ args us) (hn : ∀ id, nx ≤ id → id < nx' → φ id = none) :
    (∀ vs, (callFunc f vs).run P w = .ok (.enter f vs) w) ∧ Calls P f us w fun e w' => ∃ vv, e = .returned vv ∧ Ends P S φ h w v wr nx nx' vv w' := by
  unfold wholeC at he
  simp only at he
  generalize hids : reach H 400 (idsL args) [] = ids at he
  split at he
  · rename_i hc
    simp only [Bool.and_eq_true] at hc
    obtain ⟨⟨hcl, hai⟩, hTf⟩ := hc
    obtain ⟨fn, hfn⟩ := Option.isSome_iff_exists.1 hTf
    obtain ⟨g, c, g1, g2, g3, -⟩ := cFn_spec (hT f fn hfn)
    refine ⟨fun vs => run_callFunc g1 g2 g3 vs, ?_⟩
    split at he
    · rename_i v' H' hq
      split at he
      · rename_i hck
        simp only [Option.some.injEq, OpR.eff.injEq] at he
        obtain ⟨rfl, rfl, rfl, rfl⟩ := he
        simp only [Bool.and_eq_true, decide_eq_true_eq, Bool.not_eq_true'] at hck
        obtain ⟨⟨⟨⟨⟨hpan, hnx⟩, hlen⟩, hlen2⟩, hvid⟩, hblk⟩ := hck
        rw [List.all_eq_true] at hvid hblk hai
        have hlive : ∀ i ∈ ids, i < nx ∧ ∃ b l, h i = some b ∧ hget H i = some b ∧ b.ids = some l ∧ ∀ k ∈ l, k ∈ ids := fun i hi => by
          obtain ⟨h1, b, l, h2, h3, h4⟩ := closed_spec hcl hi
          exact ⟨h1, b, l, by rw [hrd i hi]; exact h2, h2, h3, h4⟩
        have hφi : ∀ i ∈ ids, ∃ loc, φ i = some loc := fun i hi => by
          obtain ⟨h1, b, l, h2, -⟩ := hlive i hi
          obtain ⟨loc, q, -⟩ := hs.blk i b h2
          exact ⟨loc, q⟩
        -- the memory that the call is made on
        let φr : Phi := fun i => if i < nx then φ i else none
        have hr : ∀ i ∈ ids, φr i = φ i := fun i hi => if_pos (hlive i hi).1
        have hmask : ∀ i, hget ⟨maskL ids H.l 0, nx⟩ i = if i ∈ ids then hget H i else none := fun i => by
          rw [hget_mask]; simp
        have hin : ∀ i b, hget ⟨maskL ids H.l 0, nx⟩ i = some b → i ∈ ids ∧ h i = some b := fun i b hb => by
          rw [hmask] at hb
          split at hb
          · rename_i hi; exact ⟨hi, by rw [hrd i hi]; exact hb⟩
          · cases hb
        have hsr : Sim P S φr (hget ⟨maskL ids H.l 0, nx⟩) w := by
          refine ⟨fun i b hb => ?_, fun i i' b b' l l' hb hb' q q' => ?_, hs.bd⟩
          · obtain ⟨hi, hb⟩ := hin i b hb
            obtain ⟨loc, q1, q2, q3⟩ := hs.blk i b hb
            obtain ⟨-, b', l, e1, -, e2, e3⟩ := hlive i hi
            rw [hb] at e1; cases e1
            exact ⟨loc, by rw [hr i hi]; exact q1, q2.ofIds e2 fun k hk loc hl => by rw [hr k (e3 k hk)]; exact hl, q3⟩
          · obtain ⟨hi, hb⟩ := hin i b hb
            obtain ⟨hi', hb'⟩ := hin i' b' hb'
            rw [hr i hi] at q; rw [hr i' hi'] at q'
            exact hs.inj i i' b b' l l' hb hb' q q'
        have hargs' : Reps w S φr args us := hargs.ofIds fun k hk loc hl => by rw [hr k (by simpa using hai k hk)]; exact hl
        refine (hcb.ret hq hpan hsr (fun i hi => if_neg (Nat.not_lt.2 hi)) hargs').mono ?_
        rintro e w' ⟨vv, rfl, S', φ', adv, sim, rep, top, -⟩
        refine ⟨vv, rfl, ?_⟩
        have hownr : ∀ b, Own φr (hget ⟨maskL ids H.l 0, nx⟩) b → Own φ h b := by
          rintro b ⟨i, x, loc, q1, q2, q3⟩
          obtain ⟨hi, hb⟩ := hin i x q1
          exact ⟨i, x, loc, hb, by rw [← hr i hi]; exact q2, q3⟩
        let φ2 : Phi := fun i => if nx ≤ i ∧ i < H'.nx then φ' i else φ i
        have h2 : ∀ i, okId ids nx H'.nx i = true → ∀ loc, φ' i = some loc → φ2 i = some loc := fun i hi loc hl => by
          rcases okId_spec hi with hi | hi
          · have hlt := (hlive i hi).1
            show (if nx ≤ i ∧ i < H'.nx then φ' i else φ i) = some loc
            rw [if_neg (by omega)]
            obtain ⟨l0, e0⟩ := hφi i hi
            have := adv.phi i l0 (by rw [hr i hi]; exact e0)
            rw [hl] at this; cases this
            exact e0
          · show (if nx ≤ i ∧ i < H'.nx then φ' i else φ i) = some loc
            rw [if_pos hi]; exact hl
        have hup : ∀ i, updH h (wrOf H H' ids nx) i = if i ∈ ids ∨ (nx ≤ i ∧ i < H'.nx) then hget H' i else h i := fun i => by
          rw [wrOf_spec _ _ hlen2]
          have key : ∀ (A B : Prop) [Decidable A] [Decidable B] (x y : Option Blk), ((B → A ∨ x = y) ∧ (A → B)) → (if A then x else y) = (if B then x else y) := fun A B _ _ x y ⟨q1, q2⟩ => by
            by_cases hB : B
            · rw [if_pos hB]
              rcases q1 hB with hA | e
              · rw [if_pos hA]
              · by_cases hA : A
                · rw [if_pos hA]
                · rw [if_neg hA, e]
            · rw [if_neg hB, if_neg fun hA => hB (q2 hA)]
          refine key _ _ _ _ ⟨?_, ?_⟩
          · rintro (hi | hi)
            · obtain ⟨hlt, b, l, e1, e2, -⟩ := hlive i hi
              by_cases hsm : sameB (hget H i) (hget H' i) = true
              · right; rw [hrd i hi, sameB_eq hsm]
              · left
                have := hget_lt e2
                exact ⟨by omega, by rw [if_pos hlt]; exact ⟨by simpa using hi, by simpa using hsm⟩⟩
            · cases hb : hget H' i with
              | some b =>
                left
                exact ⟨hget_lt hb, by rw [if_neg (Nat.not_lt.2 hi.1)]; rfl⟩
              | none =>
                right
                cases hb : h i with
                | none => rfl
                | some b =>
                  obtain ⟨loc, q, -⟩ := hs.blk i b hb
                  rw [hn i hi.1 hi.2] at q; cases q
          · rintro ⟨q1, q2⟩
            by_cases hlt : i < nx
            · rw [if_pos hlt] at q2; exact .inl (by simpa using q2.1)
            · exact .inr ⟨by omega, by omega⟩
        have hbl : ∀ i b, hget H' i = some b → (i ∈ ids ∨ (nx ≤ i ∧ i < H'.nx)) ∧ ∃ l, b.ids = some l ∧ ∀ k ∈ l, okId ids nx H'.nx k = true := fun i b hb => by
          have hlt := hget_lt hb
          have := hblk i (by simpa using hlt)
          rw [hb] at this
          simp only [Bool.and_eq_true, Bool.or_eq_true, decide_eq_true_eq] at this
          obtain ⟨q1, q2⟩ := this
          refine ⟨?_, ?_⟩
          · rcases q1 with q1 | q1
            · exact .inl (by simpa using q1)
            · exact .inr ⟨q1, by omega⟩
          · split at q2
            · rename_i l e
              rw [List.all_eq_true] at q2
              exact ⟨l, e, q2⟩
            · cases q2
        have hadv : Adv S φ h w S' φ2 (updH h (wrOf H H' ids nx)) w' := by
          refine ⟨fun i loc hl => ?_, adv.up, adv.new, adv.os, adv.tape, adv.output, adv.size, fun b hb hno => adv.keep b hb fun ho => hno (hownr b ho), ?_, adv.shape⟩
          · show (if nx ≤ i ∧ i < H'.nx then φ' i else φ i) = some loc
            by_cases hi : nx ≤ i ∧ i < H'.nx
            · rw [hn i hi.1 hi.2] at hl; cases hl
            · rw [if_neg hi]; exact hl
          · rintro b ⟨i, x, loc, q1, q2, q3⟩
            rw [hup] at q1
            have q2' : (if nx ≤ i ∧ i < H'.nx then φ' i else φ i) = some loc := q2
            by_cases hi : i ∈ ids ∨ (nx ≤ i ∧ i < H'.nx)
            · rw [if_pos hi] at q1
              have hφ' : φ' i = some loc := by
                rcases hi with hi | hi
                · rw [if_neg (by have := (hlive i hi).1; omega)] at q2'
                  exact adv.phi i loc (by rw [hr i hi]; exact q2')
                · rw [if_pos hi] at q2'; exact q2'
              rcases adv.own b ⟨i, x, loc, q1, hφ', q3⟩ with ho | ho
              · exact .inl (hownr b ho)
              · exact .inr ho
            · rw [if_neg hi] at q1
              rw [if_neg (fun q => hi (.inr q))] at q2'
              exact .inl ⟨i, x, loc, q1, q2', q3⟩
        have hout : ∀ i b, ¬ (i ∈ ids ∨ (nx ≤ i ∧ i < H'.nx)) → h i = some b → ∃ loc, φ i = some loc ∧ φ2 i = some loc ∧ SimBlk P w S φ loc b ∧ ¬ S loc.blk ∧ ¬ Own φr (hget ⟨maskL ids H.l 0, nx⟩) loc.blk := fun i b hi hb => by
          obtain ⟨loc, q1, q2, q3⟩ := hs.blk i b hb
          refine ⟨loc, q1, ?_, q2, q3, ?_⟩
          · show (if nx ≤ i ∧ i < H'.nx then φ' i else φ i) = some loc
            rw [if_neg fun q => hi (.inr q)]; exact q1
          · rintro ⟨i', x, l', e1, e2, e3⟩
            obtain ⟨hi', hb'⟩ := hin i' x e1
            rw [hr i' hi'] at e2
            have := hs.inj i i' b x loc l' hb hb' q1 e2 e3.symm
            exact hi (.inl (this ▸ hi'))
        have hinn : ∀ i b, hget H' i = some b → ∃ loc, φ' i = some loc ∧ φ2 i = some loc ∧ SimBlk P w' S' φ2 loc b ∧ ¬ S' loc.blk := fun i b hb => by
          obtain ⟨hi, l, e1, e2⟩ := hbl i b hb
          obtain ⟨loc, q1, q2, q3⟩ := sim.blk i b hb
          refine ⟨loc, q1, h2 i ?_ loc q1, q2.ofIds e1 fun k hk loc hl => h2 k (e2 k hk) loc hl, q3⟩
          rcases hi with hi | hi
          · simp [okId, hi]
          · simp [okId, hi.1, hi.2]
        refine ⟨S', φ2, hadv, ⟨fun i b hb => ?_, fun i i' b b' l l' hb hb' q q' hll => ?_, sim.bd⟩, rep.ofIds fun k hk loc hl => h2 k (hvid k hk) loc hl, fun i hi => ?_⟩
        · rw [hup] at hb
          by_cases hi : i ∈ ids ∨ (nx ≤ i ∧ i < H'.nx)
          · rw [if_pos hi] at hb
            obtain ⟨loc, -, q1, q2, q3⟩ := hinn i b hb
            exact ⟨loc, q1, q2, q3⟩
          · rw [if_neg hi] at hb
            obtain ⟨loc, q1, q2, q3, q4, q5⟩ := hout i b hi hb
            have hlt := q3.lt
            refine ⟨loc, q2, q3.adv hadv hs (adv.keep _ hlt q5), fun hS' => ?_⟩
            rcases adv.new _ hS' with q | q
            · exact q4 q
            · omega
        · rw [hup] at hb hb'
          by_cases hi : i ∈ ids ∨ (nx ≤ i ∧ i < H'.nx) <;> by_cases hi' : i' ∈ ids ∨ (nx ≤ i' ∧ i' < H'.nx)
          · rw [if_pos hi] at hb; rw [if_pos hi'] at hb'
            obtain ⟨loc, p1, p2, -, -⟩ := hinn i b hb
            obtain ⟨loc', p1', p2', -, -⟩ := hinn i' b' hb'
            rw [p2] at q; cases q
            rw [p2'] at q'; cases q'
            exact sim.inj i i' b b' _ _ hb hb' p1 p1' hll
          · rw [if_pos hi] at hb; rw [if_neg hi'] at hb'
            obtain ⟨loc, p1, p2, -, -⟩ := hinn i b hb
            obtain ⟨loc', p1', p2', p3', p4', p5'⟩ := hout i' b' hi' hb'
            rw [p2] at q; cases q
            rw [p2'] at q'; cases q'
            exfalso
            rcases adv.own _ ⟨i, b, _, hb, p1, hll⟩ with ho | ho
            · exact p5' ho
            · have := p3'.lt; omega
          · rw [if_neg hi] at hb; rw [if_pos hi'] at hb'
            obtain ⟨loc, p1, p2, p3, p4, p5⟩ := hout i b hi hb
            obtain ⟨loc', p1', p2', -, -⟩ := hinn i' b' hb'
            rw [p2] at q; cases q
            rw [p2'] at q'; cases q'
            exfalso
            rcases adv.own _ ⟨i', b', _, hb', p1', hll.symm⟩ with ho | ho
            · exact p5 ho
            · have := p3.lt; omega
          · rw [if_neg hi] at hb; rw [if_neg hi'] at hb'
            obtain ⟨loc, p1, p2, -⟩ := hout i b hi hb
            obtain ⟨loc', p1', p2', -⟩ := hout i' b' hi' hb'
            rw [p2] at q; cases q
            rw [p2'] at q'; cases q'
            exact hs.inj i i' b b' _ _ hb hb' p1 p1' hll
        · show (if nx ≤ i ∧ i < H'.nx then φ' i else φ i) = φ i
          rw [if_neg (by omega)]
      · cases he
    · cases he
  · cases he
theorem idsL_mem : ∀ {vs : List AV} {i : Nat}, i ∈ idsL vs → ∃ v, v ∈ vs ∧ i ∈ v.ids
  | [], i, h => by simp [idsL] at h
  | u :: vs, i, h => by
    simp only [idsL, List.mem_append] at h
    rcases h with h | h
    · exact ⟨u, by simp, h⟩
    · obtain ⟨v, h1, h2⟩ := idsL_mem h
      exact ⟨v, by simp [h1], h2⟩
theorem Rep.known {a : AV} {v : Value} {w : World} {S : Nat → Prop} {φ : Phi} (h : Rep w S φ a v) : ∀ i ∈ a.ids, ∃ loc, φ i = some loc := by
  induction h with
  | agg hl _ ih =>
    intro i hi
    obtain ⟨c, hc, hi⟩ := idsL_mem hi
    obtain ⟨k, hk⟩ := List.mem_iff_getElem?.1 hc
    obtain ⟨v, hv⟩ : ∃ v, _ = some v := ⟨_, Array.getElem?_eq_getElem (show k < _ by rw [hl]; exact (List.getElem?_eq_some_iff.1 hk).1)⟩
    exact ih k c _ hk hv i hi
  | tup hl _ ih =>
    intro i hi
    obtain ⟨c, hc, hi⟩ := idsL_mem hi
    obtain ⟨k, hk⟩ := List.mem_iff_getElem?.1 hc
    obtain ⟨v, hv⟩ : ∃ v, _ = some v := ⟨_, Array.getElem?_eq_getElem (show k < _ by rw [hl]; exact (List.getElem?_eq_some_iff.1 hk).1)⟩
    exact ih k c _ hk hv i hi
  | fn hl _ hl' _ ih ih' =>
    intro i hi
    rcases List.mem_append.1 hi with hi | hi
    · obtain ⟨c, hc, hi⟩ := idsL_mem hi
      obtain ⟨k, hk⟩ := List.mem_iff_getElem?.1 hc
      obtain ⟨v, hv⟩ : ∃ v, _ = some v := ⟨_, Array.getElem?_eq_getElem (show k < _ by rw [hl]; exact (List.getElem?_eq_some_iff.1 hk).1)⟩
      exact ih k c _ hk hv i hi
    · obtain ⟨c, hc, hi⟩ := idsL_mem hi
      obtain ⟨k, hk⟩ := List.mem_iff_getElem?.1 hc
      obtain ⟨v, hv⟩ : ∃ v, _ = some v := ⟨_, Array.getElem?_eq_getElem (show k < _ by rw [hl']; exact (List.getElem?_eq_some_iff.1 hk).1)⟩
      exact ih' k c _ hk hv i hi
  | ifc _ ih => exact ih
  | own h1 => intro i hi; simp [AV.ids] at hi; subst hi; exact ⟨_, h1⟩
  | ptr h1 => intro i hi; simp [AV.ids] at hi; subst hi; exact ⟨_, h1⟩
  | yld h1 => intro i hi; simp [AV.ids] at hi; subst hi; exact ⟨_, h1⟩
  | map h1 => intro i hi; simp [AV.ids] at hi; subst hi; exact ⟨_, h1⟩
  | clp h1 => intro i hi; simp [AV.ids] at hi; subst hi; exact ⟨_, h1⟩
  | sub h1 => intro i hi; simp [AV.ids] at hi; subst hi; exact ⟨_, h1⟩
  | _ => intro i hi; simp [AV.ids] at hi
theorem Reps.known {cs : List AV} {vs : Array Value} {w : World} {S : Nat → Prop} {φ : Phi} (h : Reps w S φ cs vs) : ∀ i ∈ idsL cs, ∃ loc, φ i = some loc := fun i hi => by
  obtain ⟨c, hc, hi⟩ := idsL_mem hi
  obtain ⟨k, hk⟩ := List.mem_iff_getElem?.1 hc
  exact (h.2 k c _ hk (Array.getElem?_eq_getElem (show k < _ by rw [h.1]; exact (List.getElem?_eq_some_iff.1 hk).1))).known i hi
/-- A call that touches none of the memory. -/
theorem free_eff (hT : TOK P T) (hcb : CbOK P cb) {f : FuncId} {args : List AV} {us : Array Value} {v : AV} {rd : List Nat} {wr : Wr} {nx' : Nat} (he : freeC T cb f args nx = some (.eff v rd wr nx')) (hs : Sim P S φ h w) (hargs : Reps w S φ args us) :
    (∀ vs, (callFunc f vs).run P w = .ok (.enter f vs) w) ∧ Calls P f us w fun e w' => ∃ vv, e = .returned vv ∧ Ends P S φ h w v wr nx nx' vv w' := by
  unfold freeC at he
  split at he
  · rename_i hc
    simp only [Bool.and_eq_true] at hc
    obtain ⟨hai, hTf⟩ := hc
    rw [List.all_eq_true] at hai
    obtain ⟨fn, hfn⟩ := Option.isSome_iff_exists.1 hTf
    obtain ⟨g, c, g1, g2, g3, -⟩ := cFn_spec (hT f fn hfn)
    refine ⟨fun vs => run_callFunc g1 g2 g3 vs, ?_⟩
    split at he
    · rename_i v' H' hq
      split at he
      · rename_i hck
        simp only [Option.some.injEq, OpR.eff.injEq] at he
        obtain ⟨rfl, rfl, rfl, rfl⟩ := he
        simp only [Bool.and_eq_true, decide_eq_true_eq, Bool.not_eq_true'] at hck
        obtain ⟨⟨hpan, hnx⟩, hvid⟩ := hck
        rw [List.all_eq_true] at hvid
        let φr : Phi := fun i => if i < nx then φ i else none
        have hno : ∀ i, hget (⟨[], nx⟩ : Heap) i = none := fun i => by simp [hget]
        have hsr : Sim P S φr (hget ⟨[], nx⟩) w := ⟨(fun i b hb => by rw [hno] at hb; cases hb), (fun i i' b b' l l' hb => by rw [hno] at hb; cases hb), hs.bd⟩
        have hin : ∀ i ∈ idsL args, i < nx := fun i hi => by simpa using hai i hi
        have hargs' : Reps w S φr args us := hargs.ofIds fun k hk loc hl => by show (if k < nx then φ k else none) = some loc; rw [if_pos (hin k hk)]; exact hl
        refine (hcb.ret hq hpan hsr (fun i hi => if_neg (Nat.not_lt.2 hi)) hargs').mono ?_
        rintro e w' ⟨vv, rfl, S', φ', adv, sim, rep, top, -⟩
        refine ⟨vv, rfl, ?_⟩
        have hnown : ∀ b, ¬ Own φr (hget ⟨[], nx⟩) b := by
          rintro b ⟨i, x, loc, q1, -⟩
          rw [hno] at q1; cases q1
        have hup : updH h [] = h := rfl
        have hadv : Adv S φ h w S' φ (updH h []) w' := ⟨fun i loc hl => hl, adv.up, adv.new, adv.os, adv.tape, adv.output, adv.size, fun b hb _ => adv.keep b hb (hnown b), fun b hb => .inl hb, adv.shape⟩
        refine ⟨S', φ, hadv, ⟨fun i b hb => ?_, fun i i' b b' l l' hb hb' q q' hll => hs.inj i i' b b' l l' hb hb' q q' hll, sim.bd⟩, rep.ofIds fun k hk loc hl => ?_, fun i hi => rfl⟩
        · obtain ⟨loc, q1, q2, q3⟩ := hs.blk i b hb
          have hlt := q2.lt
          refine ⟨loc, q1, q2.adv hadv hs (adv.keep _ hlt (hnown _)), fun hS' => ?_⟩
          rcases adv.new _ hS' with q | q
          · exact q3 q
          · omega
        · have hk' : k ∈ idsL args := by simpa using hvid k hk
          obtain ⟨l0, e0⟩ := hargs.known k hk'
          have := adv.phi k l0 (by show (if k < nx then φ k else none) = some l0; rw [if_pos (hin k hk')]; exact e0)
          rw [hl] at this; cases this
          exact e0
      · cases he
    · cases he
  · cases he
end
end Go.V
