/- Soundness: results of calls; the call as an operation. -/
import Derived.Test.YtemlkeknpjbcnaaVm
set_option linter.unusedVariables false
set_option linter.unusedSimpArgs false
namespace Go.V
open Go.RowKit
variable {P : Program}

theorem hasLstL_mem : ∀ {cs : List AV}, hasLstL cs = false → ∀ c ∈ cs, c.isLst = false
  | [], _, c, hc => by simp at hc
  | x :: cs, h, c, hc => by
    simp only [List.mem_cons] at hc
    cases x <;> simp only [hasLstL] at h <;> first
      | (cases h; done)
      | (rcases hc with rfl | hc
         · rfl
         · exact hasLstL_mem h c hc)
section res
variable {S' S'' : Nat → Prop} {φ' : Phi} {H' : Heap} {w' : World}
/-- A result's tree is taken over: its blocks, its value. -/
def DetOK (P : Program) (w' : World) (S'' : Nat → Prop) (φ' : Phi) (H' : Heap) (nx : Nat) (att : AV × Wr × Nat) (ids : List Nat) (vv : Value) : Prop :=
  ∃ es, att.2.1 = mkWr nx es ∧ att.2.2 = nx + es.length ∧ es.length = ids.length ∧
    (∀ (k : Nat) e, es[k]? = some e → ∃ id loc, ids[k]? = some id ∧ (hget H' id).isSome = true ∧ φ' id = some loc ∧ e.loc.blk = loc.blk ∧ SimBlk P w' S'' (fun _ => none) e.loc (.row e.loc.sz e.xs)) ∧
    ∀ φ : Phi, (∀ (k : Nat) e, es[k]? = some e → φ (nx + k) = some e.loc) → Rep w' S'' φ att.1 vv
theorem detOK_pure {nx : Nat} {t : AV} {vv : Value} (h : ∀ φ : Phi, Rep w' S'' φ t vv) : DetOK P w' S'' φ' H' nx (t, [], nx) [] vv :=
  ⟨[], rfl, rfl, rfl, by simp, fun φ _ => h φ⟩
theorem detC {v t : AV} {ids : List Nat} {vv : Value} (hs : Sim P S' φ' (hget H') w') (he : detachC H' v = some (t, ids)) (hv : Rep w' S' φ' v vv) (hST : (∀ b, S' b → S'' b) ∨ t.hasLst0 = false) (nx : Nat) : DetOK P w' S'' φ' H' nx (attachC nx t) ids vv := by
  unfold detachC at he
  split at he
  · rename_i id off len
    split at he
    · rename_i s xs e1
      split at he
      · rename_i hc
        cases he
        obtain ⟨loc, cap, e', n', hφ, hsh, hn', hlc, hval⟩ := hv.inv_own
        obtain ⟨loc', g1, g2, g3⟩ := hs.blk id _ e1
        rw [hφ] at g1; cases g1
        have hlen : ((xs.drop off).take len).length = len := by simp; omega
        have hls : loc.sz = s := g2.1
        obtain ⟨q1, q2⟩ := g2.sub (off := off) (len := len)
        obtain ⟨blk1, blk2, cur, ce, f3, f4, f5⟩ := g2
        have hST' : ∀ c, (∃ x ∈ (xs.drop off).take len, c ∈ x) → (∀ b, S' b → S'' b) ∨ c.isLst = false := fun c ⟨x, hx, hcx⟩ => by
          rcases hST with h1 | h1
          · exact .inl h1
          · right
            simp only [AV.hasLst0, List.any_eq_false] at h1
            exact hasLstL_mem (by simpa using h1 x hx) c hcx
        refine ⟨[⟨⟨loc.blk, loc.base + off * s, s⟩, (xs.drop off).take len⟩], rfl, rfl, rfl, fun k e hk => ?_, fun φ hφs => ?_⟩
        · cases k with
          | succ k => simp at hk
          | zero =>
            simp at hk; subst hk
            refine ⟨id, loc, rfl, by rw [e1]; rfl, hφ, rfl, rfl, q1, cur, ce, f3, ?_, fun i j x a r1 r2 => ?_⟩
            · have : (off + len) * s ≤ xs.length * s := Nat.mul_le_mul_right _ hc.1
              rw [Nat.add_mul] at this
              simp only [hlen]; omega
            · obtain ⟨o1, u, p1, p2⟩ := q2 i j x a r1 r2
              have hcell : w'.cell? ⟨loc.blk, loc.base + off * loc.sz + i * s + j, none⟩ = cur[loc.base + off * s + i * s + j]? := by simp [World.cell?, f3, hls]
              rw [hcell] at p1
              have hno := hc.2
              rw [List.all_eq_true] at hno
              have := hno x (List.mem_of_getElem? r1)
              rw [List.all_eq_true] at this
              exact ⟨o1, u, p1, p2.move (this a (List.mem_of_getElem? r2)) (hST' a ⟨x, List.mem_of_getElem? r1, List.mem_of_getElem? r2⟩)⟩
        · have h0 := hφs 0 _ rfl
          have := Rep.own (w := w') (S := S'') (off := 0) (len := len) (cap := cap) h0 hsh (by
            rw [hls] at hn'
            simp only [Nat.zero_add]; rw [Nat.add_mul] at hn'; omega) hlc
          rw [hval, hls]
          simp only [attachC, hlen]
          simpa using this
      · cases he
    · cases he
  · split at he
    · rename_i hn
      cases he
      have ha : attachC nx v = (v, [], nx) := by cases v <;> first | rfl | (simp [AV.noId] at hn)
      rw [ha]
      refine detOK_pure fun φ => hv.move hn ?_
      rcases hST with h1 | h1
      · exact .inl h1
      · right; cases v <;> first | rfl | (simp [AV.hasLst0] at h1)
    · cases he
theorem detOK_cons {nx : Nat} {att1 : AV × Wr × Nat} {ids1 ids2 : List Nat} {vv : Value} {as : List AV} {wr2 : Wr} {nx2 : Nat} {vs : List Value}
    (h1 : DetOK P w' S'' φ' H' nx att1 ids1 vv)
    (h2 : ∃ es, wr2 = mkWr att1.2.2 es ∧ nx2 = att1.2.2 + es.length ∧ es.length = ids2.length ∧
      (∀ (k : Nat) e, es[k]? = some e → ∃ id loc, ids2[k]? = some id ∧ (hget H' id).isSome = true ∧ φ' id = some loc ∧ e.loc.blk = loc.blk ∧ SimBlk P w' S'' (fun _ => none) e.loc (.row e.loc.sz e.xs)) ∧
      ∀ φ : Phi, (∀ (k : Nat) e, es[k]? = some e → φ (att1.2.2 + k) = some e.loc) → Reps w' S'' φ as vs.toArray) :
    ∃ es, att1.2.1 ++ wr2 = mkWr nx es ∧ nx2 = nx + es.length ∧ es.length = (ids1 ++ ids2).length ∧
      (∀ (k : Nat) e, es[k]? = some e → ∃ id loc, (ids1 ++ ids2)[k]? = some id ∧ (hget H' id).isSome = true ∧ φ' id = some loc ∧ e.loc.blk = loc.blk ∧ SimBlk P w' S'' (fun _ => none) e.loc (.row e.loc.sz e.xs)) ∧
      ∀ φ : Phi, (∀ (k : Nat) e, es[k]? = some e → φ (nx + k) = some e.loc) → Reps w' S'' φ (att1.1 :: as) (vv :: vs).toArray := by
  obtain ⟨e1, a1, a2, a3, a4, a5⟩ := h1
  obtain ⟨e2, b1, b2, b3, b4, b5⟩ := h2
  rw [a2] at b1 b2 b5
  refine ⟨e1 ++ e2, by rw [mkWr_append, a1, b1], by simp [b2, Nat.add_assoc], by simp [a3, b3], fun k e hk => ?_, fun φ hφ => ?_⟩
  · by_cases h : k < e1.length
    · rw [List.getElem?_append_left h] at hk
      obtain ⟨id, loc, c1, c2⟩ := a4 k e hk
      exact ⟨id, loc, by rw [List.getElem?_append_left (by omega)]; exact c1, c2⟩
    · rw [List.getElem?_append_right (by omega)] at hk
      obtain ⟨id, loc, c1, c2⟩ := b4 _ e hk
      exact ⟨id, loc, by rw [List.getElem?_append_right (by omega), ← a3]; exact c1, c2⟩
  · refine Reps.cons (a5 φ fun k e hk => hφ k e ?_) (b5 φ fun k e hk => ?_)
    · have : k < e1.length := by
        rcases Nat.lt_or_ge k e1.length with h' | h'
        · exact h'
        · rw [List.getElem?_eq_none h'] at hk; cases hk
      rw [List.getElem?_append_left this]; exact hk
    · have := hφ (e1.length + k) e (by rw [List.getElem?_append_right (by omega), Nat.add_sub_cancel_left]; exact hk)
      rwa [← Nat.add_assoc] at this
def DetLs (P : Program) (w' : World) (S'' : Nat → Prop) (φ' : Phi) (H' : Heap) (nx : Nat) (att : List AV × Wr × Nat) (ids : List Nat) (vs : List Value) : Prop :=
  ∃ es, att.2.1 = mkWr nx es ∧ att.2.2 = nx + es.length ∧ es.length = ids.length ∧
    (∀ (k : Nat) e, es[k]? = some e → ∃ id loc, ids[k]? = some id ∧ (hget H' id).isSome = true ∧ φ' id = some loc ∧ e.loc.blk = loc.blk ∧ SimBlk P w' S'' (fun _ => none) e.loc (.row e.loc.sz e.xs)) ∧
    ∀ φ : Phi, (∀ (k : Nat) e, es[k]? = some e → φ (nx + k) = some e.loc) → Reps w' S'' φ att.1 vs.toArray
theorem detL : ∀ {vs ts : List AV} {ids : List Nat} {us : List Value}, Sim P S' φ' (hget H') w' → detachL H' vs = some (ts, ids) → Reps w' S' φ' vs us.toArray → ((∀ b, S' b → S'' b) ∨ ∀ t ∈ ts, t.hasLst0 = false) → ∀ nx, DetLs P w' S'' φ' H' nx (attachL nx ts) ids us
  | [], ts, ids, us, hs, he, hv, hST, nx => by
    cases he
    have : us = [] := by have := hv.1; simpa using this
    subst this
    exact ⟨[], rfl, rfl, rfl, by simp, fun φ _ => reps_nil⟩
  | v :: vs, ts, ids, us, hs, he, hv, hST, nx => by
    simp only [detachL] at he
    split at he
    · rename_i a r as' rs e1 e2
      cases he
      cases us with
      | nil => have := hv.1; simp at this
      | cons u us =>
        refine detOK_cons (detC hs e1 (hv.2 0 v u (by simp) (by simp)) (hST.imp id fun h => h _ (by simp)) nx) ?_
        exact detL hs e2 ⟨by have := hv.1; simpa using this, fun i c x q1 q2 => hv.2 (i + 1) c x (by simpa using q1) (by simpa using q2)⟩ (hST.imp id fun h t ht => h t (by simp [ht])) _
    · cases he
theorem detachC_noAgg {H : Heap} {v t : AV} {ids : List Nat} (h : detachC H v = some (t, ids)) : (∀ y, t ≠ .agg y) ∧ ∀ vs, t ≠ .tup vs := by
  unfold detachC at h
  split at h
  · split at h
    · split at h
      · cases h; exact ⟨(fun _ e => by cases e), (fun _ e => by cases e)⟩
      · cases h
    · cases h
  · split at h
    · rename_i hn; cases h; exact ⟨(fun _ e => by subst e; simp [AV.noId] at hn), (fun _ e => by subst e; simp [AV.noId] at hn)⟩
    · cases h
/-- Whether a list of trees has a slice of old memory. -/
theorem attach1_C {nx : Nat} {t : AV} (h : ∀ y, t ≠ .agg y) : attach1 nx t = attachC nx t := by cases t <;> first | rfl | exact absurd rfl (h _)
theorem det1 {v t : AV} {ids : List Nat} {vv : Value} (hs : Sim P S' φ' (hget H') w') (he : detach1 H' v = some (t, ids)) (hv : Rep w' S' φ' v vv) (hST : (∀ b, S' b → S'' b) ∨ t.hasLst1 = false) (nx : Nat) : DetOK P w' S'' φ' H' nx (attach1 nx t) ids vv := by
  unfold detach1 at he
  split at he
  · rename_i cs
    cases e1 : detachL H' cs with
    | none => simp [e1] at he
    | some p =>
      obtain ⟨as, r⟩ := p
      simp [e1] at he
      obtain ⟨rfl, rfl⟩ := he
      obtain ⟨us, rfl, f2⟩ := hv.inv_agg
      have hST2 : (∀ b, S' b → S'' b) ∨ ∀ t ∈ as, t.hasLst0 = false := by
        rcases hST with h1 | h1
        · exact .inl h1
        · right
          simp only [AV.hasLst1, List.any_eq_false] at h1
          exact fun t ht => by simpa using h1 t ht
      obtain ⟨es, a1, a2, a3, a4, a5⟩ := detL (us := us.toList) hs e1 (by simpa using f2) hST2 nx
      refine ⟨es, a1, a2, a3, a4, fun φ hφ => ?_⟩
      have := a5 φ hφ
      exact .agg (by simpa using this.1) (by simpa using this.2)
  · rw [attach1_C (detachC_noAgg he).1]
    refine detC hs he hv (hST.imp id fun h => ?_) nx
    have := (detachC_noAgg he).1
    cases t <;> first | exact h | exact absurd rfl (this _)
theorem det1_noTup {H : Heap} {v t : AV} {ids : List Nat} (h : detach1 H v = some (t, ids)) : ∀ vs, t ≠ .tup vs := by
  unfold detach1 at h
  split at h
  · rename_i cs
    cases e1 : detachL H cs with
    | none => simp [e1] at h
    | some p => simp [e1] at h; obtain ⟨rfl, -⟩ := h; exact fun _ e => by cases e
  · exact (detachC_noAgg h).2
theorem detM : ∀ {vs ts : List AV} {ids : List Nat} {us : List Value}, Sim P S' φ' (hget H') w' → detachM H' vs = some (ts, ids) → Reps w' S' φ' vs us.toArray → ((∀ b, S' b → S'' b) ∨ ∀ t ∈ ts, t.hasLst1 = false) → ∀ nx, DetLs P w' S'' φ' H' nx (attachM nx ts) ids us
  | [], ts, ids, us, hs, he, hv, hST, nx => by
    cases he
    have : us = [] := by have := hv.1; simpa using this
    subst this
    exact ⟨[], rfl, rfl, rfl, by simp, fun φ _ => reps_nil⟩
  | v :: vs, ts, ids, us, hs, he, hv, hST, nx => by
    simp only [detachM] at he
    split at he
    · rename_i a r as' rs e1 e2
      cases he
      cases us with
      | nil => have := hv.1; simp at this
      | cons u us =>
        refine detOK_cons (det1 hs e1 (hv.2 0 v u (by simp) (by simp)) (hST.imp id fun h => h _ (by simp)) nx) ?_
        exact detM hs e2 ⟨by have := hv.1; simpa using this, fun i c x q1 q2 => hv.2 (i + 1) c x (by simpa using q1) (by simpa using q2)⟩ (hST.imp id fun h t ht => h t (by simp [ht])) _
    · cases he
theorem det {v t : AV} {ids : List Nat} {vv : Value} (hs : Sim P S' φ' (hget H') w') (he : detach H' v = some (t, ids)) (hv : Rep w' S' φ' v vv) (hST : (∀ b, S' b → S'' b) ∨ t.hasLst = false) (nx : Nat) : DetOK P w' S'' φ' H' nx (attach nx t) ids vv := by
  unfold detach at he
  split at he
  · rename_i cs
    cases e1 : detachM H' cs with
    | none => simp [e1] at he
    | some p =>
      obtain ⟨as, r⟩ := p
      simp [e1] at he
      obtain ⟨rfl, rfl⟩ := he
      obtain ⟨us, rfl, f2⟩ := hv.inv_tup
      have hST2 : (∀ b, S' b → S'' b) ∨ ∀ t ∈ as, t.hasLst1 = false := by
        rcases hST with h1 | h1
        · exact .inl h1
        · right
          simp only [AV.hasLst, List.any_eq_false] at h1
          exact fun t ht => by simpa using h1 t ht
      obtain ⟨es, a1, a2, a3, a4, a5⟩ := detM (us := us.toList) hs e1 (by simpa using f2) hST2 nx
      refine ⟨es, a1, a2, a3, a4, fun φ hφ => ?_⟩
      have := a5 φ hφ
      exact .tup (by simpa using this.1) (by simpa using this.2)
  · have hnt := det1_noTup he
    have ha : attach nx t = attach1 nx t := by cases t <;> first | rfl | exact absurd rfl (hnt _)
    rw [ha]
    refine det1 hs he hv (hST.imp id fun h => ?_) nx
    cases t <;> first | exact h | exact absurd rfl (hnt _)
end res

/-! The call -/
section ops
variable {P : Program} {T : FuncId → Option IFn} {cb : Cb} {S : Nat → Prop} {φ : Phi} {h : Mem} {H : Heap} {w : World} {nx : Nat}
theorem call_pure (hT : TOK P T) (hcb : CbOK P cb) {f : FuncId} {args args' : List AV} {rd : List Nat} {t : AV} {H0 : Heap} {us : Array Value} {fn : IFn} (hfn : T f = some fn) (h1 : reifyArgs H args = some (args', rd)) (h2 : cb (.pu f) args' noH = some (t, H0)) (h3 : rd = [] ∨ t.hasLst = false)
    (hrd : ∀ id ∈ rd, h id = hget H id) (hs : Sim P S φ h w) (hv : Reps w S φ args us) (hn : ∀ id, nx ≤ id → id < (attach nx t).2.2 → φ id = none) :
    (∀ vs, (callFunc f vs).run P w = .ok (.enter f vs) w) ∧ Calls P f us w fun e w' => ∃ v, e = .returned v ∧ Ends P S φ h w (attach nx t).1 (attach nx t).2.1 nx (attach nx t).2.2 v w' := by
  obtain ⟨g, c, g1, g2, g3, -⟩ := cFn_spec (hT f fn hfn)
  refine ⟨fun vs => run_callFunc g1 g2 g3 vs, ?_⟩
  obtain ⟨Sc, hSc⟩ : ∃ Sc : Nat → Prop, Sc = fun b => S b ∨ (rd ≠ [] ∧ Own φ h b) := ⟨_, rfl⟩
  have hown_lt : ∀ b, Own φ h b → b < w.heap.size := by
    rintro b ⟨id, x, loc, q1, q2, rfl⟩
    obtain ⟨l', p1, p2, -⟩ := hs.blk id x q1
    rw [q2] at p1; cases p1
    exact p2.lt
  have hsc : Sim P Sc (fun _ => none) (hget noH) w := ⟨fun id b hb => by simp [hget, noH] at hb, fun id id' b b' l l' hb => by simp [hget, noH] at hb, fun b hb => by
    rw [hSc] at hb
    rcases hb with hb | hb
    · exact hs.bd b hb
    · exact hown_lt b hb.2⟩
  have hargs := reifyArgs_rep (Sc := Sc) (us := us.toList) h1 hrd hs (by simpa using hv) (fun b hb => by rw [hSc]; exact .inl hb) (fun hne b hb => by rw [hSc]; exact .inr ⟨hne, hb⟩)
  refine (hcb.pu f args' noH t H0 h2 Sc w us hsc (by simpa using hargs)).mono ?_
  rintro e w' ⟨vv, rfl, v, H', ids, S', φ', adv, sim, rep, e2, hnd⟩
  refine ⟨vv, rfl, ?_⟩
  have hnone : ∀ b, ¬ Own (fun _ => none) (hget noH) b := by rintro b ⟨id, x, loc, q1, q2, q3⟩; cases q2
  have hblk : ∀ b, b < w.heap.size → w'.heap[b]? = w.heap[b]? := fun b hb => adv.keep b hb (hnone b)
  obtain ⟨S'', hS''⟩ : ∃ S'' : Nat → Prop, S'' = fun b => S b ∨ (rd = [] ∧ S' b) := ⟨_, rfl⟩
  have hS1 : ∀ b, S b → S'' b := fun b hb => by rw [hS'']; exact .inl hb
  have hS2 : ∀ b, S'' b → S b ∨ w.heap.size ≤ b := fun b hb => by
    rw [hS''] at hb
    rcases hb with hb | ⟨hr, hb⟩
    · exact .inl hb
    · rcases adv.new b hb with hb | hb
      · rw [hSc] at hb
        rcases hb with hb | hb
        · exact .inl hb
        · exact absurd hr hb.1
      · exact .inr hb
  have hST : (∀ b, S' b → S'' b) ∨ t.hasLst = false := by
    rcases h3 with h3 | h3
    · exact .inl fun b hb => by rw [hS'']; exact .inr ⟨h3, hb⟩
    · exact .inr h3
  obtain ⟨es, a1, a2, a3, a4, a5⟩ := det (nx := nx) sim e2 rep hST
  have hlen : ∀ k e, es[k]? = some e → k < es.length := fun k e hk => by
    rcases Nat.lt_or_ge k es.length with h' | h'
    · exact h'
    · rw [List.getElem?_eq_none h'] at hk; cases hk
  obtain ⟨q1, q2⟩ := adopt_sim (nx := nx) (es := es) (w' := w') hs (fun id i1 i2 => hn id i1 (by rw [a2]; exact i2)) hblk adv.size adv.os adv.tape adv.output adv.shape hS1 hS2 (fun b hb => by
      rcases hS2 b hb with hb' | hb'
      · exact Nat.lt_of_lt_of_le (hs.bd b hb') adv.size
      · rw [hS''] at hb
        rcases hb with hb | ⟨-, hb⟩
        · exact Nat.lt_of_lt_of_le (hs.bd b hb) adv.size
        · exact sim.bd b hb)
    (fun k e hk => by
      obtain ⟨id, loc, b1, b2, b3, b4, b5⟩ := a4 k e hk
      obtain ⟨x, hx⟩ := Option.isSome_iff_exists.1 b2
      obtain ⟨l', c1, c2, c3⟩ := sim.blk id x hx
      rw [b3] at c1; cases c1
      have hge : w.heap.size ≤ loc.blk := by
        rcases adv.own loc.blk ⟨id, x, loc, hx, b3, rfl⟩ with h' | h'
        · exact absurd h' (hnone _)
        · exact h'
      refine ⟨b5, fun hb => ?_, by rw [b4]; exact hge⟩
      rw [hS'', b4] at hb
      rcases hb with hb | ⟨-, hb⟩
      · have := hs.bd _ hb; omega
      · exact c3 hb)
    (fun k k' e e' hk hk' he => by
      obtain ⟨id, loc, b1, b2, b3, b4, b5⟩ := a4 k e hk
      obtain ⟨id', loc', b1', b2', b3', b4', b5'⟩ := a4 k' e' hk'
      obtain ⟨x, hx⟩ := Option.isSome_iff_exists.1 b2
      obtain ⟨x', hx'⟩ := Option.isSome_iff_exists.1 b2'
      have hid := sim.inj id id' x x' loc loc' hx hx' b3 b3' (by rw [← b4, ← b4', he])
      subst hid
      have l1 : k < ids.length := by rw [← a3]; exact hlen k e hk
      have l2 : k' < ids.length := by rw [← a3]; exact hlen k' e' hk'
      have e1 : ids[k] = id := by have : ids[k]? = some ids[k] := by simp [l1]
                                  rw [this] at b1; cases b1; rfl
      have e2 : ids[k'] = id := by have : ids[k']? = some ids[k'] := by simp [l2]
                                   rw [this] at b1'; cases b1'; rfl
      exact (List.getElem_inj hnd).1 (e1.trans e2.symm))
  rw [a1, a2]
  exact ⟨S'', phiE φ nx es, q1, q2, a5 _ fun k e hk => phiE_at φ nx es k e hk, fun id hid => phiE_only φ nx es id hid⟩
end ops
end Go.V
