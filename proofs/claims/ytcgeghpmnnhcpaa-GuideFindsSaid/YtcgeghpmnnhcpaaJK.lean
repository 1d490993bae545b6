/- Where ways meet: a state is one of a pattern. -/
import Derived.Test.YtcgeghpmnnhcpaaJJ
set_option linter.unusedVariables false
set_option linter.unusedSimpArgs false
namespace Go.Q
open Go.V
variable {c c' : Cx} {S : SS} {env : List AV} {H H' : Heap} {K : List FC} {mk : List Nat}

mutual
theorem eqDb_eq : ∀ {a b : D}, eqDb a b = true → a = b
  | .int k a, b, h => by
    cases b <;> simp only [eqDb, Bool.and_eq_true, decide_eq_true_eq, beq_iff_eq, Bool.false_eq_true] at h
    rw [h.1, h.2]
  | .bool a, b, h => by
    cases b <;> simp only [eqDb, beq_iff_eq, Bool.false_eq_true] at h
    rw [h]
  | .str s, b, h => by simp [eqDb] at h
  | .node a, b, h => by
    cases b <;> simp only [eqDb, Bool.false_eq_true] at h
    rw [eqDLb_eq h]
  | .list a, b, h => by
    cases b <;> simp only [eqDb, Bool.false_eq_true] at h
    rw [eqDLLb_eq h]
  | .nilP, b, h => by cases b <;> first | rfl | simp [eqDb] at h
  | .nilF, b, h => by cases b <;> first | rfl | simp [eqDb] at h
  | .fn f a b, d, h => by
    cases d <;> simp only [eqDb, Bool.false_eq_true, Bool.and_eq_true, beq_iff_eq] at h
    rw [h.1.1, eqDLb_eq h.1.2, eqDLb_eq h.2]
theorem eqDLb_eq : ∀ {a b : List D}, eqDLb a b = true → a = b
  | [], [], _ => rfl
  | a :: as, b :: bs, h => by
    simp only [eqDLb, Bool.and_eq_true] at h
    rw [eqDb_eq h.1, eqDLb_eq h.2]
  | [], _ :: _, h => by simp [eqDLb] at h
  | _ :: _, [], h => by simp [eqDLb] at h
theorem eqDLLb_eq : ∀ {a b : List (List D)}, eqDLLb a b = true → a = b
  | [], [], _ => rfl
  | a :: as, b :: bs, h => by
    simp only [eqDLLb, Bool.and_eq_true] at h
    rw [eqDLb_eq h.1, eqDLLb_eq h.2]
  | [], _ :: _, h => by simp [eqDLLb] at h
  | _ :: _, [], h => by simp [eqDLLb] at h
end
mutual
theorem eqE_eq : ∀ {a b : E}, eqE a b = true → a = b
  | .v n, b, h => by
    cases b <;> simp only [eqE, beq_iff_eq, Bool.false_eq_true] at h
    rw [h]
  | .c d, b, h => by
    cases b <;> simp only [eqE, Bool.false_eq_true] at h
    rw [eqDb_eq h]
  | .cell x j, b, h => by
    cases b <;> simp only [eqE, Bool.false_eq_true, Bool.and_eq_true, beq_iff_eq] at h
    rw [h.1, eqE_eq h.2]
  | .node a, b, h => by
    cases b <;> simp only [eqE, Bool.false_eq_true] at h
    rw [eqEL_eq h]
  | .fn f a b, d, h => by
    cases d <;> simp only [eqE, Bool.false_eq_true, Bool.and_eq_true, beq_iff_eq] at h
    rw [h.1.1, eqEL_eq h.1.2, eqEL_eq h.2]
theorem eqEL_eq : ∀ {a b : List E}, eqEL a b = true → a = b
  | [], [], _ => rfl
  | a :: as, b :: bs, h => by
    simp only [eqEL, Bool.and_eq_true] at h
    rw [eqE_eq h.1, eqEL_eq h.2]
  | [], _ :: _, h => by simp [eqEL] at h
  | _ :: _, [], h => by simp [eqEL] at h
end
mutual
theorem sub_den {n0 : Nat} {vals : List E} {ρ0 e : List D} (hn : ρ0.length = n0) : ∀ (x : E), (x.sub n0 vals).den (ρ0 ++ e) = x.den (ρ0 ++ denL (ρ0 ++ e) vals)
  | .v k => by
    simp only [E.sub]
    split
    · rename_i hk
      simp [E.den, List.getD_eq_getElem?_getD, List.getElem?_append_left (show k < ρ0.length by omega)]
    · rename_i hk
      simp only [E.den, List.getD_eq_getElem?_getD]
      rw [List.getElem?_append_right (by omega), denL_get, hn]
      cases vals[k - n0]? with
      | none => rfl
      | some y => rfl
  | .c d => rfl
  | .cell x j => by simp only [E.sub, E.den]; rw [sub_den hn x]
  | .node xs => by simp only [E.sub, E.den]; rw [subL_den hn xs]
  | .fn f a b => by simp only [E.sub, E.den]; rw [subL_den hn a, subL_den hn b]
theorem subL_den {n0 : Nat} {vals : List E} {ρ0 e : List D} (hn : ρ0.length = n0) : ∀ (xs : List E), denL (ρ0 ++ e) (subL n0 vals xs) = denL (ρ0 ++ denL (ρ0 ++ e) vals) xs
  | [] => rfl
  | x :: xs => by simp only [subL, denL]; rw [sub_den hn x, subL_den hn xs]
end
open Classical in
/-- What is written no more: lists that the pattern doesn't have. -/
noncomputable def frzM (c : Cx) (H : Heap) (heap : List HB) (σ : Ren) : Frz := fun x =>
  match c.Φ x with
  | some y => some y
  | none => if ∃ k p s y d, bget heap k = some (.list s y d) ∧ c.ψ k = some p ∧ p.idc = some x ∧ (σ.any fun o => o == some (some k)) = false then
      (match hget H x with
        | some (.row sz rows) => some (sz, rows)
        | _ => none)
    else none
noncomputable def mtC (c : Cx) (H : Heap) (heap : List HB) (σ : Ren) (ρ : List D) : Cx :=
  { Φ := frzM c H heap σ, F0 := fun x => frzM c H heap σ x ≠ none
    ψ := fun i => match σ[i]? with
      | some (some (some k)) => if (bget heap k).isSome then (c.ψ k).map fun p => { p with rt := i } else some ⟨none, 0, 0, i⟩
      | some _ => some ⟨none, 0, 0, i⟩
      | none => none
    κ := c.κ, ρ := ρ }
theorem frzM_up {heap : List HB} {σ : Ren} {x : Nat} {y : Nat × List (List AV)} (h : c.Φ x = some y) : frzM c H heap σ x = some y := by simp [frzM, h]
mutual
theorem RO.toM {Φ Φ' : Frz} {A A' : Nat → Prop} (hΦ : ∀ id x, Φ id = some x → Φ' id = some x ∧ A' id) : ∀ {d : D} {a : AV}, RO Φ A d a → RO Φ' A' d a
  | _, _, .b h => .b h
  | _, _, .own h1 h2 h3 h4 h5 => .own (hΦ _ _ h1).1 (hΦ _ _ h1).2 h3 h4 (RO.toMLL hΦ h5)
theorem RO.toML {Φ Φ' : Frz} {A A' : Nat → Prop} (hΦ : ∀ id x, Φ id = some x → Φ' id = some x ∧ A' id) : ∀ {d : List D} {a : List AV}, F2 (RO Φ A) d a → F2 (RO Φ' A') d a
  | _, _, .nil => .nil
  | _, _, .cons h t => .cons (RO.toM hΦ h) (RO.toML hΦ t)
theorem RO.toMLL {Φ Φ' : Frz} {A A' : Nat → Prop} (hΦ : ∀ id x, Φ id = some x → Φ' id = some x ∧ A' id) : ∀ {d : List (List D)} {a : List (List AV)}, F2 (F2 (RO Φ A)) d a → F2 (F2 (RO Φ' A')) d a
  | _, _, .nil => .nil
  | _, _, .cons h t => .cons (RO.toML hΦ h) (RO.toMLL hΦ t)
end
section
variable {n0 : Nat} {vals : List E} {σ : Ren} {ρ0 e : List D}
theorem okE_ok (hn : ρ0.length = n0) {x y : E} (h : okE n0 vals x y = true) : x.upto (ρ0 ++ denL (ρ0 ++ e) vals).length = true ∧ x.den (ρ0 ++ denL (ρ0 ++ e) vals) = y.den (ρ0 ++ e) := by
  simp only [okE, Bool.and_eq_true] at h
  refine ⟨by rw [List.length_append, denL_len, hn]; exact h.1, ?_⟩
  rw [← sub_den hn, eqE_eq h.2]
theorem toM_Φ {rs : List Nat} : ∀ id x, c.Φ id = some x → (mtC c H S.heap σ ρ0).Φ id = some x ∧ (mtC c H S.heap σ ρ0).okr rs id := fun id x h => by
  have h1 : frzM c H S.heap σ id = some x := frzM_up h
  exact ⟨h1, .inl (by simp only [mtC]; rw [h1]; simp)⟩
theorem okId_ψ {i k : Nat} {p : Pl} {ρ : List D} (h : okId S.heap σ i k = true) (hp : c.ψ k = some p) : (mtC c H S.heap σ ρ).ψ i = some { p with rt := i } := by
  simp only [okId, Bool.and_eq_true, beq_iff_eq] at h
  simp [mtC, h.1, h.2, hp]
mutual
theorem okV_ok (r : Rel c S env H K mk) (hρ : c.ρ = ρ0 ++ e) (hn : ρ0.length = n0) : ∀ (P : SV) {v : SV} {a : AV}, okV n0 vals S.heap σ P v = true → Cv c v a → Cv (mtC c H S.heap σ (ρ0 ++ denL c.ρ vals)) P a
  | .unk, v, a, _, _ => .unk
  | .e x, v, a, h, hv => by
    rw [hρ]
    cases v <;> simp only [okV, Bool.false_eq_true] at h
    · obtain ⟨g1, g2⟩ := okE_ok (e := e) hn h
      obtain ⟨k1, k2, k3⟩ := hv.inv_e
      exact .e g1 (by show RD (x.den (ρ0 ++ denL (ρ0 ++ e) vals)) a; rw [g2, ← hρ]; exact k2) k3
    · obtain ⟨g1, g2⟩ := okE_ok (e := e) hn h
      have := hv.inv_nil
      subst this
      exact .e g1 (by show RD (x.den (ρ0 ++ denL (ρ0 ++ e) vals)) .nilS; rw [g2]; exact .nilS) rfl
  | .fz x rs, v, a, h, hv => by
    rw [hρ]
    have fin : ∀ {y : E}, okE n0 vals x y = true → RO c.Φ (fun id => ∃ z, c.Φ id = some z) (y.den c.ρ) a → a.one = true → Cv (mtC c H S.heap σ (ρ0 ++ denL (ρ0 ++ e) vals)) (.fz x rs) a := fun {y} h h1 h2 => by
      obtain ⟨g1, g2⟩ := okE_ok (e := e) hn h
      refine .fz g1 ?_ h2
      show RO _ _ (x.den (ρ0 ++ denL (ρ0 ++ e) vals)) a
      rw [g2, ← hρ]
      exact RO.toM (fun id x h => toM_Φ id x h) h1
    cases v <;> simp only [okV, Bool.false_eq_true] at h
    · obtain ⟨k1, k2, k3⟩ := hv.inv_e
      exact fin h (.b k2) k3
    · obtain ⟨k1, k2, k3⟩ := hv.inv_fz
      exact fin h (RO.toM (fun id x h => ⟨h, x, h⟩) k2) k3
    · rename_i k
      simp only [Bool.and_eq_true, Bool.not_eq_true'] at h
      obtain ⟨h0, h⟩ := h
      split at h
      · rename_i s y dp e1
        obtain ⟨g1, g2⟩ := okE_ok (e := e) hn h
        obtain ⟨p, hp, ha⟩ := hv.inv_own
        obtain ⟨p', q1, q2, q3, q4⟩ := r.blk e1
        rw [hp] at q1; cases q1
        obtain ⟨xs, t1, t2, t3, t4, t5⟩ := q3
        have hd : x.den (ρ0 ++ denL (ρ0 ++ e) vals) = .list xs := by rw [g2, ← hρ]; exact t2
        rcases ha with ⟨z, hz, ha⟩ | ⟨hl0, ha⟩
        · obtain ⟨rows, u1, u2, u3, u4⟩ := t5 _ hz
          have hΦ : frzM c H S.heap σ z = some (s, rows) := by
            simp only [frzM, q4 z hz]
            rw [if_pos ⟨k, p, s, y, dp, e1, hp, hz, h0⟩, u1]
          have hΦ' : (mtC c H S.heap σ (ρ0 ++ denL (ρ0 ++ e) vals)).Φ z = some (s, rows) := hΦ
          subst ha
          refine .fz g1 ?_ rfl
          show RO _ _ (x.den (ρ0 ++ denL (ρ0 ++ e) vals)) _
          rw [hd, ← t3]
          rw [← t3] at u2 u4
          refine .own hΦ' (.inl (by show frzM c H S.heap σ z ≠ none; rw [hΦ]; simp)) u2 u3 (u4.mono fun _ _ => F2.mono fun d b hk => ?_)
          cases dp with
          | none => exact .b hk
          | some rs' => exact RO.toM (fun id x h => toM_Φ id x h) hk
        · have hxs : xs = [] := by rw [hl0] at t3; simpa using t3
          subst hxs
          rcases ha with rfl | rfl
          · exact .fz g1 (by show RO _ _ (x.den (ρ0 ++ denL (ρ0 ++ e) vals)) _; rw [hd]; exact .b .nilS) rfl
          · exact .fz g1 (by show RO _ _ (x.den (ρ0 ++ denL (ρ0 ++ e) vals)) _; rw [hd]; exact .b .emp) rfl
      · cases h
    · have := hv.inv_nil
      subst this
      exact fin h (.b .nilS) rfl
  | .nil, v, a, h, hv => by
    cases v <;> simp only [okV, Bool.false_eq_true] at h
    rw [hv.inv_nil]; exact .nil
  | .own i, v, a, h, hv => by
    cases v <;> simp only [okV, Bool.false_eq_true] at h
    · obtain ⟨p, hp, ha⟩ := hv.inv_own
      have hψ := okId_ψ (H := H) (ρ := ρ0 ++ denL c.ρ vals) h hp
      rcases ha with ⟨z, hz, rfl⟩ | ⟨hl0, ha⟩
      · exact .own (p := { p with rt := i }) hψ hz
      · exact .ownE (p := { p with rt := i }) hψ hl0 ha
    · simp only [beq_iff_eq] at h
      rw [hv.inv_nil]
      exact .ownE (p := ⟨none, 0, 0, i⟩) (by simp [mtC, h]) rfl (.inl rfl)
  | .agg cs, v, a, h, hv => by
    cases v <;> simp only [okV, Bool.false_eq_true] at h
    obtain ⟨as, rfl, h1, h2⟩ := hv.inv_agg
    exact .agg (okVL_ok r hρ hn cs h h1) h2
  | .tup cs, v, a, h, hv => by
    cases v <;> simp only [okV, Bool.false_eq_true] at h
    obtain ⟨as, rfl, h1⟩ := hv.inv_tup
    exact .tup (okVL_ok r hρ hn cs h h1)
  | .ptr i j, v, a, h, hv => by
    cases v <;> simp only [okV, Bool.false_eq_true] at h
    simp only [Bool.and_eq_true, beq_iff_eq] at h
    obtain ⟨rfl, h⟩ := h
    obtain ⟨p, x, hp, hx, rfl⟩ := hv.inv_ptr
    exact .ptr (p := { p with rt := i }) (okId_ψ h hp) hx
  | .ptrO i x j, v, a, h, hv => by
    cases v <;> simp only [okV, Bool.false_eq_true] at h
    simp only [Bool.and_eq_true, beq_iff_eq] at h
    obtain ⟨⟨rfl, h⟩, h'⟩ := h
    obtain ⟨p, w, k, m, hp, hx, hi, hm, h0, hl, rfl⟩ := hv.inv_ptrO
    obtain ⟨g1, g2⟩ := okE_ok (e := e) hn h'
    have hψ := okId_ψ (H := H) (ρ := ρ0 ++ denL c.ρ vals) h hp
    exact .ptrO (p := { p with rt := i }) (n := m) hψ hx (by rw [hρ]; exact g1) (by show x.den (ρ0 ++ denL c.ρ vals) = _; rw [hρ, g2, ← hρ]; exact hm) h0 hl
  | .sufO i x, v, a, h, hv => by
    cases v <;> simp only [okV, Bool.false_eq_true] at h
  | .ptrE x i j rs, v, a, h, hv => by
    cases v <;> simp only [okV, Bool.false_eq_true] at h
    rename_i y k l rs'
    simp only [Bool.and_eq_true, beq_iff_eq] at h
    obtain ⟨⟨⟨rfl, hr⟩, h1⟩, h2⟩ := h
    obtain ⟨g1, g2⟩ := okE_ok (e := e) hn h1
    obtain ⟨g3, g4⟩ := okE_ok (e := e) hn h2
    obtain ⟨hx, hi, xs, kk, m, hd, hm, h0, hl, hh⟩ := hv.inv_ptrE
    rcases hh with ⟨sz, rows, hs, h, rfl⟩ | ⟨r0, id, off, sz, rows, rfl, hΦ, hA, hl', hs, h, rfl⟩
    · exact .ptrE (by rw [hρ]; exact g1) (by rw [hρ]; exact g3) (by show x.den (ρ0 ++ denL c.ρ vals) = _; rw [hρ, g2, ← hρ]; exact hd) (by show i.den (ρ0 ++ denL c.ρ vals) = _; rw [hρ, g4, ← hρ]; exact hm) h0 hl hs h
    · cases rs with
      | none => cases hr
      | some rs =>
        obtain ⟨q1, q2⟩ := toM_Φ (c := c) (S := S) (H := H) (σ := σ) (ρ0 := ρ0 ++ denL c.ρ vals) (rs := rs) id _ hΦ
        exact .ptrF (by rw [hρ]; exact g1) (by rw [hρ]; exact g3) (by show x.den (ρ0 ++ denL c.ρ vals) = _; rw [hρ, g2, ← hρ]; exact hd) (by show i.den (ρ0 ++ denL c.ρ vals) = _; rw [hρ, g4, ← hρ]; exact hm) h0 hl q1 q2 hl' hs (RO.toMLL (fun id x h => toM_Φ id x h) h)
  | .fn f x y, v, a, h, hv => by
    cases v <;> simp only [okV, Bool.false_eq_true] at h
    simp only [Bool.and_eq_true, beq_iff_eq] at h
    obtain ⟨⟨rfl, h1⟩, h2⟩ := h
    obtain ⟨as, bs, rfl, k1, k2⟩ := hv.inv_fn
    exact .fn (okVL_ok r hρ hn x h1 k1) (okVL_ok r hρ hn y h2 k2)
  | .yld i, v, a, h, hv => by
    cases v <;> simp only [okV, Bool.false_eq_true] at h
    simp only [beq_iff_eq] at h
    subst h
    obtain ⟨id, rfl, hk⟩ := hv.inv_yld
    exact .yld hk
theorem okVL_ok (r : Rel c S env H K mk) (hρ : c.ρ = ρ0 ++ e) (hn : ρ0.length = n0) : ∀ (Ps : List SV) {vs : List SV} {as : List AV}, okVL n0 vals S.heap σ Ps vs = true → F2 (Cv c) vs as → F2 (Cv (mtC c H S.heap σ (ρ0 ++ denL c.ρ vals))) Ps as
  | [], vs, as, h, hv => by
    cases vs with
    | nil => cases hv; exact .nil
    | cons => simp [okVL] at h
  | P :: Ps, vs, as, h, hv => by
    cases vs with
    | nil => simp [okVL] at h
    | cons v vs =>
      simp only [okVL, Bool.and_eq_true] at h
      obtain ⟨a, t, rfl, ha, ht⟩ := F2.inv_cons hv
      exact .cons (okV_ok r hρ hn P h.1 ha) (okVL_ok r hρ hn Ps h.2 ht)
end
end
end Go.Q
/- Where ways meet; loops. -/
set_option linter.unusedVariables false
set_option linter.unusedSimpArgs false
namespace Go.Q
open Go.V
variable {c c' : Cx} {S P : SS} {env : List AV} {H H' : Heap} {K : List FC} {mk : List Nat}
variable {TT : FuncId → Option IFn} {cb : Cb} {Fs : FuncId → List D → Option D} {Sh : Shp} {ρ ρ' : List D} {m M : Nat} {cbS : SCall} {cx : List CE}

theorem stB_eq {a b : LoopState} (h : stB a b = true) : a = b := by cases a <;> cases b <;> first | rfl | cases h
theorem exB_eq {a b : Ex} (h : exB a b = true) : a = b := by
  cases a <;> cases b <;> first | rfl | (cases h; done) | skip
  simp only [exB, beq_iff_eq] at h; rw [h]
section
variable {n0 : Nat} {vals : List E} {σ : Ren} {ρ0 e : List D}
theorem okFL_ok (r : Rel c S env H K mk) (hρ : c.ρ = ρ0 ++ e) (hn : ρ0.length = n0) : ∀ {Ps frs : List Fr} {K : List FC}, okFL n0 vals S.heap σ Ps frs = true → F2 (RF c H) frs K → F2 (RF (mtC c H S.heap σ (ρ0 ++ denL c.ρ vals)) H) Ps K
  | [], [], _, _, .nil => .nil
  | P :: Ps, fr :: frs, _, h, .cons h1 t => by
    simp only [okFL, okF, Bool.and_eq_true] at h
    obtain ⟨⟨⟨q1, q2⟩, q3⟩, q4⟩ := h
    refine .cons ?_ (okFL_ok r hρ hn q4 t)
    rename_i k K'
    cases k with
    | call as => exact okVL_ok r hρ hn _ q3 h1
    | rng id as ps a b d => exact ⟨by rw [stB_eq q1, exB_eq q2]; exact h1.1, okVL_ok r hρ hn _ q3 h1.2⟩
  | [], _ :: _, _, h, _ => by simp [okFL] at h
  | _ :: _, [], _, h, _ => by simp [okFL] at h
theorem okR_at : ∀ {l : List HB} {j i : Nat} {b : HB}, okR l j = true → l[i]? = some b → b.rt = j + i
  | x :: l, j, 0, b, h, e => by cases e; simp only [okR, Bool.and_eq_true, beq_iff_eq] at h; simpa using h.1
  | x :: l, j, i + 1, b, h, e => by
    simp only [okR, Bool.and_eq_true] at h
    rw [okR_at h.2 (by simpa using e)]; omega
theorem okH_at {hS : List HB} : ∀ {l : List HB} {j i rt : Nat} {b : SB}, okH n0 vals σ hS l j = true → l[i]? = some ⟨rt, some b⟩ → okB n0 vals σ hS b ((σ[j + i]?).bind id) = true
  | ⟨r, some b'⟩ :: l, j, 0, rt, b, h, e => by cases e; simp only [okH, Bool.and_eq_true] at h; exact h.1
  | ⟨r, none⟩ :: l, j, 0, rt, b, h, e => by cases e
  | ⟨r, some b'⟩ :: l, j, i + 1, rt, b, h, e => by
    simp only [okH, Bool.and_eq_true] at h
    have := okH_at h.2 (by simpa using e)
    rwa [show j + 1 + i = j + (i + 1) by omega] at this
  | ⟨r, none⟩ :: l, j, i + 1, rt, b, h, e => by
    simp only [okH] at h
    have := okH_at h (by simpa using e)
    rwa [show j + 1 + i = j + (i + 1) by omega] at this
theorem okI_seen : ∀ {σ : Ren} {seen : List Nat} {i k : Nat}, okI σ seen = true → σ[i]? = some (some (some k)) → k ∉ seen
  | some (some k') :: σ, seen, 0, k, h, e => by
    cases e
    simp only [okI, Bool.and_eq_true, Bool.not_eq_true', List.contains_eq_mem, decide_eq_false_iff_not] at h
    exact h.1
  | some (some k') :: σ, seen, i + 1, k, h, e => by
    simp only [okI, Bool.and_eq_true] at h
    exact fun hk => okI_seen h.2 (by simpa using e) (by simp [hk])
  | some none :: σ, seen, 0, k, h, e => by cases e
  | none :: σ, seen, 0, k, h, e => by cases e
  | some none :: σ, seen, i + 1, k, h, e => okI_seen (σ := σ) (by simpa [okI] using h) (by simpa using e)
  | none :: σ, seen, i + 1, k, h, e => okI_seen (σ := σ) (by simpa [okI] using h) (by simpa using e)
theorem okI_inj : ∀ {σ : Ren} {seen : List Nat} {i i' k : Nat}, okI σ seen = true → σ[i]? = some (some (some k)) → σ[i']? = some (some (some k)) → i = i'
  | some (some k') :: σ, seen, 0, 0, k, h, e, e' => rfl
  | some (some k') :: σ, seen, 0, i' + 1, k, h, e, e' => by
    cases e
    simp only [okI, Bool.and_eq_true] at h
    exact (okI_seen h.2 (show σ[i']? = _ by simpa using e') List.mem_cons_self).elim
  | some (some k') :: σ, seen, i + 1, 0, k, h, e, e' => by
    cases e'
    simp only [okI, Bool.and_eq_true] at h
    exact (okI_seen h.2 (show σ[i]? = _ by simpa using e) List.mem_cons_self).elim
  | some (some k') :: σ, seen, i + 1, i' + 1, k, h, e, e' => by
    simp only [okI, Bool.and_eq_true] at h
    rw [okI_inj h.2 (show σ[i]? = _ by simpa using e) (show σ[i']? = _ by simpa using e')]
  | some none :: σ, seen, 0, _, k, h, e, e' => by cases e
  | none :: σ, seen, 0, _, k, h, e, e' => by cases e
  | some none :: σ, seen, i + 1, 0, k, h, e, e' => by cases e'
  | none :: σ, seen, i + 1, 0, k, h, e, e' => by cases e'
  | some none :: σ, seen, i + 1, i' + 1, k, h, e, e' => by rw [okI_inj (σ := σ) (seen := seen) (by simpa [okI] using h) (show σ[i]? = _ by simpa using e) (show σ[i']? = _ by simpa using e')]
  | none :: σ, seen, i + 1, i' + 1, k, h, e, e' => by rw [okI_inj (σ := σ) (seen := seen) (by simpa [okI] using h) (show σ[i]? = _ by simpa using e) (show σ[i']? = _ by simpa using e')]
theorem ψ_inv {ρ : List D} {i x : Nat} {p : Pl} (h : (mtC c H S.heap σ ρ).ψ i = some p) (hx : p.idc = some x) : ∃ k q b, σ[i]? = some (some (some k)) ∧ bget S.heap k = some b ∧ c.ψ k = some q ∧ q.idc = some x ∧ p.rt = i := by
  simp only [mtC] at h
  split at h
  · rename_i k e1
    split at h
    · rename_i hb
      obtain ⟨b, hb⟩ := Option.isSome_iff_exists.1 hb
      cases e2 : c.ψ k with
      | none => rw [e2] at h; cases h
      | some q => rw [e2] at h; cases h; exact ⟨k, q, b, e1, hb, e2, hx, rfl⟩
    · cases h; cases hx
  · cases h; cases hx
  · cases h
theorem okS_ok (r : Rel c S env H K mk) (hρ : c.ρ = ρ0 ++ e) (hn : ρ0.length = n0) (h : okS n0 vals σ P S = true) : Rel (mtC c H S.heap σ (ρ0 ++ denL c.ρ vals)) P env H K mk := by
  simp only [okS, Bool.and_eq_true, beq_iff_eq, decide_eq_true_eq] at h
  obtain ⟨⟨⟨⟨⟨⟨⟨h1, h2⟩, h3⟩, h4⟩, h5⟩, h6⟩, h7⟩, h8⟩ := h
  have hψs : ∀ i, i < P.heap.length → ∃ p, (mtC c H S.heap σ (ρ0 ++ denL c.ρ vals)).ψ i = some p ∧ p.rt = i := fun i hi => by
    rw [← h7] at hi
    have he := List.getElem?_eq_getElem hi
    simp only [mtC]
    rw [he]
    split
    · rename_i k e1
      split
      · rename_i hb
        obtain ⟨b, hb⟩ := Option.isSome_iff_exists.1 hb
        obtain ⟨p, g1, -⟩ := r.blk hb
        exact ⟨{ p with rt := i }, by rw [g1]; rfl, rfl⟩
      · exact ⟨_, rfl, rfl⟩
    · exact ⟨_, rfl, rfl⟩
    · rename_i e1; cases e1
  have hΦn : ∀ {i k x : Nat} {q : Pl} {b : SB}, σ[i]? = some (some (some k)) → bget S.heap k = some b → c.ψ k = some q → q.idc = some x → frzM c H S.heap σ x = none := fun {i k x q b} e1 e2 e3 e4 => by
    obtain ⟨q', g1, -, -, g4⟩ := r.blk e2
    rw [e3] at g1; cases g1
    simp only [frzM, g4 x e4]
    rw [if_neg]
    rintro ⟨k', p', s, y, d, q1, q2, q3, q4⟩
    have := r.inj _ _ _ _ _ _ _ q1 e2 q2 e3 q3 e4
    subst this
    have : (σ.any fun o => o == some (some k')) = true := by
      rw [List.any_eq_true]
      exact ⟨_, List.mem_of_getElem? e1, by simp⟩
    rw [this] at q4; cases q4
  refine ⟨?_, okVL_ok r hρ hn _ h1 r.env, okFL_ok r hρ hn h2 r.stk, fun id p hp => ?_, fun ii h hh => ?_, fun i i' p p' x b b' k1 k2 k3 k4 k5 k6 => ?_, fun i i' p p' x k3 k4 k5 k6 => ?_, fun i p x k1 k2 => ?_, fun x sz rows hx => ?_, fun x hx => hx, r.rngs, r.mks⟩
  · rw [h6]; simp [mtC, denL_len, hn]
  · simp only [mtC] at hp
    rw [← h7]
    split at hp
    · rename_i k e1; exact (List.getElem?_eq_some_iff.1 e1).1
    · rename_i e1; exact (List.getElem?_eq_some_iff.1 e1).1
    · cases hp
  · have hi := (List.getElem?_eq_some_iff.1 hh).1
    obtain ⟨p, g1, g2⟩ := hψs ii hi
    refine ⟨p, g1, by rw [g2, okR_at h5 hh]; omega, fun b hb => ?_⟩
    have hob := okH_at (rt := h.rt) (b := b) h3 (by rw [hh]; cases h; simp only at hb; subst hb; rfl)
    rw [Nat.zero_add] at hob
    cases b with
    | cells cs =>
      cases e1 : σ[ii]? with
      | none => rw [e1] at hob; simp [okB] at hob
      | some o =>
        rw [e1] at hob
        cases o with
        | none => simp [okB] at hob
        | some o =>
          cases o with
          | none => simp [okB] at hob
          | some k =>
            simp only [Option.bind_some, id, okB] at hob
            split at hob
            · rename_i ds e2
              obtain ⟨q, q1, q2, q3, q4⟩ := r.blk e2
              have : (mtC c H S.heap σ (ρ0 ++ denL c.ρ vals)).ψ ii = some { q with rt := ii } := by simp [mtC, e1, e2, q1]
              rw [this] at g1; cases g1
              obtain ⟨x, as, t1, t2, t3, t4⟩ := q3
              refine ⟨⟨x, as, t1, ?_, okVL_ok r hρ hn _ hob t3, t4⟩, fun x hx => hΦn e1 e2 q1 hx⟩
              have := t3.len
              have hl := (okVL_ok r hρ hn _ hob t3).len
              rw [t2, this, hl]
            · cases hob
    | list s x dp =>
      cases e1 : σ[ii]? with
      | none => rw [e1] at hob; simp [okB] at hob
      | some o =>
        rw [e1] at hob
        cases o with
        | none => simp [okB] at hob
        | some o =>
          cases o with
          | none =>
            simp only [Option.bind_some, id, okB] at hob
            have : (mtC c H S.heap σ (ρ0 ++ denL c.ρ vals)).ψ ii = some ⟨none, 0, 0, ii⟩ := by simp [mtC, e1]
            rw [this] at g1; cases g1
            obtain ⟨k1, k2⟩ := okE_ok (e := e) hn hob
            exact ⟨⟨[], by rw [hρ]; exact k1, by show x.den (ρ0 ++ denL c.ρ vals) = _; rw [hρ, k2]; rfl, rfl, fun _ => rfl, fun y hy => (by cases hy)⟩, fun x hx => by cases hx⟩
          | some k =>
            simp only [Option.bind_some, id, okB] at hob
            split at hob
            · rename_i s' y d' e2
              simp only [Bool.and_eq_true, beq_iff_eq] at hob
              obtain ⟨⟨rfl, hd⟩, hob⟩ := hob
              obtain ⟨q, q1, q2, q3, q4⟩ := r.blk e2
              have : (mtC c H S.heap σ (ρ0 ++ denL c.ρ vals)).ψ ii = some { q with rt := ii } := by simp [mtC, e1, e2, q1]
              rw [this] at g1; cases g1
              obtain ⟨k1, k2⟩ := okE_ok (e := e) hn hob
              obtain ⟨xs, t1, t2, t3, t4, t5⟩ := q3
              refine ⟨⟨xs, by rw [hρ]; exact k1, by show x.den (ρ0 ++ denL c.ρ vals) = _; rw [hρ, k2, ← hρ]; exact t2, t3, t4, fun z hz => ?_⟩, fun x hx => hΦn e1 e2 q1 hx⟩
              obtain ⟨rows, u1, u2, u3, u4⟩ := t5 z hz
              refine ⟨rows, u1, u2, u3, u4.mono fun _ _ => F2.mono fun d a hk => ?_⟩
              cases dp with
              | none =>
                cases d' with
                | none => exact hk
                | some rs => cases hd
              | some rs =>
                cases d' with
                | none => exact .b hk
                | some rs' => exact RO.toM (fun id x h => toM_Φ id x h) hk
            · cases hob
  · obtain ⟨k, q, b1, t1, t2, t3, t4, t5⟩ := ψ_inv k3 k5
    obtain ⟨k', q', b2, u1, u2, u3, u4, u5⟩ := ψ_inv k4 k6
    have := r.inj _ _ _ _ _ _ _ t2 u2 t3 u3 t4 u4
    subst this
    exact okI_inj h4 t1 u1
  · obtain ⟨k, q, b1, t1, t2, t3, t4, t5⟩ := ψ_inv k3 k5
    obtain ⟨k', q', b2, u1, u2, u3, u4, u5⟩ := ψ_inv k4 k6
    have := r.inj _ _ _ _ _ _ _ t2 u2 t3 u3 t4 u4
    subst this
    rw [t5, u5, okI_inj h4 t1 u1]
  · obtain ⟨k, q, b1, t1, t2, t3, t4, t5⟩ := ψ_inv k1 k2
    exact r.bnd _ _ _ t3 t4
  · have hx' : frzM c H S.heap σ x = some (sz, rows) := hx
    simp only [frzM] at hx'
    split at hx'
    · rename_i y e1
      cases hx'
      exact r.frz _ _ _ e1
    · split at hx'
      · rename_i hc
        obtain ⟨k', p', s, y, d, q1, q2, q3, q4⟩ := hc
        split at hx'
        · rename_i e3
          cases hx'
          exact ⟨e3, r.bnd _ _ _ q2 q3⟩
        · cases hx'
      · cases hx'
theorem fit_ok (r : Rel c S env H K mk) (hρ : c.ρ = ρ0 ++ e) (hn : ρ0.length = n0) (h : fit n0 P S = some vals) : ∃ c', c'.κ = c.κ ∧ c'.ρ = ρ0 ++ denL c.ρ vals ∧ Rel c' P env H K mk := by
  unfold fit at h
  simp only at h
  split at h
  · rename_i h1
    cases h
    exact ⟨mtC c H S.heap (matchS n0 P S).2 (ρ0 ++ denL c.ρ (matchS n0 P S).1), rfl, rfl, okS_ok r hρ hn h1⟩
  · cases h
end

/-! More is known further on -/
mutual
theorem den_ext : ∀ {t : T} {ρ : List D} {j : Nat} {ρ' : List D}, t.den m Fs ρ = some (j, ρ') → ∃ e, ρ' = ρ ++ e
  | .fail, ρ, j, ρ', h => by cases h
  | .leaf i, ρ, j, ρ', h => by simp only [T.den, Option.some.injEq, Prod.mk.injEq] at h; exact ⟨[], by simp [h.2]⟩
  | .op p as t, ρ, j, ρ', h => by
    simp only [T.den] at h
    cases e1 : D.den1 p (denL ρ as) with
    | none => rw [e1] at h; cases h
    | some d => rw [e1] at h; obtain ⟨e, rfl⟩ := den_ext h; exact ⟨[d] ++ e, by simp⟩
  | .call f as t, ρ, j, ρ', h => by
    simp only [T.den] at h
    cases e1 : Fs f (denL ρ as) with
    | none => rw [e1] at h; cases h
    | some d => rw [e1] at h; obtain ⟨e, rfl⟩ := den_ext h; exact ⟨[d] ++ e, by simp⟩
  | .callD g as t, ρ, j, ρ', h => by
    simp only [T.den] at h
    cases eg : g.den ρ <;> rw [eg] at h <;> try (cases h; done)
    rename_i f a b
    simp only at h
    cases e1 : Fs f (a ++ denL ρ as ++ b) with
    | none => rw [e1] at h; cases h
    | some d => rw [e1] at h; obtain ⟨e, rfl⟩ := den_ext h; exact ⟨[d] ++ e, by simp⟩
  | .flat x t, ρ, j, ρ', h => by
    simp only [T.den] at h
    split at h
    · exact den_ext h
    · cases h
  | .shal n x t, ρ, j, ρ', h => by
    simp only [T.den] at h
    split at h
    · exact den_ext h
    · cases h
  | .ite x a b, ρ, j, ρ', h => by
    simp only [T.den] at h
    cases eg : x.den ρ <;> rw [eg] at h <;> try (cases h; done)
    simp only at h
    split at h
    · exact den_ext h
    · exact den_ext h
  | .blk body outs ks, ρ, j, ρ', h => by
    simp only [T.den] at h
    cases e1 : outOf outs (body.den m Fs ρ) with
    | none => rw [e1] at h; cases h
    | some q => rw [e1] at h; obtain ⟨e, rfl⟩ := denK_ext h; exact ⟨q.2 ++ e, by simp⟩
  | .loop init body outs ks, ρ, j, ρ', h => by
    simp only [T.den] at h
    cases e1 : iterD (fun vals => outOf outs (body.den m Fs (ρ ++ vals))) m (denL ρ init) with
    | none => rw [e1] at h; cases h
    | some q => rw [e1] at h; obtain ⟨e, rfl⟩ := denK_ext h; exact ⟨q.2 ++ e, by simp⟩
theorem denK_ext : ∀ {ts : List T} {ρ : List D} {i j : Nat} {ρ' : List D}, denK m Fs ρ ts i = some (j, ρ') → ∃ e, ρ' = ρ ++ e
  | [], ρ, i, j, ρ', h => by cases h
  | t :: ts, ρ, 0, j, ρ', h => den_ext (t := t) h
  | t :: ts, ρ, i + 1, j, ρ', h => denK_ext (ts := ts) h
end
theorem Post.ext {α : Type} {r : R α} {Q : α → List D → Prop} (h : Post m Fs r ρ Q) : Post m Fs r ρ fun a ρ' => Q a ρ' ∧ ∃ e, ρ' = ρ ++ e := fun j ρ' hd => by
  obtain ⟨a, h1, h2⟩ := h j ρ' hd
  exact ⟨a, h1, h2, den_ext hd⟩
theorem leaves_den (n : Nat) (ρ : List D) (t : Nat) : denK m Fs ρ (leaves n) t = if t < n then some (t, ρ) else none := by
  have key : ∀ (l : List Nat) (t : Nat), denK m Fs ρ (l.map T.leaf) t = (l[t]?).map fun j => (j, ρ) := by
    intro l
    induction l with
    | nil => intro t; cases t <;> rfl
    | cons a l ih =>
      intro t
      cases t with
      | zero => rfl
      | succ t => simp only [List.map_cons, denK]; rw [ih]; simp
  rw [leaves, key]
  by_cases h : t < n
  · rw [if_pos h, List.getElem?_range h]; rfl
  · rw [if_neg h, List.getElem?_eq_none (by simp; omega)]; rfl
theorem place_ok {n0 : Nat} {a : Lf} : ∀ {ps : List Lf} {i : Nat} {vals : List E} {k : Nat}, place n0 a ps i = some (vals, k) → ∃ p, i ≤ k ∧ ps[k - i]? = some p ∧ keyB p a = true ∧ fit n0 p.2 a.2 = some vals
  | [], i, vals, k, h => by cases h
  | p :: ps, i, vals, k, h => by
    have rec_ : place n0 a ps (i + 1) = some (vals, k) → ∃ q, i ≤ k ∧ (p :: ps)[k - i]? = some q ∧ keyB q a = true ∧ fit n0 q.2 a.2 = some vals := fun h => by
      obtain ⟨q, g1, g2, g3⟩ := place_ok h
      exact ⟨q, by omega, by rw [show k - i = (k - (i + 1)) + 1 by omega]; simpa using g2, g3⟩
    simp only [place] at h
    split at h
    · rename_i hk
      split at h
      · rename_i vals' e1
        cases h
        exact ⟨p, Nat.le_refl _, by simp, hk, e1⟩
      · exact rec_ h
    · exact rec_ h
theorem placeL_ok {n0 : Nat} {ps : List Lf} : ∀ {l : List Lf} {outs : List (List E × Nat)}, placeL n0 ps l = some outs → ∀ {j : Nat} {a : Lf}, l[j]? = some a → ∃ vals k p, outs[j]? = some (vals, k) ∧ ps[k]? = some p ∧ keyB p a = true ∧ fit n0 p.2 a.2 = some vals
  | [], outs, h, j, a, hj => by simp at hj
  | b :: l, outs, h, j, a, hj => by
    simp only [placeL] at h
    split at h
    · rename_i q qs e1 e2
      cases h
      cases j with
      | zero =>
        cases hj
        obtain ⟨vals, k⟩ := q
        obtain ⟨p, g1, g2, g3, g4⟩ := place_ok e1
        exact ⟨vals, k, p, rfl, by simpa using g2, g3, g4⟩
      | succ j => simpa using placeL_ok e2 (j := j) (a := a) (by simpa using hj)
    · cases h
theorem keyB_ex {p a : Lf} (h : keyB p a = true) : p.1 = a.1 := by
  simp only [keyB, Bool.and_eq_true] at h
  exact exB_eq h.1
/-- Ways meet. -/
theorem meet_ok {n0 : Nat} {r r' : R Lf} {Q : Lf → List D → Prop} (h : meet n0 r = some r') (hn : ρ.length = n0) (hr : Post m Fs r ρ Q)
    (hQ : ∀ (a p : Lf) ρ1 vals e, Q a ρ1 → ρ1 = ρ ++ e → p.1 = a.1 → fit n0 p.2 a.2 = some vals → Q p (ρ ++ denL ρ1 vals)) : Post m Fs r' ρ Q := by
  unfold meet at h
  simp only at h
  split at h
  · cases h; exact hr
  · split at h
    · rename_i outs e1
      cases h
      intro j ρ' hd
      simp only [T.den] at hd
      cases e2 : r.t.den m Fs ρ with
      | none => rw [e2] at hd; cases hd
      | some q =>
        obtain ⟨i, ρ1⟩ := q
        obtain ⟨a, g1, g2, e, g3⟩ := hr.ext i ρ1 e2
        obtain ⟨vals, k, p, k1, k2, k3, k4⟩ := placeL_ok e1 g1
        simp only [e2, outOf, k1, Option.map_some] at hd
        rw [leaves_den] at hd
        split at hd
        · simp only [Option.some.injEq, Prod.mk.injEq] at hd
          obtain ⟨rfl, rfl⟩ := hd
          exact ⟨p, k2, hQ a p ρ1 vals e g2 g3 (keyB_ex k3) k4⟩
        · cases hd
    · cases h
end Go.Q
/- Loops; marks and records. -/
set_option linter.unusedVariables false
set_option linter.unusedSimpArgs false
namespace Go.Q
open Go.V
variable {c c' : Cx} {S P : SS} {env : List AV} {H H' : Heap} {K : List FC} {mk : List Nat}
variable {TT : FuncId → Option IFn} {cb : Cb} {Fs : FuncId → List D → Option D} {Sh : Shp} {ρ ρ' : List D} {m M : Nat} {cbS : SCall} {cx : List CE}

/-- What is to be done at the end, here: marks are taken. -/
def marksD (ds : List Nat) : List DE := ds.map .mk
theorem marksD_app (a b : List Nat) : marksD (a ++ b) = marksD a ++ marksD b := by simp [marksD]
/-- What holds behind code. -/
def LfQ (K : List FC) (mk : List Nat) (κ : List Nat) (res : Option (Ex × RSt)) (p : Lf) (ρ' : List D) : Prop :=
  ∃ c' env' H' ds', res = some (p.1, ⟨⟨env', H'⟩, marksD ds'⟩) ∧ c'.κ = κ ∧ c'.ρ = ρ' ∧ Rel c' p.2 env' H' K (ds' ++ mk)
theorem LfQ.fit {κ : List Nat} {res : Option (Ex × RSt)} {n0 : Nat} (hn : ρ.length = n0) {a p : Lf} {ρ1 : List D} {vals : List E} {e : List D} (h : LfQ K mk κ res a ρ1) (he : ρ1 = ρ ++ e) (hp : p.1 = a.1) (hf : fit n0 p.2 a.2 = some vals) : LfQ K mk κ res p (ρ ++ denL ρ1 vals) := by
  obtain ⟨c', env', H', ds', h1, h2, h3, h4⟩ := h
  obtain ⟨c'', k1, k2, k3⟩ := fit_ok h4 (by rw [h3]; exact he) hn hf
  exact ⟨c'', env', H', ds', by rw [hp]; exact h1, k1.trans h2, by rw [k2, h3], k3⟩
theorem meet_lf {κ : List Nat} {res : Option (Ex × RSt)} {n0 : Nat} {r r' : R Lf} (h : meet n0 r = some r') (hn : ρ.length = n0) (hr : Post m Fs r ρ (LfQ K mk κ res)) : Post m Fs r' ρ (LfQ K mk κ res) :=
  meet_ok h hn hr fun a p ρ1 vals e h1 h2 h3 h4 => h1.fit hn h2 h3 h4
theorem iter_mono {f : RSt → Option (Ex × RSt)} : ∀ {n n' : Nat} {st : RSt} {r : Ex × RSt}, iter f n st = some r → n ≤ n' → iter f n' st = some r
  | 0, _, _, _, h, _ => by cases h
  | n + 1, 0, _, _, _, hn => by omega
  | n + 1, n' + 1, st, r, h, hn => by
    simp only [iter] at h ⊢
    cases e : f st with
    | none => rw [e] at h; cases h
    | some q =>
      obtain ⟨ex, st'⟩ := q
      rw [e] at h
      cases ex with
      | normal => exact iter_mono h (by omega)
      | exit id => exact h
      | ret => exact h
      | pan p => exact h
/-- What the round of a loop does. -/
def BodyOK (m : Nat) (Fs : FuncId → List D → Option D) (K : List FC) (mk κ : List Nat) (body : SS → Option (R Lf)) (f : RSt → Option (Ex × RSt)) : Prop :=
  ∀ {S r}, body S = some r → ∀ {c : Cx} {env H ds}, Rel c S env H K (ds ++ mk) → c.κ = κ → Post m Fs r c.ρ (LfQ K mk κ (f ⟨⟨env, H⟩, marksD ds⟩))
theorem mapM_get {α β : Type} {f : α → Option β} : ∀ {l : List α} {os : List β}, l.mapM f = some os → ∀ {j : Nat} {a : α}, l[j]? = some a → ∃ b, os[j]? = some b ∧ f a = some b
  | [], os, h, j, a, hj => by simp at hj
  | x :: l, os, h, j, a, hj => by
    simp only [List.mapM_cons, bind, Option.bind] at h
    cases e1 : f x with
    | none => simp [e1] at h
    | some b =>
      simp only [e1] at h
      cases e2 : l.mapM f with
      | none => simp [e2] at h
      | some bs =>
        simp only [e2, pure, Option.some.injEq] at h
        subst h
        cases j with
        | zero => cases hj; exact ⟨b, rfl, e1⟩
        | succ j => simpa using mapM_get e2 (j := j) (a := a) (by simpa using hj)
theorem loop_iter {κ : List Nat} {f : RSt → Option (Ex × RSt)} {r : R Lf} {os : List (List E × Option Nat)} {ps : List Lf} {n0 : Nat} (hn : ρ.length = n0)
    (hbody : ∀ {c : Cx} {env H ds}, Rel c P env H K (ds ++ mk) → c.κ = κ → Post m Fs r c.ρ (LfQ K mk κ (f ⟨⟨env, H⟩, marksD ds⟩)))
    (hos : ∀ {j : Nat} {a : Lf}, r.l[j]? = some a → ∃ vals t, os[j]? = some (vals, t) ∧
      match t with
      | none => a.1 = .normal ∧ fit n0 P a.2 = some vals
      | some t => a.1 ≠ .normal ∧ ∃ p, ps[t]? = some p ∧ p.1 = a.1 ∧ fit n0 p.2 a.2 = some vals) :
    ∀ (k : Nat) {vals : List D} {t : Nat} {vals' : List D} {c : Cx} {env : List AV} {H : Heap} {ds : List Nat}, iterD (fun vals => outOf os (r.t.den m Fs (ρ ++ vals))) k vals = some (t, vals') → c.ρ = ρ ++ vals → c.κ = κ → Rel c P env H K (ds ++ mk) →
      ∃ p, ps[t]? = some p ∧ LfQ K mk κ (iter f k ⟨⟨env, H⟩, marksD ds⟩) p (ρ ++ vals')
  | 0, vals, t, vals', c, env, H, ds, h, _, _, _ => by cases h
  | k + 1, vals, t, vals', c, env, H, ds, h, hc, hκ, hr => by
    simp only [iterD] at h
    cases e1 : r.t.den m Fs (ρ ++ vals) with
    | none => simp [e1, outOf] at h
    | some q =>
      obtain ⟨j, ρ1⟩ := q
      obtain ⟨a, g1, g2⟩ := hbody hr hκ j ρ1 (by rw [hc]; exact e1)
      obtain ⟨es, t', g3, g4⟩ := hos g1
      obtain ⟨e, he⟩ := den_ext e1
      have he' : ρ1 = ρ ++ (vals ++ e) := by rw [he]; simp
      simp only [e1, outOf, g3, Option.map_some] at h
      cases t' with
      | none =>
        simp only at h g4
        obtain ⟨k1, k2⟩ := g4
        have g5 := g2.fit (p := (a.1, P)) hn he' rfl k2
        obtain ⟨c', env', H', ds', u1, u2, u3, u4⟩ := g5
        have ih := loop_iter hn hbody hos k h u3 u2 u4
        obtain ⟨p, q1, q2⟩ := ih
        refine ⟨p, q1, ?_⟩
        simp only [iter, u1]
        rw [k1]
        exact q2
      | some t' =>
        simp only [Option.some.injEq, Prod.mk.injEq] at h
        obtain ⟨rfl, rfl⟩ := h
        obtain ⟨hne, p, k1, k2, k3⟩ := g4
        refine ⟨p, k1, ?_⟩
        have g5 := g2.fit (p := p) hn he' k2 k3
        obtain ⟨c', env', H', ds', u1, u2, u3, u4⟩ := g5
        refine ⟨c', env', H', ds', ?_, u2, u3, u4⟩
        simp only [iter, u1]
        rw [k2]
        cases ha : a.1 with
        | normal => exact absurd ha hne
        | exit id => rfl
        | ret => rfl
        | pan p => rfl
theorem tryLoop_ok {κ : List Nat} {f : RSt → Option (Ex × RSt)} {body : SS → Option (R Lf)} (hb : BodyOK m Fs K mk κ body f) {n0 : Nat} : ∀ (k : Nat) {S P : SS} {r' : R Lf}, tryLoop n0 S body k P = some r' → ∀ {c : Cx} {env H ds}, c.ρ.length = n0 → c.κ = κ → Rel c S env H K (ds ++ mk) →
    Post m Fs r' c.ρ (LfQ K mk κ (iter f m ⟨⟨env, H⟩, marksD ds⟩))
  | 0, S, P, r', h, c, env, H, ds, _, _, _ => by cases h
  | k + 1, S, P, r', h, c, env, H, ds, hn, hκ, hr => by
    simp only [tryLoop] at h
    split at h
    · cases h
    · rename_i r e1
      split at h
      · rename_i init e2 e3
        split at h
        · rename_i os e4
          cases h
          intro j ρ' hd
          simp only [T.den] at hd
          obtain ⟨c1, k1, k2, k3⟩ := fit_ok hr (e := []) (ρ0 := c.ρ) (by simp) hn e2
          cases e5 : iterD (fun vals => outOf os (r.t.den m Fs (c.ρ ++ vals))) m (denL c.ρ init) with
          | none => rw [e5] at hd; cases hd
          | some q =>
            obtain ⟨t, vals'⟩ := q
            rw [e5] at hd
            simp only [leaves_den] at hd
            have := loop_iter (ps := pats n0 (groups (r.l.filter fun a => !exB a.1 .normal))) (P := P) hn (fun {c env H ds} hr hκ => hb e1 hr hκ) (fun {j a} hj => by
              obtain ⟨q, q1, q2⟩ := mapM_get e4 hj
              split at q2
              · rename_i hx
                cases e6 : fit n0 P a.2 with
                | none => rw [e6] at q2; cases q2
                | some vals =>
                  rw [e6] at q2
                  simp only [Option.map_some, Option.some.injEq] at q2
                  subst q2
                  exact ⟨vals, none, q1, exB_eq hx, rfl⟩
              · rename_i hx
                cases e6 : place n0 a (pats n0 (groups (r.l.filter fun a => !exB a.1 .normal))) 0 with
                | none => rw [e6] at q2; cases q2
                | some q' =>
                  obtain ⟨vals, i⟩ := q'
                  rw [e6] at q2
                  simp only [Option.map_some, Option.some.injEq] at q2
                  subst q2
                  obtain ⟨p, t1, t2, t3, t4⟩ := place_ok e6
                  refine ⟨vals, some i, q1, fun ha => hx (by rw [ha]; rfl), p, by simpa using t2, keyB_ex t3, t4⟩) m e5 k2 (k1.trans hκ) k3
            obtain ⟨p, q1, q2⟩ := this
            split at hd
            · simp only [Option.some.injEq, Prod.mk.injEq] at hd
              obtain ⟨rfl, rfl⟩ := hd
              exact ⟨p, q1, q2⟩
            · cases hd
        · cases h
      · exact tryLoop_ok hb k h hn hκ hr
theorem unroll_ok {κ : List Nat} {f : RSt → Option (Ex × RSt)} {body other : SS → Option (R Lf)} (hb : BodyOK m Fs K mk κ body f)
    (ho : ∀ {S r}, other S = some r → ∀ {c : Cx} {env H ds}, Rel c S env H K (ds ++ mk) → c.κ = κ → Post m Fs r c.ρ (LfQ K mk κ (iter f m ⟨⟨env, H⟩, marksD ds⟩))) :
    ∀ (k : Nat) {S : SS} {r' : R Lf}, unroll body other k S = some r' → ∀ {c : Cx} {env H ds}, Rel c S env H K (ds ++ mk) → c.κ = κ → Post m Fs r' c.ρ (LfQ K mk κ (iter f (m + k) ⟨⟨env, H⟩, marksD ds⟩))
  | 0, S, r', h, c, env, H, ds, _, _ => by cases h
  | k + 1, S, r', h, c, env, H, ds, hr, hκ => by
    simp only [unroll] at h
    split at h
    · exact (ho h hr hκ).mono fun p ρ' hq => by
        obtain ⟨c', env', H', ds', q1, q2⟩ := hq
        exact ⟨c', env', H', ds', iter_mono q1 (by omega), q2⟩
    · rename_i r e1
      split at h
      · exact (ho h hr hκ).mono fun p ρ' hq => by
          obtain ⟨c', env', H', ds', q1, q2⟩ := hq
          exact ⟨c', env', H', ds', iter_mono q1 (by omega), q2⟩
      · refine Post.bind (hb e1 hr hκ) h fun a ρ1 ra hq hf => ?_
        obtain ⟨c1, env1, H1, ds1, q1, q2, q3, q4⟩ := hq
        split at hf
        · rename_i hx
          have ih := unroll_ok hb ho k hf q4 q2
          rw [q3] at ih
          refine ih.mono fun p ρ' hq => ?_
          obtain ⟨c', env', H', ds', u1, u2⟩ := hq
          refine ⟨c', env', H', ds', ?_, u2⟩
          rw [show m + (k + 1) = (m + k) + 1 by omega]
          simp only [iter, q1]
          rw [exB_eq hx]
          exact u1
        · rename_i hx
          cases hf
          refine Post.ret ⟨c1, env1, H1, ds1, ?_, q2, q3, q4⟩
          rw [show m + (k + 1) = (m + k) + 1 by omega]
          simp only [iter, q1]
          cases ha : a.1 with
          | normal => exact absurd (by rw [ha]; rfl) hx
          | exit id => rfl
          | ret => rfl
          | pan p => rfl

/-! Memory that is no row -/
theorem Rel.mem2 (r : Rel c S env H K mk) {stk' : List Fr} {K' : List FC} {mk' : List Nat} (hk : ∀ x, x < H.nx → (∃ s rows, hget H x = some (.row s rows)) → hget H' x = hget H x) (hnx : H.nx ≤ H'.nx) (hstk : F2 (RF c H') stk' K') (hr : (rngIds K').Nodup ∧ ∀ id ∈ rngIds K', id < H'.nx) (hm : mk'.Nodup ∧ ∀ d ∈ mk', hget H' d = some .mark ∧ d < H'.nx) :
    Rel c { S with stk := stk' } env H' K' mk' := by
  refine ⟨r.n, r.env, hstk, r.hlen, fun id h hh => ?_, r.inj, r.rt, fun i p x h1 h2 => Nat.lt_of_lt_of_le (r.bnd i p x h1 h2) hnx, fun x sz rows hx => ?_, r.f0, hr, hm⟩
  · obtain ⟨p, g1, g2, g3⟩ := r.heap id h hh
    exact ⟨p, g1, g2, fun b hb => ⟨(g3 b hb).1.mem fun x hx => hk x (r.bnd _ _ _ g1 hx) ((g3 b hb).1.row hx), (g3 b hb).2⟩⟩
  · obtain ⟨g1, g2⟩ := r.frz x sz rows hx
    exact ⟨by rw [hk x g2 ⟨_, _, g1⟩]; exact g1, Nat.lt_of_lt_of_le g2 hnx⟩
theorem RF.mem {fr : Fr} {k : FC} (h : RF c H fr k) (hk : ∀ id as ps a b d, k = .rng id as ps a b d → hget H' id = hget H id) : RF c H' fr k := by
  cases k with
  | call as => exact h
  | rng id as ps a b d => exact ⟨by rw [hk _ _ _ _ _ _ rfl]; exact h.1, h.2⟩
/-- Marks are taken away. -/
theorem Rel.unmark : ∀ {ds : List Nat} {H : Heap}, Rel c S env H K (ds ++ mk) → ∃ H', takeMarks H (marksD ds) = some H' ∧ Rel c S env H' K mk
  | [], H, r => ⟨H, rfl, r⟩
  | d :: ds, H, r => by
    obtain ⟨h1, h2⟩ := r.mks
    have hd := (h2 d (by simp)).1
    have hnd := List.nodup_cons.1 h1
    have hg : ∀ x, x ≠ d → hget (wrH H [(d, none)] 0) x = hget H x := fun x hx => by rw [hget_wr1]; simp only; rw [if_neg hx]
    have hn : (wrH H [(d, none)] 0).nx = H.nx := by simp [wrH]
    have r1 : Rel c S env (wrH H [(d, none)] 0) K (ds ++ mk) := r.mem2 (stk' := S.stk) (fun x _ hx => hg x (by rintro rfl; obtain ⟨s, rows, e⟩ := hx; rw [hd] at e; cases e)) (by rw [hn]; exact Nat.le_refl _)
      (RF.memL (fun id hid => hg id (by rintro rfl; obtain ⟨as, ps, a, b, st, pd, d', e⟩ := rng_at r.stk id hid; rw [hd] at e; cases e)) r.stk) (by rw [hn]; exact r.rngs)
      ⟨hnd.2, fun x hx => ⟨by rw [hg x (by rintro rfl; exact hnd.1 hx)]; exact (h2 x (by simp [hx])).1, by rw [hn]; exact (h2 x (by simp [hx])).2⟩⟩
    obtain ⟨H', k1, k2⟩ := Rel.unmark r1
    exact ⟨H', by simp only [marksD, List.map_cons, takeMarks, hd]; exact k1, k2⟩
theorem rngIds_at : ∀ {K : List FC} {pos id : Nat} {as ps a b d}, K[pos]? = some (.rng id as ps a b d) → id ∈ rngIds K
  | .rng i _ _ _ _ _ :: K, 0, id, as, ps, a, b, d, h => by cases h; simp [rngIds]
  | .call _ :: K, 0, id, as, ps, a, b, d, h => by cases h
  | .rng i _ _ _ _ _ :: K, pos + 1, id, as, ps, a, b, d, h => by
    have := rngIds_at (K := K) (pos := pos) (by simpa using h)
    simp [rngIds, this]
  | .call _ :: K, pos + 1, id, as, ps, a, b, d, h => by
    have := rngIds_at (K := K) (pos := pos) (by simpa using h)
    simpa [rngIds] using this
theorem rngIds_inj : ∀ {K : List FC} {pos pos' id : Nat} {as ps a b d as' ps' a' b' d'}, (rngIds K).Nodup → K[pos]? = some (.rng id as ps a b d) → K[pos']? = some (.rng id as' ps' a' b' d') → pos = pos'
  | .rng i _ _ _ _ _ :: K, 0, 0, _, _, _, _, _, _, _, _, _, _, _, _, _, _ => rfl
  | .rng i _ _ _ _ _ :: K, 0, q + 1, id, _, _, _, _, _, _, _, _, _, _, hn, h, h' => by
    cases h
    exact absurd (rngIds_at (K := K) (pos := q) (by simpa using h')) (List.nodup_cons.1 (by simpa [rngIds] using hn)).1
  | .rng i _ _ _ _ _ :: K, q + 1, 0, id, _, _, _, _, _, _, _, _, _, _, hn, h, h' => by
    cases h'
    exact absurd (rngIds_at (K := K) (pos := q) (by simpa using h)) (List.nodup_cons.1 (by simpa [rngIds] using hn)).1
  | .rng i _ _ _ _ _ :: K, q + 1, q' + 1, id, as, ps, a, b, d, as', ps', a', b', d', hn, h, h' => by
    have h1 : K[q]? = some (.rng id as ps a b d) := by simpa using h
    have h2 : K[q']? = some (.rng id as' ps' a' b' d') := by simpa using h'
    exact congrArg (· + 1) (rngIds_inj (List.nodup_cons.1 (by simpa [rngIds] using hn)).2 h1 h2)
  | .call _ :: K, 0, _, id, _, _, _, _, _, _, _, _, _, _, hn, h, h' => by cases h
  | .call _ :: K, q + 1, 0, id, _, _, _, _, _, _, _, _, _, _, hn, h, h' => by cases h'
  | .call _ :: K, q + 1, q' + 1, id, as, ps, a, b, d, as', ps', a', b', d', hn, h, h' => by
    have h1 : K[q]? = some (.rng id as ps a b d) := by simpa using h
    have h2 : K[q']? = some (.rng id as' ps' a' b' d') := by simpa using h'
    exact congrArg (· + 1) (rngIds_inj (by simpa [rngIds] using hn) h1 h2)
/-- A record is told anew. -/
theorem Rel.recd (r : Rel c S env H K mk) {pos id d : Nat} {as : List AV} {ps : List Nat} {a b : IC} {fr : Fr} (hK : K[pos]? = some (.rng id as ps a b d)) (hf : S.stk[pos]? = some fr) (st : LoopState) (pd : Ex) :
    hget H id = some (.loop as ps a b fr.st fr.pend d) ∧ Rel c { S with stk := S.stk.set pos { fr with st := st, pend := pd } } env (wrH H [(id, some (.loop as ps a b st pd d))] 0) K mk := by
  obtain ⟨k, h1, h2⟩ := r.stk.get hf
  rw [hK] at h1; cases h1
  obtain ⟨h3, h4⟩ := h2
  have hg : ∀ x, x ≠ id → hget (wrH H [(id, some (.loop as ps a b st pd d))] 0) x = hget H x := fun x hx => by rw [hget_wr1]; simp only; rw [if_neg hx]
  have hn : (wrH H [(id, some (.loop as ps a b st pd d))] 0).nx = H.nx := by simp [wrH]
  refine ⟨h3, r.mem2 (fun x _ hx => hg x (by rintro rfl; obtain ⟨s, rows, e⟩ := hx; rw [h3] at e; cases e)) (by rw [hn]; exact Nat.le_refl _) ?_ (by rw [hn]; exact r.rngs) ⟨r.mks.1, fun x hx => ⟨by rw [hg x (by rintro rfl; have := (r.mks.2 _ hx).1; rw [h3] at this; cases this)]; exact (r.mks.2 x hx).1, by rw [hn]; exact (r.mks.2 x hx).2⟩⟩⟩
  refine F2.of_get (by rw [List.length_set]; exact r.stk.len) fun i fr' k h5 h6 => ?_
  by_cases hi : i = pos
  · subst hi
    rw [hK] at h6; cases h6
    rw [List.getElem?_set_self (List.getElem?_eq_some_iff.1 hf).1] at h5
    cases h5
    exact ⟨by rw [hget_wr1]; simp, h4⟩
  · rw [List.getElem?_set_ne (fun h => hi h.symm)] at h5
    obtain ⟨k', q1, q2⟩ := r.stk.get h5
    rw [h6] at q1; cases q1
    refine q2.mem fun id' as' ps' a' b' d' hk => hg id' ?_
    rintro rfl
    subst hk
    exact hi (rngIds_inj r.rngs.1 h6 hK)
end Go.Q
/- Code. -/
set_option linter.unusedVariables false
set_option linter.unusedSimpArgs false
namespace Go.Q
open Go.V
variable {c c' : Cx} {S P : SS} {env : List AV} {H H' : Heap} {K : List FC} {mk : List Nat}
variable {TT : FuncId → Option IFn} {cb : Cb} {Fs : FuncId → List D → Option D} {Sh : Shp} {ρ ρ' : List D} {m M : Nat} {cbS : SCall} {cx : List CE}

/-! Rounds that are known -/
mutual
theorem Cv.kap {κ' : List Nat} (h : ∀ (k : Nat) id, c.κ[k]? = some id → κ'[k]? = some id) : ∀ {v : SV} {a : AV}, Cv c v a → Cv { c with κ := κ' } v a
  | _, _, .e hx h1 h2 => .e hx h1 h2
  | _, _, .fz hx h1 h2 => .fz hx h1 h2
  | _, _, .agg h1 h2 => .agg (Cv.kapL h h1) h2
  | _, _, .tup h1 => .tup (Cv.kapL h h1)
  | _, _, .own h1 h2 => .own h1 h2
  | _, _, .ownE h1 h2 h3 => .ownE h1 h2 h3
  | _, _, .nil => .nil
  | _, _, .ptr h1 h2 => .ptr h1 h2
  | _, _, .ptrO h1 h2 hi h3 h4 h5 => .ptrO h1 h2 hi h3 h4 h5
  | _, _, .sufO h1 hi h3 h4 h5 ha => .sufO h1 hi h3 h4 h5 ha
  | _, _, .ptrE hx hi h1 h2 h3 h4 h5 h6 => .ptrE hx hi h1 h2 h3 h4 h5 h6
  | _, _, .ptrF hx hi h1 h2 h3 h4 h5 h6 h7 h8 h9 => .ptrF hx hi h1 h2 h3 h4 h5 h6 h7 h8 h9
  | _, _, .fn h1 h2 => .fn (Cv.kapL h h1) (Cv.kapL h h2)
  | _, _, .yld h1 => .yld (h _ _ h1)
  | _, _, .unk => .unk
theorem Cv.kapL {κ' : List Nat} (h : ∀ (k : Nat) id, c.κ[k]? = some id → κ'[k]? = some id) : ∀ {v : List SV} {a : List AV}, F2 (Cv c) v a → F2 (Cv { c with κ := κ' }) v a
  | _, _, .nil => .nil
  | _, _, .cons h1 t => .cons (Cv.kap h h1) (Cv.kapL h t)
end
mutual
theorem Cv.clean {κ' : List Nat} {n : Nat} (h : ∀ (k : Nat) id, k < n → c.κ[k]? = some id → κ'[k]? = some id) : ∀ {v : SV} {a : AV}, Cv c v a → Cv { c with κ := κ' } (cleanV n v) a
  | _, _, .e hx h1 h2 => .e hx h1 h2
  | _, _, .fz hx h1 h2 => .fz hx h1 h2
  | _, _, .agg h1 h2 => .agg (Cv.cleanL h h1) h2
  | _, _, .tup h1 => .tup (Cv.cleanL h h1)
  | _, _, .own h1 h2 => .own h1 h2
  | _, _, .ownE h1 h2 h3 => .ownE h1 h2 h3
  | _, _, .nil => .nil
  | _, _, .ptr h1 h2 => .ptr h1 h2
  | _, _, .ptrO h1 h2 hi h3 h4 h5 => .ptrO h1 h2 hi h3 h4 h5
  | _, _, .sufO h1 hi h3 h4 h5 ha => .sufO h1 hi h3 h4 h5 ha
  | _, _, .ptrE hx hi h1 h2 h3 h4 h5 h6 => .ptrE hx hi h1 h2 h3 h4 h5 h6
  | _, _, .ptrF hx hi h1 h2 h3 h4 h5 h6 h7 h8 h9 => .ptrF hx hi h1 h2 h3 h4 h5 h6 h7 h8 h9
  | _, _, .fn h1 h2 => .fn (Cv.cleanL h h1) (Cv.cleanL h h2)
  | .yld k, _, .yld h1 => by
    simp only [cleanV]
    split
    · rename_i hk; exact .yld (h _ _ hk h1)
    · exact .unk
  | _, _, .unk => .unk
theorem Cv.cleanL {κ' : List Nat} {n : Nat} (h : ∀ (k : Nat) id, k < n → c.κ[k]? = some id → κ'[k]? = some id) : ∀ {v : List SV} {a : List AV}, F2 (Cv c) v a → F2 (Cv { c with κ := κ' }) (Q.cleanL n v) a
  | _, _, .nil => .nil
  | _, _, .cons h1 t => .cons (Cv.clean h h1) (Cv.cleanL h t)
end
theorem Rel.kap {κ' : List Nat} (r : Rel c S env H K mk) (h : ∀ (k : Nat) id, c.κ[k]? = some id → κ'[k]? = some id) : Rel { c with κ := κ' } S env H K mk := by
  refine ⟨r.n, Cv.kapL h r.env, r.stk.mono fun fr k hf => ?_, r.hlen, fun id hb hh => ?_, r.inj, r.rt, r.bnd, r.frz, r.f0, r.rngs, r.mks⟩
  · cases k with
    | call as => exact Cv.kapL h hf
    | rng => exact ⟨hf.1, Cv.kapL h hf.2⟩
  · obtain ⟨p, g1, g2, g3⟩ := r.heap id hb hh
    refine ⟨p, g1, g2, fun b hb => ⟨?_, (g3 b hb).2⟩⟩
    have := (g3 b hb).1
    cases b with
    | cells cs => obtain ⟨x, as, h1, h2, h3, h4⟩ := this; exact ⟨x, as, h1, h2, Cv.kapL h h3, h4⟩
    | list sz x dp => exact this
theorem bget_clean {n : Nat} {heap : List HB} {i : Nat} {b : SB} (h : bget (heap.map (cleanB n)) i = some b) : ∃ b', bget heap i = some b' := by
  obtain ⟨x, g1, g2⟩ := bget_some.1 h
  rw [List.getElem?_map] at g1
  cases e : heap[i]? with
  | none => rw [e] at g1; cases g1
  | some y =>
    rw [e] at g1; cases g1
    obtain ⟨rt, b0⟩ := y
    cases b0 with
    | none => simp [cleanB] at g2
    | some b0 => exact ⟨b0, bget_some.2 ⟨_, e, rfl⟩⟩
theorem Rel.clean {κ' : List Nat} {n : Nat} (r : Rel c S env H K mk) (h : ∀ (k : Nat) id, k < n → c.κ[k]? = some id → κ'[k]? = some id) : Rel { c with κ := κ' } (cleanS n S) env H K mk := by
  refine ⟨r.n, Cv.cleanL h r.env, ?_, fun id p hp => by simp only [cleanS, List.length_map]; exact r.hlen id p hp, fun id hb hh => ?_, fun i i' p p' x b b' k1 k2 k3 k4 k5 k6 => ?_, r.rt, r.bnd, r.frz, r.f0, r.rngs, r.mks⟩
  · refine F2.of_get (by simp [cleanS, r.stk.len]) fun i fr k h1 h2 => ?_
    simp only [cleanS, List.getElem?_map] at h1
    cases e : S.stk[i]? with
    | none => rw [e] at h1; cases h1
    | some fr0 =>
      rw [e] at h1; cases h1
      obtain ⟨k', q1, q2⟩ := r.stk.get e
      rw [h2] at q1; cases q1
      cases k with
      | call as => exact Cv.cleanL h q2
      | rng => exact ⟨q2.1, Cv.cleanL h q2.2⟩
  · simp only [cleanS, List.getElem?_map] at hh
    cases e : S.heap[id]? with
    | none => rw [e] at hh; cases hh
    | some hb0 =>
      rw [e] at hh; cases hh
      obtain ⟨p, g1, g2, g3⟩ := r.heap id hb0 e
      obtain ⟨rt, b0⟩ := hb0
      cases b0 with
      | none => exact ⟨p, g1, g2, fun b hb => by cases hb⟩
      | some b0 =>
        have := (g3 b0 rfl).1
        cases b0 with
        | cells cs =>
          refine ⟨p, g1, g2, fun b hb => ⟨?_, (g3 _ rfl).2⟩⟩
          simp only [cleanB, Option.some.injEq] at hb
          subst hb
          obtain ⟨x, as, h1, h2, h3, h4⟩ := this
          have h5 := Cv.cleanL h h3
          exact ⟨x, as, h1, by rw [h5.len, ← h3.len]; exact h2, h5, h4⟩
        | list sz x dp => exact ⟨p, g1, g2, fun b hb => by cases hb; exact ⟨this, (g3 _ rfl).2⟩⟩
  · obtain ⟨_, q1⟩ := bget_clean k1
    obtain ⟨_, q2⟩ := bget_clean k2
    exact r.inj _ _ _ _ _ _ _ q1 q2 k3 k4 k5 k6

/-! Code -/
def RdOK (κ : List Nat) (K : List FC) : Option Nat → Option Nat → Prop
  | none, rdC => rdC = none
  | some k, rdC => ∃ (id pos : Nat) (as : List AV) (ps : List Nat) (a b : IC) (d : Nat), κ[k]? = some id ∧ rdC = some id ∧ K[pos]? = some (FC.rng id as ps a b d)
theorem setAt_ok (r : Rel c S env H K mk) {j : Nat} {x : E} {b : Bool} (e : sget S.env j = .e x) (hb : x.den c.ρ = .bool b) : env.getD j undefA = .bool b ∧ Rel c (setAt S j b) env H K mk := by
  have hv := sarg_ok r.env (.t j)
  simp only [sarg, arg_t] at hv
  rw [e] at hv
  obtain ⟨-, hd, -⟩ := hv.inv_e
  rw [hb] at hd
  generalize ha : env.getD j undefA = a at hd
  cases hd
  refine ⟨rfl, r.slots ?_⟩
  have hj : ∀ {l : List SV} {as : List AV} (j : Nat), F2 (Cv c) l as → as.getD j undefA = .bool b → F2 (Cv c) (l.set j (.e (.c (.bool b)))) as := by
    intro l as j h
    induction h generalizing j with
    | nil => intro _; exact .nil
    | cons h1 t ih =>
      intro ha
      cases j with
      | zero =>
        simp only [List.getD_cons_zero] at ha
        subst ha
        exact .cons (.e rfl .bool rfl) t
      | succ j => exact .cons h1 (ih j (by simpa using ha))
  exact hj j r.env ha
theorem enterH_ok {κ : List Nat} {rd rdC : Option Nat} {ds : List Nat} (r : Rel c S env H K mk) (hrd : RdOK κ K rd rdC) (ps : List Nat) (a b : IC) : ∃ H1 id ds1 d, enterH rdC H env ps a b = some (H1, id, marksD ds1) ∧ hget H1 id = some (.loop env ps a b .ready .normal d) ∧ (∀ x, x < H.nx → hget H1 x = hget H x) ∧ H.nx ≤ H1.nx ∧ id < H1.nx ∧ H.nx ≤ id ∧ (∀ x ∈ ds1, hget H1 x = some .mark ∧ H.nx ≤ x ∧ x < H1.nx) ∧ ds1.Nodup := by
  have hnone : ∃ H1 id ds1 d, enterH none H env ps a b = some (H1, id, marksD ds1) ∧ hget H1 id = some (.loop env ps a b .ready .normal d) ∧ (∀ x, x < H.nx → hget H1 x = hget H x) ∧ H.nx ≤ H1.nx ∧ id < H1.nx ∧ H.nx ≤ id ∧ (∀ x ∈ ds1, hget H1 x = some .mark ∧ H.nx ≤ x ∧ x < H1.nx) ∧ ds1.Nodup := by
    refine ⟨_, _, [H.nx], H.nx, rfl, by rw [wrH_two]; simp, fun x hx => ?_, by simp [wrH] <;> omega, by simp [wrH] <;> omega, by omega, fun x hx => ?_, by simp⟩
    · rw [wrH_two]; simp only; rw [if_neg (by omega), if_neg (by omega)]
    · simp only [List.mem_singleton] at hx; subst hx
      exact ⟨by rw [wrH_two]; simp, Nat.le_refl _, by simp [wrH] <;> omega⟩
  cases rd with
  | none =>
    have : rdC = none := hrd
    subst this
    exact hnone
  | some k =>
    obtain ⟨id, pos, as, ps', a', b', d, h1, rfl, h3⟩ := hrd
    obtain ⟨fr, g1, g2⟩ := r.stk.getr h3
    obtain ⟨g3, g4⟩ := g2
    refine ⟨wrH H [(H.nx, some (.loop env ps a b .ready .normal d))] (H.nx + 1), H.nx, [], d, by simp [enterH, g3, marksD], by rw [hget_wr1]; simp, fun x hx => ?_, by simp [wrH], by simp [wrH], by omega, by simp, by simp⟩
    rw [hget_wr1]; simp only; rw [if_neg (by omega)]
theorem getElem?_app1 {α : Type} {l : List α} {a : α} {i : Nat} {b : α} (h : l[i]? = some b) : (l ++ [a])[i]? = some b := by
  rw [List.getElem?_append_left (List.getElem?_eq_some_iff.1 h).1]; exact h
theorem CxOK.push {κ : List Nat} (h : CxOK cx κ K) (k : FC) : CxOK cx κ (K ++ [k]) := ⟨h.len, fun i e he => by
  obtain ⟨id, d, h1, as, h2⟩ := h.at_ i e he
  exact ⟨id, d, h1, as, getElem?_app1 h2⟩⟩
theorem rngIds_app : ∀ {K K' : List FC}, rngIds (K ++ K') = rngIds K ++ rngIds K'
  | [], K' => rfl
  | .call _ :: K, K' => by simp [rngIds, rngIds_app (K := K)]
  | .rng .. :: K, K' => by simp [rngIds, rngIds_app (K := K)]
theorem F2.take_app {α β : Type} {R : α → β → Prop} {as : List α} {bs : List β} {b : β} (h : F2 R as (bs ++ [b])) : F2 R (as.take bs.length) bs := by
  have := h.take bs.length
  simpa using this
theorem exec_ok (hk : Knows TT cb Fs Sh) (href : RefOK m Fs cbS cb) (hmo : CbMono cb) (hM : m + 40 ≤ M) : ∀ (code : IC) {cx : List CE} {rd : Option Nat} {exits : List (Nat × Mask)} {rt out : Mask} {S : SS} {r : R Lf}, exec TT Sh cbS cx rd exits rt code out S = some r →
    ∀ {c : Cx} {env : List AV} {H : Heap} {ds : List Nat} {rdC : Option Nat}, Rel c S env H K (ds ++ mk) → CxOK cx c.κ K → RdOK c.κ K rd rdC → Post m Fs r c.ρ (LfQ K mk c.κ (run TT cb M rdC code ⟨⟨env, H⟩, marksD ds⟩))
  | .skip, cx, rd, exits, rt, out, S, r, h, c, env, H, ds, rdC, hr, _, _ => by cases h; exact Post.ret ⟨c, env, H, ds, rfl, rfl, rfl, hr⟩
  | .bad, cx, rd, exits, rt, out, S, r, h, c, env, H, ds, rdC, hr, _, _ => by cases h; exact Post.fail
  | .exit id, cx, rd, exits, rt, out, S, r, h, c, env, H, ds, rdC, hr, _, _ => by cases h; exact Post.ret ⟨c, env, H, ds, rfl, rfl, rfl, hr.prune _⟩
  | .ret, cx, rd, exits, rt, out, S, r, h, c, env, H, ds, rdC, hr, _, _ => by cases h; exact Post.ret ⟨c, env, H, ds, rfl, rfl, rfl, hr.prune _⟩
  | .scope a, cx, rd, exits, rt, out, S, r, h, c, env, H, ds, rdC, hr, hcx, hrd => exec_ok hk href hmo hM a (by simpa [exec] using h) hr hcx hrd
  | .region ops draw, cx, rd, exits, rt, out, S, r, h, c, env, H, ds, rdC, hr, hcx, hrd => by
    simp only [exec] at h
    split at h
    · rename_i r0 e1
      refine meet_lf h hr.n.symm (Post.map ?_)
      cases draw with
      | true =>
        simp only [if_true] at e1
        refine (drawS_ok hk href hmo ops e1 hr hcx F2.nil).mono fun S' ρ' hq => ?_
        obtain ⟨c', env', H', q1, q2, q3, q4⟩ := hq
        exact ⟨c', env', H', ds, by simp [run, q1], q2, q3, q4.prune _⟩
      | false =>
        simp only [Bool.false_eq_true, if_false] at e1
        refine (opsS_ok hk href ops e1 hr hcx).mono fun S' ρ' hq => ?_
        obtain ⟨c', env', H', q1, q2, q3, q4⟩ := hq
        exact ⟨c', env', H', ds, by simp [run, q1], q2, q3, q4.prune _⟩
    · cases h
  | .seq a b, cx, rd, exits, rt, out, S, r, h, c, env, H, ds, rdC, hr, hcx, hrd => by
    simp only [exec] at h
    split at h
    · rename_i r0 e1
      refine Post.bind (exec_ok hk href hmo hM a e1 hr hcx hrd) h fun p ρ1 ra hq hf => ?_
      obtain ⟨c', env', H', ds', q1, q2, q3, q4⟩ := hq
      split at hf
      · rename_i hx
        have ih := exec_ok hk href hmo hM b hf q4 (by rw [q2]; exact hcx) (by rw [q2]; exact hrd)
        rw [q3, q2] at ih
        refine ih.mono fun p' ρ' hq => ?_
        obtain ⟨c2, env2, H2, ds2, u1, u2⟩ := hq
        exact ⟨c2, env2, H2, ds2, by simp only [run, q1]; rw [exB_eq hx]; exact u1, u2⟩
      · rename_i hx
        cases hf
        refine Post.ret ⟨c', env', H', ds', ?_, q2, q3, q4⟩
        simp only [run, q1]
        cases hp : p.1 with
        | normal => exact absurd (by rw [hp]; rfl) hx
        | exit id => rfl
        | ret => rfl
        | pan p => rfl
    · cases h
  | .cond x a b, cx, rd, exits, rt, out, S, r, h, c, env, H, ds, rdC, hr, hcx, hrd => by
    have hv := sarg_ok hr.env x
    have const : ∀ {b'}, sarg S.env x = .e (.c (.bool b')) → arg env x = .bool b' := fun {b'} e => by
      rw [e] at hv
      obtain ⟨-, hd, -⟩ := hv.inv_e
      simp only [E.den] at hd
      generalize arg env x = w at hd
      cases hd; rfl
    simp only [exec] at h
    split at h
    · rename_i e1
      refine (exec_ok hk href hmo hM a h hr hcx hrd).mono fun p ρ' hq => ?_
      obtain ⟨c', env', H', ds', q1, q2⟩ := hq
      exact ⟨c', env', H', ds', by simp only [run, const e1]; exact q1, q2⟩
    · rename_i e1
      refine (exec_ok hk href hmo hM b h hr hcx hrd).mono fun p ρ' hq => ?_
      obtain ⟨c', env', H', ds', q1, q2⟩ := hq
      exact ⟨c', env', H', ds', by simp only [run, const e1]; exact q1, q2⟩
    · rename_i y hne1 hne2 e1
      have hset : ∀ b', y.den c.ρ = .bool b' → arg env x = .bool b' ∧ Rel c (match (generalizing := false) x with | .t j => setAt S j b' | _ => S) env H K (ds ++ mk) := fun b' hb => by
        cases x with
        | t j => rw [arg_t]; exact setAt_ok hr e1 hb
        | c v =>
          refine ⟨?_, hr⟩
          rw [e1] at hv
          obtain ⟨-, hd, -⟩ := hv.inv_e
          rw [hb] at hd
          generalize arg env (.c v) = w at hd
          cases hd; rfl
      split at h
      · rename_i r1 r2 e2 e3
        refine meet_lf h hr.n.symm (Post.map (Post.ite (fun hb => ?_) (fun hb => ?_)))
        · obtain ⟨g1, g2⟩ := hset true hb
          refine (exec_ok hk href hmo hM a e2 g2 hcx hrd).mono fun p ρ' hq => ?_
          obtain ⟨c', env', H', ds', q1, q2, q3, q4⟩ := hq
          refine ⟨c', env', H', ds', by simp only [run, g1]; exact q1, q2, q3, ?_⟩
          simp only
          split
          · exact q4.prune _
          · exact q4
        · obtain ⟨g1, g2⟩ := hset false hb
          refine (exec_ok hk href hmo hM b e3 g2 hcx hrd).mono fun p ρ' hq => ?_
          obtain ⟨c', env', H', ds', q1, q2, q3, q4⟩ := hq
          refine ⟨c', env', H', ds', by simp only [run, g1]; exact q1, q2, q3, ?_⟩
          simp only
          split
          · exact q4.prune _
          · exact q4
      · cases h
    · cases h
  | .block id a, cx, rd, exits, rt, out, S, r, h, c, env, H, ds, rdC, hr, hcx, hrd => by
    simp only [exec] at h
    split at h
    · rename_i r0 e1
      refine meet_lf h hr.n.symm (Post.map ?_)
      refine (exec_ok hk href hmo hM a e1 hr hcx hrd).mono fun p ρ' hq => ?_
      obtain ⟨c', env', H', ds', q1, q2, q3, q4⟩ := hq
      obtain ⟨ex, S'⟩ := p
      cases ex with
      | normal => exact ⟨c', env', H', ds', by simp only [run, q1], q2, q3, q4⟩
      | ret => exact ⟨c', env', H', ds', by simp only [run, q1], q2, q3, q4⟩
      | pan p => exact ⟨c', env', H', ds', by simp only [run, q1], q2, q3, q4⟩
      | exit id' =>
        by_cases hid : id' = id
        · subst hid
          exact ⟨c', env', H', ds', by simp only [run, q1, if_true], q2, q3, by simp only [if_true]; exact q4.prune _⟩
        · exact ⟨c', env', H', ds', by simp only [run, q1, if_neg hid], q2, q3, by simp only [if_neg hid]; exact q4⟩
    · cases h
  | .loop a, cx, rd, exits, rt, out, S, r, h, c, env, H, ds, rdC, hr, hcx, hrd => by
    simp only [exec] at h
    have hb : BodyOK m Fs K mk c.κ (fun S => (exec TT Sh cbS cx rd exits rt a (live exits rt a (live exits rt a 0) ||| live exits rt a (live exits rt a (live exits rt a 0))) S).map (mapR fun p => (p.1, if exB p.1 .normal then pruneS (live exits rt a (live exits rt a 0) ||| live exits rt a (live exits rt a (live exits rt a 0))) p.2 else p.2))) (run TT cb M rdC a) := by
      intro S r h c' env H ds hr hκ
      cases e1 : exec TT Sh cbS cx rd exits rt a (live exits rt a (live exits rt a 0) ||| live exits rt a (live exits rt a (live exits rt a 0))) S with
      | none => simp [e1] at h
      | some r0 =>
        simp only [e1, Option.map_some, Option.some.injEq] at h
        subst h
        refine Post.map ?_
        have := exec_ok hk href hmo hM a e1 hr (by rw [hκ]; exact hcx) (by rw [hκ]; exact hrd)
        rw [hκ] at this
        refine this.mono fun p ρ' hq => ?_
        obtain ⟨c', env', H', ds', q1, q2, q3, q4⟩ := hq
        refine ⟨c', env', H', ds', q1, q2, q3, ?_⟩
        simp only
        split
        · exact q4.prune _
        · exact q4
    split at h
    · refine (unroll_ok hb (fun {S r} h {c env H ds} hr hκ => tryLoop_ok hb 6 h hr.n.symm hκ hr) 40 h (hr.prune _) rfl).mono fun p ρ' hq => ?_
      obtain ⟨c', env', H', ds', q1, q2⟩ := hq
      exact ⟨c', env', H', ds', by simp only [run]; exact iter_mono q1 hM, q2⟩
    · refine (tryLoop_ok hb 6 h (hr.prune _).n.symm rfl (hr.prune _)).mono fun p ρ' hq => ?_
      obtain ⟨c', env', H', ds', q1, q2⟩ := hq
      exact ⟨c', env', H', ds', by simp only [run]; exact iter_mono q1 (by omega), q2⟩
  | .rangeF g ps a b, cx, rd, exits, rt, out, S, r, h, c, env, H, ds, rdC, hr, hcx, hrd => by
    have hv := sarg_ok hr.env g
    simp only [exec] at h
    split at h
    · rename_i f first caps e1
      rw [e1] at hv
      obtain ⟨as, bs, ha, hfirst, hcaps⟩ := hv.inv_fn
      split at h
      · rename_i hT
        split at h
        · rename_i r0 e2
          split at h
          · rename_i r1 e3
            obtain ⟨H1, id, ds1, d, k1, k2, k3, k4, k5, k6, k7, k8⟩ := enterH_ok (κ := c.κ) (ds := ds) hr hrd ps a b
            have hpos : S.stk.length = K.length := hr.stk.len
            have hκlen : c.κ.length = cx.length := hcx.len.symm
            have hlow : ∀ id' ∈ rngIds K, hget H1 id' = hget H id' := fun id' hid => k3 id' (hr.rngs.2 id' hid)
            have hr1 : Rel c { S with env := [], stk := S.stk ++ [⟨prune (live exits rt (.rangeF (.c .nilF) ps a b) out) 0 S.env, .ready, .normal⟩] } [] H1 (K ++ [.rng id env ps a b d]) ((ds1 ++ ds) ++ mk) := by
              have := hr.mem2 (H' := H1) (stk' := S.stk ++ [⟨prune (live exits rt (.rangeF (.c .nilF) ps a b) out) 0 S.env, .ready, .normal⟩]) (K' := K ++ [.rng id env ps a b d]) (mk' := (ds1 ++ ds) ++ mk) (fun x hx _ => k3 x hx) k4
                ((RF.memL hlow hr.stk).append (F2.single (show RF c H1 ⟨prune (live exits rt (.rangeF (.c .nilF) ps a b) out) 0 S.env, .ready, .normal⟩ (.rng id env ps a b d) from ⟨k2, prune_ok 0 hr.env⟩)))
                ⟨by
                  rw [rngIds_app, List.nodup_append]
                  refine ⟨hr.rngs.1, by simp [rngIds], fun x hx y hy => ?_⟩
                  simp only [rngIds, List.mem_singleton] at hy
                  have := hr.rngs.2 x hx; omega, fun x hx => by
                  rw [rngIds_app, List.mem_append] at hx
                  rcases hx with hx | hx
                  · exact Nat.lt_of_lt_of_le (hr.rngs.2 x hx) k4
                  · simp only [rngIds, List.mem_singleton] at hx; omega⟩
                ⟨by
                  rw [List.append_assoc, List.nodup_append]
                  refine ⟨k8, hr.mks.1, fun x hx y hy => ?_⟩
                  have h1 := (k7 x hx).2.1
                  have h2 := (hr.mks.2 y hy).2
                  omega, fun x hx => by
                  rw [List.append_assoc, List.mem_append] at hx
                  rcases hx with hx | hx
                  · exact ⟨(k7 x hx).1, (k7 x hx).2.2⟩
                  · obtain ⟨g1, g2⟩ := hr.mks.2 x hx
                    exact ⟨by rw [k3 x g2]; exact g1, Nat.lt_of_lt_of_le g2 k4⟩⟩
              exact this.slots F2.nil
            have hr2 := hr1.kap (κ' := c.κ ++ [id]) fun k i hki => getElem?_app1 hki
            have hkap : ∀ {vs : List SV} {as : List AV}, F2 (Cv c) vs as → F2 (Cv { c with κ := c.κ ++ [id] }) vs as := fun h => Cv.kapL (fun k i hki => getElem?_app1 hki) h
            have hargs : F2 (Cv { c with κ := c.κ ++ [id] }) (first ++ [.yld cx.length] ++ caps) (as ++ [.yld id] ++ bs) :=
              ((hkap hfirst).append (F2.single (.yld (by rw [← hκlen]; simp)))).append (hkap hcaps)
            have hcx2 : CxOK (cx ++ [⟨S.stk.length, ps, a, b, live exits rt (.rangeF (.c .nilF) ps a b) out, exits, rt⟩]) (c.κ ++ [id]) (K ++ [.rng id env ps a b d]) := by
              refine ⟨by simp [hκlen], fun i e he => ?_⟩
              rcases getElem?_snoc he with he | ⟨rfl, rfl⟩
              · obtain ⟨id', d', h1, as', h2⟩ := hcx.at_ i e he
                exact ⟨id', d', getElem?_app1 h1, as', getElem?_app1 h2⟩
              · exact ⟨id, d, by rw [← hκlen]; simp, env, by rw [hpos]; simp⟩
            have hp := href e2 hr2 hcx2 hargs (.fn f)
            refine meet_lf h hr.n.symm (Post.bind hp e3 fun p ρ1 ra hq hf => ?_)
            obtain ⟨v, H2, c2, q1, q0, q2, q3, q4, -⟩ := hq
            split at hf
            · rename_i fr e4
              split at hf
              · cases hf
              rename_i hpn
              have hfr : (K ++ [FC.rng id env ps a b d])[S.stk.length]? = some (.rng id env ps a b d) := by rw [hpos]; simp
              obtain ⟨kk, t1, t2⟩ := q4.stk.get e4
              rw [hfr] at t1; cases t1
              obtain ⟨t3, t4⟩ := t2
              have hnb : fr.st ≠ .busy ∧ ra = R.ret (fr.pend, cleanS cx.length { p.2 with env := fr.env, stk := p.2.stk.take S.stk.length }) := by
                cases hst : fr.st with
                | busy => rw [hst] at hf; cases hf
                | ready => rw [hst] at hf; cases hf; exact ⟨by simp, rfl⟩
                | done => rw [hst] at hf; cases hf; exact ⟨by simp, rfl⟩
                | exhausted => rw [hst] at hf; cases hf; exact ⟨by simp, rfl⟩
              obtain ⟨hnb, rfl⟩ := hnb
              have hg : ∀ x, x ≠ id → hget (wrH H2 [(id, none)] 0) x = hget H2 x := fun x hx => by rw [hget_wr1]; simp only; rw [if_neg hx]
              have hn : (wrH H2 [(id, none)] 0).nx = H2.nx := by simp [wrH]
              have hnd := q4.rngs.1
              rw [rngIds_app, List.nodup_append] at hnd
              have hidK : ∀ x ∈ rngIds K, x ≠ id := fun x hx => hnd.2.2 x hx id (by simp [rngIds])
              have hstk : F2 (RF c2 H2) (p.2.stk.take S.stk.length) K := by rw [hpos]; exact q4.stk.take_app
              have r3 : Rel c2 { p.2 with env := fr.env, stk := p.2.stk.take S.stk.length } env (wrH H2 [(id, none)] 0) K ((ds1 ++ ds) ++ mk) := by
                have := (q4.slots t4).mem2 (H' := wrH H2 [(id, none)] 0) (stk' := p.2.stk.take S.stk.length) (K' := K) (mk' := (ds1 ++ ds) ++ mk) (fun x _ hx => hg x (by rintro rfl; obtain ⟨s, rows, e⟩ := hx; rw [t3] at e; cases e)) (by rw [hn]; exact Nat.le_refl _)
                  (RF.memL (fun x hx => hg x (hidK x hx)) hstk) ⟨hnd.1, fun x hx => by rw [hn]; exact q4.rngs.2 x (by rw [rngIds_app]; simp [hx])⟩
                  ⟨q4.mks.1, fun x hx => ⟨by rw [hg x (by rintro rfl; have := (q4.mks.2 _ hx).1; rw [t3] at this; cases this)]; exact (q4.mks.2 x hx).1, by rw [hn]; exact (q4.mks.2 x hx).2⟩⟩
                exact this
              have r4 := r3.clean (κ' := c.κ) (n := cx.length) fun k i hk hki => by
                have q2' : c2.κ = c.κ ++ [id] := q2
                rw [q2', List.getElem?_append_left (by rw [hκlen]; exact hk)] at hki
                exact hki
              refine Post.ret ⟨{ c2 with κ := c.κ }, env, _, ds1 ++ ds, ?_, rfl, q3, r4⟩
              simp only [run, ha, hT, if_true, k1, q1, q0, Bool.false_eq_true, if_false, leaveH, t3, marksD_app]
              cases hpe : fr.pend with
              | pan p => rw [hpe] at hpn; exact absurd rfl hpn
              | normal =>
                cases hst : fr.st with
                | busy => exact absurd hst hnb
                | ready => rfl
                | done => rfl
                | exhausted => rfl
              | ret =>
                cases hst : fr.st with
                | busy => exact absurd hst hnb
                | ready => rfl
                | done => rfl
                | exhausted => rfl
              | exit i =>
                cases hst : fr.st with
                | busy => exact absurd hst hnb
                | ready => rfl
                | done => rfl
                | exhausted => rfl
            · cases hf
          · cases h
        · cases h
      · cases h
    · cases h
end Go.Q
/- Calls that are gone through here. -/
set_option linter.unusedVariables false
set_option linter.unusedSimpArgs false
namespace Go.Q
open Go.V
variable {c c' : Cx} {S : SS} {env : List AV} {H H' : Heap} {K : List FC} {mk : List Nat}
variable {TT : FuncId → Option IFn} {cb : Cb} {Fs : FuncId → List D → Option D} {Sh : Shp} {ρ ρ' : List D} {m M : Nat} {cbS : SCall} {cx : List CE}

/-- Calls, by what is known of functions that have trees of their own. -/
def cbQ (TT : FuncId → Option IFn) (M : Nat) (O : FuncId → List AV → Option AV) : Nat → Cb
  | 0 => fun c args _ => match c with
    | .pu f => (O f args).map fun t => (t, noH)
    | _ => none
  | n + 1 => fun c args H => match c with
    | .pu f => (O f args).map fun t => (t, noH)
    | .fn f => callBody TT M (cbQ TT M O n) f args H
    | .yl id => callRound TT M (cbQ TT M O n) id args H
    | .df _ _ => none
theorem cbQ_pu {O : FuncId → List AV → Option AV} (n : Nat) (f : FuncId) (args : List AV) (H : Heap) : cbQ TT M O n (.pu f) args H = (O f args).map fun t => (t, noH) := by cases n <;> rfl
theorem resS_ok (r : Rel c S env H K mk) {x : IRes} {v : SV} (h : resS S x = some v) : ∃ a, resV ⟨env, H⟩ x = some a ∧ Cv c v a := by
  cases x with
  | t n =>
    cases h
    have := sarg_ok r.env (.t n)
    rw [arg_t] at this
    exact ⟨_, rfl, this⟩
  | cell n k =>
    have hv := sarg_ok r.env (.t n)
    simp only [sarg, arg_t] at hv
    simp only [resS] at h
    split at h
    · rename_i id j e1
      rw [e1] at hv
      split at h
      · rename_i cs e2
        obtain ⟨p, z, hp, hx, ha⟩ := hv.inv_ptr
        obtain ⟨p', g1, g2, g3, g4⟩ := r.blk e2
        rw [hp] at g1; cases g1
        obtain ⟨y, as, q1, q2, q3, q4⟩ := g3
        rw [hx] at q1; cases q1
        obtain ⟨b, k1, k2⟩ := part_ok q3 q4 h
        exact ⟨b, by simp only [resV, ha, q2]; simpa using k1, k2⟩
      · cases h
    · cases h
theorem resSL_ok (r : Rel c S env H K mk) : ∀ {l : List IRes} {vs : List SV}, resSL S l = some vs → ∃ as, resL ⟨env, H⟩ l = some as ∧ F2 (Cv c) vs as
  | [], vs, h => by cases h; exact ⟨[], rfl, .nil⟩
  | x :: l, vs, h => by
    simp only [resSL] at h
    split at h
    · rename_i v vs' e1 e2
      cases h
      obtain ⟨a, g1, g2⟩ := resS_ok r e1
      obtain ⟨as, k1, k2⟩ := resSL_ok r e2
      exact ⟨a :: as, by simp [resL, g1, k1], .cons g2 k2⟩
    · cases h
theorem tup_ok {vs : List SV} {as : List AV} (h : F2 (Cv c) vs as) : Cv c (tupS vs) (tupV as) := by
  cases h with
  | nil => exact .tup .nil
  | cons h1 t =>
    cases t with
    | nil => exact h1
    | cons h2 t => exact .tup (.cons h1 (.cons h2 t))
theorem Rel.pop {env0 : List AV} (r : Rel c S env H (K ++ [.call env0]) mk) {fr : Fr} (h : S.stk[K.length]? = some fr) : Rel c { S with env := fr.env, stk := S.stk.take K.length } env0 H K mk := by
  obtain ⟨k, h1, h2⟩ := r.stk.get h
  simp at h1
  subst h1
  have hr := r.rngs
  rw [rngIds_app] at hr
  have hr' : (rngIds K).Nodup ∧ ∀ id ∈ rngIds K, id < H.nx := by simpa [rngIds] using hr
  exact (r.slots (show F2 (Cv c) fr.env env0 from h2)).mem2 (fun x _ _ => rfl) (Nat.le_refl _) r.stk.take_app hr' r.mks
theorem Rel.push (r : Rel c S env H K mk) {senv : List SV} {env1 : List AV} (h : F2 (Cv c) senv env1) : Rel c { S with env := senv, stk := S.stk ++ [⟨S.env, .ready, .normal⟩] } env1 H (K ++ [.call env]) mk := by
  have hr : (rngIds (K ++ [.call env])).Nodup ∧ ∀ id ∈ rngIds (K ++ [.call env]), id < H.nx := by rw [rngIds_app]; simpa [rngIds] using r.rngs
  exact (r.slots h).mem2 (fun x _ _ => rfl) (Nat.le_refl _) (r.stk.append (F2.single (show RF c H ⟨S.env, .ready, .normal⟩ (.call env) from r.env))) hr r.mks
theorem Rel.weak {ds : List Nat} (r : Rel c S env H K (ds ++ mk)) : Rel c S env H K mk :=
  ⟨r.n, r.env, r.stk, r.hlen, r.heap, r.inj, r.rt, r.bnd, r.frz, r.f0, r.rngs, (List.nodup_append.1 r.mks.1).2.1, fun d hd => r.mks.2 d (by simp [hd])⟩
theorem tup_noPan {vs : List SV} {as : List AV} (h : F2 (Cv c) vs as) (hok : okRes vs = true) : (tupV as).isPan = false := by
  cases h with
  | nil => rfl
  | cons h1 t =>
    cases t with
    | nil => exact h1.noPan (by rintro rfl; cases hok)
    | cons h2 t => rfl
theorem setP_ok : ∀ {ps : List Nat} {senv : List SV} {env : List AV} {args : List SV} {as : List AV}, F2 (Cv c) senv env → F2 (Cv c) args as → F2 (Cv c) (setP senv ps args) (setPs env ps as)
  | [], _, _, _, _, h, h' => by cases h' <;> exact h
  | p :: ps, _, _, _, _, h, .nil => h
  | p :: ps, _, _, _, _, h, .cons h1 t => by simp only [setP, setPs]; exact setP_ok (h.set h1 p) t
theorem cbQ_mono {O : FuncId → List AV → Option AV} : ∀ n, CbMono (cbQ TT M O n)
  | 0 => fun cal as H a H' hp h => by cases cal <;> first | (cases hp; done) | (cases h; done)
  | n + 1 => fun cal as H a H' hp h => by
    cases cal with
    | pu f => cases hp
    | fn f => exact callBody_mono (cbQ_mono n) h
    | yl id => exact callRound_mono (cbQ_mono n) h
    | df f md => cases h
theorem callS_ok {O : FuncId → List AV → Option AV} (hk : ∀ n, Knows TT (cbQ TT M O n) Fs Sh) (hM : m + 40 ≤ M) (n : Nat) : RefOK m Fs (callS TT Sh n) (cbQ TT M O n) := by
  induction n with
  | zero =>
    unfold RefOK
    intro cx cal args S r h
    cases h
  | succ n href =>
    unfold RefOK
    intro cx cal args S r h c env H K mk hr hcx as calC ha hcal
    cases hcal with
    | fn f =>
      simp only [callS] at h
      split at h
      · cases h
      · rename_i fn e1
        split at h
        · rename_i r0 e2
          have hpos : S.stk.length = K.length := hr.stk.len
          have hargs : F2 (Cv c) (args ++ List.replicate (fn.ntmps - args.length) undefS) (as ++ List.replicate (fn.ntmps - as.length) undefA) := by
            rw [ha.len]
            exact ha.append (F2.replicate (.tup .nil) _)
          have r1 := hr.push hargs
          have hx := exec_ok (ds := []) (rdC := none) (hk n) href (cbQ_mono n) hM fn.body e2 r1 (hcx.push _) rfl
          refine Post.bind hx h fun p ρ1 ra hq hf => ?_
          obtain ⟨c', env', H', ds', q1, q2, q3, q4⟩ := hq
          have hne : ∀ id, p.1 ≠ .exit id := fun id e => by
            unfold backS at hf
            rw [e] at hf; cases hf
          have hpn : ∀ q, p.1 ≠ .pan q := fun q e => by
            unfold backS at hf
            rw [e] at hf; cases hf
          have hf' : ∃ vs fr, resSL p.2 fn.res = some vs ∧ okRes vs = true ∧ p.2.stk[S.stk.length]? = some fr ∧ ra = R.ret (tupS vs, { p.2 with env := fr.env, stk := p.2.stk.take S.stk.length }) := by
            unfold backS at hf
            split at hf
            · cases hf
            · cases hf
            · split at hf
              · rename_i vs fr e3 e4
                split at hf
                · rename_i hok
                  cases hf
                  exact ⟨vs, fr, e3, hok, e4, rfl⟩
                · cases hf
              · cases hf
          obtain ⟨vs, fr, e3, hok, e4, rfl⟩ := hf'
          obtain ⟨H2, k1, k2⟩ := q4.unmark
          obtain ⟨vals, k3, k4⟩ := resSL_ok k2 e3
          rw [hpos] at e4 ⊢
          refine Post.ret ⟨tupV vals, H2, c', ?_, tup_noPan k4 hok, q2, q3, k2.pop e4, tup_ok k4⟩
          show callBody TT M (cbQ TT M O n) f as H = _
          have q1' : run TT (cbQ TT M O n) M none fn.body ⟨⟨as ++ List.replicate (fn.ntmps - as.length) undefA, H⟩, []⟩ = some (p.1, ⟨⟨env', H'⟩, marksD ds'⟩) := q1
          have hl : leaveF fn ⟨⟨env', H'⟩, marksD ds'⟩ = some (tupV vals, H2) := by simp [leaveF, k1, k3]
          simp only [callBody, e1, q1']
          cases hp : p.1 with
          | normal => simp only [hl]
          | ret => simp only [hl]
          | exit id => exact absurd hp (hne id)
          | pan q => exact absurd hp (hpn q)
        · cases h
    | yl hid =>
      rename_i k id
      simp only [callS] at h
      split at h
      · cases h
      · rename_i e e1
        split at h
        · cases h
        · rename_i fr e2
          split at h
          · cases h
          · rename_i hc
            simp only [Bool.or_eq_true, Bool.not_eq_true', not_or, Bool.not_eq_false, beq_iff_eq] at hc
            obtain ⟨hst, hlen⟩ := hc
            have hst := stB_eq hst
            split at h
            · cases h
            · rename_i ra e3
              have hpos : S.stk.length = K.length := hr.stk.len
              obtain ⟨id', d, g1, asE, g2⟩ := hcx.at_ k e e1
              rw [hid] at g1; cases g1
              obtain ⟨kk, t1, t2⟩ := hr.stk.get e2
              rw [g2] at t1; cases t1
              obtain ⟨t3, t4⟩ := t2
              have r1 := hr.push (setP_ok (ps := e.ps) t4 ha)
              have hrd : RdOK c.κ (K ++ [.call env]) (some k) (some id) := ⟨id, e.pos, asE, e.ps, e.a, e.b, d, hid, rfl, getElem?_app1 g2⟩
              have hx := exec_ok (ds := []) (hk n) href (cbQ_mono n) hM e.a e3 r1 (hcx.push _) hrd
              refine Post.bind hx h fun p ρ1 ra hq hf => ?_
              obtain ⟨c1, env1, H1, ds1, q1, q2, q3, q4⟩ := hq
              unfold roundS at hf
              split at hf
              · rename_i hnorm
                split at hf
                · rename_i fr1 e4
                  split at hf
                  · rename_i hst1
                    have hst1 := stB_eq hst1
                    split at hf
                    · rename_i rb e5
                      obtain ⟨u1, u2⟩ := q4.recd (getElem?_app1 g2) e4 .busy fr1.pend
                      have u2' : Rel c1 { p.2 with stk := p.2.stk.set e.pos { fr1 with st := .busy } } env1 (wrH H1 [(id, some (.loop asE e.ps e.a e.b .busy fr1.pend d))] 0) (K ++ [.call env]) (ds1 ++ mk) := u2
                      have hx2 := exec_ok (hk n) href (cbQ_mono n) hM e.b e5 u2' (by rw [q2]; exact hcx.push _) (by rw [q2]; exact hrd)
                      rw [q3, q2] at hx2
                      refine Post.bind hx2 hf fun p2 ρ2 rc hq2 hf2 => ?_
                      obtain ⟨c2, env2, H2, ds2, w1, w2, w3, w4⟩ := hq2
                      unfold endS at hf2
                      split at hf2
                      · rename_i back fr2 e6 e7
                        split at hf2
                        · rename_i hc2
                          simp only [Bool.and_eq_true, decide_eq_true_eq, Bool.not_eq_true'] at hc2
                          obtain ⟨⟨hst2, hlt⟩, hpan⟩ := hc2
                          have hst2 := stB_eq hst2
                          cases hf2
                          have w5 := (w4.weak)
                          obtain ⟨x1, x2⟩ := w5.recd (getElem?_app1 g2) e7 (if exB p2.1 .normal then .ready else .done) p2.1
                          have e6' : (p2.2.stk.set e.pos { fr2 with st := if exB p2.1 .normal then .ready else .done, pend := p2.1 })[K.length]? = some back := by
                            rw [List.getElem?_set_ne (by omega), ← hpos]; exact e6
                          have x3 := x2.pop e6'
                          have x4 : (p2.2.stk.set e.pos { fr2 with st := if exB p2.1 .normal then .ready else .done, pend := p2.1 }).take K.length = (p2.2.stk.take S.stk.length).set e.pos { fr2 with st := if exB p2.1 .normal then .ready else .done, pend := p2.1 } := by
                            rw [hpos, List.take_set]
                          simp only [x4] at x3
                          refine Post.ret ⟨.bool (exB p2.1 .normal), wrH H2 [(id, some (.loop asE e.ps e.a e.b (if exB p2.1 .normal then .ready else .done) p2.1 d))] 0, c2, ?_, rfl, w2, w3, x3, .e rfl .bool rfl⟩
                          show callRound TT M (cbQ TT M O n) id as H = _
                          have hl : as.length = e.ps.length := by rw [← ha.len]; exact hlen
                          have q1' : run TT (cbQ TT M O n) M (some id) e.a ⟨⟨setPs asE e.ps as, H⟩, []⟩ = some (.normal, ⟨⟨env1, H1⟩, marksD ds1⟩) := by rw [show ([] : List DE) = marksD [] from rfl, q1, exB_eq hnorm]
                          simp only [callRound, t3, hl, if_true, q1', enterR, u1, hst1]
                          rw [w1]
                          simp only [leaveR, x1, hst2]
                          cases hp : p2.1 with
                          | normal => rfl
                          | ret => rfl
                          | exit i => rfl
                          | pan q => rw [hp] at hpan; cases hpan
                        · cases hf2
                      · cases hf2
                    · cases hf
                  · cases hf
                · cases hf
              · cases hf
end Go.Q
/- Functions. -/
set_option linter.unusedVariables false
set_option linter.unusedSimpArgs false
namespace Go.Q
open Go.V
variable {c c' : Cx} {S : SS} {env : List AV} {H H' : Heap} {K : List FC} {mk : List Nat}
variable {TT : FuncId → Option IFn} {cb : Cb} {Fs : FuncId → List D → Option D} {Sh : Shp} {ρ ρ' : List D} {m M : Nat} {cbS : SCall} {cx : List CE}

/-! Results are handed back -/
/-- Where the lists of a result lie. -/
def Lies (c : Cx) (S : SS) (sids ids : List Nat) : Prop := ids.Nodup ∧ ∀ y ∈ ids, ∃ k ∈ sids, ∃ p b, c.ψ k = some p ∧ p.idc = some y ∧ bget S.heap k = some b
theorem Lies.nil {sids : List Nat} : Lies c S sids [] := ⟨List.nodup_nil, by simp⟩
theorem noDup_app : ∀ {a b : List Nat}, noDup (a ++ b) = true → noDup a = true ∧ noDup b = true ∧ ∀ x ∈ a, x ∉ b
  | [], b, h => ⟨rfl, h, by simp⟩
  | x :: a, b, h => by
    simp only [List.cons_append, noDup, Bool.and_eq_true, Bool.not_eq_true', List.contains_eq_mem, decide_eq_false_iff_not, List.mem_append, not_or] at h
    obtain ⟨g1, g2, g3⟩ := noDup_app h.2
    refine ⟨by simp [noDup, h.1.1, g1], g2, fun y hy => ?_⟩
    rcases List.mem_cons.1 hy with rfl | hy
    · exact h.1.2
    · exact g3 y hy
theorem Lies.app (r : Rel c S env H K mk) {s1 s2 i1 i2 : List Nat} (hd : ∀ x ∈ s1, x ∉ s2) (h1 : Lies c S s1 i1) (h2 : Lies c S s2 i2) : Lies c S (s1 ++ s2) (i1 ++ i2) := by
  refine ⟨List.nodup_append.2 ⟨h1.1, h2.1, fun x hx y hy e => ?_⟩, fun y hy => ?_⟩
  · subst e
    obtain ⟨k, k1, p, b, k2, k3, k4⟩ := h1.2 x hx
    obtain ⟨k', t1, p', b', t2, t3, t4⟩ := h2.2 x hy
    have := r.inj _ _ _ _ _ _ _ k4 t4 k2 t2 k3 t3
    subst this
    exact hd k k1 t1
  · rcases List.mem_append.1 hy with hy | hy
    · obtain ⟨k, k1, q⟩ := h1.2 y hy; exact ⟨k, by simp [k1], q⟩
    · obtain ⟨k, k1, q⟩ := h2.2 y hy; exact ⟨k, by simp [k1], q⟩
theorem det1 (r : Rel c S env H K mk) {rs : RS} {v : SV} {a : AV} {x : E} (hl : likeV1 S.heap rs v = true) (hv : Cv c v a) (hx : toE1 S.heap v = some x) : ∃ t ids, detachC H a = some (t, ids) ∧ RR1 rs (x.den c.ρ) t ∧ Lies c S (idsR1 v) ids := by
  have hno : ∀ {d : D}, RD d a → a.one = true → detachC H a = some (a, []) := fun {d} h h1 => by
    have hn := h.noId h1
    unfold detachC
    split
    · cases h
    · cases h
    · simp [hn]
  cases rs with
  | e =>
    cases v <;> simp only [likeV1, Bool.false_eq_true] at hl <;> simp only [toE1, Option.some.injEq] at hx <;> subst hx
    · obtain ⟨h1, h2, h3⟩ := hv.inv_e
      exact ⟨a, [], hno h2 h3, ⟨h2, h3⟩, Lies.nil⟩
    · have := hv.inv_nil
      subst this
      exact ⟨.nilS, [], rfl, ⟨.nilS, rfl⟩, Lies.nil⟩
  | own sz =>
    cases v <;> simp only [likeV1, Bool.false_eq_true] at hl
    · rename_i id
      obtain ⟨p, hp, ha⟩ := hv.inv_own
      split at hl
      · rename_i s y e1
        simp only [beq_iff_eq] at hl
        subst hl
        simp only [toE1, e1, Option.some.injEq] at hx
        subst hx
        obtain ⟨p', g1, g2, g3, g4⟩ := r.blk e1
        rw [hp] at g1; cases g1
        obtain ⟨xs, q1, q2, q3, q4, q5⟩ := g3
        rcases ha with ⟨z, hz, rfl⟩ | ⟨hl0, ha⟩
        · obtain ⟨rows, t1, t2, t3, t4⟩ := q5 _ hz
          have hs : ∀ q ∈ (rows.drop p.off).take p.len, q.length = sz ∧ q.all AV.one = true := fun q hq => t3 q (List.mem_of_mem_drop (List.mem_of_mem_take hq))
          have hnoId : (((rows.drop p.off).take p.len).all fun x => x.all AV.noId) = true := by
            rw [List.all_eq_true]
            intro row hrow
            obtain ⟨i, hi, e⟩ := List.getElem_of_mem hrow
            obtain ⟨dx, u1, u2⟩ := t4.getr (i := i) (b := row) (by rw [List.getElem?_eq_getElem hi, e])
            have h1 := (hs row hrow).2
            rw [List.all_eq_true] at h1 ⊢
            intro cell hc
            obtain ⟨i', hi', e'⟩ := List.getElem_of_mem hc
            obtain ⟨d, u3, u4⟩ := (show F2 RD dx row from u2).getr (i := i') (b := cell) (by rw [List.getElem?_eq_getElem hi', e'])
            exact u4.noId (h1 cell hc)
          refine ⟨.fresh sz ((rows.drop p.off).take p.len), [z], ?_, .inl ⟨xs, _, q2, rfl, hs, t4⟩, by simp, fun y hy => ?_⟩
          · simp only [detachC, t1]
            rw [if_pos ⟨t2, hnoId⟩]
          · simp only [List.mem_singleton] at hy
            subst hy
            exact ⟨id, by simp [idsR1], p, _, hp, hz, e1⟩
        · have hxs : xs = [] := by rw [hl0] at q3; simpa using q3
          subst hxs
          rcases ha with rfl | rfl
          · exact ⟨.nilS, [], rfl, .inr ⟨q2, .inl rfl⟩, Lies.nil⟩
          · exact ⟨.emp true, [], rfl, .inr ⟨q2, .inr rfl⟩, Lies.nil⟩
      · cases hl
    · have := hv.inv_nil
      subst this
      simp only [toE1, Option.some.injEq] at hx
      subst hx
      exact ⟨.nilS, [], rfl, .inr ⟨rfl, .inl rfl⟩, Lies.nil⟩
  | node => cases v <;> simp [likeV1] at hl
  | tup => cases v <;> simp [likeV1] at hl
theorem detL_ok (r : Rel c S env H K mk) : ∀ {rs : List RS} {vs : List SV} {as : List AV} {xs : List E}, likeVL S.heap rs vs = true → F2 (Cv c) vs as → toE1L S.heap vs = some xs → noDup (idsRL vs) = true → ∃ ts ids, detachL H as = some (ts, ids) ∧ RRL rs (denL c.ρ xs) ts ∧ Lies c S (idsRL vs) ids
  | [], [], _, xs, hl, .nil, hx, _ => by cases hx; exact ⟨[], [], rfl, trivial, Lies.nil⟩
  | rs :: rss, v :: vs, _, xs, hl, .cons h1 t, hx, hd => by
    simp only [likeVL, Bool.and_eq_true] at hl
    simp only [toE1L] at hx
    split at hx
    · rename_i y ys e1 e2
      cases hx
      obtain ⟨d1, d2, d3⟩ := noDup_app hd
      obtain ⟨t', ids, g1, g2, g3⟩ := det1 r hl.1 h1 e1
      obtain ⟨ts, ids', k1, k2, k3⟩ := detL_ok r hl.2 t e2 d2
      exact ⟨t' :: ts, ids ++ ids', by simp [detachL, g1, k1], ⟨g2, k2⟩, Lies.app r d3 g3 k3⟩
    · cases hx
  | [], _ :: _, _, _, hl, _, _, _ => by simp [likeVL] at hl
  | _ :: _, [], _, _, hl, _, _, _ => by simp [likeVL] at hl
theorem det2 (r : Rel c S env H K mk) {rs : RS} {v : SV} {a : AV} {x : E} (hl : likeV2 S.heap rs v = true) (hv : Cv c v a) (hx : toE S.heap v = some x) (hd : noDup (idsR2 v) = true) : ∃ t ids, detach1 H a = some (t, ids) ∧ RR2 rs (x.den c.ρ) t ∧ Lies c S (idsR2 v) ids := by
  by_cases hagg : ∃ cs, v = .agg cs
  · obtain ⟨cs, rfl⟩ := hagg
    cases rs with
    | node rs =>
      obtain ⟨as, rfl, h1, h2⟩ := hv.inv_agg
      simp only [toE] at hx
      cases e1 : toE1L S.heap cs with
      | none => rw [e1] at hx; cases hx
      | some xs =>
        rw [e1] at hx; cases hx
        obtain ⟨ts, ids, g1, g2, g3⟩ := detL_ok r hl h1 e1 hd
        exact ⟨.agg ts, ids, by simp [detach1, g1], ⟨_, ts, rfl, rfl, g2⟩, g3⟩
    | e => simp [likeV2, likeV1] at hl
    | own => simp [likeV2, likeV1] at hl
    | tup => simp [likeV2, likeV1] at hl
  · have hl' : likeV1 S.heap rs v = true := by
      cases rs <;> first | exact hl | skip
      cases v <;> first | exact absurd ⟨_, rfl⟩ hagg | (simp [likeV2, likeV1] at hl)
    have hx' : toE1 S.heap v = some x := by
      cases v <;> first | exact hx | exact absurd ⟨_, rfl⟩ hagg | skip
      cases rs <;> simp [likeV1] at hl'
    have hid : idsR2 v = idsR1 v := by cases v <;> first | rfl | exact absurd ⟨_, rfl⟩ hagg
    obtain ⟨t, ids, g1, g2, g3⟩ := det1 r hl' hv hx'
    have h2 : RR2 rs (x.den c.ρ) t := by cases rs <;> first | exact g2 | exact g2.elim
    have ha : detach1 H a = detachC H a := by
      cases a <;> first | rfl | skip
      exfalso
      cases hv <;> first | exact hagg ⟨_, rfl⟩ | (simp [toE1] at hx'; done) | simp_all [AV.one]
    exact ⟨t, ids, by rw [ha]; exact g1, h2, by rw [hid]; exact g3⟩
theorem detM_ok (r : Rel c S env H K mk) : ∀ {rs : List RS} {vs : List SV} {as : List AV} {xs : List E}, likeVM S.heap rs vs = true → F2 (Cv c) vs as → toEL S.heap vs = some xs → noDup (idsRM vs) = true → ∃ ts ids, detachM H as = some (ts, ids) ∧ RRM rs (denL c.ρ xs) ts ∧ Lies c S (idsRM vs) ids
  | [], [], _, xs, hl, .nil, hx, _ => by cases hx; exact ⟨[], [], rfl, trivial, Lies.nil⟩
  | rs :: rss, v :: vs, _, xs, hl, .cons h1 t, hx, hd => by
    simp only [likeVM, Bool.and_eq_true] at hl
    simp only [toEL] at hx
    split at hx
    · rename_i y ys e1 e2
      cases hx
      obtain ⟨d1, d2, d3⟩ := noDup_app hd
      obtain ⟨t', ids, g1, g2, g3⟩ := det2 r hl.1 h1 e1 d1
      obtain ⟨ts, ids', k1, k2, k3⟩ := detM_ok r hl.2 t e2 d2
      exact ⟨t' :: ts, ids ++ ids', by simp [detachM, g1, k1], ⟨g2, k2⟩, Lies.app r d3 g3 k3⟩
    · cases hx
  | [], _ :: _, _, _, hl, _, _, _ => by simp [likeVM] at hl
  | _ :: _, [], _, _, hl, _, _, _ => by simp [likeVM] at hl
theorem det_ok (r : Rel c S env H K mk) {rs : RS} {v : SV} {a : AV} {x : E} (hl : likeV S.heap rs v = true) (hv : Cv c v a) (hx : outE S.heap v = some x) (hd : noDup (idsR v) = true) : ∃ t ids, detach H a = some (t, ids) ∧ RR rs (x.den c.ρ) t ∧ ids.Nodup := by
  by_cases htup : ∃ vs, v = .tup vs
  · obtain ⟨vs, rfl⟩ := htup
    cases rs with
    | tup rs =>
      obtain ⟨as, rfl, h1⟩ := hv.inv_tup
      simp only [outE] at hx
      cases e1 : toEL S.heap vs with
      | none => rw [e1] at hx; cases hx
      | some xs =>
        rw [e1] at hx; cases hx
        obtain ⟨ts, ids, g1, g2, g3⟩ := detM_ok r hl h1 e1 hd
        exact ⟨.tup ts, ids, by simp [detach, g1], ⟨_, ts, rfl, rfl, g2⟩, g3.1⟩
    | e => simp [likeV, likeV2, likeV1] at hl
    | own => simp [likeV, likeV2, likeV1] at hl
    | node => simp [likeV, likeV2, likeV1] at hl
  · have hl' : likeV2 S.heap rs v = true := by
      cases rs <;> first | exact hl | skip
      cases v <;> first | exact absurd ⟨_, rfl⟩ htup | (simp [likeV, likeV2, likeV1] at hl)
    have hx' : toE S.heap v = some x := by cases v <;> first | exact hx | exact absurd ⟨_, rfl⟩ htup
    have hid : idsR v = idsR2 v := by cases v <;> first | rfl | exact absurd ⟨_, rfl⟩ htup
    obtain ⟨t, ids, g1, g2, g3⟩ := det2 r hl' hv hx' (by rw [← hid]; exact hd)
    have h2 : RR rs (x.den c.ρ) t := by cases rs <;> first | exact g2 | exact g2.elim
    have ha : detach H a = detach1 H a := by
      cases a <;> first | rfl | skip
      exfalso
      cases hv <;> first | exact htup ⟨_, rfl⟩ | (simp [toE, toE1] at hx'; done) | simp_all [AV.one]
    exact ⟨t, ids, by rw [ha]; exact g1, h2, g3.1⟩

/-! The beginning -/
theorem RD.one_of {d : D} {a : AV} (h : RD d a) (hd : ∀ cs, d ≠ .node cs) : a.one = true := by
  cases h <;> first | rfl | exact absurd rfl (hd _)
theorem fits_len : ∀ {ps : List (Option Nat)} {ds : List D}, fits ps ds = true → ps.length = ds.length
  | [], [], _ => rfl
  | none :: ps, d :: ds, h => by simp only [fits, Bool.and_eq_true] at h; simp [fits_len h.2]
  | some n :: ps, d :: ds, h => by
    cases d <;> simp only [fits, Bool.false_eq_true, Bool.and_eq_true] at h
    simp [fits_len h.2]
  | [], _ :: _, h => by simp [fits] at h
  | none :: _, [], h => by simp [fits] at h
  | some _ :: _, [], h => by simp [fits] at h
theorem args_ok {ds0 : List D} : ∀ {ps : List (Option Nat)} {ds : List D} {as : List AV} (i : Nat), fits ps ds = true → F2 RD ds as → ds0.drop i = ds → c.ρ = ds0 → F2 (Cv c) (argsS i ps) as
  | [], ds, as, i, hf, h, hi, hc => by
    cases ds with
    | nil => cases h; exact .nil
    | cons => simp [fits] at hf
  | p :: ps, ds, as, i, hf, h, hi, hc => by
    cases ds with
    | nil => cases p <;> simp [fits] at hf
    | cons d ds =>
      obtain ⟨a, t, rfl, ha, ht⟩ := F2.inv_cons h
      have hget : ds0[i]? = some d := by
        have := congrArg (fun l => l[0]?) hi
        simpa [List.getElem?_drop] using this
      have hlt : i < ds0.length := (List.getElem?_eq_some_iff.1 hget).1
      have hden : (E.v i).den c.ρ = d := by simp [E.den, hc, List.getD_eq_getElem?_getD, hget]
      have hup : (E.v i).upto c.ρ.length = true := by simp [E.upto, hc, hlt]
      have hi' : ds0.drop (i + 1) = ds := by
        have := congrArg (List.drop 1) hi
        simpa [List.drop_drop] using this
      cases p with
      | none =>
        simp only [fits, Bool.and_eq_true] at hf
        refine .cons (.e hup (by rw [hden]; exact ha) (ha.one_of fun cs e => ?_)) (args_ok (i + 1) hf.2 ht hi' hc)
        subst e; simp at hf
      | some n =>
        cases d <;> simp only [fits, Bool.false_eq_true, Bool.and_eq_true] at hf
        rename_i cs
        obtain ⟨⟨h1, h2⟩, h3⟩ := hf
        simp only [beq_iff_eq] at h1
        generalize ha' : a = a' at ha
        cases ha with
        | node hcs =>
        rename_i bs
        subst ha'
        have hone : bs.all AV.one = true := by
          rw [List.all_eq_true]
          intro b hb
          obtain ⟨k, hk, e⟩ := List.getElem_of_mem hb
          obtain ⟨d, u1, u2⟩ := hcs.getr (i := k) (b := b) (by rw [List.getElem?_eq_getElem hk, e])
          refine u2.one_of fun cs' e' => ?_
          have := List.all_eq_true.1 h2 d (List.mem_of_getElem? u1)
          subst e'; simp at this
        refine .cons (.agg (F2.of_get (by simp [← hcs.len, h1]) fun k v b hv hb => ?_) hone) (args_ok (i + 1) h3 ht hi' hc)
        simp only [List.getElem?_map] at hv
        rw [List.getElem?_range (by
          have := (List.getElem?_eq_some_iff.1 hb).1
          rw [← hcs.len, h1] at this; exact this)] at hv
        cases hv
        obtain ⟨d, u1, u2⟩ := hcs.getr hb
        refine .e (by simpa [E.upto] using hup) ?_ (List.all_eq_true.1 hone b (List.mem_of_getElem? hb))
        simp only [E.den] at hden ⊢
        rw [hden]
        simp only [D.cells, List.getD_eq_getElem?_getD, u1]
        exact u2
/-- A function does what its tree says. -/
theorem fnS_ok {P : Program} (hT : TOK P TT) (hm : P.follows .mixedOrders = true) {O : FuncId → List AV → Option AV} (hk : ∀ n, Knows TT (cbQ TT M O n) Fs Sh) (hcb : ∀ n, CbOK P (cbQ TT M O n)) (hM : m + 40 ≤ M)
    {d : Nat} {ps : List (Option Nat)} {f : FuncId} {F : Fn} (h : fnS TT Sh d ps f = some F) {ds : List D} {res : D} (hres : F.den m Fs ds = some res) {args : List AV} (ha : F2 RD ds args) :
    ∃ t, PuOK P f args t ∧ RR F.rs res t := by
  unfold fnS at h
  split at h
  · cases h
  · rename_i fn e1
    split at h
    · cases h
    · rename_i r e2
      split at h
      · cases h
      · rename_i l e3
        split at h
        · rename_i r0 rs es e4 e5
          simp only at h
          split at h
          · rename_i hall
            cases h
            unfold Fn.den at hres
            simp only at hres
            split at hres
            · rename_i hfit
              split at hres
              · rename_i j ρ' e6
                -- the run
                let c0 : Cx := ⟨fun _ => none, fun _ => False, fun _ => none, [], ds⟩
                have hlen := fits_len hfit
                have hal : args.length = ps.length := by rw [← ha.len, hlen]
                have henv : F2 (Cv c0) (argsS 0 ps ++ List.replicate (fn.ntmps - ps.length) undefS) (args ++ List.replicate (fn.ntmps - args.length) undefA) := by
                  rw [hal]
                  exact (args_ok (ds0 := ds) 0 hfit ha (by simp) rfl).append (F2.replicate (.tup .nil) _)
                have hR : Rel c0 ⟨argsS 0 ps ++ List.replicate (fn.ntmps - ps.length) undefS, [], [], ps.length⟩ (args ++ List.replicate (fn.ntmps - args.length) undefA) noH [] ([] ++ []) :=
                  ⟨hlen, henv, .nil, fun id p hp => (by cases hp), fun id hb hh => (by simp at hh), fun i i' p p' x b b' h1 => (by simp [bget] at h1), fun i i' p p' x h1 => (by cases h1), fun i p x h1 => (by cases h1), fun x sz rows h1 => (by cases h1), fun x h1 => h1.elim, ⟨by simp [rngIds], by simp [rngIds]⟩, ⟨by simp, by simp⟩⟩
                have hx := exec_ok (ds := []) (rdC := none) (K := []) (mk := []) (hk d) (callS_ok hk hM d) (cbQ_mono d) hM fn.body e2 hR ⟨rfl, fun k e he => by simp at he⟩ rfl
                obtain ⟨p, k1, c', env', H', ds', q1, q2, q3, q4⟩ := hx j ρ' e6
                obtain ⟨b, k2, k3⟩ := mapM_get e3 k1
                have hne : ∀ id, p.1 ≠ .exit id := fun id e => by rw [e] at k3; cases k3
                have hpn : ∀ q, p.1 ≠ .pan q := fun q e => by rw [e] at k3; cases k3
                have k4 : ∃ vs, resSL p.2 fn.res = some vs ∧ b = (tupS vs, p.2) := by
                  cases hp : p.1 with
                  | exit id => exact absurd hp (hne id)
                  | pan q => exact absurd hp (hpn q)
                  | normal =>
                    rw [hp] at k3
                    simp only at k3
                    cases e7 : resSL p.2 fn.res with
                    | none => rw [e7] at k3; cases k3
                    | some vs => rw [e7] at k3; cases k3; exact ⟨vs, rfl, rfl⟩
                  | ret =>
                    rw [hp] at k3
                    simp only at k3
                    cases e7 : resSL p.2 fn.res with
                    | none => rw [e7] at k3; cases k3
                    | some vs => rw [e7] at k3; cases k3; exact ⟨vs, rfl, rfl⟩
                obtain ⟨vs, k5, rfl⟩ := k4
                obtain ⟨x, k6, k7⟩ := mapM_get e5 k2
                have hl := List.all_eq_true.1 hall _ (List.mem_of_getElem? k2)
                simp only [Bool.and_eq_true] at hl
                obtain ⟨H2, t1, t2⟩ := q4.unmark
                obtain ⟨vals, t3, t4⟩ := resSL_ok t2 k5
                have hcall : callBody TT M (cbQ TT M O d) f args noH = some (tupV vals, H2) := by
                  have hlf : leaveF fn ⟨⟨env', H'⟩, marksD ds'⟩ = some (tupV vals, H2) := by simp [leaveF, t1, t3]
                  have q1' : run TT (cbQ TT M O d) M none fn.body ⟨⟨args ++ List.replicate (fn.ntmps - args.length) undefA, noH⟩, []⟩ = some (p.1, ⟨⟨env', H'⟩, marksD ds'⟩) := q1
                  simp only [callBody, e1, q1']
                  cases hp : p.1 with
                  | normal => simp only [hlf]
                  | ret => simp only [hlf]
                  | exit id => exact absurd hp (hne id)
                  | pan q => exact absurd hp (hpn q)
                obtain ⟨t, ids, u1, u2, u3⟩ := det_ok t2 hl.1 (tup_ok t4) k7 hl.2
                refine ⟨t, callPure_ok (H' := noH) hT hm (hcb d) (m := M) ?_, ?_⟩
                · rw [hcall]
                  simp only [pureR, u1]
                  rw [if_pos u3]
                · rw [k6] at hres
                  simp only [Option.map_some, Option.some.injEq] at hres
                  rw [← hres, ← q3]
                  exact u2
              · cases hres
            · cases hres
          · cases h
        · cases h
end Go.Q
