/- Calls of functions that have trees of their own. -/
import Derived.Test.YtcgeghpmnnhcpaaJI
set_option linter.unusedVariables false
set_option linter.unusedSimpArgs false
namespace Go.Q
open Go.V
variable {c c' : Cx} {S : SS} {env : List AV} {H H' : Heap} {K : List FC} {mk : List Nat}
variable {TT : FuncId → Option IFn} {cb : Cb} {Fs : FuncId → List D → Option D} {ρ' : List D}

/-! Results -/
def RR1 : RS → D → AV → Prop
  | .e, d, t => RD d t ∧ t.one = true
  | .own sz, d, t => (∃ xs rows, d = .list xs ∧ t = .fresh sz rows ∧ (∀ q ∈ rows, q.length = sz ∧ q.all AV.one = true) ∧ F2 (F2 RD) xs rows) ∨ (d = .list [] ∧ (t = .nilS ∨ t = .emp true))
  | _, _, _ => False
def RRL : List RS → List D → List AV → Prop
  | [], [], [] => True
  | r :: rs, d :: ds, t :: ts => RR1 r d t ∧ RRL rs ds ts
  | _, _, _ => False
def RR2 : RS → D → AV → Prop
  | .node rs, d, t => ∃ ds ts, d = .node ds ∧ t = .agg ts ∧ RRL rs ds ts
  | r, d, t => RR1 r d t
def RRM : List RS → List D → List AV → Prop
  | [], [], [] => True
  | r :: rs, d :: ds, t :: ts => RR2 r d t ∧ RRM rs ds ts
  | _, _, _ => False
def RR : RS → D → AV → Prop
  | .tup rs, d, t => ∃ ds ts, d = .node ds ∧ t = .tup ts ∧ RRM rs ds ts
  | r, d, t => RR2 r d t

/-! Arguments -/
theorem RD.noId {d : D} {a : AV} (h : RD d a) (h1 : a.one = true) : a.noId = true := by
  cases h <;> first | rfl | cases h1 | skip
  rename_i hf
  simp [AV.noId, hf.1, hf.2]
theorem reifyD_noId {v : AV} {n : Nat} (h : v.noId = true) : reifyD H n v = some (v, []) := by
  cases n with
  | zero => simp [reifyD, h]
  | succ n =>
    unfold reifyD
    split
    · cases h
    · cases h
    · cases h
    · cases h
    · simp [h]
theorem reifyW_RD {n : Nat} : ∀ {xs : List D} {as : List AV}, F2 RD xs as → as.all AV.one = true → reifyW (reifyD H n) as = some (as, [])
  | _, _, .nil, _ => rfl
  | _, _, .cons h t, h1 => by
    simp only [List.all_cons, Bool.and_eq_true] at h1
    simp [reifyW, reifyD_noId (h.noId h1.1), reifyW_RD t h1.2]
theorem reifyWW_RD {n : Nat} : ∀ {xs : List (List D)} {as : List (List AV)}, F2 (F2 RD) xs as → (∀ y ∈ as, y.all AV.one = true) → reifyWW (reifyD H n) as = some (as, [])
  | _, _, .nil, _ => rfl
  | _, _, .cons h t, h1 => by
    simp [reifyWW, reifyW_RD h (h1 _ (by simp)), reifyWW_RD t (fun y hy => h1 y (by simp [hy]))]
/-- A list of one's own as an argument. -/
theorem reify_own {n id off s : Nat} {A : Nat → Prop} {xs : List (List D)} {rows : List (List AV)} (hg : hget H id = some (.row s rows)) (hA : A id) (hl : off + xs.length ≤ rows.length) (hs : ∀ y ∈ rows, y.length = s ∧ y.all AV.one = true)
    (hw : ∃ ys rd, reifyWW (reifyD H n) ((rows.drop off).take xs.length) = some (ys, rd) ∧ F2 (F2 RD) xs ys ∧ (∀ y ∈ ys, y.length = s ∧ y.all AV.one = true) ∧ ∀ x ∈ rd, A x) :
    ∃ a' rd, reifyD H (n + 1) (.own id off xs.length) = some (a', rd) ∧ RD (.list xs) a' ∧ a'.one = true ∧ ∀ x ∈ rd, A x := by
  by_cases h0 : xs.length = 0
  · have : xs = [] := by simpa using h0
    subst this
    exact ⟨.emp false, [], by simp [reifyD], .emp, rfl, by simp⟩
  · obtain ⟨ys, rd, g1, g2, g3, g4⟩ := hw
    refine ⟨.lst s ys, id :: rd, ?_, .lst (fun e => h0 (by simp [e])) g3 g2, rfl, fun x hx => ?_⟩
    · unfold reifyD
      split
      · rename_i e
        simp only [AV.own.injEq] at e
        exact absurd e.2.2 h0
      · rename_i i o l hne e
        simp only [AV.own.injEq] at e
        obtain ⟨rfl, rfl, rfl⟩ := e
        rw [hg]
        simp only
        rw [if_pos hl, g1]; rfl
      · rename_i e; cases e
      · rename_i e; cases e
      · rename_i h1 h2 h3 h4 h5; first | exact absurd rfl (h3 _ _ _) | exact absurd rfl (h2 _ _ _)
    · rcases List.mem_cons.1 hx with rfl | hx
      · exact hA
      · exact g4 x hx
mutual
theorem reify_RO {Φ : Frz} {A : Nat → Prop} (hΦ : ∀ x sz rows, Φ x = some (sz, rows) → hget H x = some (.row sz rows)) : ∀ {d : D} {a : AV} (n : Nat), RO Φ A d a → a.one = true → d.shal1 n = true → ∃ a' rd, reifyD H n a = some (a', rd) ∧ RD d a' ∧ a'.one = true ∧ ∀ x ∈ rd, A x
  | d, a, n, .b h, h1, _ => ⟨a, [], reifyD_noId (h.noId h1), h, h1, by simp⟩
  | _, _, 0, .own g1 g2 g3 g4 g5, h1, hs => by simp [D.shal1, D.shal0] at hs
  | .list xs, _, n + 1, .own g1 g2 g3 g4 g5, h1, hs => by
    simp only [D.shal1, D.shal0, Bool.and_eq_true] at hs
    obtain ⟨ys, rd, k1, k2, k3, k4⟩ := reifyWW_RO hΦ n g5 (fun y hy => g4 y (List.mem_of_mem_drop (List.mem_of_mem_take hy))) hs.2
    exact reify_own (hΦ _ _ _ g1) g2 g3 g4 ⟨ys, rd, k1, k2, k3, k4⟩
theorem reifyW_RO {Φ : Frz} {A : Nat → Prop} (hΦ : ∀ x sz rows, Φ x = some (sz, rows) → hget H x = some (.row sz rows)) : ∀ {d : List D} {a : List AV} (n : Nat), F2 (RO Φ A) d a → a.all AV.one = true → d.all (D.shal1 n) = true → ∃ a' rd, reifyW (reifyD H n) a = some (a', rd) ∧ F2 RD d a' ∧ a'.all AV.one = true ∧ ∀ x ∈ rd, A x
  | _, _, n, .nil, _, _ => ⟨[], [], rfl, .nil, rfl, by simp⟩
  | _, _, n, .cons h t, h1, hs => by
    simp only [List.all_cons, Bool.and_eq_true] at h1 hs
    obtain ⟨a', rd, g1, g2, g3, g4⟩ := reify_RO hΦ n h h1.1 hs.1
    obtain ⟨as', rds, k1, k2, k3, k4⟩ := reifyW_RO hΦ n t h1.2 hs.2
    refine ⟨a' :: as', rd ++ rds, by simp [reifyW, g1, k1], .cons g2 k2, by simp [g3, k3], fun x hx => ?_⟩
    rcases List.mem_append.1 hx with hx | hx
    · exact g4 x hx
    · exact k4 x hx
theorem reifyWW_RO {Φ : Frz} {A : Nat → Prop} (hΦ : ∀ x sz rows, Φ x = some (sz, rows) → hget H x = some (.row sz rows)) : ∀ {d : List (List D)} {a : List (List AV)} (n : Nat) {s : Nat}, F2 (F2 (RO Φ A)) d a → (∀ y ∈ a, y.length = s ∧ y.all AV.one = true) → (d.all fun x => x.all (D.shal1 n)) = true →
    ∃ a' rd, reifyWW (reifyD H n) a = some (a', rd) ∧ F2 (F2 RD) d a' ∧ (∀ y ∈ a', y.length = s ∧ y.all AV.one = true) ∧ ∀ x ∈ rd, A x
  | _, _, n, s, .nil, _, _ => ⟨[], [], rfl, .nil, by simp, by simp⟩
  | _, _, n, s, .cons h t, h1, hs => by
    simp only [List.all_cons, Bool.and_eq_true] at hs
    obtain ⟨a', rd, g1, g2, g3, g4⟩ := reifyW_RO hΦ n h (h1 _ (by simp)).2 hs.1
    obtain ⟨as', rds, k1, k2, k3, k4⟩ := reifyWW_RO hΦ n t (fun y hy => h1 y (by simp [hy])) hs.2
    refine ⟨a' :: as', rd ++ rds, by simp [reifyWW, g1, k1], .cons g2 k2, fun y hy => ?_, fun x hx => ?_⟩
    · rcases List.mem_cons.1 hy with rfl | hy
      · exact ⟨by rw [← g2.len, h.len]; exact (h1 _ (by simp)).1, g3⟩
      · exact k3 y hy
    · rcases List.mem_append.1 hx with hx | hx
      · exact g4 x hx
      · exact k4 x hx
end
theorem shal_cell {d : D} (h : d.shal 4 = true) {a : AV} (hr : RO c.Φ (fun _ => True) d a) (h1 : a.one = true) : d.shal1 4 = true := by
  cases d <;> try exact h
  cases hr with
  | b h => cases h; cases h1
/-- One cell as an argument. -/
theorem toE1_ok (r : Rel c S env H K mk) {v : SV} {a : AV} {x : E} (hv : Cv c v a) (hx : toE1 S.heap v = some x) (hsh : isDeep1 S.heap v = true → (x.den c.ρ).shal1 4 = true) :
    x.upto c.ρ.length = true ∧ ∃ a' rd, reifyC H a = some (a', rd) ∧ RD (x.den c.ρ) a' ∧ a'.one = true ∧ (∀ y ∈ rd, c.okr (rts1 S.heap v) y) ∧ (hasOwn1 v = false → rd = []) := by
  cases v <;> simp only [toE1, reduceCtorEq] at hx
  · cases hx
    obtain ⟨h1, h2, h3⟩ := hv.inv_e
    exact ⟨h1, a, [], reifyD_noId (h2.noId h3), h2, h3, by simp, fun _ => rfl⟩
  · cases hx
    obtain ⟨h1, h2, h3⟩ := hv.inv_fz
    obtain ⟨a', rd, g1, g2, g3, g4⟩ := reify_RO (fun x sz rows h => (r.frz x sz rows h).1) 4 h2 h3 (hsh rfl)
    exact ⟨h1, a', rd, g1, g2, g3, g4, fun h => by cases h⟩
  · rename_i id
    obtain ⟨p, hp, ha⟩ := hv.inv_own
    split at hx
    · rename_i s y dp e1
      cases hx
      obtain ⟨p', g1, g2, g3, g4⟩ := r.blk e1
      rw [hp] at g1; cases g1
      obtain ⟨xs, q1, q2, q3, q4, q5⟩ := g3
      refine ⟨q1, ?_⟩
      rw [q2]
      rcases ha with ⟨z, hz, ha⟩ | ⟨hl0, ha⟩
      · obtain ⟨rows, t1, t2, t3, t4⟩ := q5 _ hz
        subst ha
        rw [← q3] at t2 t4
        have hz' : c.okr (rts1 S.heap (.own id)) z := okr_of hp hz (by simp [rts1, g2])
        have hw : ∃ ys rd, reifyWW (reifyD H 3) ((rows.drop p.off).take xs.length) = some (ys, rd) ∧ F2 (F2 RD) xs ys ∧ (∀ y ∈ ys, y.length = s ∧ y.all AV.one = true) ∧ ∀ x ∈ rd, c.okr (rts1 S.heap (.own id)) x := by
          cases dp with
          | none =>
            have hs' : ∀ y ∈ (rows.drop p.off).take xs.length, y.length = s ∧ y.all AV.one = true := fun y hy => t3 y (List.mem_of_mem_drop (List.mem_of_mem_take hy))
            exact ⟨_, [], reifyWW_RD t4 (fun y hy => (hs' y hy).2), t4, hs', by simp⟩
          | some rs =>
            have hsh' := hsh (by simp [isDeep1, e1])
            rw [q2] at hsh'
            simp only [D.shal1, D.shal0, Bool.and_eq_true] at hsh'
            obtain ⟨ys, rd, k1, k2, k3, k4⟩ := reifyWW_RO (A := c.okr rs) (fun x sz rows h => (r.frz x sz rows h).1) 3 t4 (fun y hy => t3 y (List.mem_of_mem_drop (List.mem_of_mem_take hy))) hsh'.2
            refine ⟨ys, rd, k1, k2, k3, fun x hx => ?_⟩
            rcases k4 x hx with h | ⟨s', p', h1, h2, h3⟩
            · exact .inl h
            · exact .inr ⟨s', p', h1, h2, by simp [rts1, e1, h3]⟩
        obtain ⟨a', rd, k1, k2, k3, k4⟩ := reify_own (n := 3) t1 hz' t2 t3 hw
        rw [← q3]
        exact ⟨a', rd, k1, k2, k3, k4, fun h => by cases h⟩
      · have hxs : xs = [] := by rw [hl0] at q3; simpa using q3
        subst hxs
        rcases ha with rfl | rfl
        · exact ⟨.nilS, [], rfl, .nilS, rfl, by simp, fun _ => rfl⟩
        · exact ⟨.emp true, [], rfl, .emp, rfl, by simp, fun _ => rfl⟩
    · cases hx
  · cases hx
    rw [hv.inv_nil]
    exact ⟨rfl, .nilS, [], rfl, .nilS, rfl, by simp, fun _ => rfl⟩
theorem toE1L_ok (r : Rel c S env H K mk) : ∀ {vs : List SV} {as : List AV} {xs : List E}, F2 (Cv c) vs as → toE1L S.heap vs = some xs → ((vs.any (isDeep1 S.heap)) = true → (denL c.ρ xs).all (D.shal1 4) = true) →
    uptoL c.ρ.length xs = true ∧ ∃ as' rd, reifyL H as = some (as', rd) ∧ F2 RD (denL c.ρ xs) as' ∧ as'.all AV.one = true ∧ (∀ y ∈ rd, c.okr (rtsL S.heap vs) y) ∧ (vs.any hasOwn1 = false → rd = [])
  | [], _, xs, h, hx, _ => by cases hx; cases h; exact ⟨rfl, [], [], rfl, .nil, rfl, by simp, fun _ => rfl⟩
  | v :: vs, as, xs, h, hx, hsh => by
    obtain ⟨a, t, rfl, ha, ht⟩ := F2.inv_cons h
    simp only [toE1L] at hx
    split at hx
    · rename_i y ys e1 e2
      cases hx
      have hsh1 : isDeep1 S.heap v = true → (y.den c.ρ).shal1 4 = true := fun hd => by
        have := hsh (by simp [hd])
        simp only [denL, List.all_cons, Bool.and_eq_true] at this
        exact this.1
      have hsh2 : (vs.any (isDeep1 S.heap)) = true → (denL c.ρ ys).all (D.shal1 4) = true := fun hd => by
        have := hsh (by rw [List.any_cons, hd, Bool.or_true])
        simp only [denL, List.all_cons, Bool.and_eq_true] at this
        exact this.2
      obtain ⟨g0, a', rd, g1, g2, g3, g4, g5⟩ := toE1_ok r ha e1 hsh1
      obtain ⟨k0, as', rds, k1, k2, k3, k4, k5⟩ := toE1L_ok r ht e2 hsh2
      refine ⟨by simp [uptoL, g0, k0], a' :: as', rd ++ rds, by simp [reifyL, g1, k1], .cons g2 k2, by simp [g3, k3], fun x hx => ?_, fun h => ?_⟩
      · rcases List.mem_append.1 hx with hx | hx
        · rcases g4 x hx with h | ⟨s, p, h1, h2, h3⟩
          · exact .inl h
          · exact .inr ⟨s, p, h1, h2, by simp [rtsL, h3]⟩
        · rcases k4 x hx with h | ⟨s, p, h1, h2, h3⟩
          · exact .inl h
          · exact .inr ⟨s, p, h1, h2, by simp [rtsL, h3]⟩
      · simp only [List.any_cons, Bool.or_eq_false_iff] at h
        rw [g5 h.1, k5 h.2]; rfl
    · cases hx
theorem plain1_ok {v : SV} {a : AV} {x : E} (hv : Cv c v a) (h : plain1 v = some x) : x.upto c.ρ.length = true ∧ RD (x.den c.ρ) a ∧ a.one = true := by
  cases v <;> simp only [plain1, reduceCtorEq] at h <;> cases h
  · exact hv.inv_e
  · have := hv.inv_nil
    subst this
    exact ⟨rfl, .nilS, rfl⟩
theorem flat1_of {d : D} {a : AV} (h : RD d a) (hf : d.flat0 = true) : a.flat1 = true := by
  cases h <;> first | rfl | cases hf
theorem flat1L_of : ∀ {d : List D} {a : List AV}, F2 RD d a → d.all D.flat0 = true → a.all AV.flat1 = true
  | _, _, .nil, _ => rfl
  | _, _, .cons h t, hf => by
    simp only [List.all_cons, Bool.and_eq_true] at hf ⊢
    exact ⟨flat1_of h hf.1, flat1L_of t hf.2⟩
theorem flat_of {d : D} {a : AV} (h : RD d a) (hf : d.flat = true) : a.flat = true := by
  cases h <;> first | rfl | (cases hf; done) | skip
  rename_i ds as h
  exact flat1L_of h hf
theorem plainLL_ok : ∀ {vs : List SV} {as : List AV} {xs : List E}, F2 (Cv c) vs as → plainLL vs = some xs → uptoL c.ρ.length xs = true ∧ F2 RD (denL c.ρ xs) as
  | [], _, xs, h, hx => by cases hx; cases h; exact ⟨rfl, .nil⟩
  | v :: vs, as, xs, h, hx => by
    obtain ⟨a, t, rfl, ha, ht⟩ := F2.inv_cons h
    unfold plainLL at hx
    split at hx
    · rename_i e; cases e
    · rename_i cs vs' e
      simp only [List.cons.injEq] at e
      obtain ⟨rfl, rfl⟩ := e
      split at hx
      · rename_i y ys e1 e2
        cases hx
        obtain ⟨bs, rfl, h1, h2⟩ := ha.inv_agg
        obtain ⟨g1, g2⟩ := plainL_ok h1 e1
        obtain ⟨k1, k2⟩ := plainLL_ok ht e2
        exact ⟨by simp [uptoL, E.upto, g1, k1], .cons (.node g2) k2⟩
      · cases hx
    · rename_i v' vs' hne e
      simp only [List.cons.injEq] at e
      obtain ⟨rfl, rfl⟩ := e
      split at hx
      · rename_i y ys e1 e2
        cases hx
        obtain ⟨g1, g2, -⟩ := plain1_ok ha e1
        obtain ⟨k1, k2⟩ := plainLL_ok ht e2
        exact ⟨by simp [uptoL, g1, k1], .cons g2 k2⟩
      · cases hx
theorem flatLL_of : ∀ {d : List D} {a : List AV}, F2 RD d a → (∀ x ∈ d, x.flat = true) → a.all AV.flat = true
  | _, _, .nil, _ => rfl
  | _, _, .cons h t, hf => by
    simp only [List.all_cons, Bool.and_eq_true]
    exact ⟨flat_of h (hf _ (by simp)), flatLL_of t fun x hx => hf x (by simp [hx])⟩
theorem mem_denL {ρ : List D} {xs : List E} {d : D} (h : d ∈ denL ρ xs) : ∃ x ∈ xs, d = x.den ρ := by
  obtain ⟨i, hi, e⟩ := List.getElem_of_mem h
  have h1 : (denL ρ xs)[i]? = some d := by rw [List.getElem?_eq_getElem hi, e]
  rw [denL_get] at h1
  cases e2 : xs[i]? with
  | none => rw [e2] at h1; cases h1
  | some x => rw [e2] at h1; cases h1; exact ⟨x, List.mem_of_getElem? e2, rfl⟩
theorem toE_ok (r : Rel c S env H K mk) {v : SV} {a : AV} {x : E} (hv : Cv c v a) (hx : toE S.heap v = some x) (hsh : isDeep S.heap v = true → (x.den c.ρ).shal 4 = true) (hpre : ∀ y ∈ preOf [x], (y.den c.ρ).flat = true) :
    x.upto c.ρ.length = true ∧ ∃ a' rd, reify H a = some (a', rd) ∧ RD (x.den c.ρ) a' ∧ (∀ y ∈ rd, c.okr (rtsV S.heap v) y) ∧ (hasOwn v = false → rd = []) := by
  by_cases hagg : ∃ cs, v = .agg cs
  · obtain ⟨cs, rfl⟩ := hagg
    obtain ⟨as, rfl, h1, h2⟩ := hv.inv_agg
    simp only [toE] at hx
    cases e1 : toE1L S.heap cs with
    | none => rw [e1] at hx; cases hx
    | some xs =>
      rw [e1] at hx; cases hx
      obtain ⟨g0, as', rd, g1, g2, g3, g4, g5⟩ := toE1L_ok r h1 e1 (fun hd => by
        have := hsh hd
        simpa [E.den, D.shal] using this)
      exact ⟨g0, .agg as', rd, by simp [reify, g1], .node g2, g4, g5⟩
  · by_cases hfn : ∃ f p q, v = .fn f p q
    · obtain ⟨f, p, q, rfl⟩ := hfn
      obtain ⟨as, bs, rfl, h1, h2⟩ := hv.inv_fn
      simp only [toE] at hx
      split at hx
      · rename_i e1 e2 p1 p2
        cases hx
        obtain ⟨g1, g2⟩ := plainLL_ok h1 p1
        obtain ⟨k1, k2⟩ := plainLL_ok h2 p2
        have hf1 : as.all AV.flat = true := flatLL_of g2 fun d hd => by
          obtain ⟨y, hy, rfl⟩ := mem_denL hd; exact hpre y (by simp [preOf, hy])
        have hf2 : bs.all AV.flat = true := flatLL_of k2 fun d hd => by
          obtain ⟨y, hy, rfl⟩ := mem_denL hd; exact hpre y (by simp [preOf, hy])
        exact ⟨by simp [E.upto, g1, k1], _, [], reifyD_noId (by simp [AV.noId, hf1, hf2]), .fn g2 k2 ⟨hf1, hf2⟩, by simp, fun _ => rfl⟩
      · cases hx
    · have hx' : toE1 S.heap v = some x := by cases v <;> first | exact hx | exact absurd ⟨_, rfl⟩ hagg | exact absurd ⟨_, _, _, rfl⟩ hfn
      have e1 : isDeep S.heap v = isDeep1 S.heap v := by cases v <;> first | rfl | exact absurd ⟨_, rfl⟩ hagg
      have e2 : rtsV S.heap v = rts1 S.heap v := by cases v <;> first | rfl | exact absurd ⟨_, rfl⟩ hagg
      have e3 : hasOwn v = hasOwn1 v := by cases v <;> first | rfl | exact absurd ⟨_, rfl⟩ hagg
      have ha : ∀ cs, a ≠ .agg cs := fun cs e => by
        subst e
        cases hv <;> first | exact hagg ⟨_, rfl⟩ | (simp [toE1] at hx'; done) | simp_all [AV.one]
      have hre : reify H a = reifyC H a := by cases a <;> first | rfl | exact absurd rfl (ha _)
      have hsh' : isDeep1 S.heap v = true → (x.den c.ρ).shal1 4 = true := fun hd => by
        have h4 := hsh (by rw [e1]; exact hd)
        cases hdx : x.den c.ρ <;> rw [hdx] at h4 <;> try exact h4
        -- a cell is no node
        rename_i ds
        exfalso
        cases v <;> simp only [toE1, reduceCtorEq] at hx' <;> simp only [isDeep1, Bool.false_eq_true, reduceCtorEq] at hd
        · cases hx'
          obtain ⟨-, q2, q3⟩ := hv.inv_fz
          rw [hdx] at q2
          cases q2 with
          | b h => cases h; cases q3
        · split at hx'
          · rename_i id s y dp e5
            cases hx'
            obtain ⟨p', g1, g2, g3, g4⟩ := r.blk e5
            obtain ⟨xs, q1, q2, -⟩ := g3
            rw [hdx] at q2; cases q2
          · cases hx'
      rw [e2, e3, hre]
      obtain ⟨g0, a', rd, g1, g2, g3, g4, g5⟩ := toE1_ok r hv hx' hsh'
      exact ⟨g0, a', rd, g1, g2, g4, g5⟩
end Go.Q
/- Calls of functions that have trees of their own: results. -/
set_option linter.unusedVariables false
set_option linter.unusedSimpArgs false
namespace Go.Q
open Go.V
variable {c c' : Cx} {S : SS} {env : List AV} {H H' : Heap} {K : List FC} {mk : List Nat}
variable {TT : FuncId → Option IFn} {cb : Cb} {Fs : FuncId → List D → Option D} {Sh : Shp} {ρ' : List D}

/-- What a result that is taken over brings. -/
def Att (c : Cx) (S : SS) (env : List AV) (H : Heap) (K : List FC) (mk : List Nat) (heap' : List HB) (wr : Wr) (nx : Nat) (P : Cx → Prop) : Prop :=
  ∃ c', c.le c' ∧ c'.ρ = c.ρ ∧ Rel c' { S with heap := heap' } env (wrH H wr nx) K mk ∧ P c' ∧ H.nx ≤ nx ∧ S.heap.length ≤ heap'.length ∧
    ∀ y ∈ wr.map (·.1), ¬ c.F0 y ∧ ∃ s p, c'.ψ s = some p ∧ p.idc = some y ∧ S.heap.length ≤ p.rt ∧ p.rt < heap'.length
theorem wrH_comp (H : Heap) (a b : Wr) (n m : Nat) (h : H.nx ≤ n) (h' : n ≤ m) : wrH (wrH H a n) b m = wrH H (a ++ b) m ∧ (wrH H a n).nx = n := by
  have : max H.nx n = n := Nat.max_eq_right h
  refine ⟨?_, by simp [wrH, this]⟩
  simp only [wrH, wrL, List.foldl_append, this, Nat.max_eq_right h', Nat.max_eq_right (Nat.le_trans h h')]
theorem Att.none (r : Rel c S env H K mk) {P : Cx → Prop} (h : P c) : Att c S env H K mk S.heap [] H.nx P :=
  ⟨c, Cx.le.refl c, rfl, by rw [wrH_nil]; exact r, h, Nat.le_refl _, Nat.le_refl _, by simp⟩
theorem Att.bind {h1 h2 : List HB} {w1 w2 : Wr} {n1 n2 : Nat} {P Q : Cx → Prop} (h : Att c S env H K mk h1 w1 n1 P)
    (k : ∀ c1, c.le c1 → c1.ρ = c.ρ → P c1 → Rel c1 { S with heap := h1 } env (wrH H w1 n1) K mk → Att c1 { S with heap := h1 } env (wrH H w1 n1) K mk h2 w2 n2 Q) : Att c S env H K mk h2 (w1 ++ w2) n2 Q := by
  obtain ⟨c1, le, hρ, r1, hp, hn, hl, hw⟩ := h
  obtain ⟨c2, le2, hρ2, r2, hq, hn2, hl2, hw2⟩ := k c1 le hρ hp r1
  have hnx : (wrH H w1 n1).nx = n1 := by simp [wrH]; omega
  rw [hnx] at hn2
  obtain ⟨e1, -⟩ := wrH_comp H w1 w2 n1 n2 hn hn2
  rw [e1] at r2
  refine ⟨c2, le.trans le2, hρ2.trans hρ, r2, hq, by omega, by simp at hl2; omega, fun y hy => ?_⟩
  rw [List.map_append] at hy
  rcases List.mem_append.1 hy with hy | hy
  · obtain ⟨q1, s, p, q2, q3, q4, q5⟩ := hw y hy
    exact ⟨q1, s, p, le2.ψ _ _ q2, q3, q4, by simp at hl2; omega⟩
  · obtain ⟨q1, s, p, q2, q3, q4, q5⟩ := hw2 y hy
    exact ⟨by rw [← le.F0]; exact q1, s, p, q2, q3, by simp at q4; omega, q5⟩
theorem RD.notFresh {d : D} {t : AV} (h : RD d t) : ∀ s xs, t ≠ .fresh s xs := by
  intro s xs e; subst e; cases h
theorem attachC_RD {d : D} {t : AV} (h : RD d t) (nx : Nat) : attachC nx t = (t, [], nx) := by
  cases h <;> rfl
theorem att1 (r : Rel c S env H K mk) {rs : RS} {d : D} {t : AV} {x : E} (h : RR1 rs d t) (hx : x.den c.ρ = d) (hu : x.upto c.ρ.length = true) :
    Att c S env H K mk (fromR1 x S.heap rs).2 (attachC H.nx t).2.1 (attachC H.nx t).2.2 fun c' => Cv c' (fromR1 x S.heap rs).1 (attachC H.nx t).1 ∧ (attachC H.nx t).1.one = true := by
  cases rs with
  | e =>
    obtain ⟨h1, h2⟩ := h
    rw [attachC_RD h1]
    exact Att.none r ⟨.e hu (by rw [hx]; exact h1) h2, h2⟩
  | own sz =>
    obtain ⟨f1, f2, f3⟩ := r.fresh
    rcases h with ⟨xs, rows, rfl, rfl, hs, h⟩ | ⟨rfl, ht⟩
    · have r2 := r.alloc (some (.row sz rows))
      let q : Pl := ⟨some H.nx, 0, rows.length, S.heap.length⟩
      have r3 := r2.add q (.list sz x none) (fun x hx => by
        cases hx
        exact ⟨by simp [wrH], f2, fun i q b' _ hq => f1 i q hq, fun i q hq hq' => absurd hq' (f1 i q hq)⟩)
        ⟨xs, hu, hx, h.len, fun hh => (by cases hh), fun y hy => (by
          cases hy
          exact ⟨rows, by rw [hget_wr1]; simp, by simp [q], hs, by have h' : F2 (F2 (Rk c none)) xs rows := h; simpa [q] using h'⟩)⟩
      have le3 := r2.le_add q
      refine ⟨_, le3, rfl, r3, ⟨.own (p := q) (by simp [Cx.add, fromR1]) rfl, rfl⟩, by simp [attachC], by simp [fromR1, hnew], fun y hy => ?_⟩
      simp only [attachC, List.map_cons, List.map_nil, List.mem_singleton] at hy
      subst hy
      exact ⟨f3, S.heap.length, q, by simp [Cx.add], rfl, by simp [q], by simp [q, fromR1, hnew]⟩
    · let q : Pl := ⟨none, 0, 0, S.heap.length⟩
      have r3 := r.add q (.list sz x none) (fun x hx => by cases hx) ⟨[], hu, hx, rfl, fun _ => rfl, fun y hy => (by cases hy)⟩
      have le3 := r.le_add q
      have e : attachC H.nx t = (t, [], H.nx) := by rcases ht with rfl | rfl <;> rfl
      rw [e]
      exact ⟨_, le3, rfl, by rw [wrH_nil]; exact r3, ⟨.ownE (p := q) (by simp [Cx.add, fromR1]) rfl ht, by rcases ht with rfl | rfl <;> rfl⟩, Nat.le_refl _, by simp [fromR1, hnew], by simp⟩
  | node => exact h.elim
  | tup => exact h.elim
theorem attL {x : E} : ∀ {rs : List RS} {ds : List D} {ts : List AV} {c : Cx} {S : SS} {H : Heap} (j : Nat), Rel c S env H K mk → RRL rs ds ts → (∀ (i : Nat) d, ds[i]? = some d → (mkCell x (j + i)).den c.ρ = d) → x.upto c.ρ.length = true →
    Att c S env H K mk (fromRL x j rs S.heap).2 (attachL H.nx ts).2.1 (attachL H.nx ts).2.2 fun c' => F2 (Cv c') (fromRL x j rs S.heap).1 (attachL H.nx ts).1 ∧ (attachL H.nx ts).1.all AV.one = true
  | [], [], [], c, S, H, j, r, _, _, _ => Att.none r ⟨.nil, rfl⟩
  | rs :: rss, d :: ds, t :: ts, c, S, H, j, r, h, hc, hu => by
    have h0 := hc 0 d rfl
    refine Att.bind (att1 r h.1 h0 (mkCell_upto hu)) fun c1 le hρ hp r1 => ?_
    obtain ⟨hp1, hp2⟩ := hp
    have hnx : (wrH H (attachC H.nx t).2.1 (attachC H.nx t).2.2).nx = (attachC H.nx t).2.2 := by
      have : H.nx ≤ (attachC H.nx t).2.2 := by cases t <;> simp [attachC]
      simp [wrH]; omega
    have ih := attL (S := { S with heap := (fromR1 (mkCell x j) S.heap rs).2 }) (j + 1) r1 h.2 (fun i d' hd => by
      rw [hρ]
      have := hc (i + 1) d' (by simpa using hd)
      rw [show j + 1 + i = j + (i + 1) by omega]; exact this) (le.upto hu)
    rw [hnx] at ih
    obtain ⟨c2, le2, hρ2, r2, ⟨k1, k2⟩, k3⟩ := ih
    exact ⟨c2, le2, hρ2, r2, ⟨.cons (Cv.mono le2 hp1) k1, by simp only [attachL, List.all_cons, hp2, k2, Bool.and_self]⟩, k3⟩
theorem RRL_len : ∀ {rs : List RS} {ds : List D} {ts : List AV}, RRL rs ds ts → ts.length = ds.length
  | [], [], [], _ => rfl
  | _ :: _, _ :: _, _ :: _, h => by simp [RRL_len h.2]
theorem att2 (r : Rel c S env H K mk) {rs : RS} {d : D} {t : AV} {x : E} (h : RR2 rs d t) (hx : x.den c.ρ = d) (hu : x.upto c.ρ.length = true) :
    Att c S env H K mk (fromR2 x S.heap rs).2 (attach1 H.nx t).2.1 (attach1 H.nx t).2.2 fun c' => Cv c' (fromR2 x S.heap rs).1 (attach1 H.nx t).1 := by
  by_cases hn : ∃ l, rs = .node l
  · obtain ⟨l, rfl⟩ := hn
    obtain ⟨ds, ts, rfl, rfl, h⟩ := h
    obtain ⟨c2, le2, hρ2, r2, ⟨k1, k2⟩, k3⟩ := attL (x := x) 0 r h (fun i d' hd => by rw [mkCell_den, hx]; simp [D.cells, List.getD_eq_getElem?_getD, hd]) hu
    exact ⟨c2, le2, hρ2, r2, .agg k1 k2, k3⟩
  · have h' : RR1 rs d t := by cases rs <;> first | exact h | exact absurd ⟨_, rfl⟩ hn
    have e1 : fromR2 x S.heap rs = fromR1 x S.heap rs := by cases rs <;> first | rfl | exact absurd ⟨_, rfl⟩ hn
    have e2 : attach1 H.nx t = attachC H.nx t := by
      cases t <;> first | rfl | skip
      exfalso
      cases rs <;> simp only [RR1] at h'
      · obtain ⟨h1, h2⟩ := h'; cases h2
      · rcases h' with ⟨xs, rows, -, e, -⟩ | ⟨-, e | e⟩ <;> cases e
    rw [e1, e2]
    obtain ⟨c2, le2, hρ2, r2, ⟨k1, k2⟩, k3⟩ := att1 r h' hx hu
    exact ⟨c2, le2, hρ2, r2, k1, k3⟩
theorem attach1_nx (nx : Nat) (t : AV) : nx ≤ (attach1 nx t).2.2 := by
  have hC : ∀ nx (t : AV), nx ≤ (attachC nx t).2.2 := fun nx t => by cases t <;> simp [attachC]
  have hL : ∀ (ts : List AV) nx, nx ≤ (attachL nx ts).2.2 := fun ts => by
    induction ts with
    | nil => intro nx; exact Nat.le_refl _
    | cons t ts ih => intro nx; exact Nat.le_trans (hC nx t) (ih _)
  cases t <;> first | exact hC nx _ | exact hL _ nx
theorem attM {x : E} : ∀ {rs : List RS} {ds : List D} {ts : List AV} {c : Cx} {S : SS} {H : Heap} (j : Nat), Rel c S env H K mk → RRM rs ds ts → (∀ (i : Nat) d, ds[i]? = some d → (mkCell x (j + i)).den c.ρ = d) → x.upto c.ρ.length = true →
    Att c S env H K mk (fromRM x j rs S.heap).2 (attachM H.nx ts).2.1 (attachM H.nx ts).2.2 fun c' => F2 (Cv c') (fromRM x j rs S.heap).1 (attachM H.nx ts).1
  | [], [], [], c, S, H, j, r, _, _, _ => Att.none r .nil
  | rs :: rss, d :: ds, t :: ts, c, S, H, j, r, h, hc, hu => by
    have h0 := hc 0 d rfl
    refine Att.bind (att2 r h.1 h0 (mkCell_upto hu)) fun c1 le hρ hp r1 => ?_
    have hnx : (wrH H (attach1 H.nx t).2.1 (attach1 H.nx t).2.2).nx = (attach1 H.nx t).2.2 := by
      have := attach1_nx H.nx t
      simp [wrH]; omega
    have ih := attM (S := { S with heap := (fromR2 (mkCell x j) S.heap rs).2 }) (j + 1) r1 h.2 (fun i d' hd => by
      rw [hρ]
      have := hc (i + 1) d' (by simpa using hd)
      rw [show j + 1 + i = j + (i + 1) by omega]; exact this) (le.upto hu)
    rw [hnx] at ih
    obtain ⟨c2, le2, hρ2, r2, k1, k3⟩ := ih
    exact ⟨c2, le2, hρ2, r2, .cons (Cv.mono le2 hp) k1, k3⟩
theorem attR (r : Rel c S env H K mk) {rs : RS} {d : D} {t : AV} {x : E} (h : RR rs d t) (hx : x.den c.ρ = d) (hu : x.upto c.ρ.length = true) :
    Att c S env H K mk (fromR x S.heap rs).2 (attach H.nx t).2.1 (attach H.nx t).2.2 fun c' => Cv c' (fromR x S.heap rs).1 (attach H.nx t).1 := by
  by_cases hn : ∃ l, rs = .tup l
  · obtain ⟨l, rfl⟩ := hn
    obtain ⟨ds, ts, rfl, rfl, h⟩ := h
    obtain ⟨c2, le2, hρ2, r2, k1, k3⟩ := attM (x := x) 0 r h (fun i d' hd => by rw [mkCell_den, hx]; simp [D.cells, List.getD_eq_getElem?_getD, hd]) hu
    exact ⟨c2, le2, hρ2, r2, .tup k1, k3⟩
  · have h' : RR2 rs d t := by cases rs <;> first | exact h | exact absurd ⟨_, rfl⟩ hn
    have e1 : fromR x S.heap rs = fromR2 x S.heap rs := by cases rs <;> first | rfl | exact absurd ⟨_, rfl⟩ hn
    have e2 : attach H.nx t = attach1 H.nx t := by
      cases t <;> first | rfl | skip
      exfalso
      cases rs with
      | e => obtain ⟨h1, h2⟩ := h'; cases h1
      | own sz => rcases h' with ⟨xs, rows, -, e, -⟩ | ⟨-, e | e⟩ <;> cases e
      | node l => obtain ⟨ds, ts, -, e, -⟩ := h'; cases e
      | tup l => exact hn ⟨_, rfl⟩
    rw [e1, e2]
    exact att2 r h' hx hu

/-! Results that hold nothing that the arguments held -/
theorem lst0_RD {d : D} {a : AV} (h : RD d a) (hf : d.flat = true) (h1 : a.one = true) : a.hasLst0 = false := by
  cases h <;> first | rfl | (cases hf; done)
theorem lst_cell {d : D} {a : AV} (h : RD d a) (hf : d.shal1 0 = true) : ∀ cs, hasLstL (a :: cs) = hasLstL cs := by
  intro cs
  cases h <;> first | rfl | (simp [D.shal1, D.shal0] at hf; done)
theorem lst_row : ∀ {ds : List D} {as : List AV}, F2 RD ds as → ds.all (D.shal1 0) = true → hasLstL as = false
  | _, _, .nil, _ => rfl
  | _, _, .cons h t, hf => by
    simp only [List.all_cons, Bool.and_eq_true] at hf
    rw [lst_cell h hf.1]; exact lst_row t hf.2
theorem lst1 {ρ : List D} {rs : RS} {d : D} {t : AV} {x : E} (h : RR1 rs d t) (hx : x.den ρ = d) (hf : ∀ y ∈ flats1 x rs, (y.den ρ).flat = true) (ho : ∀ y ∈ owns1 x rs, (y.den ρ).shal 1 = true) : t.hasLst0 = false := by
  cases rs with
  | e => exact lst0_RD h.1 (by rw [← hx]; exact hf x (by simp [flats1])) h.2
  | own sz =>
    rcases h with ⟨xs, rows, rfl, rfl, hs, h⟩ | ⟨rfl, rfl | rfl⟩ <;> try rfl
    have h1 := ho x (by simp [owns1])
    rw [hx] at h1
    simp only [D.shal, D.shal1, D.shal0, Bool.and_eq_true] at h1
    simp only [AV.hasLst0, List.any_eq_false]
    intro row hrow
    obtain ⟨i, hi, e⟩ := List.getElem_of_mem hrow
    obtain ⟨dx, q1, q2⟩ := h.getr (i := i) (b := row) (by rw [List.getElem?_eq_getElem hi, e])
    simp [lst_row q2 (List.all_eq_true.1 h1.2 dx (List.mem_of_getElem? q1))]
  | node => exact h.elim
  | tup => exact h.elim
theorem lstL {ρ : List D} {x : E} : ∀ {rs : List RS} {ds : List D} {ts : List AV} (j : Nat), RRL rs ds ts → (∀ (i : Nat) d, ds[i]? = some d → (mkCell x (j + i)).den ρ = d) → (∀ y ∈ flatsL x j rs, (y.den ρ).flat = true) → (∀ y ∈ ownsL x j rs, (y.den ρ).shal 1 = true) → ts.any AV.hasLst0 = false
  | [], [], [], j, _, _, _, _ => rfl
  | r :: rs, d :: ds, t :: ts, j, h, hc, hf, ho => by
    rw [List.any_cons, lst1 (x := mkCell x j) h.1 (hc 0 d rfl) (fun y hy => hf y (by simp [flatsL, hy])) (fun y hy => ho y (by simp [ownsL, hy])), Bool.false_or]
    exact lstL (j + 1) h.2 (fun i d' hd => by rw [show j + 1 + i = j + (i + 1) by omega]; exact hc (i + 1) d' (by simpa using hd)) (fun y hy => hf y (by simp [flatsL, hy])) (fun y hy => ho y (by simp [ownsL, hy]))
theorem lst2 {ρ : List D} {rs : RS} {d : D} {t : AV} {x : E} (h : RR2 rs d t) (hx : x.den ρ = d) (hf : ∀ y ∈ flats2 x rs, (y.den ρ).flat = true) (ho : ∀ y ∈ owns2 x rs, (y.den ρ).shal 1 = true) : t.hasLst1 = false := by
  by_cases hn : ∃ l, rs = .node l
  · obtain ⟨l, rfl⟩ := hn
    obtain ⟨ds, ts, rfl, rfl, h⟩ := h
    exact lstL 0 h (fun i d' hd => by rw [mkCell_den, hx]; simp [D.cells, List.getD_eq_getElem?_getD, hd]) hf ho
  · have h' : RR1 rs d t := by cases rs <;> first | exact h | exact absurd ⟨_, rfl⟩ hn
    have := lst1 h' hx (by cases rs <;> first | exact hf | exact absurd ⟨_, rfl⟩ hn) (by cases rs <;> first | exact ho | exact absurd ⟨_, rfl⟩ hn)
    cases t <;> first | exact this | skip
    cases rs <;> simp only [RR1] at h'
    · obtain ⟨h1, h2⟩ := h'; cases h2
    · rcases h' with ⟨xs, rows, -, e, -⟩ | ⟨-, e | e⟩ <;> cases e
theorem lstM {ρ : List D} {x : E} : ∀ {rs : List RS} {ds : List D} {ts : List AV} (j : Nat), RRM rs ds ts → (∀ (i : Nat) d, ds[i]? = some d → (mkCell x (j + i)).den ρ = d) → (∀ y ∈ flatsM x j rs, (y.den ρ).flat = true) → (∀ y ∈ ownsM x j rs, (y.den ρ).shal 1 = true) → ts.any AV.hasLst1 = false
  | [], [], [], j, _, _, _, _ => rfl
  | r :: rs, d :: ds, t :: ts, j, h, hc, hf, ho => by
    rw [List.any_cons, lst2 (x := mkCell x j) h.1 (hc 0 d rfl) (fun y hy => hf y (by simp [flatsM, hy])) (fun y hy => ho y (by simp [ownsM, hy])), Bool.false_or]
    exact lstM (j + 1) h.2 (fun i d' hd => by rw [show j + 1 + i = j + (i + 1) by omega]; exact hc (i + 1) d' (by simpa using hd)) (fun y hy => hf y (by simp [flatsM, hy])) (fun y hy => ho y (by simp [ownsM, hy]))
theorem lstR {ρ : List D} {rs : RS} {d : D} {t : AV} {x : E} (h : RR rs d t) (hx : x.den ρ = d) (hf : ∀ y ∈ flatsR x rs, (y.den ρ).flat = true) (ho : ∀ y ∈ ownsR x rs, (y.den ρ).shal 1 = true) : t.hasLst = false := by
  by_cases hn : ∃ l, rs = .tup l
  · obtain ⟨l, rfl⟩ := hn
    obtain ⟨ds, ts, rfl, rfl, h⟩ := h
    exact lstM 0 h (fun i d' hd => by rw [mkCell_den, hx]; simp [D.cells, List.getD_eq_getElem?_getD, hd]) hf ho
  · have h' : RR2 rs d t := by cases rs <;> first | exact h | exact absurd ⟨_, rfl⟩ hn
    have := lst2 h' hx (by cases rs <;> first | exact hf | exact absurd ⟨_, rfl⟩ hn) (by cases rs <;> first | exact ho | exact absurd ⟨_, rfl⟩ hn)
    cases t <;> first | exact this | skip
    cases rs with
    | e => obtain ⟨h1, h2⟩ := h'; cases h1
    | own sz => rcases h' with ⟨xs, rows, -, e, -⟩ | ⟨-, e | e⟩ <;> cases e
    | node l => obtain ⟨ds, ts, -, e, -⟩ := h'; cases e
    | tup l => exact absurd ⟨_, rfl⟩ hn

/-! The call -/
theorem preOf_cons (x : E) (xs : List E) : preOf (x :: xs) = preOf [x] ++ preOf xs := by cases x <;> simp [preOf]
theorem toEL_ok (r : Rel c S env H K mk) : ∀ {vs : List SV} {as : List AV} {xs : List E}, F2 (Cv c) vs as → toEL S.heap vs = some xs → (∀ x ∈ shalOf S.heap vs xs, (x.den c.ρ).shal 4 = true) → (∀ y ∈ preOf xs, (y.den c.ρ).flat = true) →
    uptoL c.ρ.length xs = true ∧ ∃ as' rd, reifyArgs H as = some (as', rd) ∧ F2 RD (denL c.ρ xs) as' ∧ (∀ y ∈ rd, c.okr (rtsVL S.heap vs) y) ∧ (vs.any hasOwn = false → rd = [])
  | [], _, xs, h, hx, _, _ => by cases hx; cases h; exact ⟨rfl, [], [], rfl, .nil, by simp, fun _ => rfl⟩
  | v :: vs, as, xs, h, hx, hsh, hpre => by
    obtain ⟨a, t, rfl, ha, ht⟩ := F2.inv_cons h
    simp only [toEL] at hx
    split at hx
    · rename_i y ys e1 e2
      cases hx
      rw [preOf_cons] at hpre
      obtain ⟨g0, a', rd, g1, g2, g4, g5⟩ := toE_ok r ha e1 (fun hd => hsh y (by simp [shalOf, hd])) (fun z hz => hpre z (by simp [hz]))
      obtain ⟨k0, as', rds, k1, k2, k4, k5⟩ := toEL_ok r ht e2 (fun z hz => hsh z (by
        simp only [shalOf]; split
        · simp [hz]
        · exact hz)) (fun z hz => hpre z (by simp [hz]))
      refine ⟨by simp [uptoL, g0, k0], a' :: as', rd ++ rds, by simp [reifyArgs, g1, k1], .cons g2 k2, fun x hx => ?_, fun h => ?_⟩
      · rcases List.mem_append.1 hx with hx | hx
        · rcases g4 x hx with h | ⟨s, p, h1, h2, h3⟩
          · exact .inl h
          · exact .inr ⟨s, p, h1, h2, by simp [rtsVL, h3]⟩
        · rcases k4 x hx with h | ⟨s, p, h1, h2, h3⟩
          · exact .inl h
          · exact .inr ⟨s, p, h1, h2, by simp [rtsVL, h3]⟩
      · simp only [List.any_cons, Bool.or_eq_false_iff] at h
        rw [g5 h.1, k5 h.2]; rfl
    · cases hx
/-- What is known of the functions that are called. -/
def Knows (TT : FuncId → Option IFn) (cb : Cb) (Fs : FuncId → List D → Option D) (Sh : Shp) : Prop :=
  ∀ f ds d args, Fs f ds = some d → F2 RD ds args → (∀ fn, TT f = some fn → fn.byref = false) ∧ (TT f).isSome = true ∧ ∃ t H' rs, cb (.pu f) args noH = some (t, H') ∧ Sh f = some rs ∧ RR rs d t
/-- What a call does. -/
def CallD (TT : FuncId → Option IFn) (cb : Cb) (c : Cx) (S : SS) (env : List AV) (H : Heap) (K : List FC) (mk : List Nat) (f : FuncId) (as : List AV) (ef : Ef) (ρ' : List D) : Prop :=
  ∃ v rd wr nx c', callOp TT cb f as H H.nx = some (.eff v rd wr nx) ∧ c.le c' ∧ c'.ρ = ρ' ∧ Rel c' { S with heap := ef.heap, n := emN ef.em S.n } env (wrH H wr nx) K mk ∧ Cv c' ef.v v ∧
    (∀ x ∈ rd, c'.okr ef.rd x) ∧ ∀ x ∈ wr.map (·.1), ¬ c.F0 x ∧ ∃ s p, c'.ψ s = some p ∧ p.idc = some x ∧ p.rt ∈ ef.wr
theorem callPu_ok (hk : Knows TT cb Fs Sh) (r : Rel c S env H K mk) {f : FuncId} {rs : RS} {args : List SV} {as : List AV} {ef : Ef} (hsh : Sh f = some rs) (h : callPu S f rs args = some ef) (ha : F2 (Cv c) args as) (hr : emR Fs ef.em c.ρ ρ') :
    CallD TT cb c S env H K mk f as ef ρ' := by
  unfold callPu at h
  split at h
  · rename_i es e1
    simp only [Option.some.injEq] at h
    subst h
    obtain ⟨h1, h2, d, h3, h4, h5, h6⟩ := hr
    obtain ⟨g0, as', rd, g1, g2, g3, g4⟩ := toEL_ok r ha e1 h1 h2
    obtain ⟨k1, k2, t, H', rs', k3, k4, k5⟩ := hk f _ d as' h3 g2
    rw [hsh] at k4; cases k4
    obtain ⟨le, r1⟩ := r.var d
    have hx : (E.v S.n).den (c.ρ ++ [d]) = d := by simp [E.den, r.n]
    have hu : (E.v S.n).upto (c.ρ ++ [d]).length = true := by simp [E.upto, r.n]
    obtain ⟨c2, le2, hρ2, r2, k6, hnx, hl, hw⟩ := attR r1 k5 hx hu
    obtain ⟨fn, hfn⟩ := Option.isSome_iff_exists.1 k2
    have hcond : rd = [] ∨ t.hasLst = false := by
      by_cases ho : args.any hasOwn = true
      · rw [if_pos ho] at h5 h6
        rw [h4] at h5 h6
        exact .inr (lstR k5 hx h5 h6)
      · exact .inl (g4 (by simpa using ho))
    refine ⟨_, rd, _, _, c2, ?_, le.trans le2, by rw [hρ2, h4], r2, k6, fun x hx => (le.trans le2).okr (g3 x hx), fun y hy => ?_⟩
    · simp only [callOp, hfn, k1 fn hfn, g1, k3]
      simp only [Bool.false_eq_true, if_false]
      rw [if_pos hcond]
    · obtain ⟨q1, s, p, q2, q3, q4, q5⟩ := hw y hy
      refine ⟨q1, s, p, q2, q3, ?_⟩
      simp only at q4 q5
      have hmem : (List.range (fromR (E.v S.n) S.heap rs).2.length)[p.rt]? = some p.rt := by rw [List.getElem?_range q5]
      rw [List.mem_iff_getElem?]
      refine ⟨p.rt - S.heap.length, ?_⟩
      rw [List.getElem?_drop, Nat.add_sub_cancel' q4]
      exact hmem
  · cases h
end Go.Q
/- Trees: how they are put together; one step. -/
set_option linter.unusedVariables false
set_option linter.unusedSimpArgs false
namespace Go.Q
open Go.V
variable {c c' : Cx} {S : SS} {env : List AV} {H H' : Heap} {K : List FC} {mk : List Nat}
variable {TT : FuncId → Option IFn} {cb : Cb} {Fs : FuncId → List D → Option D} {Sh : Shp} {ρ ρ' : List D} {m : Nat}

mutual
theorem shift_den (k : Nat) : ∀ (t : T) (ρ : List D), (t.shift k).den m Fs ρ = (t.den m Fs ρ).map fun p => (p.1 + k, p.2)
  | .fail, ρ => rfl
  | .leaf j, ρ => rfl
  | .op p as t, ρ => by
    simp only [T.shift, T.den]
    cases D.den1 p (denL ρ as) with
    | none => rfl
    | some d => exact shift_den k t _
  | .call f as t, ρ => by
    simp only [T.shift, T.den]
    cases Fs f (denL ρ as) with
    | none => rfl
    | some d => exact shift_den k t _
  | .callD g as t, ρ => by
    simp only [T.shift, T.den]
    cases g.den ρ <;> try rfl
    rename_i f a b
    simp only
    cases Fs f (a ++ denL ρ as ++ b) with
    | none => rfl
    | some d => exact shift_den k t _
  | .flat x t, ρ => by
    simp only [T.shift, T.den]
    split
    · exact shift_den k t _
    · rfl
  | .shal n x t, ρ => by
    simp only [T.shift, T.den]
    split
    · exact shift_den k t _
    · rfl
  | .ite x a b, ρ => by
    simp only [T.shift, T.den]
    cases x.den ρ <;> try rfl
    simp only
    split
    · exact shift_den k a _
    · exact shift_den k b _
  | .blk body outs ks, ρ => by
    simp only [T.shift, T.den]
    cases outOf outs (body.den m Fs ρ) with
    | none => rfl
    | some q => exact shiftK_den k ks _ _
  | .loop init body outs ks, ρ => by
    simp only [T.shift, T.den]
    cases iterD (fun vals => outOf outs (body.den m Fs (ρ ++ vals))) m (denL ρ init) with
    | none => rfl
    | some q => exact shiftK_den k ks _ _
theorem shiftK_den (k : Nat) : ∀ (ts : List T) (ρ : List D) (i : Nat), denK m Fs ρ (shiftL k ts) i = (denK m Fs ρ ts i).map fun p => (p.1 + k, p.2)
  | [], ρ, i => rfl
  | t :: ts, ρ, 0 => by simp only [shiftL, denK]; exact shift_den k t ρ
  | t :: ts, ρ, i + 1 => by simp only [shiftL, denK]; exact shiftK_den k ts ρ i
end
/-- The leaf that is come to, gone on from. -/
def goOn (m : Nat) (Fs : FuncId → List D → Option D) (us : List T) : Res → Res
  | some (j, ρ) => (us.getD j .fail).den m Fs ρ
  | none => none
mutual
theorem graft_den (us : List T) : ∀ (t : T) (ρ : List D), (t.graft us).den m Fs ρ = goOn m Fs us (t.den m Fs ρ)
  | .fail, ρ => rfl
  | .leaf j, ρ => rfl
  | .op p as t, ρ => by
    simp only [T.graft, T.den]
    cases D.den1 p (denL ρ as) with
    | none => rfl
    | some d => exact graft_den us t _
  | .call f as t, ρ => by
    simp only [T.graft, T.den]
    cases Fs f (denL ρ as) with
    | none => rfl
    | some d => exact graft_den us t _
  | .callD g as t, ρ => by
    simp only [T.graft, T.den]
    cases g.den ρ <;> try rfl
    rename_i f a b
    simp only
    cases Fs f (a ++ denL ρ as ++ b) with
    | none => rfl
    | some d => exact graft_den us t _
  | .flat x t, ρ => by
    simp only [T.graft, T.den]
    split
    · exact graft_den us t _
    · rfl
  | .shal n x t, ρ => by
    simp only [T.graft, T.den]
    split
    · exact graft_den us t _
    · rfl
  | .ite x a b, ρ => by
    simp only [T.graft, T.den]
    cases x.den ρ <;> try rfl
    simp only
    split
    · exact graft_den us a _
    · exact graft_den us b _
  | .blk body outs ks, ρ => by
    simp only [T.graft, T.den]
    cases outOf outs (body.den m Fs ρ) with
    | none => rfl
    | some q => exact graftK_den us ks _ _
  | .loop init body outs ks, ρ => by
    simp only [T.graft, T.den]
    cases iterD (fun vals => outOf outs (body.den m Fs (ρ ++ vals))) m (denL ρ init) with
    | none => rfl
    | some q => exact graftK_den us ks _ _
theorem graftK_den (us : List T) : ∀ (ts : List T) (ρ : List D) (i : Nat), denK m Fs ρ (graftL us ts) i = goOn m Fs us (denK m Fs ρ ts i)
  | [], ρ, i => rfl
  | t :: ts, ρ, 0 => by simp only [graftL, denK]; exact graft_den us t ρ
  | t :: ts, ρ, i + 1 => by simp only [graftL, denK]; exact graftK_den us ts ρ i
end
/-- A result is come to, with what is known there. -/
def At {α : Type} (m : Nat) (Fs : FuncId → List D → Option D) (r : R α) (ρ : List D) (a : α) (ρ' : List D) : Prop := ∃ j, r.t.den m Fs ρ = some (j, ρ') ∧ r.l[j]? = some a
theorem bindL_ok {α β : Type} {f : α → Option (R β)} : ∀ {as : List α} {k : Nat} {ts : List T} {bs : List β}, bindL f as k = some (ts, bs) → ts.length = as.length ∧
    ∀ {i : Nat} {a : α}, as[i]? = some a → ∃ r off, f a = some r ∧ ts[i]? = some (r.t.shift (k + off)) ∧ ∀ (j : Nat) b, r.l[j]? = some b → bs[off + j]? = some b
  | [], k, ts, bs, h => by cases h; exact ⟨rfl, fun h => by simp at h⟩
  | a0 :: as, k, ts, bs, h => by
    simp only [bindL] at h
    split at h
    · rename_i r e1
      split at h
      · rename_i ts' bs' e2
        cases h
        obtain ⟨g1, g2⟩ := bindL_ok e2
        refine ⟨by simp [g1], fun {i a} hi => ?_⟩
        cases i with
        | zero =>
          cases hi
          exact ⟨r, 0, e1, rfl, fun j b hb => by rw [Nat.zero_add, List.getElem?_append_left (List.getElem?_eq_some_iff.1 hb).1]; exact hb⟩
        | succ i =>
          obtain ⟨r', off, k1, k2, k3⟩ := g2 (i := i) (a := a) (by simpa using hi)
          refine ⟨r', r.l.length + off, k1, by simpa [Nat.add_assoc] using k2, fun j b hb => ?_⟩
          rw [List.getElem?_append_right (by omega), show r.l.length + off + j - r.l.length = off + j by omega]
          exact k3 j b hb
      · cases h
    · cases h
/-- Going on: what is come to, is come to by way of a first result. -/
theorem bind_at {α β : Type} {r : R α} {f : α → Option (R β)} {r' : R β} (h : r.bind f = some r') {j : Nat} (hd : r'.t.den m Fs ρ = some (j, ρ')) (hl : ∀ i ρ1, r.t.den m Fs ρ = some (i, ρ1) → ∃ a, r.l[i]? = some a) :
    ∃ a ρ1 ra, At m Fs r ρ a ρ1 ∧ f a = some ra ∧ ∃ j', ra.t.den m Fs ρ1 = some (j', ρ') ∧ ∀ b, ra.l[j']? = some b → r'.l[j]? = some b := by
  unfold R.bind at h
  split at h
  · rename_i ts bs e1
    cases h
    rw [graft_den] at hd
    cases e2 : r.t.den m Fs ρ with
    | none => rw [e2] at hd; cases hd
    | some q =>
      obtain ⟨i, ρ1⟩ := q
      rw [e2] at hd
      obtain ⟨a, ha⟩ := hl i ρ1 e2
      obtain ⟨-, g2⟩ := bindL_ok e1
      obtain ⟨ra, off, k1, k2, k3⟩ := g2 ha
      simp only [goOn, List.getD_eq_getElem?_getD, k2, Option.getD_some, shift_den] at hd
      cases e3 : ra.t.den m Fs ρ1 with
      | none => rw [e3] at hd; cases hd
      | some q' =>
        obtain ⟨j', ρ2⟩ := q'
        rw [e3] at hd
        simp only [Option.map_some, Option.some.injEq, Prod.mk.injEq] at hd
        obtain ⟨rfl, rfl⟩ := hd
        exact ⟨a, ρ1, ra, ⟨i, e2, ha⟩, k1, j', e3, fun b hb => by rw [Nat.zero_add, Nat.add_comm]; exact k3 j' b hb⟩
  · cases h
/-- All leaves that can be come to are there. -/
def Whole {α : Type} (m : Nat) (Fs : FuncId → List D → Option D) (r : R α) : Prop := ∀ ρ j ρ', r.t.den m Fs ρ = some (j, ρ') → ∃ a, r.l[j]? = some a
theorem flat_add {t : T} {q : Nat × List D} : ∀ {fl : List E}, (addFlat fl t).den m Fs ρ = some q → (∀ x ∈ fl, (x.den ρ).flat = true) ∧ t.den m Fs ρ = some q
  | [], h => ⟨by simp, h⟩
  | x :: xs, h => by
    simp only [addFlat, T.den] at h
    split at h
    · rename_i hx
      obtain ⟨g1, g2⟩ := flat_add (fl := xs) h
      exact ⟨fun y hy => by rcases List.mem_cons.1 hy with rfl | hy; exact hx; exact g1 y hy, g2⟩
    · cases h
theorem shal_add {n : Nat} {t : T} {q : Nat × List D} : ∀ {fl : List E}, (addShal n fl t).den m Fs ρ = some q → (∀ x ∈ fl, (x.den ρ).shal n = true) ∧ t.den m Fs ρ = some q
  | [], h => ⟨by simp, h⟩
  | x :: xs, h => by
    simp only [addShal, T.den] at h
    split at h
    · rename_i hx
      obtain ⟨g1, g2⟩ := shal_add (fl := xs) h
      exact ⟨fun y hy => by rcases List.mem_cons.1 hy with rfl | hy; exact hx; exact g1 y hy, g2⟩
    · cases h
theorem emT_den {em : Em} {t : T} {q : Nat × List D} (h : (emT em t).den m Fs ρ = some q) : ∃ ρ1, emR Fs em ρ ρ1 ∧ t.den m Fs ρ1 = some q := by
  cases em with
  | none => exact ⟨ρ, rfl, h⟩
  | prim p as =>
    simp only [emT, T.den] at h
    cases e : D.den1 p (denL ρ as) with
    | none => rw [e] at h; cases h
    | some d => rw [e] at h; exact ⟨_, ⟨d, e, rfl⟩, h⟩
  | call f as sh pre fl so =>
    obtain ⟨g1, h⟩ := shal_add h
    obtain ⟨g2, h⟩ := flat_add (fl := pre) h
    simp only [T.den] at h
    cases e : Fs f (denL ρ as) with
    | none => rw [e] at h; cases h
    | some d =>
      rw [e] at h
      obtain ⟨g3, h⟩ := flat_add (fl := fl) h
      obtain ⟨g4, h⟩ := shal_add h
      exact ⟨_, ⟨g1, g2, d, e, rfl, g3, g4⟩, h⟩
  | callD g as sh pre fl so =>
    obtain ⟨g1, h⟩ := shal_add h
    obtain ⟨g2, h⟩ := flat_add (fl := pre) h
    simp only [T.den] at h
    cases eg : g.den ρ <;> rw [eg] at h <;> try (cases h; done)
    rename_i f a b
    simp only at h
    cases e : Fs f (a ++ denL ρ as ++ b) with
    | none => rw [e] at h; cases h
    | some d =>
      rw [e] at h
      obtain ⟨g3, h⟩ := flat_add (fl := fl) h
      obtain ⟨g4, h⟩ := shal_add h
      exact ⟨_, ⟨g1, g2, f, a, b, d, eg, e, rfl, g3, g4⟩, h⟩

/-! A function that is data -/
theorem reify_flat1 {a : AV} (h : a.flat1 = true) : reifyC H a = some (a, []) := by
  have : a.noId = true := by cases a <;> first | rfl | cases h
  exact reifyD_noId this
theorem reifyL_flat : ∀ {as : List AV}, as.all AV.flat1 = true → reifyL H as = some (as, [])
  | [], _ => rfl
  | a :: as, h => by
    simp only [List.all_cons, Bool.and_eq_true] at h
    simp [reifyL, reify_flat1 h.1, reifyL_flat h.2]
theorem reify_flat {a : AV} (h : a.flat = true) : reify H a = some (a, []) := by
  cases a <;> try exact reify_flat1 h
  rename_i cs
  simp [reify, reifyL_flat (show cs.all AV.flat1 = true from h)]
theorem reifyArgs_flat : ∀ {as bs : List AV} {bs' : List AV} {rd : List Nat}, as.all AV.flat = true → reifyArgs H bs = some (bs', rd) → reifyArgs H (as ++ bs) = some (as ++ bs', rd)
  | [], bs, bs', rd, _, h => h
  | a :: as, bs, bs', rd, h, h' => by
    simp only [List.all_cons, Bool.and_eq_true] at h
    simp [reifyArgs, reify_flat h.1, reifyArgs_flat h.2 h']
theorem reifyArgs_flatR : ∀ {as bs : List AV} {as' : List AV} {rd : List Nat}, reifyArgs H as = some (as', rd) → bs.all AV.flat = true → reifyArgs H (as ++ bs) = some (as' ++ bs, rd)
  | [], bs, as', rd, h, hb => by
    cases h
    have := reifyArgs_flat (H := H) (as := bs) (bs := []) (bs' := []) (rd := []) hb rfl
    simpa using this
  | a :: as, bs, as', rd, h, hb => by
    simp only [reifyArgs] at h
    split at h
    · rename_i x r1 y r2 e1 e2
      cases h
      simp [reifyArgs, e1, reifyArgs_flatR e2 hb]
    · cases h
theorem callDyn_ok (hk : Knows TT cb Fs Sh) (r : Rel c S env H K mk) {g : E} {args : List SV} {as : List AV} {a : AV} {ef : Ef} (hg : g.upto c.ρ.length = true) (hgr : RD (g.den c.ρ) a) (h : callDyn S g args = some ef) (ha : F2 (Cv c) args as) (hr : emR Fs ef.em c.ρ ρ') : ∃ f first caps, a = .fn f first caps ∧ CallD TT cb c S env H K mk f (first ++ as ++ caps) ef ρ' := by
  unfold callDyn at h
  split at h
  · rename_i es e1
    simp only [Option.some.injEq] at h
    subst h
    obtain ⟨h1, h2, f, d1, d2, d, hgd, h3, h4, h5, h6⟩ := hr
    rw [hgd] at hgr
    cases hgr with
    | fn hf1 hf2 hff =>
    rename_i first caps
    refine ⟨f, first, caps, rfl, ?_⟩
    obtain ⟨g0, as', rd, g1, g2, g3, g4⟩ := toEL_ok r ha e1 h1 h2
    obtain ⟨k1, k2, t, H', rs', k3, k4, k5⟩ := hk f _ d (first ++ as' ++ caps) h3 ((hf1.append g2).append hf2)
    have hfl : d.flat0 = true := by
      have := h5 _ (List.mem_singleton.2 rfl)
      rw [h4] at this
      simpa [E.den, denL, D.flat, r.n] using this
    obtain ⟨le, r1⟩ := r.var d
    have hx : (E.v S.n).den (c.ρ ++ [d]) = d := by simp [E.den, r.n]
    have hu : (E.v S.n).upto (c.ρ ++ [d]).length = true := by simp [E.upto, r.n]
    have k5' : RD d t ∧ t.one = true := by
      cases rs' with
      | e => exact k5
      | own sz => rcases k5 with ⟨xs, rows, rfl, -⟩ | ⟨rfl, -⟩ <;> cases hfl
      | node l => obtain ⟨ds, ts, rfl, -⟩ := k5; cases hfl
      | tup l => obtain ⟨ds, ts, rfl, -⟩ := k5; cases hfl
    obtain ⟨fn, hfn⟩ := Option.isSome_iff_exists.1 k2
    have hre : reifyArgs H (first ++ as ++ caps) = some (first ++ as' ++ caps, rd) := reifyArgs_flatR (reifyArgs_flat hff.1 g1) hff.2
    have hcond : rd = [] ∨ t.hasLst = false := by
      right
      obtain ⟨q1, q2⟩ := k5'
      cases q1 <;> first | rfl | cases hfl | cases q2
    have hat : attach H.nx t = (t, [], H.nx) := by
      obtain ⟨q1, q2⟩ := k5'
      cases q1 <;> first | rfl | cases q2
    refine ⟨t, rd, [], H.nx, _, ?_, le, h4.symm, by rw [wrH_nil]; exact r1, .e hu (by rw [hx]; exact k5'.1) k5'.2, fun x hx => le.okr (g3 x hx), by simp⟩
    simp only [callOp, hfn, k1 fn hfn, hre, k3]
    simp only [Bool.false_eq_true, if_false]
    rw [if_pos hcond, hat]
  · cases h
end Go.Q
/- Places are numbered on. -/
set_option linter.unusedVariables false
set_option linter.unusedSimpArgs false
namespace Go.Q
open Go.V
variable {TT : FuncId → Option IFn} {cb : Cb}

def Cal.isPu : Cal → Bool
  | .pu _ => true
  | _ => false
def CbMono (cb : Cb) : Prop := ∀ cal as H a H', Cal.isPu cal = false → cb cal as H = some (a, H') → H.nx ≤ H'.nx
theorem wrH_mono (H : Heap) (wr : Wr) (nx : Nat) : H.nx ≤ (wrH H wr nx).nx := Nat.le_max_left _ _
theorem callOp_mono (hm : CbMono cb) {f : FuncId} {args : List AV} {H H' : Heap} {nx : Nat} {v : AV} (h : callOp TT cb f args H nx = some (.whole v H')) : H.nx ≤ H'.nx := by
  unfold callOp at h
  split at h
  · cases h
  · split at h
    · cases e : cb (.fn f) args H with
      | none => simp [e] at h
      | some p =>
        simp only [e, Option.bind_some] at h
        split at h
        · cases h
        · cases h; exact hm _ _ _ _ _ rfl e
    · split at h
      · split at h
        · split at h <;> cases h
        · cases h
      · cases h
theorem evalOp_mono (hm : CbMono cb) {env : List AV} {H H' : Heap} {nx : Nat} {io : PO} {v : AV} (h : evalOp TT cb env H nx io = some (.whole v H')) : H.nx ≤ H'.nx := by
  rcases evalOp_whole h with ⟨f, args, rfl, h⟩ | ⟨g, args, f, first, caps, rfl, -, h⟩ | ⟨g, args, id, rfl, ha, -⟩ | ⟨tbl, x, args, t, u, f, rfl, -, -, h⟩
  · exact callOp_mono hm h
  · exact callOp_mono hm h
  · simp only [evalOp, ha] at h
    cases e : cb (.yl id) (args.map (arg env)) H with
    | none => simp [e] at h
    | some p => simp only [e, Option.map_some, Option.some.injEq, OpR.whole.injEq] at h; obtain ⟨-, rfl⟩ := h; exact hm _ _ _ _ _ rfl e
  · exact callOp_mono hm h
theorem evalOps_mono (hm : CbMono cb) : ∀ {ops : List IOp} {st st' : St}, evalOps TT cb ops st = some st' → st.H.nx ≤ st'.H.nx
  | [], st, st', h => by cases h; exact Nat.le_refl _
  | o :: os, st, st', h => by
    simp only [evalOps] at h
    split at h
    · split at h
      · exact Nat.le_trans (wrH_mono _ _ _) (evalOps_mono hm h)
      · rename_i v H e; exact Nat.le_trans (evalOp_mono hm e) (evalOps_mono hm h)
      · cases h
    · have := evalOps_mono hm h; exact this
theorem evalDraw_mono : ∀ {ops : List IOp} {n : Nat} {fs : List Foot} {st st' : St}, evalDraw TT cb ops n fs st = some st' → st.H.nx ≤ st'.H.nx
  | [], n, fs, st, st', h => by cases h; exact Nat.le_refl _
  | o :: os, n, fs, st, st', h => by
    simp only [evalDraw] at h
    split at h
    · split at h
      · split at h
        · exact Nat.le_trans (wrH_mono _ _ _) (evalDraw_mono h)
        · cases h
      · split at h
        · exact Nat.le_trans (wrH_mono _ _ _) (evalDraw_mono h)
        · cases h
      · cases h
    · have := evalDraw_mono h; exact this
theorem evalX_mono (hm : CbMono cb) : ∀ {ops : List IOp} {r r' : RSt} {ex : Ex}, evalX TT cb ops r = some (ex, r') → r.st.H.nx ≤ r'.st.H.nx
  | [], r, r', ex, h => by cases h; exact Nat.le_refl _
  | o :: os, r, r', ex, h => by
    simp only [evalX] at h
    split at h
    · split at h
      · exact Nat.le_trans (wrH_mono _ _ _) (evalX_mono hm h)
      · rename_i v H e; exact Nat.le_trans (evalOp_mono hm e) (evalX_mono hm h)
      · split at h
        · have := evalX_mono hm h; exact this
        · split at h
          · rename_i p H e
            cases h
            have key : ∀ {f : FuncId} {args : List AV}, panCall TT cb f args r.st.H = some (p, H) → r.st.H.nx ≤ H.nx := fun {f args} e => by
              unfold panCall at e
              split at e
              · split at e
                · split at e
                  · rename_i e2; cases e; exact hm _ _ _ _ _ rfl e2
                  · cases e
                · cases e
              · cases e
            unfold panOp at e
            split at e
            · exact key e
            · split at e
              · exact key e
              · cases e
            · split at e
              · simp only [Option.map_eq_some_iff, Prod.mk.injEq] at e
                obtain ⟨_, _, -, rfl⟩ := e
                exact Nat.le_refl _
              · cases e
            · cases e
          · cases h
    · have := evalX_mono hm h; exact this
theorem iterX_mono {f : RSt → Option (Ex × RSt)} (hf : ∀ r ex r', f r = some (ex, r') → r.st.H.nx ≤ r'.st.H.nx) : ∀ {n : Nat} {r r' : RSt} {ex : Ex}, iter f n r = some (ex, r') → r.st.H.nx ≤ r'.st.H.nx
  | 0, r, r', ex, h => by cases h
  | n + 1, r, r', ex, h => by
    simp only [iter] at h
    split at h
    · rename_i st' e; exact Nat.le_trans (hf _ _ _ e) (iterX_mono hf h)
    · exact hf _ _ _ h
theorem run_mono (hm : CbMono cb) {m : Nat} {rd : Option Nat} : ∀ {code : IC} {r r' : RSt} {ex : Ex}, run TT cb m rd code r = some (ex, r') → r.st.H.nx ≤ r'.st.H.nx
  | .skip, r, r', ex, h => by cases h; exact Nat.le_refl _
  | .region ops draw, r, r', ex, h => by
    simp only [run] at h
    split at h
    · simp only [Option.map_eq_some_iff, Prod.mk.injEq] at h
      obtain ⟨s, e, -, rfl⟩ := h
      exact evalDraw_mono e
    · split at h
      · rename_i s e; cases h; exact evalOps_mono hm e
      · split at h
        · exact evalX_mono hm h
        · cases h
  | .seq a b, r, r', ex, h => by
    simp only [run] at h
    split at h
    · rename_i st' e; exact Nat.le_trans (run_mono hm e) (run_mono hm h)
    · exact run_mono hm h
  | .cond c a b, r, r', ex, h => by
    simp only [run] at h
    split at h
    · exact run_mono hm h
    · exact run_mono hm h
    · cases h
  | .block id c, r, r', ex, h => by
    simp only [run] at h
    split at h
    · rename_i id' st' e
      have := run_mono hm e
      split at h <;> cases h <;> exact this
    · exact run_mono hm h
  | .loop c, r, r', ex, h => by
    simp only [run] at h
    exact iterX_mono (fun r ex r' e => run_mono hm e) h
  | .exit id, r, r', ex, h => by cases h; exact Nat.le_refl _
  | .ret, r, r', ex, h => by cases h; exact Nat.le_refl _
  | .scope c, r, r', ex, h => by simp only [run] at h; exact run_mono hm h
  | .rangeF g ps a b, r, r', ex, h => by
    simp only [run] at h
    split at h
    · split at h
      · split at h
        · rename_i H1 id ds e1
          split at h
          · rename_i v H2 e2
            split at h
            · cases h
            · have h1 : r.st.H.nx ≤ H1.nx := by
                unfold enterH at e1
                split at e1
                · cases e1; exact wrH_mono _ _ _
                · split at e1
                  · cases e1; exact wrH_mono _ _ _
                  · cases e1
              have h2 := hm _ _ _ _ _ rfl e2
              unfold leaveH at h
              split at h
              · cases h
              · cases h
              · cases h; exact Nat.le_trans (Nat.le_trans h1 h2) (wrH_mono _ _ _)
              · cases h
          · cases h
        · cases h
      · cases h
    · cases h
  | .bad, r, r', ex, h => by cases h
theorem takeMarks_mono : ∀ {ds : List DE} {H H' : Heap}, takeMarks H ds = some H' → H.nx ≤ H'.nx
  | [], H, H', h => by cases h; exact Nat.le_refl _
  | .mk id :: ds, H, H', h => by
    simp only [takeMarks] at h
    split at h
    · exact Nat.le_trans (wrH_mono _ _ _) (takeMarks_mono h)
    · cases h
  | .fn _ _ :: ds, H, H', h => by cases h
theorem leaveX_mono (hm : CbMono cb) {fn : IFn} {env : List AV} : ∀ {ds : List DE} {md : Option Value} {H H' : Heap} {v : AV}, leaveX cb fn env md ds H = some (v, H') → H.nx ≤ H'.nx
  | [], none, H, H', v, h => by
    simp only [leaveX, Option.map_eq_some_iff, Prod.mk.injEq] at h
    obtain ⟨_, _, -, rfl⟩ := h; exact Nat.le_refl _
  | [], some p, H, H', v, h => by cases h; exact Nat.le_refl _
  | .mk id :: ds, md, H, H', v, h => by
    simp only [leaveX] at h
    split at h
    · exact Nat.le_trans (wrH_mono _ _ _) (leaveX_mono hm h)
    · cases h
  | .fn f args :: ds, md, H, H', v, h => by
    simp only [leaveX] at h
    split at h
    · rename_i H1 e; exact Nat.le_trans (hm _ _ _ _ _ rfl e) (leaveX_mono hm h)
    · rename_i H1 e; exact Nat.le_trans (hm _ _ _ _ _ rfl e) (leaveX_mono hm h)
    · cases h
theorem callBody_mono (hm : CbMono cb) {m : Nat} {f : FuncId} {args : List AV} {H H' : Heap} {v : AV} (h : callBody TT m cb f args H = some (v, H')) : H.nx ≤ H'.nx := by
  unfold callBody at h
  split at h
  · cases h
  · rename_i fn e0
    split at h
    · cases h
    · rename_i p r e
      exact Nat.le_trans (run_mono hm e) (leaveX_mono hm h)
    · rename_i r ex e hx
      have h1 := run_mono hm hx
      split at h
      · rename_i q e2
        cases h
        unfold leaveF at e2
        split at e2
        · rename_i H2 e3
          simp only [Option.map_eq_some_iff, Prod.mk.injEq] at e2
          obtain ⟨_, _, -, rfl⟩ := e2
          exact Nat.le_trans h1 (takeMarks_mono e3)
        · cases e2
      · exact Nat.le_trans h1 (leaveX_mono hm h)
    · cases h
theorem callRound_mono (hm : CbMono cb) {m : Nat} {id : Nat} {args : List AV} {H H' : Heap} {v : AV} (h : callRound TT m cb id args H = some (v, H')) : H.nx ≤ H'.nx := by
  unfold callRound at h
  split at h
  · split at h
    · split at h
      · rename_i r e1
        have h1 := run_mono hm e1
        split at h
        · rename_i r' e2
          have h2 : r.st.H.nx ≤ r'.st.H.nx := by
            unfold enterR at e2
            split at e2
            · cases e2; exact wrH_mono _ _ _
            · cases e2
          split at h
          · rename_i ex r'' e3
            have h3 := run_mono hm e3
            have h4 : r''.st.H.nx ≤ H'.nx := by
              unfold leaveR at h
              split at h
              · split at h
                · cases h; exact wrH_mono _ _ _
                · cases h
                · cases h; exact wrH_mono _ _ _
              · cases h
            simp only at h1
            omega
          · cases h
        · cases h
      · cases h
    · cases h
  · cases h
end Go.Q
/- Regions. -/
set_option linter.unusedVariables false
set_option linter.unusedSimpArgs false
namespace Go.Q
open Go.V
variable {c c' : Cx} {S : SS} {env : List AV} {H H' : Heap} {K : List FC} {mk : List Nat}
variable {TT : FuncId → Option IFn} {cb : Cb} {Fs : FuncId → List D → Option D} {Sh : Shp} {ρ ρ' : List D} {m : Nat}

/-- What holds at each leaf that is come to. -/
def Post {α : Type} (m : Nat) (Fs : FuncId → List D → Option D) (r : R α) (ρ : List D) (Q : α → List D → Prop) : Prop := ∀ j ρ', r.t.den m Fs ρ = some (j, ρ') → ∃ a, r.l[j]? = some a ∧ Q a ρ'
theorem Post.ret {α : Type} {a : α} {Q : α → List D → Prop} (h : Q a ρ) : Post m Fs (R.ret a) ρ Q := fun j ρ' hd => by
  simp only [R.ret, T.den, Option.some.injEq, Prod.mk.injEq] at hd
  obtain ⟨rfl, rfl⟩ := hd
  exact ⟨a, rfl, h⟩
theorem Post.mono {α : Type} {r : R α} {Q Q' : α → List D → Prop} (h : Post m Fs r ρ Q) (hq : ∀ a ρ', Q a ρ' → Q' a ρ') : Post m Fs r ρ Q' := fun j ρ' hd => by
  obtain ⟨a, h1, h2⟩ := h j ρ' hd
  exact ⟨a, h1, hq _ _ h2⟩
theorem Post.bind {α β : Type} {r : R α} {f : α → Option (R β)} {r' : R β} {Q : α → List D → Prop} {Q' : β → List D → Prop} (h : Post m Fs r ρ Q) (hb : r.bind f = some r') (hf : ∀ a ρ1 ra, Q a ρ1 → f a = some ra → Post m Fs ra ρ1 Q') : Post m Fs r' ρ Q' := fun j ρ' hd => by
  obtain ⟨a, ρ1, ra, ⟨i, g1, g2⟩, g3, j', g4, g5⟩ := bind_at hb hd fun i ρ1 h1 => (h i ρ1 h1).imp fun a ha => ha.1
  obtain ⟨a', q1, q2⟩ := h i ρ1 g1
  rw [g2] at q1; cases q1
  obtain ⟨b, q3, q4⟩ := hf a ρ1 ra q2 g3 j' ρ' g4
  exact ⟨b, g5 b q3, q4⟩
theorem Post.map {α β : Type} {r : R α} {f : α → β} {Q : β → List D → Prop} (h : Post m Fs r ρ fun a ρ' => Q (f a) ρ') : Post m Fs (mapR f r) ρ Q := fun j ρ' hd => by
  obtain ⟨a, h1, h2⟩ := h j ρ' hd
  exact ⟨f a, by simp [mapR, h1], h2⟩
theorem Post.em {α : Type} {em : Em} {r : R α} {Q : α → List D → Prop} (h : ∀ ρ1, emR Fs em ρ ρ1 → Post m Fs r ρ1 Q) : Post m Fs ⟨emT em r.t, r.l⟩ ρ Q := fun j ρ' hd => by
  obtain ⟨ρ1, h1, h2⟩ := emT_den hd
  exact h ρ1 h1 j ρ' h2
theorem Post.ite {α : Type} {x : E} {a b : R α} {Q : α → List D → Prop} (ha : x.den ρ = .bool true → Post m Fs a ρ Q) (hb : x.den ρ = .bool false → Post m Fs b ρ Q) : Post m Fs (R.ite x a b) ρ Q := fun j ρ' hd => by
  simp only [R.ite, T.den] at hd
  cases e : x.den ρ <;> rw [e] at hd <;> try (cases hd; done)
  rename_i bb
  cases bb
  · simp only [Bool.false_eq_true, if_false, shift_den] at hd
    cases e2 : b.t.den m Fs ρ with
    | none => rw [e2] at hd; cases hd
    | some q =>
      obtain ⟨j', ρ2⟩ := q
      rw [e2] at hd
      simp only [Option.map_some, Option.some.injEq, Prod.mk.injEq] at hd
      obtain ⟨rfl, rfl⟩ := hd
      obtain ⟨y, h1, h2⟩ := hb e j' ρ2 e2
      exact ⟨y, by simp only [R.ite]; rw [List.getElem?_append_right (by omega), Nat.add_sub_cancel]; exact h1, h2⟩
  · simp only [if_true] at hd
    obtain ⟨y, h1, h2⟩ := ha e j ρ' hd
    exact ⟨y, by simp only [R.ite]; rw [List.getElem?_append_left (List.getElem?_eq_some_iff.1 h1).1]; exact h1, h2⟩
theorem Post.fail {α : Type} {Q : α → List D → Prop} : Post m Fs (⟨.fail, []⟩ : R α) ρ Q := fun j ρ' hd => by cases hd
/-- What the loops over functions are that one stands in. -/
structure CxOK (cx : List CE) (κ : List Nat) (K : List FC) : Prop where
  len : cx.length = κ.length
  at_ : ∀ (k : Nat) (e : CE), cx[k]? = some e → ∃ id d, κ[k]? = some id ∧ ∃ as, K[e.pos]? = some (.rng id as e.ps e.a e.b d)
inductive CalR (c : Cx) : Cal → Cal → Prop
  | fn (f : FuncId) : CalR c (.fn f) (.fn f)
  | yl {k id : Nat} (h : c.κ[k]? = some id) : CalR c (.yl k) (.yl id)
/-- Calls that are gone through here. -/
def RefOK (m : Nat) (Fs : FuncId → List D → Option D) (cbS : SCall) (cb : Cb) : Prop :=
  ∀ {cx cal args S r}, cbS cx cal args S = some r → ∀ {c : Cx} {env H K mk}, Rel c S env H K mk → CxOK cx c.κ K → ∀ {as calC}, F2 (Cv c) args as → CalR c cal calC →
    Post m Fs r c.ρ fun p ρ' => ∃ a H' c', cb calC as H = some (a, H') ∧ a.isPan = false ∧ c'.κ = c.κ ∧ c'.ρ = ρ' ∧ Rel c' p.2 env H' K mk ∧ Cv c' p.1 a

/-! One step -/
theorem step_ef (hk : Knows TT cb Fs Sh) (r : Rel c S env H K mk) {io : PO} {f : Ef} (h : stepOp TT Sh S io = some (.ef f)) (hr : emR Fs f.em c.ρ ρ') : OpD TT cb c S env H K mk io f ρ' := by
  unfold stepOp at h
  split at h
  · rename_i g args
    split at h
    · rename_i fn e1
      split at h
      · cases h
      · cases e2 : Sh g with
        | none => rw [e2] at h; cases h
        | some rs =>
          rw [e2] at h
          simp only [Option.bind_some] at h
          cases e3 : callPu S g rs (args.map (sarg S.env)) with
          | none => rw [e3] at h; cases h
          | some ef =>
            rw [e3] at h
            simp only [Option.map_some, Option.some.injEq, OpS.ef.injEq] at h
            subst h
            exact callPu_ok hk r e2 e3 (sargL_ok r.env args) hr
    · cases h
  · rename_i g args
    have hv := sarg_ok r.env g
    split at h
    · rename_i f' first caps e0
      rw [e0] at hv
      obtain ⟨as, bs, ha, h1, h2⟩ := hv.inv_fn
      split at h
      · rename_i fn e1
        split at h
        · cases h
        · cases e2 : Sh f' with
          | none => rw [e2] at h; cases h
          | some rs =>
            rw [e2] at h
            simp only [Option.bind_some] at h
            cases e3 : callPu S f' rs (first ++ args.map (sarg S.env) ++ caps) with
            | none => rw [e3] at h; cases h
            | some ef =>
              rw [e3] at h
              simp only [Option.map_some, Option.some.injEq, OpS.ef.injEq] at h
              subst h
              obtain ⟨v, rd, wr, nx, c', q1, q⟩ := callPu_ok hk r e2 e3 ((h1.append (sargL_ok r.env args)).append h2) hr
              exact ⟨v, rd, wr, nx, c', by simp only [evalOp, ha]; exact q1, q⟩
      · cases h
    · cases h
    · rename_i x e0
      rw [e0] at hv
      obtain ⟨g1, g2, g3⟩ := hv.inv_e
      cases e3 : callDyn S x (args.map (sarg S.env)) with
      | none => rw [e3] at h; cases h
      | some ef =>
        rw [e3] at h
        simp only [Option.map_some, Option.some.injEq, OpS.ef.injEq] at h
        subst h
        obtain ⟨f', first, caps, ha, v, rd, wr, nx, c', q1, q⟩ := callDyn_ok hk r g1 g2 e3 (sargL_ok r.env args) hr
        exact ⟨v, rd, wr, nx, c', by simp only [evalOp, ha]; exact q1, q⟩
    · cases h
  · cases e : doOp S io with
    | none => rw [e] at h; cases h
    | some f' =>
      rw [e] at h
      simp only [Option.map_some, Option.some.injEq, OpS.ef.injEq] at h
      subst h
      exact doOp_ok r e hr
theorem step_ref (r : Rel c S env H K mk) {io : PO} {cal : Cal} {args : List SV} (h : stepOp TT Sh S io = some (.ref cal args)) :
    ∃ calC as, CalR c cal calC ∧ F2 (Cv c) args as ∧ (∀ a H', cb calC as H = some (a, H') → a.isPan = false → evalOp TT cb env H H.nx io = some (.whole a H')) ∧ Cal.isPu calC = false ∧ (ordC TT cal = true → evalD TT cb env H H.nx io = evalOp TT cb env H H.nx io) := by
  unfold stepOp at h
  split at h
  · rename_i g args'
    split at h
    · rename_i fn e1
      split at h
      · rename_i hb
        simp only [Option.some.injEq, OpS.ref.injEq] at h
        obtain ⟨rfl, rfl⟩ := h
        exact ⟨.fn g, _, .fn g, sargL_ok r.env args', (fun a H' q1 q2 => by simp [evalOp, callOp, e1, hb, q1, q2]), rfl, fun ho => by
          have ho : dmOf TT g = 2 := by simpa [ordC, dmOf] using ho
          simp only [evalD, refOp, e1, hb, if_true, ho]⟩
      · cases e2 : Sh g with
        | none => rw [e2] at h; cases h
        | some rs =>
          rw [e2] at h
          simp only [Option.bind_some] at h
          cases e3 : callPu S g rs (args'.map (sarg S.env)) <;> rw [e3] at h <;> cases h
    · cases h
  · rename_i g args'
    have hv := sarg_ok r.env g
    split at h
    · rename_i f' first caps e0
      rw [e0] at hv
      obtain ⟨as, bs, ha, h1, h2⟩ := hv.inv_fn
      split at h
      · rename_i fn e1
        split at h
        · rename_i hb
          simp only [Option.some.injEq, OpS.ref.injEq] at h
          obtain ⟨rfl, rfl⟩ := h
          exact ⟨.fn f', _, .fn f', (h1.append (sargL_ok r.env args')).append h2, (fun a H' q1 q2 => by simp only [evalOp, ha, callOp, e1, hb, if_true, q1, Option.bind_some, q2, Bool.false_eq_true, if_false]), rfl, fun ho => by
          have ho : dmOf TT f' = 2 := by simpa [ordC, dmOf] using ho
          simp only [evalD, refOp, ha, e1, hb, if_true, ho]⟩
        · cases e2 : Sh f' with
          | none => rw [e2] at h; cases h
          | some rs =>
            rw [e2] at h
            simp only [Option.bind_some] at h
            cases e3 : callPu S f' rs (first ++ args'.map (sarg S.env) ++ caps) <;> rw [e3] at h <;> cases h
      · cases h
    · rename_i id e0
      rw [e0] at hv
      obtain ⟨i, ha, hi⟩ := hv.inv_yld
      simp only [Option.some.injEq, OpS.ref.injEq] at h
      obtain ⟨rfl, rfl⟩ := h
      exact ⟨.yl i, _, .yl hi, sargL_ok r.env args', (fun a H' q1 q2 => by simp [evalOp, ha, q1, q2]), rfl, fun ho => by simp only [evalD, refOp, ha]⟩
    · cases e3 : callDyn S _ (args'.map (sarg S.env)) <;> rw [e3] at h <;> cases h
    · cases h
  · cases e : doOp S io <;> rw [e] at h <;> cases h
/-- Slots that are forgotten. -/
theorem prune_ok {mk' : Mask} : ∀ {vs : List SV} {as : List AV} (i : Nat), F2 (Cv c) vs as → F2 (Cv c) (prune mk' i vs) as
  | _, _, i, .nil => .nil
  | _, _, i, .cons h t => .cons (by split; exact h; exact .unk) (prune_ok (i + 1) t)
theorem Rel.prune (r : Rel c S env H K mk) (mk' : Mask) : Rel c (pruneS mk' S) env H K mk := r.slots (prune_ok 0 r.env)
/-- What is known of a guard. -/
def GdOK (c : Cx) (S : SS) (env : List AV) (H : Heap) (K : List FC) (mk : List Nat) (g : Option (Nat × Bool)) : Gd → Prop
  | .yes => wantedA env g = true
  | .no => wantedA env g = false
  | .ask x => ∃ j want, g = some (j, want) ∧ ∀ b, x.den c.ρ = .bool b → wantedA env g = (b == want) ∧ Rel c (setAt S j b) env H K mk
theorem wantS_ok (r : Rel c S env H K mk) {g : Option (Nat × Bool)} {gd : Gd} (h : wantS S.env g = some gd) : GdOK c S env H K mk g gd := by
  cases g with
  | none => cases h; rfl
  | some jw =>
    obtain ⟨j, want⟩ := jw
    simp only [wantS] at h
    have hv := sarg_ok r.env (.t j)
    simp only [sarg, arg_t] at hv
    split at h
    · rename_i b e
      rw [e] at hv
      obtain ⟨-, hd, -⟩ := hv.inv_e
      simp only [E.den] at hd
      generalize ha : env.getD j undefA = a at hd
      cases hd
      by_cases hb : (b == want) = true
      · rw [if_pos hb] at h
        cases h
        simp only [GdOK, wantedA, ha]; exact hb
      · rw [if_neg hb] at h
        cases h
        simp only [GdOK, wantedA, ha]; simpa using hb
    · rename_i d hne e
      cases h
      rw [e] at hv
      obtain ⟨-, hd, -⟩ := hv.inv_e
      simp only [E.den] at hd
      generalize ha : env.getD j undefA = a at hd
      simp only [GdOK, wantedA, ha]
      cases a <;> first | rfl | skip
      cases hd
      exact absurd rfl (hne _)
    · rename_i x hne e
      cases h
      rw [e] at hv
      refine ⟨j, want, rfl, fun b hb => ?_⟩
      obtain ⟨-, hd, -⟩ := hv.inv_e
      rw [hb] at hd
      generalize ha : env.getD j undefA = a at hd
      cases hd
      refine ⟨by simp only [wantedA, ha], r.slots ?_⟩
      have hj : ∀ {l : List SV} {as : List AV} (j : Nat), F2 (Cv c) l as → as.getD j undefA = .bool b → F2 (Cv c) (l.set j (.e (.c (.bool b)))) as := by
        intro l as j h
        induction h generalizing j with
        | nil => intro _; exact .nil
        | cons h1 t ih =>
          intro ha
          cases j with
          | zero =>
            simp only [List.getD_cons_zero] at ha
            subst ha
            exact .cons (.e rfl .bool rfl) t
          | succ j => exact .cons h1 (ih j (by simpa using ha))
      exact hj j r.env ha
    · rename_i vs e
      cases h
      rw [e] at hv
      obtain ⟨as, ha, -⟩ := hv.inv_tup
      simp only [GdOK, wantedA, ha]
    · cases h
theorem Rel.undef (r : Rel c S env H K mk) (dst : Option Nat) : Rel c { S with env := setS S.env dst undefS } (setD env dst undefA) H K mk := r.set (.tup .nil)
/-- An index that is told apart. -/
theorem forkOf_ok (r : Rel c S env H K mk) {io : PO} {len : Nat} {x : E} (h : forkOf S io = some (len, x)) {k : Nat} {kd : IntKind} (hx : x.den c.ρ = .int kd k) : evalOp TT cb env H H.nx (atK k io) = evalOp TT cb env H H.nx io := by
  unfold forkOf at h
  split at h
  · rename_i l sz a i
    split at h
    · cases h
    · rename_i y e1 e2 e3
      split at h
      · cases h
        have hv := sarg_ok r.env i
        rw [e3] at hv
        obtain ⟨-, hd, -⟩ := hv.inv_e
        rw [hx] at hd
        generalize ha : arg env i = w at hd
        cases hd
        simp only [atK, evalOp, show arg env (Arg.c (AV.int .i64 (k : Int))) = AV.int .i64 k from rfl, ha, idx]
      · cases h
    · cases h
  · rename_i l n sz a i
    split at h
    · cases h
    · rename_i y e1 e2 e3
      split at h
      · cases h
        have hv := sarg_ok r.env i
        rw [e3] at hv
        obtain ⟨-, hd, -⟩ := hv.inv_e
        rw [hx] at hd
        generalize ha : arg env i = w at hd
        cases hd
        simp only [atK, evalOp, show arg env (Arg.c (AV.int .i64 (k : Int))) = AV.int .i64 k from rfl, ha, idx]
      · cases h
    · cases h
  · cases h
theorem forkOf_upto (r : Rel c S env H K mk) {io : PO} {len : Nat} {x : E} (h : forkOf S io = some (len, x)) : x.upto c.ρ.length = true := by
  unfold forkOf at h
  split at h
  · rename_i l sz a i
    split at h
    · cases h
    · rename_i y e1 e2 e3
      split at h
      · cases h
        have hv := sarg_ok r.env i
        rw [e3] at hv
        exact hv.inv_e.1
      · cases h
    · cases h
  · rename_i l n sz a i
    split at h
    · cases h
    · rename_i y e1 e2 e3
      split at h
      · cases h
        have hv := sarg_ok r.env i
        rw [e3] at hv
        exact hv.inv_e.1
      · cases h
    · cases h
  · cases h
theorem forkR_ok {x : E} {go : Nat → SS → Option (R SS)} {len : Nat} {κ : List Nat} {Q : SS → List D → Prop} : ∀ (k : Nat) {S : SS} {c : Cx} {r : R SS}, forkR x go S len k = some r → Rel c S env H K mk → c.κ = κ → x.upto c.ρ.length = true →
    (∀ i {S' : SS} {c1 : Cx} {r' : R SS}, go i S' = some r' → Rel c1 S' env H K mk → c1.κ = κ → c.le c1 → S'.env = S.env → (∃ kd, x.den c1.ρ = .int kd i) → Post m Fs r' c1.ρ Q) → Post m Fs r c.ρ Q
  | 0, S, c, r, h, _, _, _, _ => by cases h; exact Post.fail
  | k + 1, S, c, r, h, hr, hκ, hu, hgo => by
    simp only [forkR] at h
    split at h
    · rename_i a b e1 e2
      cases h
      intro j ρ' hd
      simp only [T.den] at hd
      cases e3 : D.den1 (.isK (len - (k + 1))) (denL c.ρ [x]) with
      | none => rw [e3] at hd; cases hd
      | some d =>
        rw [e3] at hd
        obtain ⟨le, r1⟩ := hr.var d
        have hux : x.upto (c.ρ ++ [d]).length = true := le.upto hu
        have hdx : x.den (c.ρ ++ [d]) = x.den c.ρ := le.den hu
        have hv : (E.v S.n).den (c.ρ ++ [d]) = d := by simp [E.den, hr.n]
        refine Post.ite (x := .v S.n) (a := a) (b := b) (ρ := c.ρ ++ [d]) (fun ht => ?_) (fun hf => ?_) j ρ' hd
        · refine hgo (len - (k + 1)) e1 r1 hκ le rfl ?_
          rw [hv] at ht
          subst ht
          simp only [denL] at e3
          cases e4 : x.den c.ρ <;> rw [e4] at e3 <;> simp [D.den1] at e3
          rename_i kd n
          exact ⟨kd, by rw [show ({ c with ρ := c.ρ ++ [D.bool true] } : Cx).ρ = c.ρ ++ [D.bool true] from rfl, hdx, e4, e3]⟩
        · exact forkR_ok k e2 r1 hκ hux fun i {S' c1 r'} h1 h2 h3 h4 h5 h6 => hgo i h1 h2 h3 (le.trans h4) h5 h6
    · cases h
end Go.Q
/- Regions: in order; in any order. -/
set_option linter.unusedVariables false
set_option linter.unusedSimpArgs false
namespace Go.Q
open Go.V
variable {c c' : Cx} {S : SS} {env : List AV} {H H' : Heap} {K : List FC} {mk : List Nat}
variable {TT : FuncId → Option IFn} {cb : Cb} {Fs : FuncId → List D → Option D} {Sh : Shp} {ρ ρ' : List D} {m : Nat} {cbS : SCall} {cx : List CE}

/-- What holds behind operations. -/
def OpsQ (TT : FuncId → Option IFn) (cb : Cb) (K : List FC) (mk : List Nat) (κ : List Nat) (ops : List IOp) (st : St) (S' : SS) (ρ' : List D) : Prop :=
  ∃ c' env' H', evalOps TT cb ops st = some ⟨env', H'⟩ ∧ c'.κ = κ ∧ c'.ρ = ρ' ∧ Rel c' S' env' H' K mk
theorem evalOps_yes {o : IOp} {os : List IOp} {v : AV} {rd : List Nat} {wr : Wr} {nx : Nat} (hw : wantedA env o.guard = true) (he : evalOp TT cb env H H.nx o.op = some (.eff v rd wr nx)) : evalOps TT cb (o :: os) ⟨env, H⟩ = evalOps TT cb os ⟨setD env o.dst v, wrH H wr nx⟩ := by
  simp only [evalOps, hw, if_true, he]
theorem evalOps_whole {o : IOp} {os : List IOp} {v : AV} (hw : wantedA env o.guard = true) (he : evalOp TT cb env H H.nx o.op = some (.whole v H')) : evalOps TT cb (o :: os) ⟨env, H⟩ = evalOps TT cb os ⟨setD env o.dst v, H'⟩ := by
  simp only [evalOps, hw, if_true, he]
theorem evalOps_no {o : IOp} {os : List IOp} (hw : wantedA env o.guard = false) : evalOps TT cb (o :: os) ⟨env, H⟩ = evalOps TT cb os ⟨setD env o.dst undefA, H⟩ := by
  simp only [evalOps, hw, Bool.false_eq_true, if_false]
theorem opsS_ok (hk : Knows TT cb Fs Sh) (href : RefOK m Fs cbS cb) : ∀ (ops : List IOp) {out : Mask} {S : SS} {r : R SS}, opsS TT Sh cbS cx ops out S = some r → ∀ {c : Cx} {env : List AV} {H : Heap}, Rel c S env H K mk → CxOK cx c.κ K → Post m Fs r c.ρ (OpsQ TT cb K mk c.κ ops ⟨env, H⟩)
  | [], out, S, r, h, c, env, H, hr, _ => by cases h; exact Post.ret ⟨c, env, H, rfl, rfl, rfl, hr⟩
  | o :: os, out, S, r, h, c, env, H, hr, hcx => by
    -- an operation that is wanted
    have yes0 : ∀ (op : PO) {S : SS} {c : Cx} {r : R SS},
        (if isBad Sh S op then some ⟨.fail, []⟩ else match stepOp TT Sh S op with
          | some (.ef f) => (opsS TT Sh cbS cx os out { S with env := setS S.env o.dst f.v, heap := f.heap, n := emN f.em S.n }).map fun r => (⟨emT f.em r.t, r.l⟩ : R SS)
          | some (.ref c args) => match cbS cx c args (pruneS (mDel (mOps os out) (o.dst.getD 100000)) S) with
            | some r => r.bind fun p => opsS TT Sh cbS cx os out { p.2 with env := setS p.2.env o.dst p.1 }
            | none => none
          | none => none) = some r → Rel c S env H K mk → CxOK cx c.κ K → wantedA env o.guard = true → evalOp TT cb env H H.nx op = evalOp TT cb env H H.nx o.op → Post m Fs r c.ρ (OpsQ TT cb K mk c.κ (o :: os) ⟨env, H⟩) := by
      intro op S c r h hr hcx hw hop
      split at h
      · cases h; exact Post.fail
      · split at h
        · rename_i f e1
          cases e2 : opsS TT Sh cbS cx os out { S with env := setS S.env o.dst f.v, heap := f.heap, n := emN f.em S.n } with
          | none => rw [e2] at h; cases h
          | some r2 =>
            rw [e2] at h; cases h
            refine Post.em fun ρ1 hem => ?_
            obtain ⟨v, rd, wr, nx, c1, g1, g2, g3, g4, g5, -, -⟩ := step_ef (ρ' := ρ1) hk hr e1 hem
            have r1 := g4.set (dst := o.dst) g5
            have hκ : c1.κ = c.κ := g2.κ
            have ih := opsS_ok hk href os e2 r1 (by rw [hκ]; exact hcx)
            rw [g3, hκ] at ih
            refine ih.mono fun S' ρ' hq => ?_
            obtain ⟨c', env', H', q1, q2⟩ := hq
            exact ⟨c', env', H', by rw [evalOps_yes hw (by rw [← hop]; exact g1)]; exact q1, q2⟩
        · rename_i cal args e1
          split at h
          · rename_i r2 e2
            have hp := hr.prune (mDel (mOps os out) (o.dst.getD 100000))
            obtain ⟨calC, as, k1, k2, k3, -, -⟩ := step_ref (TT := TT) (cb := cb) hr e1
            refine Post.bind (href e2 hp hcx k2 k1) h fun p ρ1 ra hq hf => ?_
            obtain ⟨a, H1, c1, q1, q0, q2, q3, q4, q5⟩ := hq
            have r1 := q4.set (dst := o.dst) q5
            have ih := opsS_ok hk href os hf r1 (by rw [q2]; exact hcx)
            rw [q3, q2] at ih
            refine ih.mono fun S' ρ' hq => ?_
            obtain ⟨c', env', H', u1, u2⟩ := hq
            refine ⟨c', env', H', ?_, u2⟩
            rw [evalOps_whole hw (by rw [← hop]; exact k3 a H1 q1 q0)]
            exact u1
          · cases h
        · cases h
    have yes : ∀ {S : SS} {c : Cx} {r : R SS},
        (match forkOf S o.op with
          | some (len, x) => forkR x (fun k S => if isBad Sh S (atK k o.op) then some ⟨.fail, []⟩ else match stepOp TT Sh S (atK k o.op) with
            | some (.ef f) => (opsS TT Sh cbS cx os out { S with env := setS S.env o.dst f.v, heap := f.heap, n := emN f.em S.n }).map fun r => (⟨emT f.em r.t, r.l⟩ : R SS)
            | some (.ref c args) => match cbS cx c args (pruneS (mDel (mOps os out) (o.dst.getD 100000)) S) with
              | some r => r.bind fun p => opsS TT Sh cbS cx os out { p.2 with env := setS p.2.env o.dst p.1 }
              | none => none
            | none => none) S len len
          | none => if isBad Sh S o.op then some ⟨.fail, []⟩ else match stepOp TT Sh S o.op with
            | some (.ef f) => (opsS TT Sh cbS cx os out { S with env := setS S.env o.dst f.v, heap := f.heap, n := emN f.em S.n }).map fun r => (⟨emT f.em r.t, r.l⟩ : R SS)
            | some (.ref c args) => match cbS cx c args (pruneS (mDel (mOps os out) (o.dst.getD 100000)) S) with
              | some r => r.bind fun p => opsS TT Sh cbS cx os out { p.2 with env := setS p.2.env o.dst p.1 }
              | none => none
            | none => none) = some r → Rel c S env H K mk → CxOK cx c.κ K → wantedA env o.guard = true → Post m Fs r c.ρ (OpsQ TT cb K mk c.κ (o :: os) ⟨env, H⟩) := by
      intro S c r h hr hcx hw
      split at h
      · rename_i len x e1
        refine forkR_ok len h hr rfl (forkOf_upto hr e1) fun i S' c1 r' h1 h2 h3 h4 h5 h6 => ?_
        obtain ⟨kd, hx⟩ := h6
        have := yes0 (atK i o.op) h1 h2 (by rw [h3]; exact hcx) hw (by
          have e1' : forkOf S' o.op = some (len, x) := by rw [← e1]; unfold forkOf; rw [h5]
          exact forkOf_ok h2 e1' hx)
        rw [h3] at this
        exact this
      · exact yes0 o.op h hr hcx hw rfl
    have no : ∀ {S : SS} {c : Cx} {r : R SS}, opsS TT Sh cbS cx os out { S with env := setS S.env o.dst undefS } = some r → Rel c S env H K mk → CxOK cx c.κ K → wantedA env o.guard = false → Post m Fs r c.ρ (OpsQ TT cb K mk c.κ (o :: os) ⟨env, H⟩) := by
      intro S c r h hr hcx hw
      refine (opsS_ok hk href os h (hr.undef o.dst) hcx).mono fun S' ρ' hq => ?_
      obtain ⟨c', env', H', u1, u2⟩ := hq
      exact ⟨c', env', H', by rw [evalOps_no hw]; exact u1, u2⟩
    simp only [opsS] at h
    split at h
    · cases h
    · rename_i e; exact yes h hr hcx (wantS_ok hr e)
    · rename_i e; exact no h hr hcx (wantS_ok hr e)
    · rename_i x e
      obtain ⟨j, want, hg, hb⟩ := wantS_ok hr e
      rw [hg] at h
      simp only at h
      split at h
      · rename_i a b e1 e2
        cases h
        have hw : ∀ bb, x.den c.ρ = .bool bb → wantedA env o.guard = (bb == want) := fun bb hx => by rw [hg]; exact hg ▸ (hb bb hx).1
        cases want with
        | true =>
          simp only [if_true]
          exact Post.ite (fun hx => yes e1 (hb true hx).2 hcx (by rw [hw _ hx]; rfl)) (fun hx => no e2 (hb false hx).2 hcx (by rw [hw _ hx]; rfl))
        | false =>
          simp only [Bool.false_eq_true, if_false]
          exact Post.ite (fun hx => no e2 (hb true hx).2 hcx (by rw [hw _ hx]; rfl)) (fun hx => yes e1 (hb false hx).2 hcx (by rw [hw _ hx]; rfl))
      · cases h
end Go.Q
/- Regions that draw their order. -/
set_option linter.unusedVariables false
set_option linter.unusedSimpArgs false
namespace Go.Q
open Go.V
variable {c c' : Cx} {S : SS} {env : List AV} {H H' : Heap} {K : List FC} {mk : List Nat}
variable {TT : FuncId → Option IFn} {cb : Cb} {Fs : FuncId → List D → Option D} {Sh : Shp} {ρ ρ' : List D} {m : Nat} {cbS : SCall} {cx : List CE}

/-- What was touched, as it is told. -/
def FR (c : Cx) (f fc : Foot) : Prop := f.k = 2 ∨ (fc.k ≠ 2 ∧ (f.k = 0 → fc.k = 0 ∧ fc.rd = [] ∧ fc.wr = []) ∧ (∀ x ∈ fc.rd, c.okr f.rd x) ∧ ∀ x ∈ fc.wr, ¬ c.F0 x ∧ ∃ s p, c.ψ s = some p ∧ p.idc = some x ∧ p.rt ∈ f.wr)
theorem FR.mono (h : c.le c') {f fc : Foot} (hf : FR c f fc) : FR c' f fc := by
  rcases hf with hf | ⟨h1, h2, h3, h4⟩
  · exact .inl hf
  · exact .inr ⟨h1, h2, fun x hx => h.okr (h3 x hx), fun x hx => by
      obtain ⟨g1, s, p, g2, g3, g4⟩ := h4 x hx
      exact ⟨by rw [h.F0]; exact g1, s, p, h.ψ _ _ g2, g3, g4⟩⟩
theorem FR.past {f fc : Foot} (hf : FR c f fc) : FR c' (pastF f) fc := by
  unfold pastF
  by_cases h0 : f.k = 0
  · rw [if_pos (by simp [h0])]
    rcases hf with hf | ⟨h1, h2, h3, h4⟩
    · omega
    · obtain ⟨g1, g2, g3⟩ := h2 h0
      exact .inr ⟨h1, h2, by simp [g2], by simp [g3]⟩
  · rw [if_neg (by simpa using h0)]; exact .inl rfl
theorem FR.pastL : ∀ {fs fsC : List Foot}, F2 (FR c) fs fsC → F2 (FR c') (fs.map pastF) fsC
  | _, _, .nil => .nil
  | _, _, .cons h t => .cons h.past (FR.pastL t)
theorem callOp_noRef {f : FuncId} {fn : IFn} {args : List AV} {v : AV} {rd : List Nat} {wr : Wr} {nx nx' : Nat} (e : TT f = some fn) (hb : fn.byref = true) (h : callOp TT cb f args H nx = some (.eff v rd wr nx')) : False := by
  unfold callOp at h
  rw [e] at h
  simp only [hb, if_true] at h
  cases e2 : cb (.fn f) args H with
  | none => simp [e2] at h
  | some p => simp only [e2, Option.bind_some] at h; split at h <;> cases h
theorem evalD_eff {io : PO} {v : AV} {rd : List Nat} {wr : Wr} {nx nx' : Nat} (h : evalOp TT cb env H nx io = some (.eff v rd wr nx')) : evalD TT cb env H nx io = some (.eff v rd wr nx') := by
  unfold evalD
  cases e : refOp TT env io with
  | none => exact h
  | some q =>
    exfalso
    unfold refOp at e
    split at e
    · split at e
      · rename_i fn e1
        split at e
        · rename_i hb
          exact callOp_noRef e1 hb (by simpa only [evalOp] using h)
        · cases e
      · cases e
    · split at e
      · rename_i hv
        split at e
        · rename_i fn e1
          split at e
          · rename_i hb
            exact callOp_noRef e1 hb (by simpa only [evalOp, hv] using h)
          · cases e
        · cases e
      · cases e
    · split at e
      · rename_i hv
        split at e
        · rename_i hl
          split at e
          · rename_i fn e1
            split at e
            · rename_i hb
              exact callOp_noRef e1 hb (by simpa only [evalOp, hv, hl] using h)
            · cases e
          · cases e
        · cases e
      · cases e
    · cases e
theorem clash_ok (r : Rel c S env H K mk) {f fc g gc : Foot} (hf : FR c f fc) (hg : FR c g gc) (h : clash fc gc = true) : clash f g = true := by
  have quiet : ∀ {a ac b bc : Foot}, FR c b bc → b.k = 0 → bc.k = 0 ∧ bc.rd = [] ∧ bc.wr = [] := fun {a ac b bc} hb h0 => by
    rcases hb with hb | ⟨-, h2, -⟩
    · omega
    · exact h2 h0
  by_cases f2 : f.k = 2
  · by_cases g0 : g.k = 0
    · obtain ⟨k1, k2, k3⟩ := quiet (a := f) (ac := fc) hg g0
      simp [clash, k1, k2, k3] at h
    · simp [clash, f2, g0]
  by_cases g2 : g.k = 2
  · by_cases f0 : f.k = 0
    · obtain ⟨k1, k2, k3⟩ := quiet (a := g) (ac := gc) hf f0
      simp [clash, k1, k2, k3] at h
    · simp [clash, g2, f0]
  have hf := hf.resolve_left f2
  have hg := hg.resolve_left g2
  have hf : fc.k ≠ 2 ∧ (∀ x ∈ fc.rd, c.okr f.rd x) ∧ ∀ x ∈ fc.wr, ¬ c.F0 x ∧ ∃ s p, c.ψ s = some p ∧ p.idc = some x ∧ p.rt ∈ f.wr := ⟨hf.1, hf.2.2⟩
  have hg : gc.k ≠ 2 ∧ (∀ x ∈ gc.rd, c.okr g.rd x) ∧ ∀ x ∈ gc.wr, ¬ c.F0 x ∧ ∃ s p, c.ψ s = some p ∧ p.idc = some x ∧ p.rt ∈ g.wr := ⟨hg.1, hg.2.2⟩
  have key : ∀ {a ac b bc : Foot}, (∀ x ∈ ac.wr, ¬ c.F0 x ∧ ∃ s p, c.ψ s = some p ∧ p.idc = some x ∧ p.rt ∈ a.wr) → (∀ x ∈ bc.rd, c.okr b.rd x) → ∀ x, x ∈ ac.wr → x ∈ bc.rd → ∃ i, i ∈ a.wr ∧ i ∈ b.rd := by
    intro a ac b bc ha hb x h1 h2
    obtain ⟨g1, s, p, g2, g3, g4⟩ := ha x h1
    rcases hb x h2 with h | ⟨s', p', k1, k2, k3⟩
    · exact absurd h g1
    · exact ⟨p.rt, g4, by rw [r.rt _ _ _ _ _ g2 k1 g3 k2]; exact k3⟩
  have e1 : (fc.k == 2) = false := by simpa using hf.1
  have e2 : (gc.k == 2) = false := by simpa using hg.1
  simp only [clash, e1, e2, Bool.false_and, Bool.false_or, Bool.or_eq_true, List.any_eq_true, List.contains_eq_mem, decide_eq_true_eq] at h
  suffices hh : (∃ i, i ∈ f.wr ∧ (i ∈ g.rd ∨ i ∈ g.wr)) ∨ ∃ i, i ∈ g.wr ∧ i ∈ f.rd by
    simp only [clash, Bool.or_eq_true, List.any_eq_true, List.contains_eq_mem, decide_eq_true_eq]
    rcases hh with hh | hh
    · exact .inl (.inr hh)
    · exact .inr hh
  rcases h with ⟨x, h1, h2 | h2⟩ | ⟨x, h1, h2⟩
  · obtain ⟨i, q1, q2⟩ := key hf.2.2 hg.2.1 x h1 h2
    exact .inl ⟨i, q1, .inl q2⟩
  · obtain ⟨-, s, p, g2, g3, g4⟩ := hf.2.2 x h1
    obtain ⟨-, s', p', k2, k3, k4⟩ := hg.2.2 x h2
    exact .inl ⟨p.rt, g4, .inr (by rw [r.rt _ _ _ _ _ g2 k2 g3 k3]; exact k4)⟩
  · obtain ⟨i, q1, q2⟩ := key hg.2.2 hf.2.1 x h1 h2
    exact .inr ⟨i, q1, q2⟩
theorem foot_ok (r : Rel c S env H K mk) {f fc : Foot} (hf : FR c f fc) {bef : Nat} : ∀ {n : Nat} {fs fsC : List Foot}, F2 (FR c) fs fsC → footOK f bef n fs = true → footOK fc bef n fsC = true
  | n, [], _, .nil, _ => by cases n <;> rfl
  | 0, _ :: _, _, .cons _ _, h => by cases h
  | n + 1, g :: gs, gc :: gcs, .cons h1 t, h => by
    simp only [footOK, Bool.and_eq_true, Bool.or_eq_true, Bool.not_eq_true'] at h ⊢
    refine ⟨h.1.imp (fun h => h) (fun h => ?_), foot_ok r hf t h.2⟩
    cases e : clash gc fc with
    | false => rfl
    | true => rw [clash_ok r h1 hf e] at h; cases h
def DrawQ (TT : FuncId → Option IFn) (cb : Cb) (K : List FC) (mk : List Nat) (κ : List Nat) (ops : List IOp) (n : Nat) (fsC : List Foot) (st : St) (S' : SS) (ρ' : List D) : Prop :=
  ∃ c' env' H', evalDraw TT cb ops n fsC st = some ⟨env', H'⟩ ∧ c'.κ = κ ∧ c'.ρ = ρ' ∧ Rel c' S' env' H' K mk
theorem Rel.same (r : Rel c S env H K mk) (hg : ∀ x, hget H' x = hget H x) (hn : H'.nx = H.nx) : Rel c S env H' K mk := by
  refine r.mem (c' := c) (heap' := S.heap) (H' := H') (Cx.le.refl c) rfl (fun _ => False) (fun _ h => h.elim) (fun x hx _ => hg x) (by rw [hn]; exact Nat.le_refl _) r.hlen
    (fun id h hh => by
      obtain ⟨p, g1, g2, g3⟩ := r.heap id h hh
      exact ⟨p, g1, g2, fun b hb => ⟨(g3 b hb).1.mem fun x hx => hg x, (g3 b hb).2⟩⟩)
    r.inj r.rt (fun i p x h1 h2 => by rw [hn]; exact r.bnd i p x h1 h2) (fun x sz rows h1 h2 => by rw [h1] at h2; cases h2)
theorem refOp_atK (k : Nat) (io : PO) : refOp TT env (atK k io) = refOp TT env io := by cases io <;> rfl
theorem evalD_same {op op' : PO} (h1 : refOp TT env op = refOp TT env op') (h : evalOp TT cb env H H.nx op = evalOp TT cb env H H.nx op') : evalD TT cb env H H.nx op = evalD TT cb env H H.nx op' := by
  unfold evalD; rw [h1, h]
theorem drawS_ok (hk : Knows TT cb Fs Sh) (href : RefOK m Fs cbS cb) (hmo : CbMono cb) : ∀ (ops : List IOp) {n : Nat} {fs : List Foot} {S : SS} {r : R SS}, drawS TT Sh cbS cx ops n fs S = some r → ∀ {c : Cx} {env : List AV} {H : Heap} {fsC : List Foot}, Rel c S env H K mk → CxOK cx c.κ K → F2 (FR c) fs fsC → Post m Fs r c.ρ (DrawQ TT cb K mk c.κ ops n fsC ⟨env, H⟩)
  | [], n, fs, S, r, h, c, env, H, fsC, hr, _, _ => by cases h; exact Post.ret ⟨c, env, H, by simp [evalDraw], rfl, rfl, hr⟩
  | o :: os, n, fs, S, r, h, c, env, H, fsC, hr, hcx, hfs => by
    have yes0 : ∀ (op : PO) {S : SS} {c : Cx} {r : R SS},
        (if isBad Sh S op then some ⟨.fail, []⟩ else match stepOp TT Sh S op with
          | some (.ef f) => if footOK ⟨f.rd, f.wr, 1⟩ o.bef n fs then (drawS TT Sh cbS cx os (n + 1) (⟨f.rd, f.wr, 1⟩ :: fs) { S with env := setS S.env o.dst f.v, heap := f.heap, n := emN f.em S.n }).map fun r => (⟨emT f.em r.t, r.l⟩ : R SS) else none
          | some (.ref c args) => if ordC TT c && footOK ⟨[], [], 2⟩ o.bef n fs then match cbS cx c args S with
              | some r => r.bind fun p => drawS TT Sh cbS cx os (n + 1) (⟨[], [], 2⟩ :: fs.map pastF) { p.2 with env := setS p.2.env o.dst p.1 }
              | none => none
            else none
          | _ => none) = some r → Rel c S env H K mk → CxOK cx c.κ K → F2 (FR c) fs fsC → wantedA env o.guard = true → evalOp TT cb env H H.nx op = evalOp TT cb env H H.nx o.op → refOp TT env op = refOp TT env o.op → Post m Fs r c.ρ (DrawQ TT cb K mk c.κ (o :: os) n fsC ⟨env, H⟩) := by
      intro op S c r h hr hcx hfs hw hop hrf
      split at h
      · cases h; exact Post.fail
      · split at h
        · rename_i f e1
          split at h
          · rename_i hfo
            cases e2 : drawS TT Sh cbS cx os (n + 1) (⟨f.rd, f.wr, 1⟩ :: fs) { S with env := setS S.env o.dst f.v, heap := f.heap, n := emN f.em S.n } with
            | none => rw [e2] at h; cases h
            | some r2 =>
              rw [e2] at h; cases h
              refine Post.em fun ρ1 hem => ?_
              obtain ⟨v, rd, wr, nx, c1, g1, g2, g3, g4, g5, g6, g7⟩ := step_ef (ρ' := ρ1) hk hr e1 hem
              have r1 := g4.set (dst := o.dst) g5
              have hκ : c1.κ = c.κ := g2.κ
              have hk2 : kOf rd wr H nx ≠ 2 := by unfold kOf; split <;> omega
              have hfr : FR c1 ⟨f.rd, f.wr, 1⟩ ⟨rd, wr.map (·.1), kOf rd wr H nx⟩ := Or.inr ⟨hk2, (fun h0 => by cases h0), g6, fun x hx => by rw [g2.F0]; exact g7 x hx⟩
              have hfs1 : F2 (FR c1) fs fsC := hfs.mono fun _ _ h => h.mono g2
              have ih := drawS_ok hk href hmo os e2 r1 (by rw [hκ]; exact hcx) (F2.cons hfr hfs1)
              rw [g3, hκ] at ih
              refine ih.mono fun S' ρ' hq => ?_
              obtain ⟨c', env', H', q1, q2⟩ := hq
              refine ⟨c', env', H', ?_, q2⟩
              have ge : evalD TT cb env H H.nx o.op = some (.eff v rd wr nx) := evalD_eff (by rw [← hop]; exact g1)
              simp only [evalDraw, hw, if_true, ge]
              rw [if_pos (foot_ok r1 hfr hfs1 hfo)]
              exact q1
          · cases h
        · rename_i cal args e1
          split at h
          · rename_i hco
            simp only [Bool.and_eq_true] at hco
            split at h
            · rename_i r2 e2
              obtain ⟨calC, as, k1, k2, k3, k4, k5⟩ := step_ref (TT := TT) (cb := cb) hr e1
              refine Post.bind (href e2 hr hcx k2 k1) h fun p ρ1 ra hq hf => ?_
              obtain ⟨a, H1, c1, q1, q0, q2, q3, q4, q5⟩ := hq
              have hev := k3 a H1 q1 q0
              have hnx : H.nx ≤ H1.nx := hmo _ _ _ _ _ k4 q1
              have hge : evalD TT cb env H H.nx o.op = some (.whole a H1) := by
                have := k5 hco.1
                rw [hev] at this
                rw [← evalD_same hrf hop]
                exact this
              have hg : ∀ x, hget (wrH H (snap H H1) H1.nx) x = hget H1 x := fun x => by rw [hget_wrH, updH_snap]
              have hn : (wrH H (snap H H1) H1.nx).nx = H1.nx := by simp only [wrH]; exact Nat.max_eq_right hnx
              have r1 := (q4.set (dst := o.dst) q5).same hg hn
              have ih := drawS_ok hk href hmo os hf (fsC := ⟨[], (snap H H1).map (·.1), 2⟩ :: fsC) r1 (by rw [q2]; exact hcx) (F2.cons (.inl rfl) (FR.pastL hfs))
              rw [q3, q2] at ih
              refine ih.mono fun S' ρ' hq => ?_
              obtain ⟨c', env', H', u1, u2⟩ := hq
              refine ⟨c', env', H', ?_, u2⟩
              simp only [evalDraw, hw, if_true, hge]
              rw [if_pos (by rw [foot_ok hr (.inl rfl) hfs hco.2]; simpa using hnx)]
              exact u1
            · cases h
          · cases h
        · cases h
    have yes : ∀ {S : SS} {c : Cx} {r : R SS},
        (match forkOf S o.op with
          | some (len, x) => forkR x (fun k S => if isBad Sh S (atK k o.op) then some ⟨.fail, []⟩ else match stepOp TT Sh S (atK k o.op) with
            | some (.ef f) => if footOK ⟨f.rd, f.wr, 1⟩ o.bef n fs then (drawS TT Sh cbS cx os (n + 1) (⟨f.rd, f.wr, 1⟩ :: fs) { S with env := setS S.env o.dst f.v, heap := f.heap, n := emN f.em S.n }).map fun r => (⟨emT f.em r.t, r.l⟩ : R SS) else none
            | some (.ref c args) => if ordC TT c && footOK ⟨[], [], 2⟩ o.bef n fs then match cbS cx c args S with
                | some r => r.bind fun p => drawS TT Sh cbS cx os (n + 1) (⟨[], [], 2⟩ :: fs.map pastF) { p.2 with env := setS p.2.env o.dst p.1 }
                | none => none
              else none
            | _ => none) S len len
          | none => if isBad Sh S o.op then some ⟨.fail, []⟩ else match stepOp TT Sh S o.op with
            | some (.ef f) => if footOK ⟨f.rd, f.wr, 1⟩ o.bef n fs then (drawS TT Sh cbS cx os (n + 1) (⟨f.rd, f.wr, 1⟩ :: fs) { S with env := setS S.env o.dst f.v, heap := f.heap, n := emN f.em S.n }).map fun r => (⟨emT f.em r.t, r.l⟩ : R SS) else none
            | some (.ref c args) => if ordC TT c && footOK ⟨[], [], 2⟩ o.bef n fs then match cbS cx c args S with
                | some r => r.bind fun p => drawS TT Sh cbS cx os (n + 1) (⟨[], [], 2⟩ :: fs.map pastF) { p.2 with env := setS p.2.env o.dst p.1 }
                | none => none
              else none
            | _ => none) = some r → Rel c S env H K mk → CxOK cx c.κ K → F2 (FR c) fs fsC → wantedA env o.guard = true → Post m Fs r c.ρ (DrawQ TT cb K mk c.κ (o :: os) n fsC ⟨env, H⟩) := by
      intro S c r h hr hcx hfs hw
      split at h
      · rename_i len x e1
        refine forkR_ok len h hr rfl (forkOf_upto hr e1) fun i S' c1 r' h1 h2 h3 h4 h5 h6 => ?_
        obtain ⟨kd, hx⟩ := h6
        have := yes0 (atK i o.op) h1 h2 (by rw [h3]; exact hcx) (hfs.mono fun _ _ h => h.mono h4) hw (by
          have e1' : forkOf S' o.op = some (len, x) := by rw [← e1]; unfold forkOf; rw [h5]
          exact forkOf_ok h2 e1' hx) (refOp_atK i o.op)
        rw [h3] at this
        exact this
      · exact yes0 o.op h hr hcx hfs hw rfl rfl
    have no : ∀ {S : SS} {c : Cx} {r : R SS}, drawS TT Sh cbS cx os (n + 1) (⟨[], [], 0⟩ :: fs) { S with env := setS S.env o.dst undefS } = some r → Rel c S env H K mk → CxOK cx c.κ K → F2 (FR c) fs fsC → wantedA env o.guard = false → Post m Fs r c.ρ (DrawQ TT cb K mk c.κ (o :: os) n fsC ⟨env, H⟩) := by
      intro S c r h hr hcx hfs hw
      refine (drawS_ok hk href hmo os h (hr.undef o.dst) hcx (F2.cons (b := ⟨[], [], 0⟩) (.inr ⟨by simp, by simp, by simp, by simp⟩) hfs)).mono fun S' ρ' hq => ?_
      obtain ⟨c', env', H', u1, u2⟩ := hq
      exact ⟨c', env', H', by simp only [evalDraw, hw, Bool.false_eq_true, if_false]; exact u1, u2⟩
    simp only [drawS] at h
    split at h
    · cases h
    · rename_i e; exact yes h hr hcx hfs (wantS_ok hr e)
    · rename_i e; exact no h hr hcx hfs (wantS_ok hr e)
    · rename_i x e
      obtain ⟨j, want, hg, hb⟩ := wantS_ok hr e
      rw [hg] at h
      simp only at h
      split at h
      · rename_i a b e1 e2
        cases h
        have hw : ∀ bb, x.den c.ρ = .bool bb → wantedA env o.guard = (bb == want) := fun bb hx => by rw [hg]; exact hg ▸ (hb bb hx).1
        cases want with
        | true =>
          simp only [if_true]
          exact Post.ite (fun hx => yes e1 (hb true hx).2 hcx hfs (by rw [hw _ hx]; rfl)) (fun hx => no e2 (hb false hx).2 hcx hfs (by rw [hw _ hx]; rfl))
        | false =>
          simp only [Bool.false_eq_true, if_false]
          exact Post.ite (fun hx => no e2 (hb true hx).2 hcx hfs (by rw [hw _ hx]; rfl)) (fun hx => yes e1 (hb false hx).2 hcx hfs (by rw [hw _ hx]; rfl))
      · cases h
end Go.Q
