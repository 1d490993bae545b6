/- Code. -/
import Derived.Test.YtiailejekbnkgaaGreatJK
import Derived.Deep.Slices
import Derived.ChangeArms
import Derived.Below
import Derived.ProofKit
import Derived.OpenShut
import Derived.ChangeOld
import Derived.IntWalk
set_option linter.unusedVariables false
set_option linter.unusedSimpArgs false
namespace Go.Q
open Go.V
variable {c c' : Cx} {S P : SS} {env : List AV} {H H' : Heap} {K : List FC} {mk : List Nat}
variable {TT : FuncId → Option IFn} {cb : Cb} {Fs : FuncId → List D → Option D} {Sh : Shp} {ρ ρ' : List D} {m M : Nat} {cbS : SCall} {cx : List CE}

/-! Rounds that are known -/
mutual
theorem Cv.kap {κ' : List Nat} (h : ∀ (k : Nat) id, c.κ[k]? = some id → κ'[k]? = some id) : ∀ {v : SV} {a : AV}, Cv c v a → Cv { c with κ := κ' } v a
  | _, _, .e hx h1 h2 => .e hx h1 h2
  | _, _, .fz hx h1 h2 => .fz hx h1 h2
  | _, _, .agg h1 h2 => .agg (Cv.kapL h h1) h2
  | _, _, .tup h1 => .tup (Cv.kapL h h1)
  | _, _, .own h1 h2 => .own h1 h2
  | _, _, .ownE h1 h2 h3 => .ownE h1 h2 h3
  | _, _, .nil => .nil
  | _, _, .ptr h1 h2 => .ptr h1 h2
  | _, _, .ptrO h1 h2 hi h3 h4 h5 => .ptrO h1 h2 hi h3 h4 h5
  | _, _, .sufO h1 hi h3 h4 h5 ha => .sufO h1 hi h3 h4 h5 ha
  | _, _, .ptrE hx hi h1 h2 h3 h4 h5 h6 => .ptrE hx hi h1 h2 h3 h4 h5 h6
  | _, _, .ptrF hx hi h1 h2 h3 h4 h5 h6 h7 h8 h9 => .ptrF hx hi h1 h2 h3 h4 h5 h6 h7 h8 h9
  | _, _, .fn h1 h2 => .fn (Cv.kapL h h1) (Cv.kapL h h2)
  | _, _, .yld h1 => .yld (h _ _ h1)
  | _, _, .km => .km
  | _, _, .unk => .unk
theorem Cv.kapL {κ' : List Nat} (h : ∀ (k : Nat) id, c.κ[k]? = some id → κ'[k]? = some id) : ∀ {v : List SV} {a : List AV}, F2 (Cv c) v a → F2 (Cv { c with κ := κ' }) v a
  | _, _, .nil => .nil
  | _, _, .cons h1 t => .cons (Cv.kap h h1) (Cv.kapL h t)
end
mutual
theorem Cv.clean {κ' : List Nat} {n : Nat} (h : ∀ (k : Nat) id, k < n → c.κ[k]? = some id → κ'[k]? = some id) : ∀ {v : SV} {a : AV}, Cv c v a → Cv { c with κ := κ' } (cleanV n v) a
  | _, _, .e hx h1 h2 => .e hx h1 h2
  | _, _, .fz hx h1 h2 => .fz hx h1 h2
  | _, _, .agg h1 h2 => .agg (Cv.cleanL h h1) h2
  | _, _, .tup h1 => .tup (Cv.cleanL h h1)
  | _, _, .own h1 h2 => .own h1 h2
  | _, _, .ownE h1 h2 h3 => .ownE h1 h2 h3
  | _, _, .nil => .nil
  | _, _, .ptr h1 h2 => .ptr h1 h2
  | _, _, .ptrO h1 h2 hi h3 h4 h5 => .ptrO h1 h2 hi h3 h4 h5
  | _, _, .sufO h1 hi h3 h4 h5 ha => .sufO h1 hi h3 h4 h5 ha
  | _, _, .ptrE hx hi h1 h2 h3 h4 h5 h6 => .ptrE hx hi h1 h2 h3 h4 h5 h6
  | _, _, .ptrF hx hi h1 h2 h3 h4 h5 h6 h7 h8 h9 => .ptrF hx hi h1 h2 h3 h4 h5 h6 h7 h8 h9
  | _, _, .fn h1 h2 => .fn (Cv.cleanL h h1) (Cv.cleanL h h2)
  | .yld k, _, .yld h1 => by
    simp only [cleanV]
    split
    · rename_i hk; exact .yld (h _ _ hk h1)
    · exact .unk
  | _, _, .km => .km
  | _, _, .unk => .unk
theorem Cv.cleanL {κ' : List Nat} {n : Nat} (h : ∀ (k : Nat) id, k < n → c.κ[k]? = some id → κ'[k]? = some id) : ∀ {v : List SV} {a : List AV}, F2 (Cv c) v a → F2 (Cv { c with κ := κ' }) (Q.cleanL n v) a
  | _, _, .nil => .nil
  | _, _, .cons h1 t => .cons (Cv.clean h h1) (Cv.cleanL h t)
end
theorem Rel.kap {κ' : List Nat} (r : Rel c S env H K mk) (h : ∀ (k : Nat) id, c.κ[k]? = some id → κ'[k]? = some id) : Rel { c with κ := κ' } S env H K mk := by
  refine ⟨r.n, Cv.kapL h r.env, r.stk.mono fun fr k hf => ?_, r.hlen, fun id hb hh => ?_, r.inj, r.rt, r.bnd, r.frz, r.f0, r.rngs, r.mks⟩
  · cases k with
    | call as => exact Cv.kapL h hf
    | rng => exact ⟨hf.1, Cv.kapL h hf.2⟩
  · obtain ⟨p, g1, g2, g3⟩ := r.heap id hb hh
    refine ⟨p, g1, g2, fun b hb => ⟨?_, (g3 b hb).2⟩⟩
    have := (g3 b hb).1
    cases b with
    | cells cs => obtain ⟨x, as, h1, h2, h3, h4⟩ := this; exact ⟨x, as, h1, h2, Cv.kapL h h3, h4⟩
    | list sz x dp => exact this
theorem bget_clean {n : Nat} {heap : List HB} {i : Nat} {b : SB} (h : bget (heap.map (cleanB n)) i = some b) : ∃ b', bget heap i = some b' := by
  obtain ⟨x, g1, g2⟩ := bget_some.1 h
  rw [List.getElem?_map] at g1
  cases e : heap[i]? with
  | none => rw [e] at g1; cases g1
  | some y =>
    rw [e] at g1; cases g1
    obtain ⟨rt, b0⟩ := y
    cases b0 with
    | none => simp [cleanB] at g2
    | some b0 => exact ⟨b0, bget_some.2 ⟨_, e, rfl⟩⟩
theorem Rel.clean {κ' : List Nat} {n : Nat} (r : Rel c S env H K mk) (h : ∀ (k : Nat) id, k < n → c.κ[k]? = some id → κ'[k]? = some id) : Rel { c with κ := κ' } (cleanS n S) env H K mk := by
  refine ⟨r.n, Cv.cleanL h r.env, ?_, fun id p hp => by simp only [cleanS, List.length_map]; exact r.hlen id p hp, fun id hb hh => ?_, fun i i' p p' x b b' k1 k2 k3 k4 k5 k6 => ?_, r.rt, r.bnd, r.frz, r.f0, r.rngs, r.mks⟩
  · refine F2.of_get (by simp [cleanS, r.stk.len]) fun i fr k h1 h2 => ?_
    simp only [cleanS, List.getElem?_map] at h1
    cases e : S.stk[i]? with
    | none => rw [e] at h1; cases h1
    | some fr0 =>
      rw [e] at h1; cases h1
      obtain ⟨k', q1, q2⟩ := r.stk.get e
      rw [h2] at q1; cases q1
      cases k with
      | call as => exact Cv.cleanL h q2
      | rng => exact ⟨q2.1, Cv.cleanL h q2.2⟩
  · simp only [cleanS, List.getElem?_map] at hh
    cases e : S.heap[id]? with
    | none => rw [e] at hh; cases hh
    | some hb0 =>
      rw [e] at hh; cases hh
      obtain ⟨p, g1, g2, g3⟩ := r.heap id hb0 e
      obtain ⟨rt, b0⟩ := hb0
      cases b0 with
      | none => exact ⟨p, g1, g2, fun b hb => by cases hb⟩
      | some b0 =>
        have := (g3 b0 rfl).1
        cases b0 with
        | cells cs =>
          refine ⟨p, g1, g2, fun b hb => ⟨?_, (g3 _ rfl).2⟩⟩
          simp only [cleanB, Option.some.injEq] at hb
          subst hb
          obtain ⟨x, as, h1, h2, h3, h4⟩ := this
          have h5 := Cv.cleanL h h3
          exact ⟨x, as, h1, by rw [h5.len, ← h3.len]; exact h2, h5, h4⟩
        | list sz x dp => exact ⟨p, g1, g2, fun b hb => by cases hb; exact ⟨this, (g3 _ rfl).2⟩⟩
  · obtain ⟨_, q1⟩ := bget_clean k1
    obtain ⟨_, q2⟩ := bget_clean k2
    exact r.inj _ _ _ _ _ _ _ q1 q2 k3 k4 k5 k6

/-! Code -/
def RdOK (κ : List Nat) (K : List FC) : Option Nat → Option Nat → Prop
  | none, rdC => rdC = none
  | some k, rdC => ∃ (id pos : Nat) (as : List AV) (ps : List Nat) (a b : IC) (d : Nat), κ[k]? = some id ∧ rdC = some id ∧ K[pos]? = some (FC.rng id as ps a b d)
theorem setAt_ok (r : Rel c S env H K mk) {j : Nat} {x : E} {b : Bool} (e : sget S.env j = .e x) (hb : x.den c.ρ = .bool b) : env.getD j undefA = .bool b ∧ Rel c (setAt S j b) env H K mk := by
  have hv := sarg_ok r.env (.t j)
  simp only [sarg, arg_t] at hv
  rw [e] at hv
  obtain ⟨-, hd, -⟩ := hv.inv_e
  rw [hb] at hd
  generalize ha : env.getD j undefA = a at hd
  cases hd
  refine ⟨rfl, r.slots ?_⟩
  have hj : ∀ {l : List SV} {as : List AV} (j : Nat), F2 (Cv c) l as → as.getD j undefA = .bool b → F2 (Cv c) (l.set j (.e (.c (.bool b)))) as := by
    intro l as j h
    induction h generalizing j with
    | nil => intro _; exact .nil
    | cons h1 t ih =>
      intro ha
      cases j with
      | zero =>
        simp only [List.getD_cons_zero] at ha
        subst ha
        exact .cons (.e rfl .bool rfl) t
      | succ j => exact .cons h1 (ih j (by simpa using ha))
  exact hj j r.env ha
theorem enterH_ok {κ : List Nat} {rd rdC : Option Nat} {ds : List Nat} (r : Rel c S env H K mk) (hrd : RdOK κ K rd rdC) (ps : List Nat) (a b : IC) : ∃ H1 id ds1 d, enterH rdC H env ps a b = some (H1, id, marksD ds1) ∧ hget H1 id = some (.loop env ps a b .ready .normal d) ∧ (∀ x, x < H.nx → hget H1 x = hget H x) ∧ H.nx ≤ H1.nx ∧ id < H1.nx ∧ H.nx ≤ id ∧ (∀ x ∈ ds1, hget H1 x = some .mark ∧ H.nx ≤ x ∧ x < H1.nx) ∧ ds1.Nodup := by
  have hnone : ∃ H1 id ds1 d, enterH none H env ps a b = some (H1, id, marksD ds1) ∧ hget H1 id = some (.loop env ps a b .ready .normal d) ∧ (∀ x, x < H.nx → hget H1 x = hget H x) ∧ H.nx ≤ H1.nx ∧ id < H1.nx ∧ H.nx ≤ id ∧ (∀ x ∈ ds1, hget H1 x = some .mark ∧ H.nx ≤ x ∧ x < H1.nx) ∧ ds1.Nodup := by
    refine ⟨_, _, [H.nx], H.nx, rfl, by rw [wrH_two]; simp, fun x hx => ?_, by simp [wrH] <;> omega, by simp [wrH] <;> omega, by omega, fun x hx => ?_, by simp⟩
    · rw [wrH_two]; simp only; rw [if_neg (by omega), if_neg (by omega)]
    · simp only [List.mem_singleton] at hx; subst hx
      exact ⟨by rw [wrH_two]; simp, Nat.le_refl _, by simp [wrH] <;> omega⟩
  cases rd with
  | none =>
    have : rdC = none := hrd
    subst this
    exact hnone
  | some k =>
    obtain ⟨id, pos, as, ps', a', b', d, h1, rfl, h3⟩ := hrd
    obtain ⟨fr, g1, g2⟩ := r.stk.getr h3
    obtain ⟨g3, g4⟩ := g2
    refine ⟨wrH H [(H.nx, some (.loop env ps a b .ready .normal d))] (H.nx + 1), H.nx, [], d, by simp [enterH, g3, marksD], by rw [hget_wr1]; simp, fun x hx => ?_, by simp [wrH], by simp [wrH], by omega, by simp, by simp⟩
    rw [hget_wr1]; simp only; rw [if_neg (by omega)]
theorem getElem?_app1 {α : Type} {l : List α} {a : α} {i : Nat} {b : α} (h : l[i]? = some b) : (l ++ [a])[i]? = some b := by
  rw [List.getElem?_append_left (List.getElem?_eq_some_iff.1 h).1]; exact h
theorem CxOK.push {κ : List Nat} (h : CxOK cx κ K) (k : FC) : CxOK cx κ (K ++ [k]) := ⟨h.len, fun i e he => by
  obtain ⟨id, d, h1, as, h2⟩ := h.at_ i e he
  exact ⟨id, d, h1, as, getElem?_app1 h2⟩⟩
theorem rngIds_app : ∀ {K K' : List FC}, rngIds (K ++ K') = rngIds K ++ rngIds K'
  | [], K' => rfl
  | .call _ :: K, K' => by simp [rngIds, rngIds_app (K := K)]
  | .rng .. :: K, K' => by simp [rngIds, rngIds_app (K := K)]
theorem F2.take_app {α β : Type} {R : α → β → Prop} {as : List α} {bs : List β} {b : β} (h : F2 R as (bs ++ [b])) : F2 R (as.take bs.length) bs := by
  have := h.take bs.length
  simpa using this
theorem exec_ok (hk : Knows TT cb Fs Sh) (href : RefOK m Fs cbS cb) (hmo : CbMono cb) (hM : m + 40 ≤ M) : ∀ (code : IC) {cx : List CE} {rd : Option Nat} {exits : List (Nat × Mask)} {rt out : Mask} {S : SS} {r : R Lf}, exec TT Sh cbS cx rd exits rt code out S = some r →
    ∀ {c : Cx} {env : List AV} {H : Heap} {ds : List Nat} {rdC : Option Nat}, Rel c S env H K (ds ++ mk) → CxOK cx c.κ K → RdOK c.κ K rd rdC → Post m Fs r c.ρ (LfQ K mk c.κ (run TT cb M rdC code ⟨⟨env, H⟩, marksD ds⟩))
  | .skip, cx, rd, exits, rt, out, S, r, h, c, env, H, ds, rdC, hr, _, _ => by cases h; exact Post.ret ⟨c, env, H, ds, rfl, rfl, rfl, hr⟩
  | .bad, cx, rd, exits, rt, out, S, r, h, c, env, H, ds, rdC, hr, _, _ => by cases h; exact Post.fail
  | .exit id, cx, rd, exits, rt, out, S, r, h, c, env, H, ds, rdC, hr, _, _ => by cases h; exact Post.ret ⟨c, env, H, ds, rfl, rfl, rfl, hr.prune _⟩
  | .ret, cx, rd, exits, rt, out, S, r, h, c, env, H, ds, rdC, hr, _, _ => by cases h; exact Post.ret ⟨c, env, H, ds, rfl, rfl, rfl, hr.prune _⟩
  | .scope a, cx, rd, exits, rt, out, S, r, h, c, env, H, ds, rdC, hr, hcx, hrd => exec_ok hk href hmo hM a (by simpa [exec] using h) hr hcx hrd
  | .region ops draw, cx, rd, exits, rt, out, S, r, h, c, env, H, ds, rdC, hr, hcx, hrd => by
    simp only [exec] at h
    split at h
    · rename_i r0 e1
      refine meet_lf h hr.n.symm (Post.map ?_)
      cases draw with
      | true =>
        simp only [if_true] at e1
        refine (drawS_ok hk href hmo ops e1 hr hcx F2.nil).mono fun S' ρ' hq => ?_
        obtain ⟨c', env', H', q1, q2, q3, q4⟩ := hq
        exact ⟨c', env', H', ds, by simp [run, q1], q2, q3, q4.prune _⟩
      | false =>
        simp only [Bool.false_eq_true, if_false] at e1
        refine (opsS_ok hk href ops e1 hr hcx).mono fun S' ρ' hq => ?_
        obtain ⟨c', env', H', q1, q2, q3, q4⟩ := hq
        exact ⟨c', env', H', ds, by simp [run, q1], q2, q3, q4.prune _⟩
    · cases h
  | .seq a b, cx, rd, exits, rt, out, S, r, h, c, env, H, ds, rdC, hr, hcx, hrd => by
    simp only [exec] at h
    split at h
    · rename_i r0 e1
      refine Post.bind (exec_ok hk href hmo hM a e1 hr hcx hrd) h fun p ρ1 ra hq hf => ?_
      obtain ⟨c', env', H', ds', q1, q2, q3, q4⟩ := hq
      split at hf
      · rename_i hx
        have ih := exec_ok hk href hmo hM b hf q4 (by rw [q2]; exact hcx) (by rw [q2]; exact hrd)
        rw [q3, q2] at ih
        refine ih.mono fun p' ρ' hq => ?_
        obtain ⟨c2, env2, H2, ds2, u1, u2⟩ := hq
        exact ⟨c2, env2, H2, ds2, by simp only [run, q1]; rw [exB_eq hx]; exact u1, u2⟩
      · rename_i hx
        cases hf
        refine Post.ret ⟨c', env', H', ds', ?_, q2, q3, q4⟩
        simp only [run, q1]
        cases hp : p.1 with
        | normal => exact absurd (by rw [hp]; rfl) hx
        | exit id => rfl
        | ret => rfl
        | pan p => rfl
    · cases h
  | .cond x a b, cx, rd, exits, rt, out, S, r, h, c, env, H, ds, rdC, hr, hcx, hrd => by
    have hv := sarg_ok hr.env x
    have const : ∀ {b'}, sarg S.env x = .e (.c (.bool b')) → arg env x = .bool b' := fun {b'} e => by
      rw [e] at hv
      obtain ⟨-, hd, -⟩ := hv.inv_e
      simp only [E.den] at hd
      generalize arg env x = w at hd
      cases hd; rfl
    simp only [exec] at h
    split at h
    · rename_i e1
      refine (exec_ok hk href hmo hM a h hr hcx hrd).mono fun p ρ' hq => ?_
      obtain ⟨c', env', H', ds', q1, q2⟩ := hq
      exact ⟨c', env', H', ds', by simp only [run, const e1]; exact q1, q2⟩
    · rename_i e1
      refine (exec_ok hk href hmo hM b h hr hcx hrd).mono fun p ρ' hq => ?_
      obtain ⟨c', env', H', ds', q1, q2⟩ := hq
      exact ⟨c', env', H', ds', by simp only [run, const e1]; exact q1, q2⟩
    · rename_i y hne1 hne2 e1
      have hset : ∀ b', y.den c.ρ = .bool b' → arg env x = .bool b' ∧ Rel c (match (generalizing := false) x with | .t j => setAt S j b' | _ => S) env H K (ds ++ mk) := fun b' hb => by
        cases x with
        | t j => rw [arg_t]; exact setAt_ok hr e1 hb
        | c v =>
          refine ⟨?_, hr⟩
          rw [e1] at hv
          obtain ⟨-, hd, -⟩ := hv.inv_e
          rw [hb] at hd
          generalize arg env (.c v) = w at hd
          cases hd; rfl
      split at h
      · rename_i r1 r2 e2 e3
        refine meet_lf h hr.n.symm (Post.map (Post.ite (fun hb => ?_) (fun hb => ?_)))
        · obtain ⟨g1, g2⟩ := hset true hb
          refine (exec_ok hk href hmo hM a e2 g2 hcx hrd).mono fun p ρ' hq => ?_
          obtain ⟨c', env', H', ds', q1, q2, q3, q4⟩ := hq
          refine ⟨c', env', H', ds', by simp only [run, g1]; exact q1, q2, q3, ?_⟩
          simp only
          split
          · exact q4.prune _
          · exact q4
        · obtain ⟨g1, g2⟩ := hset false hb
          refine (exec_ok hk href hmo hM b e3 g2 hcx hrd).mono fun p ρ' hq => ?_
          obtain ⟨c', env', H', ds', q1, q2, q3, q4⟩ := hq
          refine ⟨c', env', H', ds', by simp only [run, g1]; exact q1, q2, q3, ?_⟩
          simp only
          split
          · exact q4.prune _
          · exact q4
      · cases h
    · cases h
  | .block id a, cx, rd, exits, rt, out, S, r, h, c, env, H, ds, rdC, hr, hcx, hrd => by
    simp only [exec] at h
    split at h
    · rename_i r0 e1
      refine meet_lf h hr.n.symm (Post.map ?_)
      refine (exec_ok hk href hmo hM a e1 hr hcx hrd).mono fun p ρ' hq => ?_
      obtain ⟨c', env', H', ds', q1, q2, q3, q4⟩ := hq
      obtain ⟨ex, S'⟩ := p
      cases ex with
      | normal => exact ⟨c', env', H', ds', by simp only [run, q1], q2, q3, q4⟩
      | ret => exact ⟨c', env', H', ds', by simp only [run, q1], q2, q3, q4⟩
      | pan p => exact ⟨c', env', H', ds', by simp only [run, q1], q2, q3, q4⟩
      | exit id' =>
        by_cases hid : id' = id
        · subst hid
          exact ⟨c', env', H', ds', by simp only [run, q1, if_true], q2, q3, by simp only [if_true]; exact q4.prune _⟩
        · exact ⟨c', env', H', ds', by simp only [run, q1, if_neg hid], q2, q3, by simp only [if_neg hid]; exact q4⟩
    · cases h
  | .loop a, cx, rd, exits, rt, out, S, r, h, c, env, H, ds, rdC, hr, hcx, hrd => by
    simp only [exec] at h
    have hb : BodyOK m Fs K mk c.κ (fun S => (exec TT Sh cbS cx rd exits rt a (live exits rt a (live exits rt a 0) ||| live exits rt a (live exits rt a (live exits rt a 0))) S).map (mapR fun p => (p.1, if exB p.1 .normal then pruneS (live exits rt a (live exits rt a 0) ||| live exits rt a (live exits rt a (live exits rt a 0))) p.2 else p.2))) (run TT cb M rdC a) := by
      intro S r h c' env H ds hr hκ
      cases e1 : exec TT Sh cbS cx rd exits rt a (live exits rt a (live exits rt a 0) ||| live exits rt a (live exits rt a (live exits rt a 0))) S with
      | none => simp [e1] at h
      | some r0 =>
        simp only [e1, Option.map_some, Option.some.injEq] at h
        subst h
        refine Post.map ?_
        have := exec_ok hk href hmo hM a e1 hr (by rw [hκ]; exact hcx) (by rw [hκ]; exact hrd)
        rw [hκ] at this
        refine this.mono fun p ρ' hq => ?_
        obtain ⟨c', env', H', ds', q1, q2, q3, q4⟩ := hq
        refine ⟨c', env', H', ds', q1, q2, q3, ?_⟩
        simp only
        split
        · exact q4.prune _
        · exact q4
    split at h
    · refine (unroll_ok hb (fun {S r} h {c env H ds} hr hκ => tryLoop_ok hb 6 h hr.n.symm hκ hr) 40 h (hr.prune _) rfl).mono fun p ρ' hq => ?_
      obtain ⟨c', env', H', ds', q1, q2⟩ := hq
      exact ⟨c', env', H', ds', by simp only [run]; exact iter_mono q1 hM, q2⟩
    · refine (tryLoop_ok hb 6 h (hr.prune _).n.symm rfl (hr.prune _)).mono fun p ρ' hq => ?_
      obtain ⟨c', env', H', ds', q1, q2⟩ := hq
      exact ⟨c', env', H', ds', by simp only [run]; exact iter_mono q1 (by omega), q2⟩
  | .rangeF g ps a b, cx, rd, exits, rt, out, S, r, h, c, env, H, ds, rdC, hr, hcx, hrd => by
    have hv := sarg_ok hr.env g
    simp only [exec] at h
    split at h
    · rename_i f first caps e1
      rw [e1] at hv
      obtain ⟨as, bs, ha, hfirst, hcaps⟩ := hv.inv_fn
      split at h
      · rename_i hT
        split at h
        · rename_i r0 e2
          split at h
          · rename_i r1 e3
            obtain ⟨H1, id, ds1, d, k1, k2, k3, k4, k5, k6, k7, k8⟩ := enterH_ok (κ := c.κ) (ds := ds) hr hrd ps a b
            have hpos : S.stk.length = K.length := hr.stk.len
            have hκlen : c.κ.length = cx.length := hcx.len.symm
            have hlow : ∀ id' ∈ rngIds K, hget H1 id' = hget H id' := fun id' hid => k3 id' (hr.rngs.2 id' hid)
            have hr1 : Rel c { S with env := [], stk := S.stk ++ [⟨prune (live exits rt (.rangeF (.c .nilF) ps a b) out) 0 S.env, .ready, .normal⟩] } [] H1 (K ++ [.rng id env ps a b d]) ((ds1 ++ ds) ++ mk) := by
              have := hr.mem2 (H' := H1) (stk' := S.stk ++ [⟨prune (live exits rt (.rangeF (.c .nilF) ps a b) out) 0 S.env, .ready, .normal⟩]) (K' := K ++ [.rng id env ps a b d]) (mk' := (ds1 ++ ds) ++ mk) (fun x hx _ => k3 x hx) k4
                ((RF.memL hlow hr.stk).append (F2.single (show RF c H1 ⟨prune (live exits rt (.rangeF (.c .nilF) ps a b) out) 0 S.env, .ready, .normal⟩ (.rng id env ps a b d) from ⟨k2, prune_ok 0 hr.env⟩)))
                ⟨by
                  rw [rngIds_app, List.nodup_append]
                  refine ⟨hr.rngs.1, by simp [rngIds], fun x hx y hy => ?_⟩
                  simp only [rngIds, List.mem_singleton] at hy
                  have := hr.rngs.2 x hx; omega, fun x hx => by
                  rw [rngIds_app, List.mem_append] at hx
                  rcases hx with hx | hx
                  · exact Nat.lt_of_lt_of_le (hr.rngs.2 x hx) k4
                  · simp only [rngIds, List.mem_singleton] at hx; omega⟩
                ⟨by
                  rw [List.append_assoc, List.nodup_append]
                  refine ⟨k8, hr.mks.1, fun x hx y hy => ?_⟩
                  have h1 := (k7 x hx).2.1
                  have h2 := (hr.mks.2 y hy).2
                  omega, fun x hx => by
                  rw [List.append_assoc, List.mem_append] at hx
                  rcases hx with hx | hx
                  · exact ⟨(k7 x hx).1, (k7 x hx).2.2⟩
                  · obtain ⟨g1, g2⟩ := hr.mks.2 x hx
                    exact ⟨by rw [k3 x g2]; exact g1, Nat.lt_of_lt_of_le g2 k4⟩⟩
              exact this.slots F2.nil
            have hr2 := hr1.kap (κ' := c.κ ++ [id]) fun k i hki => getElem?_app1 hki
            have hkap : ∀ {vs : List SV} {as : List AV}, F2 (Cv c) vs as → F2 (Cv { c with κ := c.κ ++ [id] }) vs as := fun h => Cv.kapL (fun k i hki => getElem?_app1 hki) h
            have hargs : F2 (Cv { c with κ := c.κ ++ [id] }) (first ++ [.yld cx.length] ++ caps) (as ++ [.yld id] ++ bs) :=
              ((hkap hfirst).append (F2.single (.yld (by rw [← hκlen]; simp)))).append (hkap hcaps)
            have hcx2 : CxOK (cx ++ [⟨S.stk.length, ps, a, b, live exits rt (.rangeF (.c .nilF) ps a b) out, exits, rt⟩]) (c.κ ++ [id]) (K ++ [.rng id env ps a b d]) := by
              refine ⟨by simp [hκlen], fun i e he => ?_⟩
              rcases getElem?_snoc he with he | ⟨rfl, rfl⟩
              · obtain ⟨id', d', h1, as', h2⟩ := hcx.at_ i e he
                exact ⟨id', d', getElem?_app1 h1, as', getElem?_app1 h2⟩
              · exact ⟨id, d, by rw [← hκlen]; simp, env, by rw [hpos]; simp⟩
            have hp := href e2 hr2 hcx2 hargs (.fn f)
            refine meet_lf h hr.n.symm (Post.bind hp e3 fun p ρ1 ra hq hf => ?_)
            obtain ⟨v, H2, c2, q1, q0, q2, q3, q4, -⟩ := hq
            split at hf
            · rename_i fr e4
              split at hf
              · cases hf
              rename_i hpn
              have hfr : (K ++ [FC.rng id env ps a b d])[S.stk.length]? = some (.rng id env ps a b d) := by rw [hpos]; simp
              obtain ⟨kk, t1, t2⟩ := q4.stk.get e4
              rw [hfr] at t1; cases t1
              obtain ⟨t3, t4⟩ := t2
              have hnb : fr.st ≠ .busy ∧ ra = R.ret (fr.pend, cleanS cx.length { p.2 with env := fr.env, stk := p.2.stk.take S.stk.length }) := by
                cases hst : fr.st with
                | busy => rw [hst] at hf; cases hf
                | ready => rw [hst] at hf; cases hf; exact ⟨by simp, rfl⟩
                | done => rw [hst] at hf; cases hf; exact ⟨by simp, rfl⟩
                | exhausted => rw [hst] at hf; cases hf; exact ⟨by simp, rfl⟩
              obtain ⟨hnb, rfl⟩ := hnb
              have hg : ∀ x, x ≠ id → hget (wrH H2 [(id, none)] 0) x = hget H2 x := fun x hx => by rw [hget_wr1]; simp only; rw [if_neg hx]
              have hn : (wrH H2 [(id, none)] 0).nx = H2.nx := by simp [wrH]
              have hnd := q4.rngs.1
              rw [rngIds_app, List.nodup_append] at hnd
              have hidK : ∀ x ∈ rngIds K, x ≠ id := fun x hx => hnd.2.2 x hx id (by simp [rngIds])
              have hstk : F2 (RF c2 H2) (p.2.stk.take S.stk.length) K := by rw [hpos]; exact q4.stk.take_app
              have r3 : Rel c2 { p.2 with env := fr.env, stk := p.2.stk.take S.stk.length } env (wrH H2 [(id, none)] 0) K ((ds1 ++ ds) ++ mk) := by
                have := (q4.slots t4).mem2 (H' := wrH H2 [(id, none)] 0) (stk' := p.2.stk.take S.stk.length) (K' := K) (mk' := (ds1 ++ ds) ++ mk) (fun x _ hx => hg x (by rintro rfl; obtain ⟨s, rows, e⟩ := hx; rw [t3] at e; cases e)) (by rw [hn]; exact Nat.le_refl _)
                  (RF.memL (fun x hx => hg x (hidK x hx)) hstk) ⟨hnd.1, fun x hx => by rw [hn]; exact q4.rngs.2 x (by rw [rngIds_app]; simp [hx])⟩
                  ⟨q4.mks.1, fun x hx => ⟨by rw [hg x (by rintro rfl; have := (q4.mks.2 _ hx).1; rw [t3] at this; cases this)]; exact (q4.mks.2 x hx).1, by rw [hn]; exact (q4.mks.2 x hx).2⟩⟩
                exact this
              have r4 := r3.clean (κ' := c.κ) (n := cx.length) fun k i hk hki => by
                have q2' : c2.κ = c.κ ++ [id] := q2
                rw [q2', List.getElem?_append_left (by rw [hκlen]; exact hk)] at hki
                exact hki
              refine Post.ret ⟨{ c2 with κ := c.κ }, env, _, ds1 ++ ds, ?_, rfl, q3, r4⟩
              simp only [run, ha, hT, if_true, k1, q1, q0, Bool.false_eq_true, if_false, leaveH, t3, marksD_app]
              cases hpe : fr.pend with
              | pan p => rw [hpe] at hpn; exact absurd rfl hpn
              | normal =>
                cases hst : fr.st with
                | busy => exact absurd hst hnb
                | ready => rfl
                | done => rfl
                | exhausted => rfl
              | ret =>
                cases hst : fr.st with
                | busy => exact absurd hst hnb
                | ready => rfl
                | done => rfl
                | exhausted => rfl
              | exit i =>
                cases hst : fr.st with
                | busy => exact absurd hst hnb
                | ready => rfl
                | done => rfl
                | exhausted => rfl
            · cases hf
          · cases h
        · cases h
      · cases h
    · cases h
end Go.Q
/- Calls that are gone through here. -/
set_option linter.unusedVariables false
set_option linter.unusedSimpArgs false
namespace Go.Q
open Go.V
variable {c c' : Cx} {S : SS} {env : List AV} {H H' : Heap} {K : List FC} {mk : List Nat}
variable {TT : FuncId → Option IFn} {cb : Cb} {Fs : FuncId → List D → Option D} {Sh : Shp} {ρ ρ' : List D} {m M : Nat} {cbS : SCall} {cx : List CE}

/-- Calls, by what is known of functions that have trees of their own. -/
def cbQ (TT : FuncId → Option IFn) (M : Nat) (O : FuncId → List AV → Option AV) : Nat → Cb
  | 0 => fun c args _ => match c with
    | .pu f => (O f args).map fun t => (t, noH)
    | _ => none
  | n + 1 => fun c args H => match c with
    | .pu f => (O f args).map fun t => (t, noH)
    | .fn f => callBody TT M (cbQ TT M O n) f args H
    | .yl id => callRound TT M (cbQ TT M O n) id args H
    | .df _ _ => none
theorem cbQ_pu {O : FuncId → List AV → Option AV} (n : Nat) (f : FuncId) (args : List AV) (H : Heap) : cbQ TT M O n (.pu f) args H = (O f args).map fun t => (t, noH) := by cases n <;> rfl
theorem resS_ok (r : Rel c S env H K mk) {x : IRes} {v : SV} (h : resS S x = some v) : ∃ a, resV ⟨env, H⟩ x = some a ∧ Cv c v a := by
  cases x with
  | t n =>
    cases h
    have := sarg_ok r.env (.t n)
    rw [arg_t] at this
    exact ⟨_, rfl, this⟩
  | cell n k =>
    have hv := sarg_ok r.env (.t n)
    simp only [sarg, arg_t] at hv
    simp only [resS] at h
    split at h
    · rename_i id j e1
      rw [e1] at hv
      split at h
      · rename_i cs e2
        obtain ⟨p, z, hp, hx, ha⟩ := hv.inv_ptr
        obtain ⟨p', g1, g2, g3, g4⟩ := r.blk e2
        rw [hp] at g1; cases g1
        obtain ⟨y, as, q1, q2, q3, q4⟩ := g3
        rw [hx] at q1; cases q1
        obtain ⟨b, k1, k2⟩ := part_ok q3 q4 h
        exact ⟨b, by simp only [resV, ha, q2]; simpa using k1, k2⟩
      · cases h
    · cases h
theorem resSL_ok (r : Rel c S env H K mk) : ∀ {l : List IRes} {vs : List SV}, resSL S l = some vs → ∃ as, resL ⟨env, H⟩ l = some as ∧ F2 (Cv c) vs as
  | [], vs, h => by cases h; exact ⟨[], rfl, .nil⟩
  | x :: l, vs, h => by
    simp only [resSL] at h
    split at h
    · rename_i v vs' e1 e2
      cases h
      obtain ⟨a, g1, g2⟩ := resS_ok r e1
      obtain ⟨as, k1, k2⟩ := resSL_ok r e2
      exact ⟨a :: as, by simp [resL, g1, k1], .cons g2 k2⟩
    · cases h
theorem tup_ok {vs : List SV} {as : List AV} (h : F2 (Cv c) vs as) : Cv c (tupS vs) (tupV as) := by
  cases h with
  | nil => exact .tup .nil
  | cons h1 t =>
    cases t with
    | nil => exact h1
    | cons h2 t => exact .tup (.cons h1 (.cons h2 t))
theorem Rel.pop {env0 : List AV} (r : Rel c S env H (K ++ [.call env0]) mk) {fr : Fr} (h : S.stk[K.length]? = some fr) : Rel c { S with env := fr.env, stk := S.stk.take K.length } env0 H K mk := by
  obtain ⟨k, h1, h2⟩ := r.stk.get h
  simp at h1
  subst h1
  have hr := r.rngs
  rw [rngIds_app] at hr
  have hr' : (rngIds K).Nodup ∧ ∀ id ∈ rngIds K, id < H.nx := by simpa [rngIds] using hr
  exact (r.slots (show F2 (Cv c) fr.env env0 from h2)).mem2 (fun x _ _ => rfl) (Nat.le_refl _) r.stk.take_app hr' r.mks
theorem Rel.push (r : Rel c S env H K mk) {senv : List SV} {env1 : List AV} (h : F2 (Cv c) senv env1) : Rel c { S with env := senv, stk := S.stk ++ [⟨S.env, .ready, .normal⟩] } env1 H (K ++ [.call env]) mk := by
  have hr : (rngIds (K ++ [.call env])).Nodup ∧ ∀ id ∈ rngIds (K ++ [.call env]), id < H.nx := by rw [rngIds_app]; simpa [rngIds] using r.rngs
  exact (r.slots h).mem2 (fun x _ _ => rfl) (Nat.le_refl _) (r.stk.append (F2.single (show RF c H ⟨S.env, .ready, .normal⟩ (.call env) from r.env))) hr r.mks
theorem Rel.weak {ds : List Nat} (r : Rel c S env H K (ds ++ mk)) : Rel c S env H K mk :=
  ⟨r.n, r.env, r.stk, r.hlen, r.heap, r.inj, r.rt, r.bnd, r.frz, r.f0, r.rngs, (List.nodup_append.1 r.mks.1).2.1, fun d hd => r.mks.2 d (by simp [hd])⟩
theorem tup_noPan {vs : List SV} {as : List AV} (h : F2 (Cv c) vs as) (hok : okRes vs = true) : (tupV as).isPan = false := by
  cases h with
  | nil => rfl
  | cons h1 t =>
    cases t with
    | nil => exact h1.noPan (by rintro rfl; cases hok)
    | cons h2 t => rfl
theorem setP_ok : ∀ {ps : List Nat} {senv : List SV} {env : List AV} {args : List SV} {as : List AV}, F2 (Cv c) senv env → F2 (Cv c) args as → F2 (Cv c) (setP senv ps args) (setPs env ps as)
  | [], _, _, _, _, h, h' => by cases h' <;> exact h
  | p :: ps, _, _, _, _, h, .nil => h
  | p :: ps, _, _, _, _, h, .cons h1 t => by simp only [setP, setPs]; exact setP_ok (h.set h1 p) t
theorem cbQ_mono {O : FuncId → List AV → Option AV} : ∀ n, CbMono (cbQ TT M O n)
  | 0 => fun cal as H a H' hp h => by cases cal <;> first | (cases hp; done) | (cases h; done)
  | n + 1 => fun cal as H a H' hp h => by
    cases cal with
    | pu f => cases hp
    | fn f => exact callBody_mono (cbQ_mono n) h
    | yl id => exact callRound_mono (cbQ_mono n) h
    | df f md => cases h
theorem callS_ok {O : FuncId → List AV → Option AV} (hk : ∀ n, Knows TT (cbQ TT M O n) Fs Sh) (hM : m + 40 ≤ M) (n : Nat) : RefOK m Fs (callS TT Sh n) (cbQ TT M O n) := by
  induction n with
  | zero =>
    unfold RefOK
    intro cx cal args S r h
    cases h
  | succ n href =>
    unfold RefOK
    intro cx cal args S r h c env H K mk hr hcx as calC ha hcal
    cases hcal with
    | fn f =>
      simp only [callS] at h
      split at h
      · cases h
      · rename_i fn e1
        split at h
        · rename_i r0 e2
          have hpos : S.stk.length = K.length := hr.stk.len
          have hargs : F2 (Cv c) (args ++ List.replicate (fn.ntmps - args.length) undefS) (as ++ List.replicate (fn.ntmps - as.length) undefA) := by
            rw [ha.len]
            exact ha.append (F2.replicate (.tup .nil) _)
          have r1 := hr.push hargs
          have hx := exec_ok (ds := []) (rdC := none) (hk n) href (cbQ_mono n) hM fn.body e2 r1 (hcx.push _) rfl
          refine Post.bind hx h fun p ρ1 ra hq hf => ?_
          obtain ⟨c', env', H', ds', q1, q2, q3, q4⟩ := hq
          have hne : ∀ id, p.1 ≠ .exit id := fun id e => by
            unfold backS at hf
            rw [e] at hf; cases hf
          have hpn : ∀ q, p.1 ≠ .pan q := fun q e => by
            unfold backS at hf
            rw [e] at hf; cases hf
          have hf' : ∃ vs fr, resSL p.2 fn.res = some vs ∧ okRes vs = true ∧ p.2.stk[S.stk.length]? = some fr ∧ ra = R.ret (tupS vs, { p.2 with env := fr.env, stk := p.2.stk.take S.stk.length }) := by
            unfold backS at hf
            split at hf
            · cases hf
            · cases hf
            · split at hf
              · rename_i vs fr e3 e4
                split at hf
                · rename_i hok
                  cases hf
                  exact ⟨vs, fr, e3, hok, e4, rfl⟩
                · cases hf
              · cases hf
          obtain ⟨vs, fr, e3, hok, e4, rfl⟩ := hf'
          obtain ⟨H2, k1, k2⟩ := q4.unmark
          obtain ⟨vals, k3, k4⟩ := resSL_ok k2 e3
          rw [hpos] at e4 ⊢
          refine Post.ret ⟨tupV vals, H2, c', ?_, tup_noPan k4 hok, q2, q3, k2.pop e4, tup_ok k4⟩
          show callBody TT M (cbQ TT M O n) f as H = _
          have q1' : run TT (cbQ TT M O n) M none fn.body ⟨⟨as ++ List.replicate (fn.ntmps - as.length) undefA, H⟩, []⟩ = some (p.1, ⟨⟨env', H'⟩, marksD ds'⟩) := q1
          have hl : leaveF fn ⟨⟨env', H'⟩, marksD ds'⟩ = some (tupV vals, H2) := by simp [leaveF, k1, k3]
          simp only [callBody, e1, q1']
          cases hp : p.1 with
          | normal => simp only [hl]
          | ret => simp only [hl]
          | exit id => exact absurd hp (hne id)
          | pan q => exact absurd hp (hpn q)
        · cases h
    | yl hid =>
      rename_i k id
      simp only [callS] at h
      split at h
      · cases h
      · rename_i e e1
        split at h
        · cases h
        · rename_i fr e2
          split at h
          · cases h
          · rename_i hc
            simp only [Bool.or_eq_true, Bool.not_eq_true', not_or, Bool.not_eq_false, beq_iff_eq] at hc
            obtain ⟨hst, hlen⟩ := hc
            have hst := stB_eq hst
            split at h
            · cases h
            · rename_i ra e3
              have hpos : S.stk.length = K.length := hr.stk.len
              obtain ⟨id', d, g1, asE, g2⟩ := hcx.at_ k e e1
              rw [hid] at g1; cases g1
              obtain ⟨kk, t1, t2⟩ := hr.stk.get e2
              rw [g2] at t1; cases t1
              obtain ⟨t3, t4⟩ := t2
              have r1 := hr.push (setP_ok (ps := e.ps) t4 ha)
              have hrd : RdOK c.κ (K ++ [.call env]) (some k) (some id) := ⟨id, e.pos, asE, e.ps, e.a, e.b, d, hid, rfl, getElem?_app1 g2⟩
              have hx := exec_ok (ds := []) (hk n) href (cbQ_mono n) hM e.a e3 r1 (hcx.push _) hrd
              refine Post.bind hx h fun p ρ1 ra hq hf => ?_
              obtain ⟨c1, env1, H1, ds1, q1, q2, q3, q4⟩ := hq
              unfold roundS at hf
              split at hf
              · rename_i hnorm
                split at hf
                · rename_i fr1 e4
                  split at hf
                  · rename_i hst1
                    have hst1 := stB_eq hst1
                    split at hf
                    · rename_i rb e5
                      obtain ⟨u1, u2⟩ := q4.recd (getElem?_app1 g2) e4 .busy fr1.pend
                      have u2' : Rel c1 { p.2 with stk := p.2.stk.set e.pos { fr1 with st := .busy } } env1 (wrH H1 [(id, some (.loop asE e.ps e.a e.b .busy fr1.pend d))] 0) (K ++ [.call env]) (ds1 ++ mk) := u2
                      have hx2 := exec_ok (hk n) href (cbQ_mono n) hM e.b e5 u2' (by rw [q2]; exact hcx.push _) (by rw [q2]; exact hrd)
                      rw [q3, q2] at hx2
                      refine Post.bind hx2 hf fun p2 ρ2 rc hq2 hf2 => ?_
                      obtain ⟨c2, env2, H2, ds2, w1, w2, w3, w4⟩ := hq2
                      unfold endS at hf2
                      split at hf2
                      · rename_i back fr2 e6 e7
                        split at hf2
                        · rename_i hc2
                          simp only [Bool.and_eq_true, decide_eq_true_eq, Bool.not_eq_true'] at hc2
                          obtain ⟨⟨hst2, hlt⟩, hpan⟩ := hc2
                          have hst2 := stB_eq hst2
                          cases hf2
                          have w5 := (w4.weak)
                          obtain ⟨x1, x2⟩ := w5.recd (getElem?_app1 g2) e7 (if exB p2.1 .normal then .ready else .done) p2.1
                          have e6' : (p2.2.stk.set e.pos { fr2 with st := if exB p2.1 .normal then .ready else .done, pend := p2.1 })[K.length]? = some back := by
                            rw [List.getElem?_set_ne (by omega), ← hpos]; exact e6
                          have x3 := x2.pop e6'
                          have x4 : (p2.2.stk.set e.pos { fr2 with st := if exB p2.1 .normal then .ready else .done, pend := p2.1 }).take K.length = (p2.2.stk.take S.stk.length).set e.pos { fr2 with st := if exB p2.1 .normal then .ready else .done, pend := p2.1 } := by
                            rw [hpos, List.take_set]
                          simp only [x4] at x3
                          refine Post.ret ⟨.bool (exB p2.1 .normal), wrH H2 [(id, some (.loop asE e.ps e.a e.b (if exB p2.1 .normal then .ready else .done) p2.1 d))] 0, c2, ?_, rfl, w2, w3, x3, .e rfl .bool rfl⟩
                          show callRound TT M (cbQ TT M O n) id as H = _
                          have hl : as.length = e.ps.length := by rw [← ha.len]; exact hlen
                          have q1' : run TT (cbQ TT M O n) M (some id) e.a ⟨⟨setPs asE e.ps as, H⟩, []⟩ = some (.normal, ⟨⟨env1, H1⟩, marksD ds1⟩) := by rw [show ([] : List DE) = marksD [] from rfl, q1, exB_eq hnorm]
                          simp only [callRound, t3, hl, if_true, q1', enterR, u1, hst1]
                          rw [w1]
                          simp only [leaveR, x1, hst2]
                          cases hp : p2.1 with
                          | normal => rfl
                          | ret => rfl
                          | exit i => rfl
                          | pan q => rw [hp] at hpan; cases hpan
                        · cases hf2
                      · cases hf2
                    · cases hf
                  · cases hf
                · cases hf
              · cases hf
end Go.Q
/- Functions. -/
set_option linter.unusedVariables false
set_option linter.unusedSimpArgs false
namespace Go.Q
open Go.V
variable {c c' : Cx} {S : SS} {env : List AV} {H H' : Heap} {K : List FC} {mk : List Nat}
variable {TT : FuncId → Option IFn} {cb : Cb} {Fs : FuncId → List D → Option D} {Sh : Shp} {ρ ρ' : List D} {m M : Nat} {cbS : SCall} {cx : List CE}

/-! Results are handed back -/
/-- Where the lists of a result lie. -/
def Lies (c : Cx) (S : SS) (sids ids : List Nat) : Prop := ids.Nodup ∧ ∀ y ∈ ids, ∃ k ∈ sids, ∃ p b, c.ψ k = some p ∧ p.idc = some y ∧ bget S.heap k = some b
theorem Lies.nil {sids : List Nat} : Lies c S sids [] := ⟨List.nodup_nil, by simp⟩
theorem noDup_app : ∀ {a b : List Nat}, noDup (a ++ b) = true → noDup a = true ∧ noDup b = true ∧ ∀ x ∈ a, x ∉ b
  | [], b, h => ⟨rfl, h, by simp⟩
  | x :: a, b, h => by
    simp only [List.cons_append, noDup, Bool.and_eq_true, Bool.not_eq_true', List.contains_eq_mem, decide_eq_false_iff_not, List.mem_append, not_or] at h
    obtain ⟨g1, g2, g3⟩ := noDup_app h.2
    refine ⟨by simp [noDup, h.1.1, g1], g2, fun y hy => ?_⟩
    rcases List.mem_cons.1 hy with rfl | hy
    · exact h.1.2
    · exact g3 y hy
theorem Lies.app (r : Rel c S env H K mk) {s1 s2 i1 i2 : List Nat} (hd : ∀ x ∈ s1, x ∉ s2) (h1 : Lies c S s1 i1) (h2 : Lies c S s2 i2) : Lies c S (s1 ++ s2) (i1 ++ i2) := by
  refine ⟨List.nodup_append.2 ⟨h1.1, h2.1, fun x hx y hy e => ?_⟩, fun y hy => ?_⟩
  · subst e
    obtain ⟨k, k1, p, b, k2, k3, k4⟩ := h1.2 x hx
    obtain ⟨k', t1, p', b', t2, t3, t4⟩ := h2.2 x hy
    have := r.inj _ _ _ _ _ _ _ k4 t4 k2 t2 k3 t3
    subst this
    exact hd k k1 t1
  · rcases List.mem_append.1 hy with hy | hy
    · obtain ⟨k, k1, q⟩ := h1.2 y hy; exact ⟨k, by simp [k1], q⟩
    · obtain ⟨k, k1, q⟩ := h2.2 y hy; exact ⟨k, by simp [k1], q⟩
theorem det1 (r : Rel c S env H K mk) {rs : RS} {v : SV} {a : AV} {x : E} (hl : likeV1 S.heap rs v = true) (hv : Cv c v a) (hx : toE1 S.heap v = some x) : ∃ t ids, detachC H a = some (t, ids) ∧ RR1 rs (x.den c.ρ) t ∧ Lies c S (idsR1 v) ids := by
  have hno : ∀ {d : D}, RD d a → a.one = true → detachC H a = some (a, []) := fun {d} h h1 => by
    have hn := h.noId h1
    unfold detachC
    split
    · cases h
    · cases h
    · simp [hn]
  cases rs with
  | e =>
    cases v <;> simp only [likeV1, Bool.false_eq_true] at hl <;> simp only [toE1, Option.some.injEq] at hx <;> subst hx
    · obtain ⟨h1, h2, h3⟩ := hv.inv_e
      exact ⟨a, [], hno h2 h3, ⟨h2, h3⟩, Lies.nil⟩
    · have := hv.inv_nil
      subst this
      exact ⟨.nilS, [], rfl, ⟨.nilS, rfl⟩, Lies.nil⟩
  | own sz =>
    cases v <;> simp only [likeV1, Bool.false_eq_true] at hl
    · rename_i id
      obtain ⟨p, hp, ha⟩ := hv.inv_own
      split at hl
      · rename_i s y e1
        simp only [beq_iff_eq] at hl
        subst hl
        simp only [toE1, e1, Option.some.injEq] at hx
        subst hx
        obtain ⟨p', g1, g2, g3, g4⟩ := r.blk e1
        rw [hp] at g1; cases g1
        obtain ⟨xs, q1, q2, q3, q4, q5⟩ := g3
        rcases ha with ⟨z, hz, rfl⟩ | ⟨hl0, ha⟩
        · obtain ⟨rows, t1, t2, t3, t4⟩ := q5 _ hz
          have hs : ∀ q ∈ (rows.drop p.off).take p.len, q.length = sz ∧ q.all AV.one = true := fun q hq => t3 q (List.mem_of_mem_drop (List.mem_of_mem_take hq))
          have hnoId : (((rows.drop p.off).take p.len).all fun x => x.all AV.noId) = true := by
            rw [List.all_eq_true]
            intro row hrow
            obtain ⟨i, hi, e⟩ := List.getElem_of_mem hrow
            obtain ⟨dx, u1, u2⟩ := t4.getr (i := i) (b := row) (by rw [List.getElem?_eq_getElem hi, e])
            have h1 := (hs row hrow).2
            rw [List.all_eq_true] at h1 ⊢
            intro cell hc
            obtain ⟨i', hi', e'⟩ := List.getElem_of_mem hc
            obtain ⟨d, u3, u4⟩ := (show F2 RD dx row from u2).getr (i := i') (b := cell) (by rw [List.getElem?_eq_getElem hi', e'])
            exact u4.noId (h1 cell hc)
          refine ⟨.fresh sz ((rows.drop p.off).take p.len), [z], ?_, .inl ⟨xs, _, q2, rfl, hs, t4⟩, by simp, fun y hy => ?_⟩
          · simp only [detachC, t1]
            rw [if_pos ⟨t2, hnoId⟩]
          · simp only [List.mem_singleton] at hy
            subst hy
            exact ⟨id, by simp [idsR1], p, _, hp, hz, e1⟩
        · have hxs : xs = [] := by rw [hl0] at q3; simpa using q3
          subst hxs
          rcases ha with rfl | rfl
          · exact ⟨.nilS, [], rfl, .inr ⟨q2, .inl rfl⟩, Lies.nil⟩
          · exact ⟨.emp true, [], rfl, .inr ⟨q2, .inr rfl⟩, Lies.nil⟩
      · cases hl
    · have := hv.inv_nil
      subst this
      simp only [toE1, Option.some.injEq] at hx
      subst hx
      exact ⟨.nilS, [], rfl, .inr ⟨rfl, .inl rfl⟩, Lies.nil⟩
  | km => cases v <;> simp [likeV1] at hl
  | node => cases v <;> simp [likeV1] at hl
  | tup => cases v <;> simp [likeV1] at hl
theorem detL_ok (r : Rel c S env H K mk) : ∀ {rs : List RS} {vs : List SV} {as : List AV} {xs : List E}, likeVL S.heap rs vs = true → F2 (Cv c) vs as → toE1L S.heap vs = some xs → noDup (idsRL vs) = true → ∃ ts ids, detachL H as = some (ts, ids) ∧ RRL rs (denL c.ρ xs) ts ∧ Lies c S (idsRL vs) ids
  | [], [], _, xs, hl, .nil, hx, _ => by cases hx; exact ⟨[], [], rfl, trivial, Lies.nil⟩
  | rs :: rss, v :: vs, _, xs, hl, .cons h1 t, hx, hd => by
    simp only [likeVL, Bool.and_eq_true] at hl
    simp only [toE1L] at hx
    split at hx
    · rename_i y ys e1 e2
      cases hx
      obtain ⟨d1, d2, d3⟩ := noDup_app hd
      obtain ⟨t', ids, g1, g2, g3⟩ := det1 r hl.1 h1 e1
      obtain ⟨ts, ids', k1, k2, k3⟩ := detL_ok r hl.2 t e2 d2
      exact ⟨t' :: ts, ids ++ ids', by simp [detachL, g1, k1], ⟨g2, k2⟩, Lies.app r d3 g3 k3⟩
    · cases hx
  | [], _ :: _, _, _, hl, _, _, _ => by simp [likeVL] at hl
  | _ :: _, [], _, _, hl, _, _, _ => by simp [likeVL] at hl
theorem det2 (r : Rel c S env H K mk) {rs : RS} {v : SV} {a : AV} {x : E} (hl : likeV2 S.heap rs v = true) (hv : Cv c v a) (hx : toE S.heap v = some x) (hd : noDup (idsR2 v) = true) : ∃ t ids, detach1 H a = some (t, ids) ∧ RR2 rs (x.den c.ρ) t ∧ Lies c S (idsR2 v) ids := by
  by_cases hagg : ∃ cs, v = .agg cs
  · obtain ⟨cs, rfl⟩ := hagg
    cases rs with
    | node rs =>
      obtain ⟨as, rfl, h1, h2⟩ := hv.inv_agg
      simp only [toE] at hx
      cases e1 : toE1L S.heap cs with
      | none => rw [e1] at hx; cases hx
      | some xs =>
        rw [e1] at hx; cases hx
        obtain ⟨ts, ids, g1, g2, g3⟩ := detL_ok r hl h1 e1 hd
        exact ⟨.agg ts, ids, by simp [detach1, g1], ⟨_, ts, rfl, rfl, g2⟩, g3⟩
    | e => simp [likeV2, likeV1] at hl
    | own => simp [likeV2, likeV1] at hl
    | km => simp [likeV2, likeV1] at hl
    | tup => simp [likeV2, likeV1] at hl
  · have hl' : likeV1 S.heap rs v = true := by
      cases rs <;> first | exact hl | skip
      cases v <;> first | exact absurd ⟨_, rfl⟩ hagg | (simp [likeV2, likeV1] at hl)
    have hx' : toE1 S.heap v = some x := by
      cases v <;> first | exact hx | exact absurd ⟨_, rfl⟩ hagg | skip
      cases rs <;> simp [likeV1] at hl'
    have hid : idsR2 v = idsR1 v := by cases v <;> first | rfl | exact absurd ⟨_, rfl⟩ hagg
    obtain ⟨t, ids, g1, g2, g3⟩ := det1 r hl' hv hx'
    have h2 : RR2 rs (x.den c.ρ) t := by cases rs <;> first | exact g2 | exact g2.elim
    have ha : detach1 H a = detachC H a := by
      cases a <;> first | rfl | skip
      exfalso
      cases hv <;> first | exact hagg ⟨_, rfl⟩ | (simp [toE1] at hx'; done) | simp_all [AV.one]
    exact ⟨t, ids, by rw [ha]; exact g1, h2, by rw [hid]; exact g3⟩
theorem detM_ok (r : Rel c S env H K mk) : ∀ {rs : List RS} {vs : List SV} {as : List AV} {xs : List E}, likeVM S.heap rs vs = true → F2 (Cv c) vs as → toEL S.heap vs = some xs → noDup (idsRM vs) = true → ∃ ts ids, detachM H as = some (ts, ids) ∧ RRM rs (denL c.ρ xs) ts ∧ Lies c S (idsRM vs) ids
  | [], [], _, xs, hl, .nil, hx, _ => by cases hx; exact ⟨[], [], rfl, trivial, Lies.nil⟩
  | rs :: rss, v :: vs, _, xs, hl, .cons h1 t, hx, hd => by
    simp only [likeVM, Bool.and_eq_true] at hl
    simp only [toEL] at hx
    split at hx
    · rename_i y ys e1 e2
      cases hx
      obtain ⟨d1, d2, d3⟩ := noDup_app hd
      obtain ⟨t', ids, g1, g2, g3⟩ := det2 r hl.1 h1 e1 d1
      obtain ⟨ts, ids', k1, k2, k3⟩ := detM_ok r hl.2 t e2 d2
      exact ⟨t' :: ts, ids ++ ids', by simp [detachM, g1, k1], ⟨g2, k2⟩, Lies.app r d3 g3 k3⟩
    · cases hx
  | [], _ :: _, _, _, hl, _, _, _ => by simp [likeVM] at hl
  | _ :: _, [], _, _, hl, _, _, _ => by simp [likeVM] at hl
theorem det_ok (r : Rel c S env H K mk) {rs : RS} {v : SV} {a : AV} {x : E} (hl : likeV S.heap rs v = true) (hv : Cv c v a) (hx : outE S.heap v = some x) (hd : noDup (idsR v) = true) : ∃ t ids, detach H a = some (t, ids) ∧ RR rs (x.den c.ρ) t ∧ ids.Nodup := by
  by_cases htup : ∃ vs, v = .tup vs
  · obtain ⟨vs, rfl⟩ := htup
    cases rs with
    | tup rs =>
      obtain ⟨as, rfl, h1⟩ := hv.inv_tup
      simp only [outE] at hx
      cases e1 : toEL S.heap vs with
      | none => rw [e1] at hx; cases hx
      | some xs =>
        rw [e1] at hx; cases hx
        obtain ⟨ts, ids, g1, g2, g3⟩ := detM_ok r hl h1 e1 hd
        exact ⟨.tup ts, ids, by simp [detach, g1], ⟨_, ts, rfl, rfl, g2⟩, g3.1⟩
    | e => simp [likeV, likeV2, likeV1] at hl
    | own => simp [likeV, likeV2, likeV1] at hl
    | km => simp [likeV, likeV2, likeV1] at hl
    | node => simp [likeV, likeV2, likeV1] at hl
  · have hl' : likeV2 S.heap rs v = true := by
      cases rs <;> first | exact hl | skip
      cases v <;> first | exact absurd ⟨_, rfl⟩ htup | (simp [likeV, likeV2, likeV1] at hl)
    have hx' : toE S.heap v = some x := by cases v <;> first | exact hx | exact absurd ⟨_, rfl⟩ htup
    have hid : idsR v = idsR2 v := by cases v <;> first | rfl | exact absurd ⟨_, rfl⟩ htup
    obtain ⟨t, ids, g1, g2, g3⟩ := det2 r hl' hv hx' (by rw [← hid]; exact hd)
    have h2 : RR rs (x.den c.ρ) t := by cases rs <;> first | exact g2 | exact g2.elim
    have ha : detach H a = detach1 H a := by
      cases a <;> first | rfl | skip
      exfalso
      cases hv <;> first | exact htup ⟨_, rfl⟩ | (simp [toE, toE1] at hx'; done) | simp_all [AV.one]
    exact ⟨t, ids, by rw [ha]; exact g1, h2, g3.1⟩

/-! The beginning -/
theorem RD.one_of {d : D} {a : AV} (h : RD d a) (hd : ∀ cs, d ≠ .node cs) : a.one = true := by
  cases h <;> first | rfl | exact absurd rfl (hd _)
theorem fits_len : ∀ {ps : List (Option Nat)} {ds : List D}, fits ps ds = true → ps.length = ds.length
  | [], [], _ => rfl
  | none :: ps, d :: ds, h => by simp only [fits, Bool.and_eq_true] at h; simp [fits_len h.2]
  | some n :: ps, d :: ds, h => by
    cases d <;> simp only [fits, Bool.false_eq_true, Bool.and_eq_true] at h
    simp [fits_len h.2]
  | [], _ :: _, h => by simp [fits] at h
  | none :: _, [], h => by simp [fits] at h
  | some _ :: _, [], h => by simp [fits] at h
theorem args_ok {ds0 : List D} : ∀ {ps : List (Option Nat)} {ds : List D} {as : List AV} (i : Nat), fits ps ds = true → F2 RD ds as → ds0.drop i = ds → c.ρ = ds0 → F2 (Cv c) (argsS i ps) as
  | [], ds, as, i, hf, h, hi, hc => by
    cases ds with
    | nil => cases h; exact .nil
    | cons => simp [fits] at hf
  | p :: ps, ds, as, i, hf, h, hi, hc => by
    cases ds with
    | nil => cases p <;> simp [fits] at hf
    | cons d ds =>
      obtain ⟨a, t, rfl, ha, ht⟩ := F2.inv_cons h
      have hget : ds0[i]? = some d := by
        have := congrArg (fun l => l[0]?) hi
        simpa [List.getElem?_drop] using this
      have hlt : i < ds0.length := (List.getElem?_eq_some_iff.1 hget).1
      have hden : (E.v i).den c.ρ = d := by simp [E.den, hc, List.getD_eq_getElem?_getD, hget]
      have hup : (E.v i).upto c.ρ.length = true := by simp [E.upto, hc, hlt]
      have hi' : ds0.drop (i + 1) = ds := by
        have := congrArg (List.drop 1) hi
        simpa [List.drop_drop] using this
      cases p with
      | none =>
        simp only [fits, Bool.and_eq_true] at hf
        refine .cons (.e hup (by rw [hden]; exact ha) (ha.one_of fun cs e => ?_)) (args_ok (i + 1) hf.2 ht hi' hc)
        subst e; simp at hf
      | some n =>
        cases d <;> simp only [fits, Bool.false_eq_true, Bool.and_eq_true] at hf
        rename_i cs
        obtain ⟨⟨h1, h2⟩, h3⟩ := hf
        simp only [beq_iff_eq] at h1
        generalize ha' : a = a' at ha
        cases ha with
        | node hcs =>
        rename_i bs
        subst ha'
        have hone : bs.all AV.one = true := by
          rw [List.all_eq_true]
          intro b hb
          obtain ⟨k, hk, e⟩ := List.getElem_of_mem hb
          obtain ⟨d, u1, u2⟩ := hcs.getr (i := k) (b := b) (by rw [List.getElem?_eq_getElem hk, e])
          refine u2.one_of fun cs' e' => ?_
          have := List.all_eq_true.1 h2 d (List.mem_of_getElem? u1)
          subst e'; simp at this
        refine .cons (.agg (F2.of_get (by simp [← hcs.len, h1]) fun k v b hv hb => ?_) hone) (args_ok (i + 1) h3 ht hi' hc)
        simp only [List.getElem?_map] at hv
        rw [List.getElem?_range (by
          have := (List.getElem?_eq_some_iff.1 hb).1
          rw [← hcs.len, h1] at this; exact this)] at hv
        cases hv
        obtain ⟨d, u1, u2⟩ := hcs.getr hb
        refine .e (by simpa [E.upto] using hup) ?_ (List.all_eq_true.1 hone b (List.mem_of_getElem? hb))
        simp only [E.den] at hden ⊢
        rw [hden]
        simp only [D.cells, List.getD_eq_getElem?_getD, u1]
        exact u2
/-- A function does what its tree says. -/
theorem fnS_ok {P : Program} (hT : TOK P TT) (hm : P.follows .mixedOrders = true) {O : FuncId → List AV → Option AV} (hk : ∀ n, Knows TT (cbQ TT M O n) Fs Sh) (hcb : ∀ n, CbOK P (cbQ TT M O n)) (hM : m + 40 ≤ M)
    {d : Nat} {ps : List (Option Nat)} {f : FuncId} {F : Fn} (h : fnS TT Sh d ps f = some F) {ds : List D} {res : D} (hres : F.den m Fs ds = some res) {args : List AV} (ha : F2 RD ds args) :
    ∃ t, PuOK P f args t ∧ RR F.rs res t := by
  unfold fnS at h
  split at h
  · cases h
  · rename_i fn e1
    split at h
    · cases h
    · rename_i r e2
      split at h
      · cases h
      · rename_i l e3
        split at h
        · rename_i r0 rs es e4 e5
          simp only at h
          split at h
          · rename_i hall
            cases h
            unfold Fn.den at hres
            simp only at hres
            split at hres
            · rename_i hfit
              split at hres
              · rename_i j ρ' e6
                -- the run
                let c0 : Cx := ⟨fun _ => none, fun _ => False, fun _ => none, [], ds⟩
                have hlen := fits_len hfit
                have hal : args.length = ps.length := by rw [← ha.len, hlen]
                have henv : F2 (Cv c0) (argsS 0 ps ++ List.replicate (fn.ntmps - ps.length) undefS) (args ++ List.replicate (fn.ntmps - args.length) undefA) := by
                  rw [hal]
                  exact (args_ok (ds0 := ds) 0 hfit ha (by simp) rfl).append (F2.replicate (.tup .nil) _)
                have hR : Rel c0 ⟨argsS 0 ps ++ List.replicate (fn.ntmps - ps.length) undefS, [], [], ps.length⟩ (args ++ List.replicate (fn.ntmps - args.length) undefA) noH [] ([] ++ []) :=
                  ⟨hlen, henv, .nil, fun id p hp => (by cases hp), fun id hb hh => (by simp at hh), fun i i' p p' x b b' h1 => (by simp [bget] at h1), fun i i' p p' x h1 => (by cases h1), fun i p x h1 => (by cases h1), fun x sz rows h1 => (by cases h1), fun x h1 => h1.elim, ⟨by simp [rngIds], by simp [rngIds]⟩, ⟨by simp, by simp⟩⟩
                have hx := exec_ok (ds := []) (rdC := none) (K := []) (mk := []) (hk d) (callS_ok hk hM d) (cbQ_mono d) hM fn.body e2 hR ⟨rfl, fun k e he => by simp at he⟩ rfl
                obtain ⟨p, k1, c', env', H', ds', q1, q2, q3, q4⟩ := hx j ρ' e6
                obtain ⟨b, k2, k3⟩ := mapM_get e3 k1
                have hne : ∀ id, p.1 ≠ .exit id := fun id e => by rw [e] at k3; cases k3
                have hpn : ∀ q, p.1 ≠ .pan q := fun q e => by rw [e] at k3; cases k3
                have k4 : ∃ vs, resSL p.2 fn.res = some vs ∧ b = (tupS vs, p.2) := by
                  cases hp : p.1 with
                  | exit id => exact absurd hp (hne id)
                  | pan q => exact absurd hp (hpn q)
                  | normal =>
                    rw [hp] at k3
                    simp only at k3
                    cases e7 : resSL p.2 fn.res with
                    | none => rw [e7] at k3; cases k3
                    | some vs => rw [e7] at k3; cases k3; exact ⟨vs, rfl, rfl⟩
                  | ret =>
                    rw [hp] at k3
                    simp only at k3
                    cases e7 : resSL p.2 fn.res with
                    | none => rw [e7] at k3; cases k3
                    | some vs => rw [e7] at k3; cases k3; exact ⟨vs, rfl, rfl⟩
                obtain ⟨vs, k5, rfl⟩ := k4
                obtain ⟨x, k6, k7⟩ := mapM_get e5 k2
                have hl := List.all_eq_true.1 hall _ (List.mem_of_getElem? k2)
                simp only [Bool.and_eq_true] at hl
                obtain ⟨H2, t1, t2⟩ := q4.unmark
                obtain ⟨vals, t3, t4⟩ := resSL_ok t2 k5
                have hcall : callBody TT M (cbQ TT M O d) f args noH = some (tupV vals, H2) := by
                  have hlf : leaveF fn ⟨⟨env', H'⟩, marksD ds'⟩ = some (tupV vals, H2) := by simp [leaveF, t1, t3]
                  have q1' : run TT (cbQ TT M O d) M none fn.body ⟨⟨args ++ List.replicate (fn.ntmps - args.length) undefA, noH⟩, []⟩ = some (p.1, ⟨⟨env', H'⟩, marksD ds'⟩) := q1
                  simp only [callBody, e1, q1']
                  cases hp : p.1 with
                  | normal => simp only [hlf]
                  | ret => simp only [hlf]
                  | exit id => exact absurd hp (hne id)
                  | pan q => exact absurd hp (hpn q)
                obtain ⟨t, ids, u1, u2, u3⟩ := det_ok t2 hl.1 (tup_ok t4) k7 hl.2
                refine ⟨t, callPure_ok (H' := noH) hT hm (hcb d) (m := M) (.inl ?_), ?_⟩
                · rw [hcall]
                  simp only [pureR, u1]
                  rw [if_pos u3]
                · rw [k6] at hres
                  simp only [Option.map_some, Option.some.injEq] at hres
                  rw [← hres, ← q3]
                  exact u2
              · cases hres
            · cases hres
          · cases h
        · cases h
end Go.Q
/- A program's functions, without fuel. -/
set_option linter.unusedVariables false
set_option linter.unusedSimpArgs false
namespace Go.Q
open Go.V
variable {P : Program} {TT : FuncId → Option IFn} {FN : FuncId → Option Fn} {m M : Nat}

mutual
theorem RD.fun_ : ∀ {a : AV} {d d' : D}, RD d a → RD d' a → d = d'
  | _, _, _, .int, h => by cases h; rfl
  | _, _, _, .bool, h => by cases h; rfl
  | _, _, _, .str, h => by cases h; rfl
  | _, _, _, .nilP, h => by cases h; rfl
  | _, _, _, .nilF, h => by cases h; rfl
  | _, _, _, .node h1, h => by
    cases h with
    | node h2 => rw [RD.funL h1 h2]
  | _, _, _, .nilS, h => by cases h; rfl
  | _, _, _, .emp, h => by cases h; rfl
  | _, _, _, .lst h1 h2 h3, h => by
    cases h with
    | lst k1 k2 k3 => rw [RD.funLL h3 k3]
  | _, _, _, .fn h1 h2 h3, h => by
    cases h with
    | fn k1 k2 k3 => rw [RD.funL h1 k1, RD.funL h2 k2]
theorem RD.funL : ∀ {a : List AV} {d d' : List D}, F2 RD d a → F2 RD d' a → d = d'
  | _, _, _, .nil, h => by cases h; rfl
  | _, _, _, .cons h1 t, h => by
    cases h with
    | cons h2 t2 => rw [RD.fun_ h1 h2, RD.funL t t2]
theorem RD.funLL : ∀ {a : List (List AV)} {d d' : List (List D)}, F2 (F2 RD) d a → F2 (F2 RD) d' a → d = d'
  | _, _, _, .nil, h => by cases h; rfl
  | _, _, _, .cons h1 t, h => by
    cases h with
    | cons h2 t2 => rw [RD.funL h1 h2, RD.funLL t t2]
end
/-- What the functions of a program do with data. -/
def ev (FN : FuncId → Option Fn) (m : Nat) : Nat → FuncId → List D → Option D
  | 0, _, _ => none
  | n + 1, f, ds => match FN f with
    | some F => F.den m (ev FN m n) ds
    | none => none
def shOf (FN : FuncId → Option Fn) : Shp := fun f => (FN f).map Fn.rs
/-- A program's tables are right. -/
structure Tabs (P : Program) (TT : FuncId → Option IFn) (FN : FuncId → Option Fn) : Prop where
  tok : TOK P TT
  mix : P.follows .mixedOrders = true
  fn : ∀ f F, FN f = some F → (∃ fn, TT f = some fn ∧ fn.byref = false) ∧ ((∃ d, fnS TT (shOf FN) d F.ps f = some F) ∨ ∀ m n ds d args, F.den m (ev FN m n) ds = some d → F2 RD ds args → ∃ t, PuOK P f args t ∧ RR F.rs d t)
def Q1 (P : Program) (FN : FuncId → Option Fn) (m n : Nat) (f : FuncId) (args : List AV) (t : AV) : Prop := PuOK P f args t ∧ ∀ ds d, F2 RD ds args → ev FN m n f ds = some d → ∃ rs, shOf FN f = some rs ∧ RR rs d t
open Classical in
noncomputable def orc (P : Program) (FN : FuncId → Option Fn) (m n : Nat) (f : FuncId) (args : List AV) : Option AV := if h : ∃ t, Q1 P FN m n f args t then some h.choose else none
theorem cbQ_puOK (m n M k : Nat) {f : FuncId} {args : List AV} {H H' : Heap} {t : AV} (h : cbQ TT M (orc P FN m n) k (.pu f) args H = some (t, H')) : PuOK P f args t := by
  rw [cbQ_pu] at h
  unfold orc at h
  split at h
  · rename_i hx
    cases h
    exact hx.choose_spec.1
  · cases h
theorem cbQ_ok (hT : TOK P TT) (hm : P.follows .mixedOrders = true) (m n M : Nat) : ∀ k, CbOK P (cbQ TT M (orc P FN m n) k)
  | 0 => ⟨fun f args H v H' h => (by cases h), fun f md args H v H' h => (by cases h), fun f args H t H' h => cbQ_puOK m n M 0 h, fun id args H v H' h => (by cases h)⟩
  | k + 1 =>
    have hcb := cbQ_ok hT hm m n M k
    ⟨fun f args H v H' h S φ w vargs hs htop hargs => callBody_ok hT hm hcb (H := H) h hs htop hargs, fun f md args H v H' h => (by cases h), fun f args H t H' h => cbQ_puOK m n M (k + 1) h, fun id args H v H' h S φ w vargs loc hs htop hargs hφ => callRound_ok hT hm hcb (H := H) h hs htop hargs hφ⟩
theorem ev_ok (h : Tabs P TT FN) (m : Nat) : ∀ (n : Nat) {f : FuncId} {ds : List D} {d : D}, ev FN m n f ds = some d → ∀ {args : List AV}, F2 RD ds args → ∃ F t, FN f = some F ∧ PuOK P f args t ∧ RR F.rs d t
  | 0, f, ds, d, he, args, _ => by cases he
  | n + 1, f, ds, d, he, args, ha => by
    simp only [ev] at he
    split at he
    · rename_i F e1
      obtain ⟨-, hF⟩ := h.fn f F e1
      rcases hF with ⟨dd, hF⟩ | hF
      · have hk : ∀ k, Knows TT (cbQ TT (m + 40) (orc P FN m n) k) (ev FN m n) (shOf FN) := fun k f ds d args h1 h2 => by
          obtain ⟨F', t, g1, g2, g3⟩ := ev_ok h m n h1 h2
          obtain ⟨⟨fn, k1, k2⟩, -⟩ := h.fn f F' g1
          have hex : ∃ t, Q1 P FN m n f args t := ⟨t, g2, fun ds' d' q1 q2 => by
            have := RD.funL q1 h2
            subst this
            rw [h1] at q2; cases q2
            exact ⟨F'.rs, by simp [shOf, g1], g3⟩⟩
          refine ⟨fun fn' hfn' => by rw [k1] at hfn'; cases hfn'; exact k2, by rw [k1]; rfl, hex.choose, noH, ?_⟩
          obtain ⟨rs, u1, u2⟩ := hex.choose_spec.2 ds d h2 h1
          refine ⟨rs, ?_, u1, u2⟩
          rw [cbQ_pu]
          unfold orc
          rw [dif_pos hex]
          rfl
        obtain ⟨t, t1, t2⟩ := fnS_ok h.tok h.mix hk (cbQ_ok h.tok h.mix m n (m + 40)) (Nat.le_refl _) hF he ha
        exact ⟨F, t, e1, t1, t2⟩
      · obtain ⟨t, t1, t2⟩ := hF m n ds d args he ha
        exact ⟨F, t, e1, t1, t2⟩
    · cases he

/-! More fuel -/
theorem iterD_mono {f g : List D → Option (Option Nat × List D)} (hfg : ∀ v r, f v = some r → g v = some r) : ∀ {n n' : Nat} {v : List D} {r : Nat × List D}, iterD f n v = some r → n ≤ n' → iterD g n' v = some r
  | 0, _, _, _, h, _ => by cases h
  | n + 1, 0, _, _, _, hn => by omega
  | n + 1, n' + 1, v, r, h, hn => by
    simp only [iterD] at h ⊢
    cases e : f v with
    | none => rw [e] at h; cases h
    | some q =>
      rw [e] at h
      rw [hfg _ _ e]
      obtain ⟨o, v'⟩ := q
      cases o with
      | none => exact iterD_mono hfg h (by omega)
      | some t => exact h
section
variable {m m' : Nat} {Fs Gs : FuncId → List D → Option D}
mutual
theorem den_mono (hm : m ≤ m') (hF : ∀ f ds d, Fs f ds = some d → Gs f ds = some d) : ∀ {t : T} {ρ : List D} {r : Nat × List D}, t.den m Fs ρ = some r → t.den m' Gs ρ = some r
  | .fail, ρ, r, h => by cases h
  | .leaf i, ρ, r, h => h
  | .op p as t, ρ, r, h => by
    simp only [T.den] at h ⊢
    cases e1 : D.den1 p (denL ρ as) with
    | none => rw [e1] at h; cases h
    | some d => rw [e1] at h; exact den_mono hm hF h
  | .call f as t, ρ, r, h => by
    simp only [T.den] at h ⊢
    cases e1 : Fs f (denL ρ as) with
    | none => rw [e1] at h; cases h
    | some d => rw [e1] at h; rw [hF _ _ _ e1]; exact den_mono hm hF h
  | .callD g as t, ρ, r, h => by
    simp only [T.den] at h ⊢
    cases eg : g.den ρ <;> rw [eg] at h <;> try (cases h; done)
    rename_i f a b
    simp only at h ⊢
    cases e1 : Fs f (a ++ denL ρ as ++ b) with
    | none => rw [e1] at h; cases h
    | some d => rw [e1] at h; rw [hF _ _ _ e1]; exact den_mono hm hF h
  | .flat x t, ρ, r, h => by
    simp only [T.den] at h ⊢
    split at h
    · rename_i hx; rw [if_pos hx]; exact den_mono hm hF h
    · cases h
  | .shal n x t, ρ, r, h => by
    simp only [T.den] at h ⊢
    split at h
    · rename_i hx; rw [if_pos hx]; exact den_mono hm hF h
    · cases h
  | .ite x a b, ρ, r, h => by
    simp only [T.den] at h ⊢
    cases eg : x.den ρ <;> rw [eg] at h <;> try (cases h; done)
    simp only at h ⊢
    split at h
    · rename_i hx; rw [if_pos hx]; exact den_mono hm hF h
    · rename_i hx; rw [if_neg hx]; exact den_mono hm hF h
  | .blk body outs ks, ρ, r, h => by
    simp only [T.den] at h ⊢
    cases e1 : outOf outs (body.den m Fs ρ) with
    | none => rw [e1] at h; cases h
    | some q =>
      rw [e1] at h
      have : outOf outs (body.den m' Gs ρ) = some q := by
        cases e2 : body.den m Fs ρ with
        | none => rw [e2] at e1; cases e1
        | some q' => rw [den_mono hm hF e2]; rw [e2] at e1; exact e1
      rw [this]
      exact denK_mono hm hF h
  | .loop init body outs ks, ρ, r, h => by
    simp only [T.den] at h ⊢
    cases e1 : iterD (fun vals => outOf outs (body.den m Fs (ρ ++ vals))) m (denL ρ init) with
    | none => rw [e1] at h; cases h
    | some q =>
      rw [e1] at h
      have : iterD (fun vals => outOf outs (body.den m' Gs (ρ ++ vals))) m' (denL ρ init) = some q := iterD_mono (fun v r' hv => by
        cases e2 : body.den m Fs (ρ ++ v) with
        | none => rw [e2] at hv; cases hv
        | some q' => rw [den_mono hm hF e2]; rw [e2] at hv; exact hv) e1 hm
      rw [this]
      exact denK_mono hm hF h
theorem denK_mono (hm : m ≤ m') (hF : ∀ f ds d, Fs f ds = some d → Gs f ds = some d) : ∀ {ts : List T} {ρ : List D} {i : Nat} {r : Nat × List D}, denK m Fs ρ ts i = some r → denK m' Gs ρ ts i = some r
  | [], ρ, i, r, h => by cases h
  | t :: ts, ρ, 0, r, h => den_mono (t := t) hm hF h
  | t :: ts, ρ, i + 1, r, h => denK_mono (ts := ts) hm hF h
end
theorem Fn.den_mono (hm : m ≤ m') (hF : ∀ f ds d, Fs f ds = some d → Gs f ds = some d) {F : Fn} {ds : List D} {d : D} (h : F.den m Fs ds = some d) : F.den m' Gs ds = some d := by
  unfold Fn.den at h ⊢
  split at h
  · rename_i hx
    rw [if_pos hx]
    cases e : F.tree.den m Fs ds with
    | none => rw [e] at h; cases h
    | some q => rw [Q.den_mono hm hF e]; rw [e] at h; exact h
  · cases h
end
theorem ev_mono {m m' : Nat} (hm : m ≤ m') : ∀ {n n' : Nat}, n ≤ n' → ∀ f ds d, ev FN m n f ds = some d → ev FN m' n' f ds = some d
  | 0, _, _, f, ds, d, h => by cases h
  | n + 1, 0, hn, _, _, _, _ => by omega
  | n + 1, n' + 1, hn, f, ds, d, h => by
    simp only [ev] at h ⊢
    cases e : FN f with
    | none => rw [e] at h; cases h
    | some F => rw [e] at h; exact F.den_mono hm (ev_mono hm (by omega)) h

/-! Without fuel -/
open Classical in
noncomputable def evL (FN : FuncId → Option Fn) (f : FuncId) (ds : List D) : Option D := if h : ∃ d m n, ev FN m n f ds = some d then some h.choose else none
theorem evL_iff {f : FuncId} {ds : List D} {d : D} : evL FN f ds = some d ↔ ∃ m n, ev FN m n f ds = some d := by
  have huniq : ∀ {d d' m n m' n'}, ev FN m n f ds = some d → ev FN m' n' f ds = some d' → d = d' := fun {d d' m n m' n'} h h' => by
    have h1 := ev_mono (m' := max m m') (Nat.le_max_left _ _) (Nat.le_max_left n n') f ds d h
    have h2 := ev_mono (m' := max m m') (Nat.le_max_right _ _) (Nat.le_max_right n n') f ds d' h'
    rw [h1] at h2; cases h2; rfl
  unfold evL
  constructor
  · intro h
    split at h
    · rename_i hx; cases h; exact hx.choose_spec
    · cases h
  · rintro ⟨m, n, h⟩
    have hx : ∃ d m n, ev FN m n f ds = some d := ⟨d, m, n, h⟩
    rw [dif_pos hx]
    obtain ⟨m', n', h'⟩ := hx.choose_spec
    rw [huniq h' h]
open Classical in
/-- A loop, gone round as often as it takes. -/
noncomputable def iterL (f : List D → Option (Option Nat × List D)) (v : List D) : Option (Nat × List D) := if h : ∃ r n, iterD f n v = some r then some h.choose else none
theorem iterL_iff {f : List D → Option (Option Nat × List D)} {v : List D} {r : Nat × List D} : iterL f v = some r ↔ ∃ n, iterD f n v = some r := by
  have huniq : ∀ {r r' n n'}, iterD f n v = some r → iterD f n' v = some r' → r = r' := fun {r r' n n'} h h' => by
    have h1 := iterD_mono (g := f) (fun _ _ h => h) h (Nat.le_max_left n n')
    have h2 := iterD_mono (g := f) (fun _ _ h => h) h' (Nat.le_max_right n n')
    rw [h1] at h2; cases h2; rfl
  unfold iterL
  constructor
  · intro h
    split at h
    · rename_i hx; cases h; exact hx.choose_spec
    · cases h
  · rintro ⟨n, h⟩
    have hx : ∃ r n, iterD f n v = some r := ⟨r, n, h⟩
    rw [dif_pos hx]
    obtain ⟨n', h'⟩ := hx.choose_spec
    rw [huniq h' h]
theorem iterL_eq (f : List D → Option (Option Nat × List D)) (v : List D) : iterL f v = match f v with
    | some (none, v') => iterL f v'
    | some (some t, v') => some (t, v')
    | none => none := by
  cases e : f v with
  | none =>
    simp only
    cases h : iterL f v with
    | none => rfl
    | some r =>
      obtain ⟨n, hn⟩ := iterL_iff.1 h
      cases n with
      | zero => cases hn
      | succ n => simp [iterD, e] at hn
  | some q =>
    obtain ⟨o, v'⟩ := q
    cases o with
    | some t => simp only; exact iterL_iff.2 ⟨1, by simp [iterD, e]⟩
    | none =>
      simp only
      cases h : iterL f v' with
      | some r =>
        obtain ⟨n, hn⟩ := iterL_iff.1 h
        exact iterL_iff.2 ⟨n + 1, by simp [iterD, e, hn]⟩
      | none =>
        cases h' : iterL f v with
        | none => rfl
        | some r =>
          obtain ⟨n, hn⟩ := iterL_iff.1 h'
          cases n with
          | zero => cases hn
          | succ n =>
            simp only [iterD, e] at hn
            rw [iterL_iff.2 ⟨n, hn⟩] at h; cases h
mutual
noncomputable def T.denV (Fs : FuncId → List D → Option D) (ρ : List D) : T → Res
  | .fail => none
  | .leaf j => some (j, ρ)
  | .op p as k => match D.den1 p (denL ρ as) with
    | some d => k.denV Fs (ρ ++ [d])
    | none => none
  | .call f as k => match Fs f (denL ρ as) with
    | some d => k.denV Fs (ρ ++ [d])
    | none => none
  | .callD g as k => match g.den ρ with
    | .fn f a b => match Fs f (a ++ denL ρ as ++ b) with
      | some d => k.denV Fs (ρ ++ [d])
      | none => none
    | _ => none
  | .flat x k => if (x.den ρ).flat then k.denV Fs ρ else none
  | .shal n x k => if (x.den ρ).shal n then k.denV Fs ρ else none
  | .ite c a b => match c.den ρ with
    | .bool b' => if b' then a.denV Fs ρ else b.denV Fs ρ
    | _ => none
  | .blk body outs ks => match outOf outs (body.denV Fs ρ) with
    | some (t, vals) => denVK Fs (ρ ++ vals) ks t
    | none => none
  | .loop init body outs ks => match iterL (fun vals => outOf outs (body.denV Fs (ρ ++ vals))) (denL ρ init) with
    | some (t, vals) => denVK Fs (ρ ++ vals) ks t
    | none => none
noncomputable def denVK (Fs : FuncId → List D → Option D) (ρ : List D) : List T → Nat → Res
  | [], _ => none
  | k :: _, 0 => k.denV Fs ρ
  | _ :: ks, t + 1 => denVK Fs ρ ks t
end
noncomputable def Fn.denV (Fs : FuncId → List D → Option D) (F : Fn) (ds : List D) : Option D :=
  if fits F.ps ds then match F.tree.denV Fs ds with
    | some (j, ρ) => (F.outs[j]?).map (E.den ρ)
    | none => none
  else none
/-- So much fuel is enough. -/
def Enough (FN : FuncId → Option Fn) (k : Nat → Res) (r : Nat × List D) : Prop := ∃ n, k n = some r
theorem ev_up {n n' : Nat} (h : n ≤ n') : ∀ f ds d, ev FN n n f ds = some d → ev FN n' n' f ds = some d := ev_mono h h
mutual
theorem denV_ok : ∀ {t : T} {ρ : List D} {r : Nat × List D}, t.denV (evL FN) ρ = some r → ∃ n, t.den n (ev FN n n) ρ = some r
  | .fail, ρ, r, h => by cases h
  | .leaf i, ρ, r, h => ⟨0, h⟩
  | .op p as t, ρ, r, h => by
    simp only [T.denV] at h
    cases e1 : D.den1 p (denL ρ as) with
    | none => rw [e1] at h; cases h
    | some d =>
      rw [e1] at h
      obtain ⟨n, hn⟩ := denV_ok h
      exact ⟨n, by simp only [T.den, e1]; exact hn⟩
  | .call f as t, ρ, r, h => by
    simp only [T.denV] at h
    cases e1 : evL FN f (denL ρ as) with
    | none => rw [e1] at h; cases h
    | some d =>
      rw [e1] at h
      obtain ⟨n, hn⟩ := denV_ok h
      obtain ⟨m', n', hc⟩ := evL_iff.1 e1
      refine ⟨max n (max m' n'), ?_⟩
      simp only [T.den]
      rw [ev_mono (m' := max n (max m' n')) (n' := max n (max m' n')) (by omega) (by omega) _ _ _ hc]
      exact den_mono (by omega) (ev_up (by omega)) hn
  | .callD g as t, ρ, r, h => by
    simp only [T.denV] at h
    cases eg : g.den ρ <;> rw [eg] at h <;> try (cases h; done)
    rename_i f a b
    simp only at h
    cases e1 : evL FN f (a ++ denL ρ as ++ b) with
    | none => rw [e1] at h; cases h
    | some d =>
      rw [e1] at h
      obtain ⟨n, hn⟩ := denV_ok h
      obtain ⟨m', n', hc⟩ := evL_iff.1 e1
      refine ⟨max n (max m' n'), ?_⟩
      simp only [T.den, eg]
      rw [ev_mono (m' := max n (max m' n')) (n' := max n (max m' n')) (by omega) (by omega) _ _ _ hc]
      exact den_mono (by omega) (ev_up (by omega)) hn
  | .flat x t, ρ, r, h => by
    simp only [T.denV] at h
    split at h
    · rename_i hx
      obtain ⟨n, hn⟩ := denV_ok h
      exact ⟨n, by simp only [T.den]; rw [if_pos hx]; exact hn⟩
    · cases h
  | .shal k x t, ρ, r, h => by
    simp only [T.denV] at h
    split at h
    · rename_i hx
      obtain ⟨n, hn⟩ := denV_ok h
      exact ⟨n, by simp only [T.den]; rw [if_pos hx]; exact hn⟩
    · cases h
  | .ite x a b, ρ, r, h => by
    simp only [T.denV] at h
    cases eg : x.den ρ <;> rw [eg] at h <;> try (cases h; done)
    simp only at h
    split at h
    · rename_i hx
      obtain ⟨n, hn⟩ := denV_ok h
      exact ⟨n, by simp only [T.den, eg]; rw [if_pos hx]; exact hn⟩
    · rename_i hx
      obtain ⟨n, hn⟩ := denV_ok h
      exact ⟨n, by simp only [T.den, eg]; rw [if_neg hx]; exact hn⟩
  | .blk body outs ks, ρ, r, h => by
    simp only [T.denV] at h
    cases e0 : body.denV (evL FN) ρ with
    | none => rw [e0] at h; cases h
    | some q =>
      rw [e0] at h
      cases e1 : outOf outs (some q) with
      | none => rw [e1] at h; cases h
      | some q' =>
        rw [e1] at h
        obtain ⟨n, hn⟩ := denV_ok e0
        obtain ⟨n', hn'⟩ := denVK_ok h
        refine ⟨max n n', ?_⟩
        simp only [T.den]
        rw [den_mono (m' := max n n') (Gs := ev FN (max n n') (max n n')) (by omega) (ev_up (by omega)) hn, e1]
        exact denK_mono (by omega) (ev_up (by omega)) hn'
  | .loop init body outs ks, ρ, r, h => by
    simp only [T.denV] at h
    cases e1 : iterL (fun vals => outOf outs (body.denV (evL FN) (ρ ++ vals))) (denL ρ init) with
    | none => rw [e1] at h; cases h
    | some q =>
      rw [e1] at h
      obtain ⟨n', hn'⟩ := denVK_ok h
      obtain ⟨k, hk⟩ := iterL_iff.1 e1
      have key : ∀ (k : Nat) {v : List D} {q : Nat × List D}, iterD (fun vals => outOf outs (body.denV (evL FN) (ρ ++ vals))) k v = some q → ∃ n, iterD (fun vals => outOf outs (body.den n (ev FN n n) (ρ ++ vals))) n v = some q := by
        intro k
        induction k with
        | zero => intro v q h; cases h
        | succ k ih =>
          intro v q h
          simp only [iterD] at h
          cases e2 : body.denV (evL FN) (ρ ++ v) with
          | none => simp [e2, outOf] at h
          | some b =>
            obtain ⟨n1, hn1⟩ := denV_ok e2
            cases e3 : outOf outs (some b) with
            | none => simp [e2, e3] at h
            | some o =>
              obtain ⟨o, v'⟩ := o
              simp only [e2, e3] at h
              cases o with
              | some t =>
                refine ⟨n1 + 1, ?_⟩
                simp only [iterD]
                rw [den_mono (m' := n1 + 1) (Gs := ev FN (n1 + 1) (n1 + 1)) (by omega) (ev_up (by omega)) hn1, e3]
                exact h
              | none =>
                obtain ⟨n2, hn2⟩ := ih h
                refine ⟨max n1 n2 + 1, ?_⟩
                simp only [iterD]
                rw [den_mono (m' := max n1 n2 + 1) (Gs := ev FN (max n1 n2 + 1) (max n1 n2 + 1)) (by omega) (ev_up (by omega)) hn1, e3]
                exact iterD_mono (fun w r hw => by
                  cases e4 : body.den n2 (ev FN n2 n2) (ρ ++ w) with
                  | none => rw [e4] at hw; cases hw
                  | some q' => rw [den_mono (m' := max n1 n2 + 1) (Gs := ev FN (max n1 n2 + 1) (max n1 n2 + 1)) (by omega) (ev_up (by omega)) e4]; rw [e4] at hw; exact hw) hn2 (by omega)
      obtain ⟨n, hn⟩ := key k hk
      refine ⟨max n n', ?_⟩
      simp only [T.den]
      rw [iterD_mono (n' := max n n') (g := fun vals => outOf outs (body.den (max n n') (ev FN (max n n') (max n n')) (ρ ++ vals))) (fun w r hw => by
        cases e4 : body.den n (ev FN n n) (ρ ++ w) with
        | none => rw [e4] at hw; cases hw
        | some q' => rw [den_mono (m' := max n n') (Gs := ev FN (max n n') (max n n')) (by omega) (ev_up (by omega)) e4]; rw [e4] at hw; exact hw) hn (by omega)]
      exact denK_mono (by omega) (ev_up (by omega)) hn'
theorem denVK_ok : ∀ {ts : List T} {ρ : List D} {i : Nat} {r : Nat × List D}, denVK (evL FN) ρ ts i = some r → ∃ n, denK n (ev FN n n) ρ ts i = some r
  | [], ρ, i, r, h => by cases h
  | t :: ts, ρ, 0, r, h => denV_ok (t := t) h
  | t :: ts, ρ, i + 1, r, h => denVK_ok (ts := ts) h
end
/-- A function, by its tree. -/
theorem evL_of {f : FuncId} {F : Fn} (hF : FN f = some F) {ds : List D} {d : D} (h : F.denV (evL FN) ds = some d) : evL FN f ds = some d := by
  unfold Fn.denV at h
  split at h
  · rename_i hx
    cases e : F.tree.denV (evL FN) ds with
    | none => rw [e] at h; cases h
    | some q =>
      rw [e] at h
      obtain ⟨n, hn⟩ := denV_ok e
      refine evL_iff.2 ⟨n, n + 1, ?_⟩
      simp only [ev, hF, Fn.den]
      rw [if_pos hx, hn]
      exact h
  · cases h
/-- What a function does, in the model. -/
theorem evL_ok (h : Tabs P TT FN) {f : FuncId} {ds : List D} {d : D} (he : evL FN f ds = some d) {args : List AV} (ha : F2 RD ds args) : ∃ F t, FN f = some F ∧ PuOK P f args t ∧ RR F.rs d t := by
  obtain ⟨m, n, h1⟩ := evL_iff.1 he
  exact ev_ok h m n h1 ha
end Go.Q
/- A call's arguments, as they are read, are data. -/
set_option linter.unusedVariables false
set_option linter.unusedSimpArgs false
namespace Go.Q
open Go.V Go.ChangeShapes Go.WideShapes Go.ChangeAt Go.RowKit

/-- What data of a type are like. -/
inductive Kd where
  | int (k : IntKind)
  | bool
  | list (cs : List Kd)
  deriving Inhabited
mutual
def Conf : Kd → D → Prop
  | .int k, d => ∃ n, d = .int k n ∧ (Lit.int k n).wf = true
  | .bool, d => ∃ b, d = .bool b
  | .list cs, d => ∃ xs, d = .list xs ∧ xs.length ≤ maxLen ∧ ∀ x ∈ xs, ConfL cs x
def ConfL : List Kd → List D → Prop
  | [], ds => ds = []
  | k :: ks, ds => ∃ d t, ds = d :: t ∧ Conf k d ∧ ConfL ks t
end
def kdF (P : Program) (rec : TypeId → Option (List Kd)) : List Field → Nat → Option (List Kd)
  | [], _ => some []
  | f :: fs, off => if f.offset = off then match rec f.type with
      | some ks => if ks.length = P.cellsOf f.type then (kdF P rec fs (off + ks.length)).map (ks ++ ·) else none
      | none => none
    else none
def kdK (P : Program) : Nat → TypeId → Option (List Kd)
  | 0, _ => none
  | n + 1, t => match P.underlying t with
    | some (.int k) => some [.int k]
    | some .bool => some [.bool]
    | some (.slice e) => match kdK P n e with
      | some ks => if ks.length = P.cellsOf e ∧ 0 < ks.length then some [.list ks] else none
      | none => none
    | some (.struct fs) => match kdF P (kdK P n) fs.toList 0 with
      | some ks => if ks.length = P.cellsOf t then some ks else none
      | none => none
    | _ => none
theorem ConfL.len : ∀ {ks : List Kd} {ds : List D}, ConfL ks ds → ds.length = ks.length
  | [], ds, h => by rw [show ds = [] from h]; rfl
  | k :: ks, ds, h => by obtain ⟨d, t, rfl, -, h2⟩ := h; simp [ConfL.len h2]
theorem ConfL.append : ∀ {ks ks' : List Kd} {ds ds' : List D}, ConfL ks ds → ConfL ks' ds' → ConfL (ks ++ ks') (ds ++ ds')
  | [], ks', ds, ds', h, h' => by rw [show ds = [] from h]; exact h'
  | k :: ks, ks', ds, ds', h, h' => by
    obtain ⟨d, t, rfl, h1, h2⟩ := h
    exact ⟨d, t ++ ds', rfl, h1, ConfL.append h2 h'⟩
theorem cell_there {W : World} {a : Addr} {v : Value} (h : W.cell? a = some v) : a.spot = none ∧ a.block < W.heap.size := by
  unfold World.cell? at h
  split at h
  · rename_i c t s hc
    by_cases hs : a.spot.isSome
    · rw [if_pos hs] at h; cases h
    · refine ⟨by simpa using hs, ?_⟩
      rcases Nat.lt_or_ge a.block W.heap.size with h1 | h1
      · exact h1
      · rw [Array.getElem?_eq_none h1] at hc; cases hc
  · cases h
theorem choose_fun {α : Type} [Inhabited α] (n : Nat) (p : Nat → α → Prop) (h : ∀ i, i < n → ∃ x, p i x) : ∃ f : Nat → α, ∀ i, i < n → p i (f i) := by
  induction n with
  | zero => exact ⟨fun _ => default, fun i hi => by omega⟩
  | succ n ih =>
    obtain ⟨f, hf⟩ := ih (fun i hi => h i (by omega))
    obtain ⟨x, hx⟩ := h n (by omega)
    exact ⟨fun i => if i = n then x else f i, fun i hi => by
      by_cases e : i = n
      · subst e; simpa using hx
      · simp only [if_neg e]; exact hf i (by omega)⟩
section
variable {H : Type} {enc : TypeId × Value → H} {P : Program} {W : World} {base : Nat} {held : Bool}
/-- Cells that stand for data. -/
def Stand (W : World) (ks : List Kd) (cs : List Value) : Prop := ∃ (ds : List D) (as : List AV), ConfL ks ds ∧ F2 RD ds as ∧ as.all AV.one = true ∧ as.length = cs.length ∧ ∀ (i : Nat) a v, as[i]? = some a → cs[i]? = some v → Rep W (fun b => b < W.heap.size) (fun _ => none) a v
theorem Stand.append {ks ks' : List Kd} {cs cs' : List Value} (h : Stand W ks cs) (h' : Stand W ks' cs') : Stand W (ks ++ ks') (cs ++ cs') := by
  obtain ⟨ds, as, h1, h2, h3, h4, h5⟩ := h
  obtain ⟨ds', as', k1, k2, k3, k4, k5⟩ := h'
  refine ⟨ds ++ ds', as ++ as', h1.append k1, h2.append k2, by rw [List.all_append, h3, k3]; rfl, by simp [h4, k4], fun i a v ha hv => ?_⟩
  by_cases hi : i < as.length
  · rw [List.getElem?_append_left hi] at ha
    rw [List.getElem?_append_left (by omega)] at hv
    exact h5 i a v ha hv
  · rw [List.getElem?_append_right (by omega)] at ha
    rw [List.getElem?_append_right (by omega), ← h4] at hv
    exact k5 _ a v ha hv
theorem stand_ok : ∀ (n : Nat) {t : TypeId} {ks : List Kd} {fuel : Nat} {cs : List Value} {x : DataW H × List MemPlace}, kdK P n t = some ks → DataW.trod enc P W base (fun _ => true) held fuel t cs = some x → Stand W ks cs
  | 0, t, ks, fuel, cs, x, hk, _ => by cases hk
  | n + 1, t, ks, fuel, cs, x, hk, h => by
    simp only [kdK] at hk
    split at hk
    · rename_i k hu
      cases hk
      obtain ⟨m, rfl, -, hw⟩ := DataW.trod_int hu h
      exact ⟨[.int k m], [.int k m], ⟨_, _, rfl, ⟨m, rfl, hw⟩, rfl⟩, .single .int, rfl, rfl, fun i a v ha hv => by
        cases i with
        | zero => cases ha; cases hv; exact .int
        | succ i => simp at ha⟩
    · rename_i hu
      cases hk
      obtain ⟨b, rfl, -⟩ := DataW.trod_bool hu h
      exact ⟨[.bool b], [.bool b], ⟨_, _, rfl, ⟨b, rfl⟩, rfl⟩, .single .bool, rfl, rfl, fun i a v ha hv => by
        cases i with
        | zero => cases ha; cases hv; exact .bool
        | succ i => simp at ha⟩
    · rename_i e hu
      split at hk
      · rename_i ke e1
        split at hk
        · rename_i hc
          cases hk
          rcases Go.Deep.open_slice hu h with ⟨rfl, -⟩ | ⟨a, len, cap, m, n', Df, Pl, rfl, -, hlc, hml, hm, hx, hel⟩
          · exact ⟨[.list []], [.nilS], ⟨_, _, rfl, ⟨[], rfl, by simp, by simp⟩, rfl⟩, .single .nilS, rfl, rfl, fun i a v ha hv => by
              cases i with
              | zero => cases ha; cases hv; exact .nilS
              | succ i => simp at ha⟩
          · simp at hm
            subst hm
            by_cases h0 : len = 0
            · subst h0
              exact ⟨[.list []], [.emp false], ⟨_, _, rfl, ⟨[], rfl, by simp, by simp⟩, rfl⟩, .single .emp, rfl, rfl, fun i a v ha hv => by
                cases i with
                | zero => cases ha; cases hv; exact .emp (by simp)
                | succ i => simp at ha⟩
            · have hsp : a.spot = none ∧ a.block < W.heap.size := by
                obtain ⟨cs', h1, h2⟩ := hel 0 (by omega)
                obtain ⟨-, hl, hc'⟩ := World.cells?_some h1
                have h3 := hc' 0 (by omega)
                rw [List.getElem?_eq_getElem (by omega)] at h3
                have h4 := cell_there h3
                obtain ⟨b, off, sp⟩ := a
                cases sp with
                | none => exact ⟨rfl, by simpa [add_none] using h4.2⟩
                | some q => exact absurd h4.1 (by unfold Addr.add; simp)
              obtain ⟨b, off, sp⟩ := a
              obtain ⟨hsp1, hsp2⟩ := hsp
              simp only at hsp1 hsp2
              subst hsp1
              -- the elements
              have hst : ∀ i, i < len → ∃ y : List D × List AV × List Value, ConfL ke y.1 ∧ F2 RD y.1 y.2.1 ∧ y.2.1.all AV.one = true ∧ y.2.1.length = ke.length ∧ y.2.2.length = ke.length ∧ (∀ j, j < ke.length → W.cell? ⟨b, off + i * ke.length + j, none⟩ = y.2.2[j]?) ∧
                  ∀ (j : Nat) a v, y.2.1[j]? = some a → y.2.2[j]? = some v → Rep W (fun b => b < W.heap.size) (fun _ => none) a v := fun i hi => by
                obtain ⟨cs', h1, h2⟩ := hel i (by omega)
                obtain ⟨-, hl, hc'⟩ := World.cells?_some h1
                obtain ⟨ds, as, k1, k2, k3, k4, k5⟩ := stand_ok n e1 h2
                refine ⟨(ds, as, cs'), k1, k2, k3, by rw [← k2.len, k1.len], by rw [hl, hc.1], fun j hj => ?_, k5⟩
                have := hc' j (by omega)
                rw [add_none, add_none, ← hc.1] at this
                exact this
              obtain ⟨f, hf⟩ := choose_fun len _ hst
              let xs : List (List D) := (List.range len).map fun i => (f i).1
              let rows : List (List AV) := (List.range len).map fun i => (f i).2.1
              have hxl : xs.length = len := by simp [xs]
              have hrl : rows.length = len := by simp [rows]
              have hrow : ∀ (i : Nat) y, rows[i]? = some y → i < len ∧ y = (f i).2.1 := fun i y hy => by
                have hi : i < len := by rw [← hrl]; exact (List.getElem?_eq_some_iff.1 hy).1
                simp only [rows, List.getElem?_map] at hy
                rw [List.getElem?_range hi] at hy
                cases hy; exact ⟨hi, rfl⟩
              have hxrow : ∀ (i : Nat) y, xs[i]? = some y → i < len ∧ y = (f i).1 := fun i y hy => by
                have hi : i < len := by rw [← hxl]; exact (List.getElem?_eq_some_iff.1 hy).1
                simp only [xs, List.getElem?_map] at hy
                rw [List.getElem?_range hi] at hy
                cases hy; exact ⟨hi, rfl⟩
              have hs : ∀ y ∈ rows, y.length = ke.length ∧ y.all AV.one = true := fun y hy => by
                obtain ⟨i, hi, e⟩ := List.getElem_of_mem hy
                obtain ⟨h1, rfl⟩ := hrow i y (by rw [List.getElem?_eq_getElem hi, e])
                exact ⟨(hf i h1).2.2.2.1, (hf i h1).2.2.1⟩
              refine ⟨[.list xs], [.lst ke.length rows], ⟨_, _, rfl, ⟨xs, rfl, by rw [hxl]; omega, fun y hy => ?_⟩, rfl⟩, .single (.lst (fun e => h0 (by rw [← hxl, e]; rfl)) hs (F2.of_get (by rw [hxl, hrl]) fun i y z hy hz => ?_)), rfl, rfl, fun i a v ha hv => ?_⟩
              · obtain ⟨i, hi, e⟩ := List.getElem_of_mem hy
                obtain ⟨h1, rfl⟩ := hxrow i y (by rw [List.getElem?_eq_getElem hi, e])
                exact (hf i h1).1
              · obtain ⟨h1, rfl⟩ := hxrow i y hy
                obtain ⟨-, rfl⟩ := hrow i z hz
                exact (hf i h1).2.1
              · cases i with
                | succ i => simp at ha
                | zero =>
                  cases ha; cases hv
                  have := Rep.lst (w := W) (S := fun b => b < W.heap.size) (φ := fun _ => none) (sz := ke.length) (xs := rows) (b := b) (base := off) (cap := m) (fun i j => ((f i).2.2)[j]?.getD undef) hs hsp2 (by rw [hrl]; exact hlc)
                    (fun i j y c hy hc' => by
                      obtain ⟨h1, rfl⟩ := hrow i y hy
                      have hj : j < ke.length := by rw [← (hf i h1).2.2.2.1]; exact (List.getElem?_eq_some_iff.1 hc').1
                      rw [(hf i h1).2.2.2.2.2.1 j hj, List.getElem?_eq_getElem (by rw [(hf i h1).2.2.2.2.1]; exact hj)]
                      rfl)
                    (fun i j y c hy hc' => by
                      obtain ⟨h1, rfl⟩ := hrow i y hy
                      have hj : j < ke.length := by rw [← (hf i h1).2.2.2.1]; exact (List.getElem?_eq_some_iff.1 hc').1
                      have hj' : ((f i).2.2)[j]? = some (((f i).2.2)[j]'(by rw [(hf i h1).2.2.2.2.1]; exact hj)) := List.getElem?_eq_getElem _
                      rw [hj']
                      exact (hf i h1).2.2.2.2.2.2 j c _ hc' hj')
                  rw [hrl] at this
                  exact this
        · cases hk
      · cases hk
    · rename_i fs hu
      obtain ⟨ys, k, -, -, hl, hyl, hf⟩ := DataW.trod_struct hu h
      have key : ∀ (l : List Field) (off i0 : Nat) {ks : List Kd}, kdF P (kdK P n) l off = some ks → (∀ (i : Nat) f, l[i]? = some f → fs[i0 + i]? = some f) → i0 + l.length = fs.size → off + ks.length ≤ cs.length → Stand W ks ((cs.drop off).take ks.length) := by
        intro l
        induction l with
        | nil =>
          intro off i0 ks hk _ _ _
          cases hk
          exact ⟨[], [], rfl, .nil, rfl, by simp, fun i a v ha => by simp at ha⟩
        | cons f l ih =>
          intro off i0 ks hk hl' hlen hle
          simp only [kdF] at hk
          split at hk
          · rename_i hoff
            subst hoff
            split at hk
            · rename_i kf e1
              split at hk
              · rename_i hc
                cases e2 : kdF P (kdK P n) l (f.offset + kf.length) with
                | none => rw [e2] at hk; cases hk
                | some kl =>
                  rw [e2] at hk
                  cases hk
                  have hfi := hf i0 f (hl' 0 f rfl)
                  have hi0 : i0 < ys.length := by rw [hyl]; simp at hlen; omega
                  rw [List.getElem?_eq_getElem hi0, ← hc] at hfi
                  have s1 := stand_ok n e1 hfi
                  rw [List.length_append] at hle
                  have s2 := ih (f.offset + kf.length) (i0 + 1) e2 (fun i g hg => by
                    have := hl' (i + 1) g (by simpa using hg)
                    rwa [show i0 + (i + 1) = i0 + 1 + i by omega] at this) (by simp at hlen; omega) (by omega)
                  have : (cs.drop f.offset).take (kf ++ kl).length = (cs.drop f.offset).take kf.length ++ (cs.drop (f.offset + kf.length)).take kl.length := by
                    rw [List.length_append, List.take_add, List.drop_drop]
                  rw [this]
                  exact s1.append s2
              · cases hk
            · cases hk
          · cases hk
      split at hk
      · rename_i ks' e1
        split at hk
        · rename_i hc
          cases hk
          have := key fs.toList 0 0 e1 (fun i f hi => by simpa using hi) (by simp) (by rw [hl, hc]; omega)
          rw [List.drop_zero, hc, ← hl, List.take_length] at this
          exact this
        · cases hk
      · cases hk
    · cases hk
end
end Go.Q
/- A law's call. -/
set_option linter.unusedVariables false
set_option linter.unusedSimpArgs false
namespace Go.Q
open Go.V Go.ChangeShapes Go.WideShapes Go.ChangeAt Go.RowKit
section
variable {H : Type} {enc : TypeId × Value → H} {P : Program} {W : World} {base : Nat} {held : Bool}
/-- An argument of several cells. -/
theorem arg_agg {n : Nat} {t : TypeId} {ks : List Kd} {v : Value} {d : DataW H} {ps : List MemPlace} {b0 : Nat} (hk : kdK P n t = some ks) (ha : aggK P t = true) (hv : Value.okWide P W .any b0 t v) (h : DataW.Trod enc P W base (fun _ => true) held t v d ps) :
    ∃ ds a, ConfL ks ds ∧ RD (.node ds) a ∧ Rep W (fun b => b < W.heap.size) (fun _ => none) a v := by
  obtain ⟨fuel, h⟩ := h
  obtain ⟨ds, as, h1, h2, h3, h4, h5⟩ := stand_ok n hk h
  unfold aggK at ha
  split at ha
  · rename_i td hu
    have : ∃ cs, v = .agg cs := by
      unfold Value.okWide at hv
      rw [hu] at hv
      cases td <;> simp only [isAggD, Bool.false_eq_true] at ha
      · obtain ⟨cs, h, -⟩ := hv; exact ⟨cs, h⟩
      · obtain ⟨cs, h, -⟩ := hv; exact ⟨cs, h⟩
    obtain ⟨cs, rfl⟩ := this
    refine ⟨ds, .agg as, h1, .node h2, .agg (by simpa [Value.cells] using h4.symm) fun i c v hc hv => h5 i c v hc (by simpa [Value.cells] using hv)⟩
  · cases ha
theorem arg_one {n : Nat} {t : TypeId} {k : Kd} {v : Value} {d : DataW H} {ps : List MemPlace} {b0 : Nat} (hk : kdK P n t = some [k]) (ha : aggK P t = false) (hv : Value.okWide P W .any b0 t v) (h : DataW.Trod enc P W base (fun _ => true) held t v d ps) :
    ∃ d a, Conf k d ∧ RD d a ∧ Rep W (fun b => b < W.heap.size) (fun _ => none) a v := by
  obtain ⟨fuel, h⟩ := h
  obtain ⟨ds, as, h1, h2, h3, h4, h5⟩ := stand_ok n hk h
  have hc : v.cells = #[v] := by
    cases n with
    | zero => cases hk
    | succ n =>
      simp only [kdK] at hk
      unfold Value.okWide Cell.okWide at hv
      unfold aggK at ha
      cases hu : P.underlying t with
      | none => rw [hu] at hk; cases hk
      | some td =>
        rw [hu] at hk hv ha
        cases td <;> simp only [reduceCtorEq, isAggD, Bool.true_eq_false] at hk ha <;> cases v <;> first | rfl | simp_all [Cell.ok]
  rw [hc] at h4 h5
  obtain ⟨d', t', rfl, hd, ht⟩ := h1
  rw [show t' = [] from ht] at h2
  obtain ⟨a, t2, rfl, hr, hn⟩ := F2.inv_cons h2
  exact ⟨d', a, hd, hr, h5 0 a v rfl rfl⟩
end
theorem detach_bool {H : Heap} {v : AV} {b : Bool} {ids : List Nat} (h : detach H v = some (.bool b, ids)) : v = .bool b := by
  have hC : ∀ {v : AV}, detachC H v = some (.bool b, ids) → v = .bool b := fun {v} h => by
    unfold detachC at h
    split at h
    · split at h
      · split at h
        · cases h
        · cases h
      · cases h
    · rename_i id i j sz len
      cases e0 : subOf H id i j sz len with
      | none => simp [e0] at h
      | some ys =>
        simp only [e0, Option.bind_some] at h
        split at h <;> cases h
    · split at h
      · cases h; rfl
      · cases h
  have h1 : ∀ {v : AV}, detach1 H v = some (.bool b, ids) → v = .bool b := fun {v} h => by
    unfold detach1 at h
    split at h
    · rename_i cs
      cases e : detachL H cs with
      | none => simp [e] at h
      | some p => simp [e] at h
    · exact hC h
  unfold detach at h
  split at h
  · rename_i cs
    cases e : detachM H cs with
    | none => simp [e] at h
    | some p => simp [e] at h
  · exact h1 h
theorem law_ok {P : Program} {TT : FuncId → Option IFn} {FN : FuncId → Option Fn} (h : Tabs P TT FN) {f : FuncId} {F : Fn} (hF : FN f = some F) (hrs : F.rs = .e) {ds : List D} {b : Bool} (he : evL FN f ds = some (.bool b)) {W : World} {args : List AV} {us : Array Value}
    (ha : F2 RD ds args) (hu : Reps W (fun b => b < W.heap.size) (fun _ => none) args us) : Calls P f us W fun e w' => e = .returned (.bool b) ∧ Below W.heap.size W w' := by
  obtain ⟨F', t, h1, h2, h3⟩ := evL_ok h he ha
  rw [hF] at h1; cases h1
  rw [hrs] at h3
  obtain ⟨h3, -⟩ := (show RD (.bool b) t ∧ t.one = true from h3)
  cases h3
  refine (h2 (fun b => b < W.heap.size) W us ⟨fun id b hb => by simp [hget, noH] at hb, fun id id' b b' l l' hb => by simp [hget, noH] at hb, fun b hb => hb⟩ hu).mono ?_
  rintro e w' ⟨vv, rfl, v, H', ids, S', φ', adv, sim, rep, e1, -⟩
  have := detach_bool e1
  subst this
  rw [rep.inv_bool]
  exact ⟨rfl, adv.below (by rintro b ⟨id, x, loc, q1, q2, q3⟩; cases q2)⟩
theorem Reps.cons {w : World} {S : Nat → Prop} {φ : Phi} {a : AV} {v : Value} {as : List AV} {vs : List Value} (h : Rep w S φ a v) (h' : Reps w S φ as vs.toArray) : Reps w S φ (a :: as) (v :: vs).toArray := by
  refine ⟨by simpa using h'.1, fun i c u h1 h2 => ?_⟩
  cases i with
  | zero => simp at h1 h2; subst h1 h2; exact h
  | succ i => exact h'.2 i c u (by simpa using h1) (by simpa using h2)
theorem Reps.nil {w : World} {S : Nat → Prop} {φ : Phi} : Reps w S φ [] (#[] : Array Value) := ⟨rfl, fun i c v h => by simp at h⟩
end Go.Q
/- Loops over lists. -/
set_option linter.unusedVariables false
set_option linter.unusedSimpArgs false
namespace Go.Q
open Go.V
abbrev I (n : Int) : D := .int .i64 n
theorem wrapN {n : Nat} (h : n < 9223372036854775807) : IntKind.i64.wrap ((n : Int) + 1) = ((n + 1 : Nat) : Int) := by rw [IntWalk.i64_in _ (by omega)]; omega
/-- A list gone through with a state, until it is over or left. -/
def foldE {σ α ε : Type} (step : σ → α → Except ε σ) : σ → List α → Except ε σ
  | s, [] => .ok s
  | s, x :: xs => match step s x with
    | .ok s' => foldE step s' xs
    | .error e => .error e
theorem iter_foldE {σ α : Type} {f : List D → Option (Option Nat × List D)} {enc : Nat → σ → List D} {step : σ → α → Except (Nat × List D) σ} {u : Nat} {fin : σ → List D} {xs : List α} (Inv : σ → Prop)
    (hstep : ∀ (i : Nat) x s, xs[i]? = some x → Inv s → f (enc i s) = match step s x with
      | .ok s' => some (none, enc (i + 1) s')
      | .error r => some (some r.1, r.2))
    (hinv : ∀ (i : Nat) x s s', xs[i]? = some x → Inv s → step s x = .ok s' → Inv s')
    (hend : ∀ s, Inv s → f (enc xs.length s) = some (some u, fin s)) {s : σ} (h0 : Inv s) :
    iterL f (enc 0 s) = match foldE step s xs with
      | .ok s' => some (u, fin s')
      | .error r => some r := by
  have key : ∀ (l pre : List α) (s : σ), xs = pre ++ l → Inv s → iterL f (enc pre.length s) = match foldE step s l with
      | .ok s' => some (u, fin s')
      | .error r => some r := by
    intro l
    induction l with
    | nil =>
      intro pre s hx hs
      rw [iterL_eq]
      have : pre.length = xs.length := by rw [hx]; simp
      rw [this, hend s hs]; rfl
    | cons x l ih =>
      intro pre s hx hs
      have hget : xs[pre.length]? = some x := by rw [hx]; simp
      rw [iterL_eq, hstep _ x s hget hs]
      simp only [foldE]
      cases e : step s x with
      | error r => rfl
      | ok s' =>
        simp only
        have := ih (pre ++ [x]) s' (by rw [hx]; simp) (hinv _ x s s' hget hs e)
        rw [List.length_append] at this
        exact this
  exact key xs [] s rfl h0
/-- Whether all are so. -/
theorem iter_all {α : Type} {f : List D → Option (Option Nat × List D)} {p : α → Bool} {t u : Nat} {xs : List α}
    (hstep : ∀ (i : Nat) x, xs[i]? = some x → f [I i] = if p x then some (none, [I ((i + 1 : Nat) : Int)]) else some (some t, []))
    (hend : f [I xs.length] = some (some u, [])) : iterL f [I 0] = if xs.all p then some (u, []) else some (t, []) := by
  have := iter_foldE (σ := Unit) (f := f) (enc := fun i _ => [I i]) (step := fun _ x => if p x then .ok () else .error (t, [])) (u := u) (fin := fun _ => []) (xs := xs) (fun _ => True)
    (fun i x s hx _ => by rw [hstep i x hx]; cases p x <;> rfl) (fun _ _ _ _ _ _ _ => trivial) (fun _ _ => hend) (s := ()) trivial
  have e : ((0 : Nat) : Int) = 0 := rfl
  simp only [e] at this
  rw [this]
  have key : ∀ l : List α, foldE (ε := Nat × List D) (fun (_ : Unit) x => if p x then .ok () else .error (t, [])) () l = if l.all p then .ok () else .error (t, []) := by
    intro l
    induction l with
    | nil => rfl
    | cons x l ih =>
      simp only [foldE, List.all_cons]
      by_cases hp : p x = true
      · simp only [hp, if_true, Bool.true_and]; exact ih
      · simp [hp]
  rw [key]
  cases xs.all p <;> rfl
theorem getElem?_map_some {α β : Type} {f : α → β} {l : List α} {i : Nat} {x : α} (h : l[i]? = some x) : (l.map f)[i]? = some (f x) := by simp [h]
theorem idx_nat {n : Nat} {i : Nat} (h : i < n) : (I i).idx n = some i := by simp [I, D.idx, h]
end Go.Q
/- Loops that count. -/
set_option linter.unusedVariables false
set_option linter.unusedSimpArgs false
namespace Go.Q
open Go.V
/-- The first number below another one for which something does not hold. -/
def firstN (p : Nat → Bool) : Nat → Nat → Option Nat
  | 0, _ => none
  | n + 1, i => if p i then firstN p n (i + 1) else some i
theorem iter_nat0 {f : List D → Option (Option Nat × List D)} {p : Nat → Bool} {st : Nat → List D} {t u : Nat} {r0 : Nat → List D} {r : List D} {N : Nat}
    (hstep : ∀ i, i < N → (∀ j, j < i → p j = true) → f (st i) = if p i then some (none, st (i + 1)) else some (some t, r0 i))
    (hend : (∀ j, j < N → p j = true) → f (st N) = some (some u, r)) :
    ∀ (n i : Nat), i + n = N → (∀ j, j < i → p j = true) → iterL f (st i) = match firstN p n i with
      | some j => some (t, r0 j)
      | none => some (u, r)
  | 0, i, hi, hp => by
    obtain rfl : i = N := by omega
    rw [iterL_eq, hend hp]; rfl
  | n + 1, i, hi, hp => by
    rw [iterL_eq, hstep i (by omega) hp]
    unfold firstN
    cases h : p i with
    | false => simp
    | true =>
      simp only [if_true]
      exact iter_nat0 hstep hend n (i + 1) (by omega) fun j hj => by
        by_cases e : j = i
        · subst e; exact h
        · exact hp j (by omega)
/-- A loop that counts: left at the first number for which something does not hold, or over. -/
theorem iter_nat {f : List D → Option (Option Nat × List D)} (N : Nat) (p : Nat → Bool) (st : Nat → List D) (t u : Nat) (r0 : Nat → List D) (r : List D) {e0 : List D} (h0 : e0 = st 0)
    (hstep : ∀ i, i < N → (∀ j, j < i → p j = true) → f (st i) = if p i then some (none, st (i + 1)) else some (some t, r0 i))
    (hend : (∀ j, j < N → p j = true) → f (st N) = some (some u, r)) :
    iterL f e0 = match firstN p N 0 with
      | some j => some (t, r0 j)
      | none => some (u, r) := by
  subst h0
  exact iter_nat0 hstep hend N 0 (by omega) (fun j hj => by omega)
theorem firstN_none {p : Nat → Bool} : ∀ {n i : Nat}, firstN p n i = none ↔ ∀ j, i ≤ j → j < i + n → p j = true
  | 0, i => by simp [firstN]; intro j h1 h2; omega
  | n + 1, i => by
    unfold firstN
    cases h : p i with
    | false => simp; exact ⟨i, Nat.le_refl _, by omega, h⟩
    | true =>
      simp only [if_true]
      rw [firstN_none (n := n) (i := i + 1)]
      constructor
      · intro hh j h1 h2
        by_cases e : j = i
        · subst e; exact h
        · exact hh j (by omega) (by omega)
      · intro hh j h1 h2
        exact hh j (by omega) (by omega)
theorem firstN_some {p : Nat → Bool} : ∀ {n i k : Nat}, firstN p n i = some k → i ≤ k ∧ k < i + n ∧ p k = false ∧ ∀ j, i ≤ j → j < k → p j = true
  | 0, i, k, h => by cases h
  | n + 1, i, k, h => by
    unfold firstN at h
    cases hp : p i with
    | false =>
      simp only [hp] at h
      cases h
      exact ⟨Nat.le_refl _, by omega, hp, fun j h1 h2 => by omega⟩
    | true =>
      simp only [hp, if_true] at h
      obtain ⟨g1, g2, g3, g4⟩ := firstN_some h
      exact ⟨by omega, by omega, g3, fun j h1 h2 => by
        by_cases e : j = i
        · subst e; exact hp
        · exact g4 j (by omega) h2⟩
/-- Whether something holds of all numbers below another one. -/
def allN (p : Nat → Bool) (n : Nat) : Bool := (firstN p n 0).isNone
theorem allN_iff {p : Nat → Bool} {n : Nat} : allN p n = true ↔ ∀ j, j < n → p j = true := by
  unfold allN
  rw [Option.isNone_iff_eq_none, firstN_none]
  exact ⟨fun h j hj => h j (by omega) (by omega), fun h j h1 h2 => h j (by omega)⟩
theorem iter_allN {f : List D → Option (Option Nat × List D)} (N : Nat) (p : Nat → Bool) (st : Nat → List D) (t u : Nat) (r0 r : List D) {e0 : List D} (h0 : e0 = st 0)
    (hstep : ∀ i, i < N → (∀ j, j < i → p j = true) → f (st i) = if p i then some (none, st (i + 1)) else some (some t, r0))
    (hend : (∀ j, j < N → p j = true) → f (st N) = some (some u, r)) :
    iterL f e0 = if allN p N then some (u, r) else some (t, r0) := by
  rw [iter_nat N p st t u (fun _ => r0) r h0 hstep hend]
  unfold allN
  cases firstN p N 0 <;> rfl
end Go.Q
