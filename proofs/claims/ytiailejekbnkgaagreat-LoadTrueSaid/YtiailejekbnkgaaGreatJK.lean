/- Regions. -/
import Derived.Test.YtiailejekbnkgaaGreatJJ
set_option linter.unusedVariables false
set_option linter.unusedSimpArgs false
namespace Go.Q
open Go.V
variable {c c' : Cx} {S : SS} {env : List AV} {H H' : Heap} {K : List FC} {mk : List Nat}
variable {TT : FuncId → Option IFn} {cb : Cb} {Fs : FuncId → List D → Option D} {Sh : Shp} {ρ ρ' : List D} {m : Nat}

/-- What holds at each leaf that is come to. -/
def Post {α : Type} (m : Nat) (Fs : FuncId → List D → Option D) (r : R α) (ρ : List D) (Q : α → List D → Prop) : Prop := ∀ j ρ', r.t.den m Fs ρ = some (j, ρ') → ∃ a, r.l[j]? = some a ∧ Q a ρ'
theorem Post.ret {α : Type} {a : α} {Q : α → List D → Prop} (h : Q a ρ) : Post m Fs (R.ret a) ρ Q := fun j ρ' hd => by
  simp only [R.ret, T.den, Option.some.injEq, Prod.mk.injEq] at hd
  obtain ⟨rfl, rfl⟩ := hd
  exact ⟨a, rfl, h⟩
theorem Post.mono {α : Type} {r : R α} {Q Q' : α → List D → Prop} (h : Post m Fs r ρ Q) (hq : ∀ a ρ', Q a ρ' → Q' a ρ') : Post m Fs r ρ Q' := fun j ρ' hd => by
  obtain ⟨a, h1, h2⟩ := h j ρ' hd
  exact ⟨a, h1, hq _ _ h2⟩
theorem Post.bind {α β : Type} {r : R α} {f : α → Option (R β)} {r' : R β} {Q : α → List D → Prop} {Q' : β → List D → Prop} (h : Post m Fs r ρ Q) (hb : r.bind f = some r') (hf : ∀ a ρ1 ra, Q a ρ1 → f a = some ra → Post m Fs ra ρ1 Q') : Post m Fs r' ρ Q' := fun j ρ' hd => by
  obtain ⟨a, ρ1, ra, ⟨i, g1, g2⟩, g3, j', g4, g5⟩ := bind_at hb hd fun i ρ1 h1 => (h i ρ1 h1).imp fun a ha => ha.1
  obtain ⟨a', q1, q2⟩ := h i ρ1 g1
  rw [g2] at q1; cases q1
  obtain ⟨b, q3, q4⟩ := hf a ρ1 ra q2 g3 j' ρ' g4
  exact ⟨b, g5 b q3, q4⟩
theorem Post.map {α β : Type} {r : R α} {f : α → β} {Q : β → List D → Prop} (h : Post m Fs r ρ fun a ρ' => Q (f a) ρ') : Post m Fs (mapR f r) ρ Q := fun j ρ' hd => by
  obtain ⟨a, h1, h2⟩ := h j ρ' hd
  exact ⟨f a, by simp [mapR, h1], h2⟩
theorem Post.em {α : Type} {em : Em} {r : R α} {Q : α → List D → Prop} (h : ∀ ρ1, emR Fs em ρ ρ1 → Post m Fs r ρ1 Q) : Post m Fs ⟨emT em r.t, r.l⟩ ρ Q := fun j ρ' hd => by
  obtain ⟨ρ1, h1, h2⟩ := emT_den hd
  exact h ρ1 h1 j ρ' h2
theorem Post.ite {α : Type} {x : E} {a b : R α} {Q : α → List D → Prop} (ha : x.den ρ = .bool true → Post m Fs a ρ Q) (hb : x.den ρ = .bool false → Post m Fs b ρ Q) : Post m Fs (R.ite x a b) ρ Q := fun j ρ' hd => by
  simp only [R.ite, T.den] at hd
  cases e : x.den ρ <;> rw [e] at hd <;> try (cases hd; done)
  rename_i bb
  cases bb
  · simp only [Bool.false_eq_true, if_false, shift_den] at hd
    cases e2 : b.t.den m Fs ρ with
    | none => rw [e2] at hd; cases hd
    | some q =>
      obtain ⟨j', ρ2⟩ := q
      rw [e2] at hd
      simp only [Option.map_some, Option.some.injEq, Prod.mk.injEq] at hd
      obtain ⟨rfl, rfl⟩ := hd
      obtain ⟨y, h1, h2⟩ := hb e j' ρ2 e2
      exact ⟨y, by simp only [R.ite]; rw [List.getElem?_append_right (by omega), Nat.add_sub_cancel]; exact h1, h2⟩
  · simp only [if_true] at hd
    obtain ⟨y, h1, h2⟩ := ha e j ρ' hd
    exact ⟨y, by simp only [R.ite]; rw [List.getElem?_append_left (List.getElem?_eq_some_iff.1 h1).1]; exact h1, h2⟩
theorem Post.fail {α : Type} {Q : α → List D → Prop} : Post m Fs (⟨.fail, []⟩ : R α) ρ Q := fun j ρ' hd => by cases hd
/-- What the loops over functions are that one stands in. -/
structure CxOK (cx : List CE) (κ : List Nat) (K : List FC) : Prop where
  len : cx.length = κ.length
  at_ : ∀ (k : Nat) (e : CE), cx[k]? = some e → ∃ id d, κ[k]? = some id ∧ ∃ as, K[e.pos]? = some (.rng id as e.ps e.a e.b d)
inductive CalR (c : Cx) : Cal → Cal → Prop
  | fn (f : FuncId) : CalR c (.fn f) (.fn f)
  | yl {k id : Nat} (h : c.κ[k]? = some id) : CalR c (.yl k) (.yl id)
/-- Calls that are gone through here. -/
def RefOK (m : Nat) (Fs : FuncId → List D → Option D) (cbS : SCall) (cb : Cb) : Prop :=
  ∀ {cx cal args S r}, cbS cx cal args S = some r → ∀ {c : Cx} {env H K mk}, Rel c S env H K mk → CxOK cx c.κ K → ∀ {as calC}, F2 (Cv c) args as → CalR c cal calC →
    Post m Fs r c.ρ fun p ρ' => ∃ a H' c', cb calC as H = some (a, H') ∧ a.isPan = false ∧ c'.κ = c.κ ∧ c'.ρ = ρ' ∧ Rel c' p.2 env H' K mk ∧ Cv c' p.1 a

/-! One step -/
theorem step_ef (hk : Knows TT cb Fs Sh) (r : Rel c S env H K mk) {io : PO} {f : Ef} (h : stepOp TT Sh S io = some (.ef f)) (hr : emR Fs f.em c.ρ ρ') : OpD TT cb c S env H K mk io f ρ' := by
  unfold stepOp at h
  split at h
  · rename_i g args
    split at h
    · rename_i fn e1
      split at h
      · cases h
      · cases e2 : Sh g with
        | none => rw [e2] at h; cases h
        | some rs =>
          rw [e2] at h
          simp only [Option.bind_some] at h
          cases e3 : callPu S g rs (args.map (sarg S.env)) with
          | none => rw [e3] at h; cases h
          | some ef =>
            rw [e3] at h
            simp only [Option.map_some, Option.some.injEq, OpS.ef.injEq] at h
            subst h
            exact callPu_ok hk r e2 e3 (sargL_ok r.env args) hr
    · cases h
  · rename_i g args
    have hv := sarg_ok r.env g
    split at h
    · rename_i f' first caps e0
      rw [e0] at hv
      obtain ⟨as, bs, ha, h1, h2⟩ := hv.inv_fn
      split at h
      · rename_i fn e1
        split at h
        · cases h
        · cases e2 : Sh f' with
          | none => rw [e2] at h; cases h
          | some rs =>
            rw [e2] at h
            simp only [Option.bind_some] at h
            cases e3 : callPu S f' rs (first ++ args.map (sarg S.env) ++ caps) with
            | none => rw [e3] at h; cases h
            | some ef =>
              rw [e3] at h
              simp only [Option.map_some, Option.some.injEq, OpS.ef.injEq] at h
              subst h
              obtain ⟨v, rd, wr, nx, c', q1, q⟩ := callPu_ok hk r e2 e3 ((h1.append (sargL_ok r.env args)).append h2) hr
              exact ⟨v, rd, wr, nx, c', by simp only [evalOp, ha]; exact q1, q⟩
      · cases h
    · cases h
    · rename_i x e0
      rw [e0] at hv
      obtain ⟨g1, g2, g3⟩ := hv.inv_e
      cases e3 : callDyn S x (args.map (sarg S.env)) with
      | none => rw [e3] at h; cases h
      | some ef =>
        rw [e3] at h
        simp only [Option.map_some, Option.some.injEq, OpS.ef.injEq] at h
        subst h
        obtain ⟨f', first, caps, ha, v, rd, wr, nx, c', q1, q⟩ := callDyn_ok hk r g1 g2 e3 (sargL_ok r.env args) hr
        exact ⟨v, rd, wr, nx, c', by simp only [evalOp, ha]; exact q1, q⟩
    · cases h
  · cases e : doOp S io with
    | none => rw [e] at h; cases h
    | some f' =>
      rw [e] at h
      simp only [Option.map_some, Option.some.injEq, OpS.ef.injEq] at h
      subst h
      exact doOp_ok r e hr
theorem step_ref (r : Rel c S env H K mk) {io : PO} {cal : Cal} {args : List SV} (h : stepOp TT Sh S io = some (.ref cal args)) :
    ∃ calC as, CalR c cal calC ∧ F2 (Cv c) args as ∧ (∀ a H', cb calC as H = some (a, H') → a.isPan = false → evalOp TT cb env H H.nx io = some (.whole a H')) ∧ Cal.isPu calC = false ∧ (ordC TT cal = true → evalD TT cb env H H.nx io = evalOp TT cb env H H.nx io) := by
  unfold stepOp at h
  split at h
  · rename_i g args'
    split at h
    · rename_i fn e1
      split at h
      · rename_i hb
        simp only [Option.some.injEq, OpS.ref.injEq] at h
        obtain ⟨rfl, rfl⟩ := h
        exact ⟨.fn g, _, .fn g, sargL_ok r.env args', (fun a H' q1 q2 => by simp [evalOp, callOp, e1, hb, q1, q2]), rfl, fun ho => by
          have ho : dmOf TT g = 2 := by simpa [ordC, dmOf] using ho
          simp only [evalD, refOp, e1, hb, if_true, ho]⟩
      · cases e2 : Sh g with
        | none => rw [e2] at h; cases h
        | some rs =>
          rw [e2] at h
          simp only [Option.bind_some] at h
          cases e3 : callPu S g rs (args'.map (sarg S.env)) <;> rw [e3] at h <;> cases h
    · cases h
  · rename_i g args'
    have hv := sarg_ok r.env g
    split at h
    · rename_i f' first caps e0
      rw [e0] at hv
      obtain ⟨as, bs, ha, h1, h2⟩ := hv.inv_fn
      split at h
      · rename_i fn e1
        split at h
        · rename_i hb
          simp only [Option.some.injEq, OpS.ref.injEq] at h
          obtain ⟨rfl, rfl⟩ := h
          exact ⟨.fn f', _, .fn f', (h1.append (sargL_ok r.env args')).append h2, (fun a H' q1 q2 => by simp only [evalOp, ha, callOp, e1, hb, if_true, q1, Option.bind_some, q2, Bool.false_eq_true, if_false]), rfl, fun ho => by
          have ho : dmOf TT f' = 2 := by simpa [ordC, dmOf] using ho
          simp only [evalD, refOp, ha, e1, hb, if_true, ho]⟩
        · cases e2 : Sh f' with
          | none => rw [e2] at h; cases h
          | some rs =>
            rw [e2] at h
            simp only [Option.bind_some] at h
            cases e3 : callPu S f' rs (first ++ args'.map (sarg S.env) ++ caps) <;> rw [e3] at h <;> cases h
      · cases h
    · rename_i id e0
      rw [e0] at hv
      obtain ⟨i, ha, hi⟩ := hv.inv_yld
      simp only [Option.some.injEq, OpS.ref.injEq] at h
      obtain ⟨rfl, rfl⟩ := h
      exact ⟨.yl i, _, .yl hi, sargL_ok r.env args', (fun a H' q1 q2 => by simp [evalOp, ha, q1, q2]), rfl, fun ho => by simp only [evalD, refOp, ha]⟩
    · cases e3 : callDyn S _ (args'.map (sarg S.env)) <;> rw [e3] at h <;> cases h
    · cases h
  · cases e : doOp S io <;> rw [e] at h <;> cases h
/-- Slots that are forgotten. -/
theorem prune_ok {mk' : Mask} : ∀ {vs : List SV} {as : List AV} (i : Nat), F2 (Cv c) vs as → F2 (Cv c) (prune mk' i vs) as
  | _, _, i, .nil => .nil
  | _, _, i, .cons h t => .cons (by split; exact h; exact .unk) (prune_ok (i + 1) t)
theorem Rel.prune (r : Rel c S env H K mk) (mk' : Mask) : Rel c (pruneS mk' S) env H K mk := r.slots (prune_ok 0 r.env)
/-- What is known of a guard. -/
def GdOK (c : Cx) (S : SS) (env : List AV) (H : Heap) (K : List FC) (mk : List Nat) (g : Option (Nat × Bool)) : Gd → Prop
  | .yes => wantedA env g = true
  | .no => wantedA env g = false
  | .ask x => ∃ j want, g = some (j, want) ∧ ∀ b, x.den c.ρ = .bool b → wantedA env g = (b == want) ∧ Rel c (setAt S j b) env H K mk
theorem wantS_ok (r : Rel c S env H K mk) {g : Option (Nat × Bool)} {gd : Gd} (h : wantS S.env g = some gd) : GdOK c S env H K mk g gd := by
  cases g with
  | none => cases h; rfl
  | some jw =>
    obtain ⟨j, want⟩ := jw
    simp only [wantS] at h
    have hv := sarg_ok r.env (.t j)
    simp only [sarg, arg_t] at hv
    split at h
    · rename_i b e
      rw [e] at hv
      obtain ⟨-, hd, -⟩ := hv.inv_e
      simp only [E.den] at hd
      generalize ha : env.getD j undefA = a at hd
      cases hd
      by_cases hb : (b == want) = true
      · rw [if_pos hb] at h
        cases h
        simp only [GdOK, wantedA, ha]; exact hb
      · rw [if_neg hb] at h
        cases h
        simp only [GdOK, wantedA, ha]; simpa using hb
    · rename_i d hne e
      cases h
      rw [e] at hv
      obtain ⟨-, hd, -⟩ := hv.inv_e
      simp only [E.den] at hd
      generalize ha : env.getD j undefA = a at hd
      simp only [GdOK, wantedA, ha]
      cases a <;> first | rfl | skip
      cases hd
      exact absurd rfl (hne _)
    · rename_i x hne e
      cases h
      rw [e] at hv
      refine ⟨j, want, rfl, fun b hb => ?_⟩
      obtain ⟨-, hd, -⟩ := hv.inv_e
      rw [hb] at hd
      generalize ha : env.getD j undefA = a at hd
      cases hd
      refine ⟨by simp only [wantedA, ha], r.slots ?_⟩
      have hj : ∀ {l : List SV} {as : List AV} (j : Nat), F2 (Cv c) l as → as.getD j undefA = .bool b → F2 (Cv c) (l.set j (.e (.c (.bool b)))) as := by
        intro l as j h
        induction h generalizing j with
        | nil => intro _; exact .nil
        | cons h1 t ih =>
          intro ha
          cases j with
          | zero =>
            simp only [List.getD_cons_zero] at ha
            subst ha
            exact .cons (.e rfl .bool rfl) t
          | succ j => exact .cons h1 (ih j (by simpa using ha))
      exact hj j r.env ha
    · rename_i vs e
      cases h
      rw [e] at hv
      obtain ⟨as, ha, -⟩ := hv.inv_tup
      simp only [GdOK, wantedA, ha]
    · cases h
theorem Rel.undef (r : Rel c S env H K mk) (dst : Option Nat) : Rel c { S with env := setS S.env dst undefS } (setD env dst undefA) H K mk := r.set (.tup .nil)
/-- An index that is told apart. -/
theorem forkOf_ok (r : Rel c S env H K mk) {io : PO} {len : Nat} {x : E} (h : forkOf S io = some (len, x)) {k : Nat} {kd : IntKind} (hx : x.den c.ρ = .int kd k) : evalOp TT cb env H H.nx (atK k io) = evalOp TT cb env H H.nx io := by
  unfold forkOf at h
  split at h
  · rename_i l sz a i
    split at h
    · cases h
    · rename_i y e1 e2 e3
      split at h
      · cases h
        have hv := sarg_ok r.env i
        rw [e3] at hv
        obtain ⟨-, hd, -⟩ := hv.inv_e
        rw [hx] at hd
        generalize ha : arg env i = w at hd
        cases hd
        simp only [atK, evalOp, show arg env (Arg.c (AV.int .i64 (k : Int))) = AV.int .i64 k from rfl, ha, idx]
      · cases h
    · cases h
  · rename_i l n sz a i
    split at h
    · cases h
    · rename_i y e1 e2 e3
      split at h
      · cases h
        have hv := sarg_ok r.env i
        rw [e3] at hv
        obtain ⟨-, hd, -⟩ := hv.inv_e
        rw [hx] at hd
        generalize ha : arg env i = w at hd
        cases hd
        simp only [atK, evalOp, show arg env (Arg.c (AV.int .i64 (k : Int))) = AV.int .i64 k from rfl, ha, idx]
      · cases h
    · cases h
  · cases h
theorem forkOf_upto (r : Rel c S env H K mk) {io : PO} {len : Nat} {x : E} (h : forkOf S io = some (len, x)) : x.upto c.ρ.length = true := by
  unfold forkOf at h
  split at h
  · rename_i l sz a i
    split at h
    · cases h
    · rename_i y e1 e2 e3
      split at h
      · cases h
        have hv := sarg_ok r.env i
        rw [e3] at hv
        exact hv.inv_e.1
      · cases h
    · cases h
  · rename_i l n sz a i
    split at h
    · cases h
    · rename_i y e1 e2 e3
      split at h
      · cases h
        have hv := sarg_ok r.env i
        rw [e3] at hv
        exact hv.inv_e.1
      · cases h
    · cases h
  · cases h
theorem forkR_ok {x : E} {go : Nat → SS → Option (R SS)} {len : Nat} {κ : List Nat} {Q : SS → List D → Prop} : ∀ (k : Nat) {S : SS} {c : Cx} {r : R SS}, forkR x go S len k = some r → Rel c S env H K mk → c.κ = κ → x.upto c.ρ.length = true →
    (∀ i {S' : SS} {c1 : Cx} {r' : R SS}, go i S' = some r' → Rel c1 S' env H K mk → c1.κ = κ → c.le c1 → S'.env = S.env → (∃ kd, x.den c1.ρ = .int kd i) → Post m Fs r' c1.ρ Q) → Post m Fs r c.ρ Q
  | 0, S, c, r, h, _, _, _, _ => by cases h; exact Post.fail
  | k + 1, S, c, r, h, hr, hκ, hu, hgo => by
    simp only [forkR] at h
    split at h
    · rename_i a b e1 e2
      cases h
      intro j ρ' hd
      simp only [T.den] at hd
      cases e3 : D.den1 (.isK (len - (k + 1))) (denL c.ρ [x]) with
      | none => rw [e3] at hd; cases hd
      | some d =>
        rw [e3] at hd
        obtain ⟨le, r1⟩ := hr.var d
        have hux : x.upto (c.ρ ++ [d]).length = true := le.upto hu
        have hdx : x.den (c.ρ ++ [d]) = x.den c.ρ := le.den hu
        have hv : (E.v S.n).den (c.ρ ++ [d]) = d := by simp [E.den, hr.n]
        refine Post.ite (x := .v S.n) (a := a) (b := b) (ρ := c.ρ ++ [d]) (fun ht => ?_) (fun hf => ?_) j ρ' hd
        · refine hgo (len - (k + 1)) e1 r1 hκ le rfl ?_
          rw [hv] at ht
          subst ht
          simp only [denL] at e3
          cases e4 : x.den c.ρ <;> rw [e4] at e3 <;> simp [D.den1] at e3
          rename_i kd n
          exact ⟨kd, by rw [show ({ c with ρ := c.ρ ++ [D.bool true] } : Cx).ρ = c.ρ ++ [D.bool true] from rfl, hdx, e4, e3]⟩
        · exact forkR_ok k e2 r1 hκ hux fun i {S' c1 r'} h1 h2 h3 h4 h5 h6 => hgo i h1 h2 h3 (le.trans h4) h5 h6
    · cases h
/-- A map that is known, looked up. -/
def selL (dflt : AV) (n : Int) : List (Nat × AV) → AV
  | [] => dflt
  | (k, v) :: l => if n = (k : Int) then v else selL dflt n l
theorem altsOf_ok {kd : IntKind} {zero : AV} {ok : Bool} {n : Int} : ∀ {l : List (AV × AV)} {r : List (Nat × AV)} (i : Nat), altsOf kd zero ok l = some r → ∃ q, findA (.int kd) (.int kd n) (l.map fun p => (p.1, p.2, 0)) i = some q ∧ selL (foundA ok zero none) n r = foundA ok zero q
  | [], r, i, h => by cases h; exact ⟨none, rfl, rfl⟩
  | (k, v) :: l, r, i, h => by
    unfold altsOf at h
    split at h
    · rename_i e; cases e
    · rename_i kk nn v' l' e
      simp only [List.cons.injEq, Prod.mk.injEq] at e
      obtain ⟨⟨rfl, rfl⟩, rfl⟩ := e
      split at h
      · rename_i hc
        obtain ⟨rfl, h0⟩ := hc
        cases e1 : altsOf kk zero ok l with
        | none => rw [e1] at h; cases h
        | some r' =>
          rw [e1] at h; cases h
          obtain ⟨q, q1, q2⟩ := altsOf_ok (n := n) (i + 1) e1
          simp only [List.map_cons, findA, keyA, if_true, selL]
          have hn : ((nn.toNat : Nat) : Int) = nn := Int.toNat_of_nonneg h0
          by_cases hk : n = nn
          · subst hk
            simp only [beq_self_eq_true, hn, if_true]
            exact ⟨_, rfl, by cases ok <;> rfl⟩
          · have : (n == nn) = false := by simpa using hk
            simp only [this, hn, if_neg hk]
            exact ⟨q, q1, q2⟩
      · cases h
    · cases h
theorem lookOf_ok (r : Rel c S env H K mk) {io : PO} {kd : IntKind} {l : List (Nat × AV)} {dflt : AV} {x : E} (h : lookOf S io = some (kd, l, dflt, x)) {n : Int} (hx : x.den c.ρ = .int kd n) : evalOp TT cb env H H.nx (.mv (.c (selL dflt n l))) = evalOp TT cb env H H.nx io := by
  unfold lookOf at h
  split at h
  · rename_i kd' zero ok a i
    split at h
    · rename_i k ks vs y e1 e2
      cases e3 : altsOf kd' zero ok ((k :: ks).zip vs) with
      | none => rw [e3] at h; cases h
      | some l' =>
        rw [e3] at h
        simp only [Option.bind_some] at h
        split at h
        · cases h
        · cases h
          have hv := sarg_ok r.env i
          rw [e2] at hv
          obtain ⟨-, hd, -⟩ := hv.inv_e
          rw [hx] at hd
          have hm := sarg_ok r.env a
          rw [e1] at hm
          generalize ha : arg env i = w at hd
          generalize hb : arg env a = w' at hm
          cases hd
          cases hm
          obtain ⟨q, q1, q2⟩ := altsOf_ok (n := n) 0 e3
          simp only [evalOp, ha, hb, findK, isKeyA, decide_true, if_true, zipM, q1, Option.map_some, q2]
          rfl
    · cases h
  · cases h
theorem lookOf_upto (r : Rel c S env H K mk) {io : PO} {kd : IntKind} {l : List (Nat × AV)} {dflt : AV} {x : E} (h : lookOf S io = some (kd, l, dflt, x)) : x.upto c.ρ.length = true ∧ l ≠ [] := by
  unfold lookOf at h
  split at h
  · rename_i kd' zero ok a i
    split at h
    · rename_i k ks vs y e1 e2
      cases e3 : altsOf kd' zero ok ((k :: ks).zip vs) with
      | none => rw [e3] at h; cases h
      | some l' =>
        rw [e3] at h
        simp only [Option.bind_some] at h
        split at h
        · cases h
        · rename_i hne
          cases h
          have hv := sarg_ok r.env i
          rw [e2] at hv
          exact ⟨hv.inv_e.1, by simpa using hne⟩
    · cases h
  · cases h
theorem lookR_ok {kd : IntKind} {x : E} {go : AV → SS → Option (R SS)} {dflt : AV} {κ : List Nat} {Q : SS → List D → Prop} : ∀ (l : List (Nat × AV)) {S : SS} {c : Cx} {r : R SS}, lookR kd x go dflt S l = some r → Rel c S env H K mk → c.κ = κ → x.upto c.ρ.length = true → (l = [] → ∃ n, x.den c.ρ = .int kd n) →
    (∀ v {S' : SS} {c1 : Cx} {r' : R SS}, go v S' = some r' → Rel c1 S' env H K mk → c1.κ = κ → c.le c1 → S'.env = S.env → (∃ n, x.den c1.ρ = .int kd n ∧ selL dflt n l = v) → Post m Fs r' c1.ρ Q) → Post m Fs r c.ρ Q
  | [], S, c, r, h, hr, hκ, hu, hl, hgo => by
    obtain ⟨n, hn⟩ := hl rfl
    exact hgo dflt h hr hκ (Cx.le.refl c) rfl ⟨n, hn, rfl⟩
  | (k, v) :: l, S, c, r, h, hr, hκ, hu, hl, hgo => by
    simp only [lookR] at h
    split at h
    · rename_i a b e1 e2
      cases h
      intro j ρ' hd
      simp only [T.den] at hd
      cases e3 : D.den1 (.isKd kd k) (denL c.ρ [x]) with
      | none => rw [e3] at hd; cases hd
      | some d =>
        rw [e3] at hd
        obtain ⟨le, r1⟩ := hr.var d
        have hux : x.upto (c.ρ ++ [d]).length = true := le.upto hu
        have hdx : x.den (c.ρ ++ [d]) = x.den c.ρ := le.den hu
        have hv : (E.v S.n).den (c.ρ ++ [d]) = d := by simp [E.den, hr.n]
        have hx : ∃ n, x.den c.ρ = .int kd n ∧ d = .bool (n == k) := by
          simp only [denL] at e3
          cases e4 : x.den c.ρ <;> rw [e4] at e3 <;> simp [D.den1] at e3
          obtain ⟨rfl, rfl⟩ := e3
          exact ⟨_, rfl, rfl⟩
        obtain ⟨n, hn, rfl⟩ := hx
        refine Post.ite (x := .v S.n) (a := a) (b := b) (ρ := c.ρ ++ [.bool (n == k)]) (fun ht => ?_) (fun hf => ?_) j ρ' hd
        · rw [hv] at ht
          simp only [D.bool.injEq, beq_iff_eq] at ht
          refine hgo v e1 r1 hκ le rfl ⟨n, by rw [← hn]; exact hdx, ?_⟩
          simp [selL, ht]
        · rw [hv] at hf
          simp only [D.bool.injEq, beq_eq_false_iff_ne] at hf
          exact lookR_ok l e2 r1 hκ hux (fun _ => ⟨n, by rw [← hn]; exact hdx⟩) fun v' {S' c1 r'} h1 h2 h3 h4 h5 h6 => hgo v' h1 h2 h3 (le.trans h4) h5 (by
            obtain ⟨n', g1, g2⟩ := h6
            have : D.int kd n' = .int kd n := by rw [← g1, ← hn, ← hdx]; exact h4.den hux
            cases this
            exact ⟨n, g1, by simp only [selL, if_neg hf]; exact g2⟩)
    · cases h
end Go.Q
/- Regions: in order; in any order. -/
set_option linter.unusedVariables false
set_option linter.unusedSimpArgs false
namespace Go.Q
open Go.V
variable {c c' : Cx} {S : SS} {env : List AV} {H H' : Heap} {K : List FC} {mk : List Nat}
variable {TT : FuncId → Option IFn} {cb : Cb} {Fs : FuncId → List D → Option D} {Sh : Shp} {ρ ρ' : List D} {m : Nat} {cbS : SCall} {cx : List CE}

/-- What holds behind operations. -/
def OpsQ (TT : FuncId → Option IFn) (cb : Cb) (K : List FC) (mk : List Nat) (κ : List Nat) (ops : List IOp) (st : St) (S' : SS) (ρ' : List D) : Prop :=
  ∃ c' env' H', evalOps TT cb ops st = some ⟨env', H'⟩ ∧ c'.κ = κ ∧ c'.ρ = ρ' ∧ Rel c' S' env' H' K mk
theorem evalOps_yes {o : IOp} {os : List IOp} {v : AV} {rd : List Nat} {wr : Wr} {nx : Nat} (hw : wantedA env o.guard = true) (he : evalOp TT cb env H H.nx o.op = some (.eff v rd wr nx)) : evalOps TT cb (o :: os) ⟨env, H⟩ = evalOps TT cb os ⟨setD env o.dst v, wrH H wr nx⟩ := by
  simp only [evalOps, hw, if_true, he]
theorem evalOps_whole {o : IOp} {os : List IOp} {v : AV} (hw : wantedA env o.guard = true) (he : evalOp TT cb env H H.nx o.op = some (.whole v H')) : evalOps TT cb (o :: os) ⟨env, H⟩ = evalOps TT cb os ⟨setD env o.dst v, H'⟩ := by
  simp only [evalOps, hw, if_true, he]
theorem evalOps_no {o : IOp} {os : List IOp} (hw : wantedA env o.guard = false) : evalOps TT cb (o :: os) ⟨env, H⟩ = evalOps TT cb os ⟨setD env o.dst undefA, H⟩ := by
  simp only [evalOps, hw, Bool.false_eq_true, if_false]
theorem opsS_ok (hk : Knows TT cb Fs Sh) (href : RefOK m Fs cbS cb) : ∀ (ops : List IOp) {out : Mask} {S : SS} {r : R SS}, opsS TT Sh cbS cx ops out S = some r → ∀ {c : Cx} {env : List AV} {H : Heap}, Rel c S env H K mk → CxOK cx c.κ K → Post m Fs r c.ρ (OpsQ TT cb K mk c.κ ops ⟨env, H⟩)
  | [], out, S, r, h, c, env, H, hr, _ => by cases h; exact Post.ret ⟨c, env, H, rfl, rfl, rfl, hr⟩
  | o :: os, out, S, r, h, c, env, H, hr, hcx => by
    -- an operation that is wanted
    have yes0 : ∀ (op : PO) {S : SS} {c : Cx} {r : R SS},
        (if isBad Sh S op then some ⟨.fail, []⟩ else match stepOp TT Sh S op with
          | some (.ef f) => (opsS TT Sh cbS cx os out { S with env := setS S.env o.dst f.v, heap := f.heap, n := emN f.em S.n }).map fun r => (⟨emT f.em r.t, r.l⟩ : R SS)
          | some (.ref c args) => match cbS cx c args (pruneS (mDel (mOps os out) (o.dst.getD 100000)) S) with
            | some r => r.bind fun p => opsS TT Sh cbS cx os out { p.2 with env := setS p.2.env o.dst p.1 }
            | none => none
          | none => none) = some r → Rel c S env H K mk → CxOK cx c.κ K → wantedA env o.guard = true → evalOp TT cb env H H.nx op = evalOp TT cb env H H.nx o.op → Post m Fs r c.ρ (OpsQ TT cb K mk c.κ (o :: os) ⟨env, H⟩) := by
      intro op S c r h hr hcx hw hop
      split at h
      · cases h; exact Post.fail
      · split at h
        · rename_i f e1
          cases e2 : opsS TT Sh cbS cx os out { S with env := setS S.env o.dst f.v, heap := f.heap, n := emN f.em S.n } with
          | none => rw [e2] at h; cases h
          | some r2 =>
            rw [e2] at h; cases h
            refine Post.em fun ρ1 hem => ?_
            obtain ⟨v, rd, wr, nx, c1, g1, g2, g3, g4, g5, -, -⟩ := step_ef (ρ' := ρ1) hk hr e1 hem
            have r1 := g4.set (dst := o.dst) g5
            have hκ : c1.κ = c.κ := g2.κ
            have ih := opsS_ok hk href os e2 r1 (by rw [hκ]; exact hcx)
            rw [g3, hκ] at ih
            refine ih.mono fun S' ρ' hq => ?_
            obtain ⟨c', env', H', q1, q2⟩ := hq
            exact ⟨c', env', H', by rw [evalOps_yes hw (by rw [← hop]; exact g1)]; exact q1, q2⟩
        · rename_i cal args e1
          split at h
          · rename_i r2 e2
            have hp := hr.prune (mDel (mOps os out) (o.dst.getD 100000))
            obtain ⟨calC, as, k1, k2, k3, -, -⟩ := step_ref (TT := TT) (cb := cb) hr e1
            refine Post.bind (href e2 hp hcx k2 k1) h fun p ρ1 ra hq hf => ?_
            obtain ⟨a, H1, c1, q1, q0, q2, q3, q4, q5⟩ := hq
            have r1 := q4.set (dst := o.dst) q5
            have ih := opsS_ok hk href os hf r1 (by rw [q2]; exact hcx)
            rw [q3, q2] at ih
            refine ih.mono fun S' ρ' hq => ?_
            obtain ⟨c', env', H', u1, u2⟩ := hq
            refine ⟨c', env', H', ?_, u2⟩
            rw [evalOps_whole hw (by rw [← hop]; exact k3 a H1 q1 q0)]
            exact u1
          · cases h
        · cases h
    have yes : ∀ {S : SS} {c : Cx} {r : R SS},
        (match forkOf S o.op with
          | some (len, x) => forkR x (fun k S => if isBad Sh S (atK k o.op) then some ⟨.fail, []⟩ else match stepOp TT Sh S (atK k o.op) with
            | some (.ef f) => (opsS TT Sh cbS cx os out { S with env := setS S.env o.dst f.v, heap := f.heap, n := emN f.em S.n }).map fun r => (⟨emT f.em r.t, r.l⟩ : R SS)
            | some (.ref c args) => match cbS cx c args (pruneS (mDel (mOps os out) (o.dst.getD 100000)) S) with
              | some r => r.bind fun p => opsS TT Sh cbS cx os out { p.2 with env := setS p.2.env o.dst p.1 }
              | none => none
            | none => none) S len len
          | none => match lookOf S o.op with
            | some (kd, l, dflt, x) => lookR kd x (fun v S => if isBad Sh S (.mv (.c v)) then some ⟨.fail, []⟩ else match stepOp TT Sh S (.mv (.c v)) with
            | some (.ef f) => (opsS TT Sh cbS cx os out { S with env := setS S.env o.dst f.v, heap := f.heap, n := emN f.em S.n }).map fun r => (⟨emT f.em r.t, r.l⟩ : R SS)
            | some (.ref c args) => match cbS cx c args (pruneS (mDel (mOps os out) (o.dst.getD 100000)) S) with
              | some r => r.bind fun p => opsS TT Sh cbS cx os out { p.2 with env := setS p.2.env o.dst p.1 }
              | none => none
            | none => none) dflt S l
            | none => if isBad Sh S o.op then some ⟨.fail, []⟩ else match stepOp TT Sh S o.op with
            | some (.ef f) => (opsS TT Sh cbS cx os out { S with env := setS S.env o.dst f.v, heap := f.heap, n := emN f.em S.n }).map fun r => (⟨emT f.em r.t, r.l⟩ : R SS)
            | some (.ref c args) => match cbS cx c args (pruneS (mDel (mOps os out) (o.dst.getD 100000)) S) with
              | some r => r.bind fun p => opsS TT Sh cbS cx os out { p.2 with env := setS p.2.env o.dst p.1 }
              | none => none
            | none => none) = some r → Rel c S env H K mk → CxOK cx c.κ K → wantedA env o.guard = true → Post m Fs r c.ρ (OpsQ TT cb K mk c.κ (o :: os) ⟨env, H⟩) := by
      intro S c r h hr hcx hw
      split at h
      · rename_i len x e1
        refine forkR_ok len h hr rfl (forkOf_upto hr e1) fun i S' c1 r' h1 h2 h3 h4 h5 h6 => ?_
        obtain ⟨kd, hx⟩ := h6
        have := yes0 (atK i o.op) h1 h2 (by rw [h3]; exact hcx) hw (by
          have e1' : forkOf S' o.op = some (len, x) := by rw [← e1]; unfold forkOf; rw [h5]
          exact forkOf_ok h2 e1' hx)
        rw [h3] at this
        exact this
      · split at h
        · rename_i kd l dflt x e1
          obtain ⟨u1, u2⟩ := lookOf_upto hr e1
          refine lookR_ok l h hr rfl u1 (fun e => absurd e u2) fun v S' c1 r' h1 h2 h3 h4 h5 h6 => ?_
          obtain ⟨n, hx, hv⟩ := h6
          have := yes0 (.mv (.c v)) h1 h2 (by rw [h3]; exact hcx) hw (by
            have e1' : lookOf S' o.op = some (kd, l, dflt, x) := by rw [← e1]; unfold lookOf; rw [h5]
            rw [← hv]
            exact lookOf_ok h2 e1' hx)
          rw [h3] at this
          exact this
        · exact yes0 o.op h hr hcx hw rfl
    have no : ∀ {S : SS} {c : Cx} {r : R SS}, opsS TT Sh cbS cx os out { S with env := setS S.env o.dst undefS } = some r → Rel c S env H K mk → CxOK cx c.κ K → wantedA env o.guard = false → Post m Fs r c.ρ (OpsQ TT cb K mk c.κ (o :: os) ⟨env, H⟩) := by
      intro S c r h hr hcx hw
      refine (opsS_ok hk href os h (hr.undef o.dst) hcx).mono fun S' ρ' hq => ?_
      obtain ⟨c', env', H', u1, u2⟩ := hq
      exact ⟨c', env', H', by rw [evalOps_no hw]; exact u1, u2⟩
    simp only [opsS] at h
    split at h
    · cases h
    · rename_i e; exact yes h hr hcx (wantS_ok hr e)
    · rename_i e; exact no h hr hcx (wantS_ok hr e)
    · rename_i x e
      obtain ⟨j, want, hg, hb⟩ := wantS_ok hr e
      rw [hg] at h
      simp only at h
      split at h
      · rename_i a b e1 e2
        cases h
        have hw : ∀ bb, x.den c.ρ = .bool bb → wantedA env o.guard = (bb == want) := fun bb hx => by rw [hg]; exact hg ▸ (hb bb hx).1
        cases want with
        | true =>
          simp only [if_true]
          exact Post.ite (fun hx => yes e1 (hb true hx).2 hcx (by rw [hw _ hx]; rfl)) (fun hx => no e2 (hb false hx).2 hcx (by rw [hw _ hx]; rfl))
        | false =>
          simp only [Bool.false_eq_true, if_false]
          exact Post.ite (fun hx => no e2 (hb true hx).2 hcx (by rw [hw _ hx]; rfl)) (fun hx => yes e1 (hb false hx).2 hcx (by rw [hw _ hx]; rfl))
      · cases h
end Go.Q
/- Regions that draw their order. -/
set_option linter.unusedVariables false
set_option linter.unusedSimpArgs false
namespace Go.Q
open Go.V
variable {c c' : Cx} {S : SS} {env : List AV} {H H' : Heap} {K : List FC} {mk : List Nat}
variable {TT : FuncId → Option IFn} {cb : Cb} {Fs : FuncId → List D → Option D} {Sh : Shp} {ρ ρ' : List D} {m : Nat} {cbS : SCall} {cx : List CE}

/-- What was touched, as it is told. -/
def FR (c : Cx) (f fc : Foot) : Prop := f.k = 2 ∨ (fc.k ≠ 2 ∧ (f.k = 0 → fc.k = 0 ∧ fc.rd = [] ∧ fc.wr = []) ∧ (∀ x ∈ fc.rd, c.okr f.rd x) ∧ ∀ x ∈ fc.wr, ¬ c.F0 x ∧ ∃ s p, c.ψ s = some p ∧ p.idc = some x ∧ p.rt ∈ f.wr)
theorem FR.mono (h : c.le c') {f fc : Foot} (hf : FR c f fc) : FR c' f fc := by
  rcases hf with hf | ⟨h1, h2, h3, h4⟩
  · exact .inl hf
  · exact .inr ⟨h1, h2, fun x hx => h.okr (h3 x hx), fun x hx => by
      obtain ⟨g1, s, p, g2, g3, g4⟩ := h4 x hx
      exact ⟨by rw [h.F0]; exact g1, s, p, h.ψ _ _ g2, g3, g4⟩⟩
theorem FR.past {f fc : Foot} (hf : FR c f fc) : FR c' (pastF f) fc := by
  unfold pastF
  by_cases h0 : f.k = 0
  · rw [if_pos (by simp [h0])]
    rcases hf with hf | ⟨h1, h2, h3, h4⟩
    · omega
    · obtain ⟨g1, g2, g3⟩ := h2 h0
      exact .inr ⟨h1, h2, by simp [g2], by simp [g3]⟩
  · rw [if_neg (by simpa using h0)]; exact .inl rfl
theorem FR.pastL : ∀ {fs fsC : List Foot}, F2 (FR c) fs fsC → F2 (FR c') (fs.map pastF) fsC
  | _, _, .nil => .nil
  | _, _, .cons h t => .cons h.past (FR.pastL t)
theorem callOp_noRef {f : FuncId} {fn : IFn} {args : List AV} {v : AV} {rd : List Nat} {wr : Wr} {nx nx' : Nat} (e : TT f = some fn) (hb : fn.byref = true) (h : callOp TT cb f args H nx = some (.eff v rd wr nx')) : False := by
  unfold callOp at h
  rw [e] at h
  simp only [hb, if_true] at h
  cases e2 : cb (.fn f) args H with
  | none => simp [e2] at h
  | some p => simp only [e2, Option.bind_some] at h; split at h <;> cases h
theorem evalD_eff {io : PO} {v : AV} {rd : List Nat} {wr : Wr} {nx nx' : Nat} (h : evalOp TT cb env H nx io = some (.eff v rd wr nx')) : evalD TT cb env H nx io = some (.eff v rd wr nx') := by
  unfold evalD
  cases e : refOp TT env io with
  | none => exact h
  | some q =>
    exfalso
    unfold refOp at e
    split at e
    · split at e
      · rename_i fn e1
        split at e
        · rename_i hb
          exact callOp_noRef e1 hb (by simpa only [evalOp] using h)
        · cases e
      · cases e
    · split at e
      · rename_i hv
        split at e
        · rename_i fn e1
          split at e
          · rename_i hb
            exact callOp_noRef e1 hb (by simpa only [evalOp, hv] using h)
          · cases e
        · cases e
      · cases e
    · split at e
      · rename_i hv
        split at e
        · rename_i hl
          split at e
          · rename_i fn e1
            split at e
            · rename_i hb
              exact callOp_noRef e1 hb (by simpa only [evalOp, hv, hl] using h)
            · cases e
          · cases e
        · cases e
      · cases e
    · cases e
theorem clash_ok (r : Rel c S env H K mk) {f fc g gc : Foot} (hf : FR c f fc) (hg : FR c g gc) (h : clash fc gc = true) : clash f g = true := by
  have quiet : ∀ {a ac b bc : Foot}, FR c b bc → b.k = 0 → bc.k = 0 ∧ bc.rd = [] ∧ bc.wr = [] := fun {a ac b bc} hb h0 => by
    rcases hb with hb | ⟨-, h2, -⟩
    · omega
    · exact h2 h0
  by_cases f2 : f.k = 2
  · by_cases g0 : g.k = 0
    · obtain ⟨k1, k2, k3⟩ := quiet (a := f) (ac := fc) hg g0
      simp [clash, k1, k2, k3] at h
    · simp [clash, f2, g0]
  by_cases g2 : g.k = 2
  · by_cases f0 : f.k = 0
    · obtain ⟨k1, k2, k3⟩ := quiet (a := g) (ac := gc) hf f0
      simp [clash, k1, k2, k3] at h
    · simp [clash, g2, f0]
  have hf := hf.resolve_left f2
  have hg := hg.resolve_left g2
  have hf : fc.k ≠ 2 ∧ (∀ x ∈ fc.rd, c.okr f.rd x) ∧ ∀ x ∈ fc.wr, ¬ c.F0 x ∧ ∃ s p, c.ψ s = some p ∧ p.idc = some x ∧ p.rt ∈ f.wr := ⟨hf.1, hf.2.2⟩
  have hg : gc.k ≠ 2 ∧ (∀ x ∈ gc.rd, c.okr g.rd x) ∧ ∀ x ∈ gc.wr, ¬ c.F0 x ∧ ∃ s p, c.ψ s = some p ∧ p.idc = some x ∧ p.rt ∈ g.wr := ⟨hg.1, hg.2.2⟩
  have key : ∀ {a ac b bc : Foot}, (∀ x ∈ ac.wr, ¬ c.F0 x ∧ ∃ s p, c.ψ s = some p ∧ p.idc = some x ∧ p.rt ∈ a.wr) → (∀ x ∈ bc.rd, c.okr b.rd x) → ∀ x, x ∈ ac.wr → x ∈ bc.rd → ∃ i, i ∈ a.wr ∧ i ∈ b.rd := by
    intro a ac b bc ha hb x h1 h2
    obtain ⟨g1, s, p, g2, g3, g4⟩ := ha x h1
    rcases hb x h2 with h | ⟨s', p', k1, k2, k3⟩
    · exact absurd h g1
    · exact ⟨p.rt, g4, by rw [r.rt _ _ _ _ _ g2 k1 g3 k2]; exact k3⟩
  have e1 : (fc.k == 2) = false := by simpa using hf.1
  have e2 : (gc.k == 2) = false := by simpa using hg.1
  simp only [clash, e1, e2, Bool.false_and, Bool.false_or, Bool.or_eq_true, List.any_eq_true, List.contains_eq_mem, decide_eq_true_eq] at h
  suffices hh : (∃ i, i ∈ f.wr ∧ (i ∈ g.rd ∨ i ∈ g.wr)) ∨ ∃ i, i ∈ g.wr ∧ i ∈ f.rd by
    simp only [clash, Bool.or_eq_true, List.any_eq_true, List.contains_eq_mem, decide_eq_true_eq]
    rcases hh with hh | hh
    · exact .inl (.inr hh)
    · exact .inr hh
  rcases h with ⟨x, h1, h2 | h2⟩ | ⟨x, h1, h2⟩
  · obtain ⟨i, q1, q2⟩ := key hf.2.2 hg.2.1 x h1 h2
    exact .inl ⟨i, q1, .inl q2⟩
  · obtain ⟨-, s, p, g2, g3, g4⟩ := hf.2.2 x h1
    obtain ⟨-, s', p', k2, k3, k4⟩ := hg.2.2 x h2
    exact .inl ⟨p.rt, g4, .inr (by rw [r.rt _ _ _ _ _ g2 k2 g3 k3]; exact k4)⟩
  · obtain ⟨i, q1, q2⟩ := key hg.2.2 hf.2.1 x h1 h2
    exact .inr ⟨i, q1, q2⟩
theorem foot_ok (r : Rel c S env H K mk) {f fc : Foot} (hf : FR c f fc) {bef : Nat} : ∀ {n : Nat} {fs fsC : List Foot}, F2 (FR c) fs fsC → footOK f bef n fs = true → footOK fc bef n fsC = true
  | n, [], _, .nil, _ => by cases n <;> rfl
  | 0, _ :: _, _, .cons _ _, h => by cases h
  | n + 1, g :: gs, gc :: gcs, .cons h1 t, h => by
    simp only [footOK, Bool.and_eq_true, Bool.or_eq_true, Bool.not_eq_true'] at h ⊢
    refine ⟨h.1.imp (fun h => h) (fun h => ?_), foot_ok r hf t h.2⟩
    cases e : clash gc fc with
    | false => rfl
    | true => rw [clash_ok r h1 hf e] at h; cases h
def DrawQ (TT : FuncId → Option IFn) (cb : Cb) (K : List FC) (mk : List Nat) (κ : List Nat) (ops : List IOp) (n : Nat) (fsC : List Foot) (st : St) (S' : SS) (ρ' : List D) : Prop :=
  ∃ c' env' H', evalDraw TT cb ops n fsC st = some ⟨env', H'⟩ ∧ c'.κ = κ ∧ c'.ρ = ρ' ∧ Rel c' S' env' H' K mk
theorem Rel.same (r : Rel c S env H K mk) (hg : ∀ x, hget H' x = hget H x) (hn : H'.nx = H.nx) : Rel c S env H' K mk := by
  refine r.mem (c' := c) (heap' := S.heap) (H' := H') (Cx.le.refl c) rfl (fun _ => False) (fun _ h => h.elim) (fun x hx _ => hg x) (by rw [hn]; exact Nat.le_refl _) r.hlen
    (fun id h hh => by
      obtain ⟨p, g1, g2, g3⟩ := r.heap id h hh
      exact ⟨p, g1, g2, fun b hb => ⟨(g3 b hb).1.mem fun x hx => hg x, (g3 b hb).2⟩⟩)
    r.inj r.rt (fun i p x h1 h2 => by rw [hn]; exact r.bnd i p x h1 h2) (fun x sz rows h1 h2 => by rw [h1] at h2; cases h2)
theorem refOp_atK (k : Nat) (io : PO) : refOp TT env (atK k io) = refOp TT env io := by cases io <;> rfl
theorem refOp_look {io : PO} {v : AV} {q : IntKind × List (Nat × AV) × AV × E} (h : lookOf S io = some q) : refOp TT env (.mv (.c v)) = refOp TT env io := by
  unfold lookOf at h
  split at h
  · rfl
  · cases h
theorem evalD_same {op op' : PO} (h1 : refOp TT env op = refOp TT env op') (h : evalOp TT cb env H H.nx op = evalOp TT cb env H H.nx op') : evalD TT cb env H H.nx op = evalD TT cb env H H.nx op' := by
  unfold evalD; rw [h1, h]
theorem drawS_ok (hk : Knows TT cb Fs Sh) (href : RefOK m Fs cbS cb) (hmo : CbMono cb) : ∀ (ops : List IOp) {n : Nat} {fs : List Foot} {S : SS} {r : R SS}, drawS TT Sh cbS cx ops n fs S = some r → ∀ {c : Cx} {env : List AV} {H : Heap} {fsC : List Foot}, Rel c S env H K mk → CxOK cx c.κ K → F2 (FR c) fs fsC → Post m Fs r c.ρ (DrawQ TT cb K mk c.κ ops n fsC ⟨env, H⟩)
  | [], n, fs, S, r, h, c, env, H, fsC, hr, _, _ => by cases h; exact Post.ret ⟨c, env, H, by simp [evalDraw], rfl, rfl, hr⟩
  | o :: os, n, fs, S, r, h, c, env, H, fsC, hr, hcx, hfs => by
    have yes0 : ∀ (op : PO) {S : SS} {c : Cx} {r : R SS},
        (if isBad Sh S op then some ⟨.fail, []⟩ else match stepOp TT Sh S op with
          | some (.ef f) => if footOK ⟨f.rd, f.wr, 1⟩ o.bef n fs then (drawS TT Sh cbS cx os (n + 1) (⟨f.rd, f.wr, 1⟩ :: fs) { S with env := setS S.env o.dst f.v, heap := f.heap, n := emN f.em S.n }).map fun r => (⟨emT f.em r.t, r.l⟩ : R SS) else none
          | some (.ref c args) => if ordC TT c && footOK ⟨[], [], 2⟩ o.bef n fs then match cbS cx c args S with
              | some r => r.bind fun p => drawS TT Sh cbS cx os (n + 1) (⟨[], [], 2⟩ :: fs.map pastF) { p.2 with env := setS p.2.env o.dst p.1 }
              | none => none
            else none
          | _ => none) = some r → Rel c S env H K mk → CxOK cx c.κ K → F2 (FR c) fs fsC → wantedA env o.guard = true → evalOp TT cb env H H.nx op = evalOp TT cb env H H.nx o.op → refOp TT env op = refOp TT env o.op → Post m Fs r c.ρ (DrawQ TT cb K mk c.κ (o :: os) n fsC ⟨env, H⟩) := by
      intro op S c r h hr hcx hfs hw hop hrf
      split at h
      · cases h; exact Post.fail
      · split at h
        · rename_i f e1
          split at h
          · rename_i hfo
            cases e2 : drawS TT Sh cbS cx os (n + 1) (⟨f.rd, f.wr, 1⟩ :: fs) { S with env := setS S.env o.dst f.v, heap := f.heap, n := emN f.em S.n } with
            | none => rw [e2] at h; cases h
            | some r2 =>
              rw [e2] at h; cases h
              refine Post.em fun ρ1 hem => ?_
              obtain ⟨v, rd, wr, nx, c1, g1, g2, g3, g4, g5, g6, g7⟩ := step_ef (ρ' := ρ1) hk hr e1 hem
              have r1 := g4.set (dst := o.dst) g5
              have hκ : c1.κ = c.κ := g2.κ
              have hk2 : kOf rd wr H nx ≠ 2 := by unfold kOf; split <;> omega
              have hfr : FR c1 ⟨f.rd, f.wr, 1⟩ ⟨rd, wr.map (·.1), kOf rd wr H nx⟩ := Or.inr ⟨hk2, (fun h0 => by cases h0), g6, fun x hx => by rw [g2.F0]; exact g7 x hx⟩
              have hfs1 : F2 (FR c1) fs fsC := hfs.mono fun _ _ h => h.mono g2
              have ih := drawS_ok hk href hmo os e2 r1 (by rw [hκ]; exact hcx) (F2.cons hfr hfs1)
              rw [g3, hκ] at ih
              refine ih.mono fun S' ρ' hq => ?_
              obtain ⟨c', env', H', q1, q2⟩ := hq
              refine ⟨c', env', H', ?_, q2⟩
              have ge : evalD TT cb env H H.nx o.op = some (.eff v rd wr nx) := evalD_eff (by rw [← hop]; exact g1)
              simp only [evalDraw, hw, if_true, ge]
              rw [if_pos (foot_ok r1 hfr hfs1 hfo)]
              exact q1
          · cases h
        · rename_i cal args e1
          split at h
          · rename_i hco
            simp only [Bool.and_eq_true] at hco
            split at h
            · rename_i r2 e2
              obtain ⟨calC, as, k1, k2, k3, k4, k5⟩ := step_ref (TT := TT) (cb := cb) hr e1
              refine Post.bind (href e2 hr hcx k2 k1) h fun p ρ1 ra hq hf => ?_
              obtain ⟨a, H1, c1, q1, q0, q2, q3, q4, q5⟩ := hq
              have hev := k3 a H1 q1 q0
              have hnx : H.nx ≤ H1.nx := hmo _ _ _ _ _ k4 q1
              have hge : evalD TT cb env H H.nx o.op = some (.whole a H1) := by
                have := k5 hco.1
                rw [hev] at this
                rw [← evalD_same hrf hop]
                exact this
              have hg : ∀ x, hget (wrH H (snap H H1) H1.nx) x = hget H1 x := fun x => by rw [hget_wrH, updH_snap]
              have hn : (wrH H (snap H H1) H1.nx).nx = H1.nx := by simp only [wrH]; exact Nat.max_eq_right hnx
              have r1 := (q4.set (dst := o.dst) q5).same hg hn
              have ih := drawS_ok hk href hmo os hf (fsC := ⟨[], (snap H H1).map (·.1), 2⟩ :: fsC) r1 (by rw [q2]; exact hcx) (F2.cons (.inl rfl) (FR.pastL hfs))
              rw [q3, q2] at ih
              refine ih.mono fun S' ρ' hq => ?_
              obtain ⟨c', env', H', u1, u2⟩ := hq
              refine ⟨c', env', H', ?_, u2⟩
              simp only [evalDraw, hw, if_true, hge]
              rw [if_pos (by rw [foot_ok hr (.inl rfl) hfs hco.2]; simpa using hnx)]
              exact u1
            · cases h
          · cases h
        · cases h
    have yes : ∀ {S : SS} {c : Cx} {r : R SS},
        (match forkOf S o.op with
          | some (len, x) => forkR x (fun k S => if isBad Sh S (atK k o.op) then some ⟨.fail, []⟩ else match stepOp TT Sh S (atK k o.op) with
            | some (.ef f) => if footOK ⟨f.rd, f.wr, 1⟩ o.bef n fs then (drawS TT Sh cbS cx os (n + 1) (⟨f.rd, f.wr, 1⟩ :: fs) { S with env := setS S.env o.dst f.v, heap := f.heap, n := emN f.em S.n }).map fun r => (⟨emT f.em r.t, r.l⟩ : R SS) else none
            | some (.ref c args) => if ordC TT c && footOK ⟨[], [], 2⟩ o.bef n fs then match cbS cx c args S with
                | some r => r.bind fun p => drawS TT Sh cbS cx os (n + 1) (⟨[], [], 2⟩ :: fs.map pastF) { p.2 with env := setS p.2.env o.dst p.1 }
                | none => none
              else none
            | _ => none) S len len
          | none => match lookOf S o.op with
            | some (kd, l, dflt, x) => lookR kd x (fun v S => if isBad Sh S (.mv (.c v)) then some ⟨.fail, []⟩ else match stepOp TT Sh S (.mv (.c v)) with
            | some (.ef f) => if footOK ⟨f.rd, f.wr, 1⟩ o.bef n fs then (drawS TT Sh cbS cx os (n + 1) (⟨f.rd, f.wr, 1⟩ :: fs) { S with env := setS S.env o.dst f.v, heap := f.heap, n := emN f.em S.n }).map fun r => (⟨emT f.em r.t, r.l⟩ : R SS) else none
            | some (.ref c args) => if ordC TT c && footOK ⟨[], [], 2⟩ o.bef n fs then match cbS cx c args S with
                | some r => r.bind fun p => drawS TT Sh cbS cx os (n + 1) (⟨[], [], 2⟩ :: fs.map pastF) { p.2 with env := setS p.2.env o.dst p.1 }
                | none => none
              else none
            | _ => none) dflt S l
            | none => if isBad Sh S o.op then some ⟨.fail, []⟩ else match stepOp TT Sh S o.op with
            | some (.ef f) => if footOK ⟨f.rd, f.wr, 1⟩ o.bef n fs then (drawS TT Sh cbS cx os (n + 1) (⟨f.rd, f.wr, 1⟩ :: fs) { S with env := setS S.env o.dst f.v, heap := f.heap, n := emN f.em S.n }).map fun r => (⟨emT f.em r.t, r.l⟩ : R SS) else none
            | some (.ref c args) => if ordC TT c && footOK ⟨[], [], 2⟩ o.bef n fs then match cbS cx c args S with
                | some r => r.bind fun p => drawS TT Sh cbS cx os (n + 1) (⟨[], [], 2⟩ :: fs.map pastF) { p.2 with env := setS p.2.env o.dst p.1 }
                | none => none
              else none
            | _ => none) = some r → Rel c S env H K mk → CxOK cx c.κ K → F2 (FR c) fs fsC → wantedA env o.guard = true → Post m Fs r c.ρ (DrawQ TT cb K mk c.κ (o :: os) n fsC ⟨env, H⟩) := by
      intro S c r h hr hcx hfs hw
      split at h
      · rename_i len x e1
        refine forkR_ok len h hr rfl (forkOf_upto hr e1) fun i S' c1 r' h1 h2 h3 h4 h5 h6 => ?_
        obtain ⟨kd, hx⟩ := h6
        have := yes0 (atK i o.op) h1 h2 (by rw [h3]; exact hcx) (hfs.mono fun _ _ h => h.mono h4) hw (by
          have e1' : forkOf S' o.op = some (len, x) := by rw [← e1]; unfold forkOf; rw [h5]
          exact forkOf_ok h2 e1' hx) (refOp_atK i o.op)
        rw [h3] at this
        exact this
      · split at h
        · rename_i kd l dflt x e1
          obtain ⟨u1, u2⟩ := lookOf_upto hr e1
          refine lookR_ok l h hr rfl u1 (fun e => absurd e u2) fun v S' c1 r' h1 h2 h3 h4 h5 h6 => ?_
          obtain ⟨n, hx, hv⟩ := h6
          have := yes0 (.mv (.c v)) h1 h2 (by rw [h3]; exact hcx) (hfs.mono fun _ _ h => h.mono h4) hw (by
            have e1' : lookOf S' o.op = some (kd, l, dflt, x) := by rw [← e1]; unfold lookOf; rw [h5]
            rw [← hv]
            exact lookOf_ok h2 e1' hx) (refOp_look e1)
          rw [h3] at this
          exact this
        · exact yes0 o.op h hr hcx hfs hw rfl rfl
    have no : ∀ {S : SS} {c : Cx} {r : R SS}, drawS TT Sh cbS cx os (n + 1) (⟨[], [], 0⟩ :: fs) { S with env := setS S.env o.dst undefS } = some r → Rel c S env H K mk → CxOK cx c.κ K → F2 (FR c) fs fsC → wantedA env o.guard = false → Post m Fs r c.ρ (DrawQ TT cb K mk c.κ (o :: os) n fsC ⟨env, H⟩) := by
      intro S c r h hr hcx hfs hw
      refine (drawS_ok hk href hmo os h (hr.undef o.dst) hcx (F2.cons (b := ⟨[], [], 0⟩) (.inr ⟨by simp, by simp, by simp, by simp⟩) hfs)).mono fun S' ρ' hq => ?_
      obtain ⟨c', env', H', u1, u2⟩ := hq
      exact ⟨c', env', H', by simp only [evalDraw, hw, Bool.false_eq_true, if_false]; exact u1, u2⟩
    simp only [drawS] at h
    split at h
    · cases h
    · rename_i e; exact yes h hr hcx hfs (wantS_ok hr e)
    · rename_i e; exact no h hr hcx hfs (wantS_ok hr e)
    · rename_i x e
      obtain ⟨j, want, hg, hb⟩ := wantS_ok hr e
      rw [hg] at h
      simp only at h
      split at h
      · rename_i a b e1 e2
        cases h
        have hw : ∀ bb, x.den c.ρ = .bool bb → wantedA env o.guard = (bb == want) := fun bb hx => by rw [hg]; exact hg ▸ (hb bb hx).1
        cases want with
        | true =>
          simp only [if_true]
          exact Post.ite (fun hx => yes e1 (hb true hx).2 hcx hfs (by rw [hw _ hx]; rfl)) (fun hx => no e2 (hb false hx).2 hcx hfs (by rw [hw _ hx]; rfl))
        | false =>
          simp only [Bool.false_eq_true, if_false]
          exact Post.ite (fun hx => no e2 (hb true hx).2 hcx hfs (by rw [hw _ hx]; rfl)) (fun hx => yes e1 (hb false hx).2 hcx hfs (by rw [hw _ hx]; rfl))
      · cases h
end Go.Q
/- Where ways meet: a state is one of a pattern. -/
set_option linter.unusedVariables false
set_option linter.unusedSimpArgs false
namespace Go.Q
open Go.V
variable {c c' : Cx} {S : SS} {env : List AV} {H H' : Heap} {K : List FC} {mk : List Nat}

mutual
theorem eqDb_eq : ∀ {a b : D}, eqDb a b = true → a = b
  | .int k a, b, h => by
    cases b <;> simp only [eqDb, Bool.and_eq_true, decide_eq_true_eq, beq_iff_eq, Bool.false_eq_true] at h
    rw [h.1, h.2]
  | .bool a, b, h => by
    cases b <;> simp only [eqDb, beq_iff_eq, Bool.false_eq_true] at h
    rw [h]
  | .str s, b, h => by simp [eqDb] at h
  | .node a, b, h => by
    cases b <;> simp only [eqDb, Bool.false_eq_true] at h
    rw [eqDLb_eq h]
  | .list a, b, h => by
    cases b <;> simp only [eqDb, Bool.false_eq_true] at h
    rw [eqDLLb_eq h]
  | .nilP, b, h => by cases b <;> first | rfl | simp [eqDb] at h
  | .nilF, b, h => by cases b <;> first | rfl | simp [eqDb] at h
  | .fn f a b, d, h => by
    cases d <;> simp only [eqDb, Bool.false_eq_true, Bool.and_eq_true, beq_iff_eq] at h
    rw [h.1.1, eqDLb_eq h.1.2, eqDLb_eq h.2]
theorem eqDLb_eq : ∀ {a b : List D}, eqDLb a b = true → a = b
  | [], [], _ => rfl
  | a :: as, b :: bs, h => by
    simp only [eqDLb, Bool.and_eq_true] at h
    rw [eqDb_eq h.1, eqDLb_eq h.2]
  | [], _ :: _, h => by simp [eqDLb] at h
  | _ :: _, [], h => by simp [eqDLb] at h
theorem eqDLLb_eq : ∀ {a b : List (List D)}, eqDLLb a b = true → a = b
  | [], [], _ => rfl
  | a :: as, b :: bs, h => by
    simp only [eqDLLb, Bool.and_eq_true] at h
    rw [eqDLb_eq h.1, eqDLLb_eq h.2]
  | [], _ :: _, h => by simp [eqDLLb] at h
  | _ :: _, [], h => by simp [eqDLLb] at h
end
mutual
theorem eqE_eq : ∀ {a b : E}, eqE a b = true → a = b
  | .v n, b, h => by
    cases b <;> simp only [eqE, beq_iff_eq, Bool.false_eq_true] at h
    rw [h]
  | .c d, b, h => by
    cases b <;> simp only [eqE, Bool.false_eq_true] at h
    rw [eqDb_eq h]
  | .cell x j, b, h => by
    cases b <;> simp only [eqE, Bool.false_eq_true, Bool.and_eq_true, beq_iff_eq] at h
    rw [h.1, eqE_eq h.2]
  | .node a, b, h => by
    cases b <;> simp only [eqE, Bool.false_eq_true] at h
    rw [eqEL_eq h]
  | .fn f a b, d, h => by
    cases d <;> simp only [eqE, Bool.false_eq_true, Bool.and_eq_true, beq_iff_eq] at h
    rw [h.1.1, eqEL_eq h.1.2, eqEL_eq h.2]
theorem eqEL_eq : ∀ {a b : List E}, eqEL a b = true → a = b
  | [], [], _ => rfl
  | a :: as, b :: bs, h => by
    simp only [eqEL, Bool.and_eq_true] at h
    rw [eqE_eq h.1, eqEL_eq h.2]
  | [], _ :: _, h => by simp [eqEL] at h
  | _ :: _, [], h => by simp [eqEL] at h
end
mutual
theorem sub_den {n0 : Nat} {vals : List E} {ρ0 e : List D} (hn : ρ0.length = n0) : ∀ (x : E), (x.sub n0 vals).den (ρ0 ++ e) = x.den (ρ0 ++ denL (ρ0 ++ e) vals)
  | .v k => by
    simp only [E.sub]
    split
    · rename_i hk
      simp [E.den, List.getD_eq_getElem?_getD, List.getElem?_append_left (show k < ρ0.length by omega)]
    · rename_i hk
      simp only [E.den, List.getD_eq_getElem?_getD]
      rw [List.getElem?_append_right (by omega), denL_get, hn]
      cases vals[k - n0]? with
      | none => rfl
      | some y => rfl
  | .c d => rfl
  | .cell x j => by simp only [E.sub, E.den]; rw [sub_den hn x]
  | .node xs => by simp only [E.sub, E.den]; rw [subL_den hn xs]
  | .fn f a b => by simp only [E.sub, E.den]; rw [subL_den hn a, subL_den hn b]
theorem subL_den {n0 : Nat} {vals : List E} {ρ0 e : List D} (hn : ρ0.length = n0) : ∀ (xs : List E), denL (ρ0 ++ e) (subL n0 vals xs) = denL (ρ0 ++ denL (ρ0 ++ e) vals) xs
  | [] => rfl
  | x :: xs => by simp only [subL, denL]; rw [sub_den hn x, subL_den hn xs]
end
open Classical in
/-- What is written no more: lists that the pattern doesn't have. -/
noncomputable def frzM (c : Cx) (H : Heap) (heap : List HB) (σ : Ren) : Frz := fun x =>
  match c.Φ x with
  | some y => some y
  | none => if ∃ k p s y d, bget heap k = some (.list s y d) ∧ c.ψ k = some p ∧ p.idc = some x ∧ (σ.any fun o => o == some (some k)) = false then
      (match hget H x with
        | some (.row sz rows) => some (sz, rows)
        | _ => none)
    else none
noncomputable def mtC (c : Cx) (H : Heap) (heap : List HB) (σ : Ren) (ρ : List D) : Cx :=
  { Φ := frzM c H heap σ, F0 := fun x => frzM c H heap σ x ≠ none
    ψ := fun i => match σ[i]? with
      | some (some (some k)) => if (bget heap k).isSome then (c.ψ k).map fun p => { p with rt := i } else some ⟨none, 0, 0, i⟩
      | some _ => some ⟨none, 0, 0, i⟩
      | none => none
    κ := c.κ, ρ := ρ }
theorem frzM_up {heap : List HB} {σ : Ren} {x : Nat} {y : Nat × List (List AV)} (h : c.Φ x = some y) : frzM c H heap σ x = some y := by simp [frzM, h]
mutual
theorem RO.toM {Φ Φ' : Frz} {A A' : Nat → Prop} (hΦ : ∀ id x, Φ id = some x → Φ' id = some x ∧ A' id) : ∀ {d : D} {a : AV}, RO Φ A d a → RO Φ' A' d a
  | _, _, .b h => .b h
  | _, _, .own h1 h2 h3 h4 h5 => .own (hΦ _ _ h1).1 (hΦ _ _ h1).2 h3 h4 (RO.toMLL hΦ h5)
theorem RO.toML {Φ Φ' : Frz} {A A' : Nat → Prop} (hΦ : ∀ id x, Φ id = some x → Φ' id = some x ∧ A' id) : ∀ {d : List D} {a : List AV}, F2 (RO Φ A) d a → F2 (RO Φ' A') d a
  | _, _, .nil => .nil
  | _, _, .cons h t => .cons (RO.toM hΦ h) (RO.toML hΦ t)
theorem RO.toMLL {Φ Φ' : Frz} {A A' : Nat → Prop} (hΦ : ∀ id x, Φ id = some x → Φ' id = some x ∧ A' id) : ∀ {d : List (List D)} {a : List (List AV)}, F2 (F2 (RO Φ A)) d a → F2 (F2 (RO Φ' A')) d a
  | _, _, .nil => .nil
  | _, _, .cons h t => .cons (RO.toML hΦ h) (RO.toMLL hΦ t)
end
section
variable {n0 : Nat} {vals : List E} {σ : Ren} {ρ0 e : List D}
theorem okE_ok (hn : ρ0.length = n0) {x y : E} (h : okE n0 vals x y = true) : x.upto (ρ0 ++ denL (ρ0 ++ e) vals).length = true ∧ x.den (ρ0 ++ denL (ρ0 ++ e) vals) = y.den (ρ0 ++ e) := by
  simp only [okE, Bool.and_eq_true] at h
  refine ⟨by rw [List.length_append, denL_len, hn]; exact h.1, ?_⟩
  rw [← sub_den hn, eqE_eq h.2]
theorem toM_Φ {rs : List Nat} : ∀ id x, c.Φ id = some x → (mtC c H S.heap σ ρ0).Φ id = some x ∧ (mtC c H S.heap σ ρ0).okr rs id := fun id x h => by
  have h1 : frzM c H S.heap σ id = some x := frzM_up h
  exact ⟨h1, .inl (by simp only [mtC]; rw [h1]; simp)⟩
theorem okId_ψ {i k : Nat} {p : Pl} {ρ : List D} (h : okId S.heap σ i k = true) (hp : c.ψ k = some p) : (mtC c H S.heap σ ρ).ψ i = some { p with rt := i } := by
  simp only [okId, Bool.and_eq_true, beq_iff_eq] at h
  simp [mtC, h.1, h.2, hp]
mutual
theorem okV_ok (r : Rel c S env H K mk) (hρ : c.ρ = ρ0 ++ e) (hn : ρ0.length = n0) : ∀ (P : SV) {v : SV} {a : AV}, okV n0 vals S.heap σ P v = true → Cv c v a → Cv (mtC c H S.heap σ (ρ0 ++ denL c.ρ vals)) P a
  | .unk, v, a, _, _ => .unk
  | .e x, v, a, h, hv => by
    rw [hρ]
    cases v <;> simp only [okV, Bool.false_eq_true] at h
    · obtain ⟨g1, g2⟩ := okE_ok (e := e) hn h
      obtain ⟨k1, k2, k3⟩ := hv.inv_e
      exact .e g1 (by show RD (x.den (ρ0 ++ denL (ρ0 ++ e) vals)) a; rw [g2, ← hρ]; exact k2) k3
    · obtain ⟨g1, g2⟩ := okE_ok (e := e) hn h
      have := hv.inv_nil
      subst this
      exact .e g1 (by show RD (x.den (ρ0 ++ denL (ρ0 ++ e) vals)) .nilS; rw [g2]; exact .nilS) rfl
  | .fz x rs, v, a, h, hv => by
    rw [hρ]
    have fin : ∀ {y : E}, okE n0 vals x y = true → RO c.Φ (fun id => ∃ z, c.Φ id = some z) (y.den c.ρ) a → a.one = true → Cv (mtC c H S.heap σ (ρ0 ++ denL (ρ0 ++ e) vals)) (.fz x rs) a := fun {y} h h1 h2 => by
      obtain ⟨g1, g2⟩ := okE_ok (e := e) hn h
      refine .fz g1 ?_ h2
      show RO _ _ (x.den (ρ0 ++ denL (ρ0 ++ e) vals)) a
      rw [g2, ← hρ]
      exact RO.toM (fun id x h => toM_Φ id x h) h1
    cases v <;> simp only [okV, Bool.false_eq_true] at h
    · obtain ⟨k1, k2, k3⟩ := hv.inv_e
      exact fin h (.b k2) k3
    · obtain ⟨k1, k2, k3⟩ := hv.inv_fz
      exact fin h (RO.toM (fun id x h => ⟨h, x, h⟩) k2) k3
    · rename_i k
      simp only [Bool.and_eq_true, Bool.not_eq_true'] at h
      obtain ⟨h0, h⟩ := h
      split at h
      · rename_i s y dp e1
        obtain ⟨g1, g2⟩ := okE_ok (e := e) hn h
        obtain ⟨p, hp, ha⟩ := hv.inv_own
        obtain ⟨p', q1, q2, q3, q4⟩ := r.blk e1
        rw [hp] at q1; cases q1
        obtain ⟨xs, t1, t2, t3, t4, t5⟩ := q3
        have hd : x.den (ρ0 ++ denL (ρ0 ++ e) vals) = .list xs := by rw [g2, ← hρ]; exact t2
        rcases ha with ⟨z, hz, ha⟩ | ⟨hl0, ha⟩
        · obtain ⟨rows, u1, u2, u3, u4⟩ := t5 _ hz
          have hΦ : frzM c H S.heap σ z = some (s, rows) := by
            simp only [frzM, q4 z hz]
            rw [if_pos ⟨k, p, s, y, dp, e1, hp, hz, h0⟩, u1]
          have hΦ' : (mtC c H S.heap σ (ρ0 ++ denL (ρ0 ++ e) vals)).Φ z = some (s, rows) := hΦ
          subst ha
          refine .fz g1 ?_ rfl
          show RO _ _ (x.den (ρ0 ++ denL (ρ0 ++ e) vals)) _
          rw [hd, ← t3]
          rw [← t3] at u2 u4
          refine .own hΦ' (.inl (by show frzM c H S.heap σ z ≠ none; rw [hΦ]; simp)) u2 u3 (u4.mono fun _ _ => F2.mono fun d b hk => ?_)
          cases dp with
          | none => exact .b hk
          | some rs' => exact RO.toM (fun id x h => toM_Φ id x h) hk
        · have hxs : xs = [] := by rw [hl0] at t3; simpa using t3
          subst hxs
          rcases ha with rfl | rfl
          · exact .fz g1 (by show RO _ _ (x.den (ρ0 ++ denL (ρ0 ++ e) vals)) _; rw [hd]; exact .b .nilS) rfl
          · exact .fz g1 (by show RO _ _ (x.den (ρ0 ++ denL (ρ0 ++ e) vals)) _; rw [hd]; exact .b .emp) rfl
      · cases h
    · have := hv.inv_nil
      subst this
      exact fin h (.b .nilS) rfl
  | .nil, v, a, h, hv => by
    cases v <;> simp only [okV, Bool.false_eq_true] at h
    rw [hv.inv_nil]; exact .nil
  | .own i, v, a, h, hv => by
    cases v <;> simp only [okV, Bool.false_eq_true] at h
    · obtain ⟨p, hp, ha⟩ := hv.inv_own
      have hψ := okId_ψ (H := H) (ρ := ρ0 ++ denL c.ρ vals) h hp
      rcases ha with ⟨z, hz, rfl⟩ | ⟨hl0, ha⟩
      · exact .own (p := { p with rt := i }) hψ hz
      · exact .ownE (p := { p with rt := i }) hψ hl0 ha
    · simp only [beq_iff_eq] at h
      rw [hv.inv_nil]
      exact .ownE (p := ⟨none, 0, 0, i⟩) (by simp [mtC, h]) rfl (.inl rfl)
  | .agg cs, v, a, h, hv => by
    cases v <;> simp only [okV, Bool.false_eq_true] at h
    obtain ⟨as, rfl, h1, h2⟩ := hv.inv_agg
    exact .agg (okVL_ok r hρ hn cs h h1) h2
  | .tup cs, v, a, h, hv => by
    cases v <;> simp only [okV, Bool.false_eq_true] at h
    obtain ⟨as, rfl, h1⟩ := hv.inv_tup
    exact .tup (okVL_ok r hρ hn cs h h1)
  | .ptr i j, v, a, h, hv => by
    cases v <;> simp only [okV, Bool.false_eq_true] at h
    simp only [Bool.and_eq_true, beq_iff_eq] at h
    obtain ⟨rfl, h⟩ := h
    obtain ⟨p, x, hp, hx, rfl⟩ := hv.inv_ptr
    exact .ptr (p := { p with rt := i }) (okId_ψ h hp) hx
  | .ptrO i x j, v, a, h, hv => by
    cases v <;> simp only [okV, Bool.false_eq_true] at h
    simp only [Bool.and_eq_true, beq_iff_eq] at h
    obtain ⟨⟨rfl, h⟩, h'⟩ := h
    obtain ⟨p, w, k, m, hp, hx, hi, hm, h0, hl, rfl⟩ := hv.inv_ptrO
    obtain ⟨g1, g2⟩ := okE_ok (e := e) hn h'
    have hψ := okId_ψ (H := H) (ρ := ρ0 ++ denL c.ρ vals) h hp
    exact .ptrO (p := { p with rt := i }) (n := m) hψ hx (by rw [hρ]; exact g1) (by show x.den (ρ0 ++ denL c.ρ vals) = _; rw [hρ, g2, ← hρ]; exact hm) h0 hl
  | .sufO i x, v, a, h, hv => by
    cases v <;> simp only [okV, Bool.false_eq_true] at h
  | .ptrE x i j rs, v, a, h, hv => by
    cases v <;> simp only [okV, Bool.false_eq_true] at h
    rename_i y k l rs'
    simp only [Bool.and_eq_true, beq_iff_eq] at h
    obtain ⟨⟨⟨rfl, hr⟩, h1⟩, h2⟩ := h
    obtain ⟨g1, g2⟩ := okE_ok (e := e) hn h1
    obtain ⟨g3, g4⟩ := okE_ok (e := e) hn h2
    obtain ⟨hx, hi, xs, kk, m, hd, hm, h0, hl, hh⟩ := hv.inv_ptrE
    rcases hh with ⟨sz, rows, hs, h, rfl⟩ | ⟨r0, id, off, sz, rows, rfl, hΦ, hA, hl', hs, h, rfl⟩
    · exact .ptrE (by rw [hρ]; exact g1) (by rw [hρ]; exact g3) (by show x.den (ρ0 ++ denL c.ρ vals) = _; rw [hρ, g2, ← hρ]; exact hd) (by show i.den (ρ0 ++ denL c.ρ vals) = _; rw [hρ, g4, ← hρ]; exact hm) h0 hl hs h
    · cases rs with
      | none => cases hr
      | some rs =>
        obtain ⟨q1, q2⟩ := toM_Φ (c := c) (S := S) (H := H) (σ := σ) (ρ0 := ρ0 ++ denL c.ρ vals) (rs := rs) id _ hΦ
        exact .ptrF (by rw [hρ]; exact g1) (by rw [hρ]; exact g3) (by show x.den (ρ0 ++ denL c.ρ vals) = _; rw [hρ, g2, ← hρ]; exact hd) (by show i.den (ρ0 ++ denL c.ρ vals) = _; rw [hρ, g4, ← hρ]; exact hm) h0 hl q1 q2 hl' hs (RO.toMLL (fun id x h => toM_Φ id x h) h)
  | .fn f x y, v, a, h, hv => by
    cases v <;> simp only [okV, Bool.false_eq_true] at h
    simp only [Bool.and_eq_true, beq_iff_eq] at h
    obtain ⟨⟨rfl, h1⟩, h2⟩ := h
    obtain ⟨as, bs, rfl, k1, k2⟩ := hv.inv_fn
    exact .fn (okVL_ok r hρ hn x h1 k1) (okVL_ok r hρ hn y h2 k2)
  | .yld i, v, a, h, hv => by
    cases v <;> simp only [okV, Bool.false_eq_true] at h
    simp only [beq_iff_eq] at h
    subst h
    obtain ⟨id, rfl, hk⟩ := hv.inv_yld
    exact .yld hk
  | .km x y, v, a, h, hv => by
    cases v <;> simp only [okV, Bool.false_eq_true] at h
    simp only [Bool.and_eq_true] at h
    rw [eqLs_eq (fun a b => eqD_eq) h.1, eqLs_eq (fun a b => eqD_eq) h.2]
    cases hv
    exact .km
theorem okVL_ok (r : Rel c S env H K mk) (hρ : c.ρ = ρ0 ++ e) (hn : ρ0.length = n0) : ∀ (Ps : List SV) {vs : List SV} {as : List AV}, okVL n0 vals S.heap σ Ps vs = true → F2 (Cv c) vs as → F2 (Cv (mtC c H S.heap σ (ρ0 ++ denL c.ρ vals))) Ps as
  | [], vs, as, h, hv => by
    cases vs with
    | nil => cases hv; exact .nil
    | cons => simp [okVL] at h
  | P :: Ps, vs, as, h, hv => by
    cases vs with
    | nil => simp [okVL] at h
    | cons v vs =>
      simp only [okVL, Bool.and_eq_true] at h
      obtain ⟨a, t, rfl, ha, ht⟩ := F2.inv_cons hv
      exact .cons (okV_ok r hρ hn P h.1 ha) (okVL_ok r hρ hn Ps h.2 ht)
end
end
end Go.Q
/- Where ways meet; loops. -/
set_option linter.unusedVariables false
set_option linter.unusedSimpArgs false
namespace Go.Q
open Go.V
variable {c c' : Cx} {S P : SS} {env : List AV} {H H' : Heap} {K : List FC} {mk : List Nat}
variable {TT : FuncId → Option IFn} {cb : Cb} {Fs : FuncId → List D → Option D} {Sh : Shp} {ρ ρ' : List D} {m M : Nat} {cbS : SCall} {cx : List CE}

theorem stB_eq {a b : LoopState} (h : stB a b = true) : a = b := by cases a <;> cases b <;> first | rfl | cases h
theorem exB_eq {a b : Ex} (h : exB a b = true) : a = b := by
  cases a <;> cases b <;> first | rfl | (cases h; done) | skip
  simp only [exB, beq_iff_eq] at h; rw [h]
section
variable {n0 : Nat} {vals : List E} {σ : Ren} {ρ0 e : List D}
theorem okFL_ok (r : Rel c S env H K mk) (hρ : c.ρ = ρ0 ++ e) (hn : ρ0.length = n0) : ∀ {Ps frs : List Fr} {K : List FC}, okFL n0 vals S.heap σ Ps frs = true → F2 (RF c H) frs K → F2 (RF (mtC c H S.heap σ (ρ0 ++ denL c.ρ vals)) H) Ps K
  | [], [], _, _, .nil => .nil
  | P :: Ps, fr :: frs, _, h, .cons h1 t => by
    simp only [okFL, okF, Bool.and_eq_true] at h
    obtain ⟨⟨⟨q1, q2⟩, q3⟩, q4⟩ := h
    refine .cons ?_ (okFL_ok r hρ hn q4 t)
    rename_i k K'
    cases k with
    | call as => exact okVL_ok r hρ hn _ q3 h1
    | rng id as ps a b d => exact ⟨by rw [stB_eq q1, exB_eq q2]; exact h1.1, okVL_ok r hρ hn _ q3 h1.2⟩
  | [], _ :: _, _, h, _ => by simp [okFL] at h
  | _ :: _, [], _, h, _ => by simp [okFL] at h
theorem okR_at : ∀ {l : List HB} {j i : Nat} {b : HB}, okR l j = true → l[i]? = some b → b.rt = j + i
  | x :: l, j, 0, b, h, e => by cases e; simp only [okR, Bool.and_eq_true, beq_iff_eq] at h; simpa using h.1
  | x :: l, j, i + 1, b, h, e => by
    simp only [okR, Bool.and_eq_true] at h
    rw [okR_at h.2 (by simpa using e)]; omega
theorem okH_at {hS : List HB} : ∀ {l : List HB} {j i rt : Nat} {b : SB}, okH n0 vals σ hS l j = true → l[i]? = some ⟨rt, some b⟩ → okB n0 vals σ hS b ((σ[j + i]?).bind id) = true
  | ⟨r, some b'⟩ :: l, j, 0, rt, b, h, e => by cases e; simp only [okH, Bool.and_eq_true] at h; exact h.1
  | ⟨r, none⟩ :: l, j, 0, rt, b, h, e => by cases e
  | ⟨r, some b'⟩ :: l, j, i + 1, rt, b, h, e => by
    simp only [okH, Bool.and_eq_true] at h
    have := okH_at h.2 (by simpa using e)
    rwa [show j + 1 + i = j + (i + 1) by omega] at this
  | ⟨r, none⟩ :: l, j, i + 1, rt, b, h, e => by
    simp only [okH] at h
    have := okH_at h (by simpa using e)
    rwa [show j + 1 + i = j + (i + 1) by omega] at this
theorem okI_seen : ∀ {σ : Ren} {seen : List Nat} {i k : Nat}, okI σ seen = true → σ[i]? = some (some (some k)) → k ∉ seen
  | some (some k') :: σ, seen, 0, k, h, e => by
    cases e
    simp only [okI, Bool.and_eq_true, Bool.not_eq_true', List.contains_eq_mem, decide_eq_false_iff_not] at h
    exact h.1
  | some (some k') :: σ, seen, i + 1, k, h, e => by
    simp only [okI, Bool.and_eq_true] at h
    exact fun hk => okI_seen h.2 (by simpa using e) (by simp [hk])
  | some none :: σ, seen, 0, k, h, e => by cases e
  | none :: σ, seen, 0, k, h, e => by cases e
  | some none :: σ, seen, i + 1, k, h, e => okI_seen (σ := σ) (by simpa [okI] using h) (by simpa using e)
  | none :: σ, seen, i + 1, k, h, e => okI_seen (σ := σ) (by simpa [okI] using h) (by simpa using e)
theorem okI_inj : ∀ {σ : Ren} {seen : List Nat} {i i' k : Nat}, okI σ seen = true → σ[i]? = some (some (some k)) → σ[i']? = some (some (some k)) → i = i'
  | some (some k') :: σ, seen, 0, 0, k, h, e, e' => rfl
  | some (some k') :: σ, seen, 0, i' + 1, k, h, e, e' => by
    cases e
    simp only [okI, Bool.and_eq_true] at h
    exact (okI_seen h.2 (show σ[i']? = _ by simpa using e') List.mem_cons_self).elim
  | some (some k') :: σ, seen, i + 1, 0, k, h, e, e' => by
    cases e'
    simp only [okI, Bool.and_eq_true] at h
    exact (okI_seen h.2 (show σ[i]? = _ by simpa using e) List.mem_cons_self).elim
  | some (some k') :: σ, seen, i + 1, i' + 1, k, h, e, e' => by
    simp only [okI, Bool.and_eq_true] at h
    rw [okI_inj h.2 (show σ[i]? = _ by simpa using e) (show σ[i']? = _ by simpa using e')]
  | some none :: σ, seen, 0, _, k, h, e, e' => by cases e
  | none :: σ, seen, 0, _, k, h, e, e' => by cases e
  | some none :: σ, seen, i + 1, 0, k, h, e, e' => by cases e'
  | none :: σ, seen, i + 1, 0, k, h, e, e' => by cases e'
  | some none :: σ, seen, i + 1, i' + 1, k, h, e, e' => by rw [okI_inj (σ := σ) (seen := seen) (by simpa [okI] using h) (show σ[i]? = _ by simpa using e) (show σ[i']? = _ by simpa using e')]
  | none :: σ, seen, i + 1, i' + 1, k, h, e, e' => by rw [okI_inj (σ := σ) (seen := seen) (by simpa [okI] using h) (show σ[i]? = _ by simpa using e) (show σ[i']? = _ by simpa using e')]
theorem ψ_inv {ρ : List D} {i x : Nat} {p : Pl} (h : (mtC c H S.heap σ ρ).ψ i = some p) (hx : p.idc = some x) : ∃ k q b, σ[i]? = some (some (some k)) ∧ bget S.heap k = some b ∧ c.ψ k = some q ∧ q.idc = some x ∧ p.rt = i := by
  simp only [mtC] at h
  split at h
  · rename_i k e1
    split at h
    · rename_i hb
      obtain ⟨b, hb⟩ := Option.isSome_iff_exists.1 hb
      cases e2 : c.ψ k with
      | none => rw [e2] at h; cases h
      | some q => rw [e2] at h; cases h; exact ⟨k, q, b, e1, hb, e2, hx, rfl⟩
    · cases h; cases hx
  · cases h; cases hx
  · cases h
theorem okS_ok (r : Rel c S env H K mk) (hρ : c.ρ = ρ0 ++ e) (hn : ρ0.length = n0) (h : okS n0 vals σ P S = true) : Rel (mtC c H S.heap σ (ρ0 ++ denL c.ρ vals)) P env H K mk := by
  simp only [okS, Bool.and_eq_true, beq_iff_eq, decide_eq_true_eq] at h
  obtain ⟨⟨⟨⟨⟨⟨⟨h1, h2⟩, h3⟩, h4⟩, h5⟩, h6⟩, h7⟩, h8⟩ := h
  have hψs : ∀ i, i < P.heap.length → ∃ p, (mtC c H S.heap σ (ρ0 ++ denL c.ρ vals)).ψ i = some p ∧ p.rt = i := fun i hi => by
    rw [← h7] at hi
    have he := List.getElem?_eq_getElem hi
    simp only [mtC]
    rw [he]
    split
    · rename_i k e1
      split
      · rename_i hb
        obtain ⟨b, hb⟩ := Option.isSome_iff_exists.1 hb
        obtain ⟨p, g1, -⟩ := r.blk hb
        exact ⟨{ p with rt := i }, by rw [g1]; rfl, rfl⟩
      · exact ⟨_, rfl, rfl⟩
    · exact ⟨_, rfl, rfl⟩
    · rename_i e1; cases e1
  have hΦn : ∀ {i k x : Nat} {q : Pl} {b : SB}, σ[i]? = some (some (some k)) → bget S.heap k = some b → c.ψ k = some q → q.idc = some x → frzM c H S.heap σ x = none := fun {i k x q b} e1 e2 e3 e4 => by
    obtain ⟨q', g1, -, -, g4⟩ := r.blk e2
    rw [e3] at g1; cases g1
    simp only [frzM, g4 x e4]
    rw [if_neg]
    rintro ⟨k', p', s, y, d, q1, q2, q3, q4⟩
    have := r.inj _ _ _ _ _ _ _ q1 e2 q2 e3 q3 e4
    subst this
    have : (σ.any fun o => o == some (some k')) = true := by
      rw [List.any_eq_true]
      exact ⟨_, List.mem_of_getElem? e1, by simp⟩
    rw [this] at q4; cases q4
  refine ⟨?_, okVL_ok r hρ hn _ h1 r.env, okFL_ok r hρ hn h2 r.stk, fun id p hp => ?_, fun ii h hh => ?_, fun i i' p p' x b b' k1 k2 k3 k4 k5 k6 => ?_, fun i i' p p' x k3 k4 k5 k6 => ?_, fun i p x k1 k2 => ?_, fun x sz rows hx => ?_, fun x hx => hx, r.rngs, r.mks⟩
  · rw [h6]; simp [mtC, denL_len, hn]
  · simp only [mtC] at hp
    rw [← h7]
    split at hp
    · rename_i k e1; exact (List.getElem?_eq_some_iff.1 e1).1
    · rename_i e1; exact (List.getElem?_eq_some_iff.1 e1).1
    · cases hp
  · have hi := (List.getElem?_eq_some_iff.1 hh).1
    obtain ⟨p, g1, g2⟩ := hψs ii hi
    refine ⟨p, g1, by rw [g2, okR_at h5 hh]; omega, fun b hb => ?_⟩
    have hob := okH_at (rt := h.rt) (b := b) h3 (by rw [hh]; cases h; simp only at hb; subst hb; rfl)
    rw [Nat.zero_add] at hob
    cases b with
    | cells cs =>
      cases e1 : σ[ii]? with
      | none => rw [e1] at hob; simp [okB] at hob
      | some o =>
        rw [e1] at hob
        cases o with
        | none => simp [okB] at hob
        | some o =>
          cases o with
          | none => simp [okB] at hob
          | some k =>
            simp only [Option.bind_some, id, okB] at hob
            split at hob
            · rename_i ds e2
              obtain ⟨q, q1, q2, q3, q4⟩ := r.blk e2
              have : (mtC c H S.heap σ (ρ0 ++ denL c.ρ vals)).ψ ii = some { q with rt := ii } := by simp [mtC, e1, e2, q1]
              rw [this] at g1; cases g1
              obtain ⟨x, as, t1, t2, t3, t4⟩ := q3
              refine ⟨⟨x, as, t1, ?_, okVL_ok r hρ hn _ hob t3, t4⟩, fun x hx => hΦn e1 e2 q1 hx⟩
              have := t3.len
              have hl := (okVL_ok r hρ hn _ hob t3).len
              rw [t2, this, hl]
            · cases hob
    | list s x dp =>
      cases e1 : σ[ii]? with
      | none => rw [e1] at hob; simp [okB] at hob
      | some o =>
        rw [e1] at hob
        cases o with
        | none => simp [okB] at hob
        | some o =>
          cases o with
          | none =>
            simp only [Option.bind_some, id, okB] at hob
            have : (mtC c H S.heap σ (ρ0 ++ denL c.ρ vals)).ψ ii = some ⟨none, 0, 0, ii⟩ := by simp [mtC, e1]
            rw [this] at g1; cases g1
            obtain ⟨k1, k2⟩ := okE_ok (e := e) hn hob
            exact ⟨⟨[], by rw [hρ]; exact k1, by show x.den (ρ0 ++ denL c.ρ vals) = _; rw [hρ, k2]; rfl, rfl, fun _ => rfl, fun y hy => (by cases hy)⟩, fun x hx => by cases hx⟩
          | some k =>
            simp only [Option.bind_some, id, okB] at hob
            split at hob
            · rename_i s' y d' e2
              simp only [Bool.and_eq_true, beq_iff_eq] at hob
              obtain ⟨⟨rfl, hd⟩, hob⟩ := hob
              obtain ⟨q, q1, q2, q3, q4⟩ := r.blk e2
              have : (mtC c H S.heap σ (ρ0 ++ denL c.ρ vals)).ψ ii = some { q with rt := ii } := by simp [mtC, e1, e2, q1]
              rw [this] at g1; cases g1
              obtain ⟨k1, k2⟩ := okE_ok (e := e) hn hob
              obtain ⟨xs, t1, t2, t3, t4, t5⟩ := q3
              refine ⟨⟨xs, by rw [hρ]; exact k1, by show x.den (ρ0 ++ denL c.ρ vals) = _; rw [hρ, k2, ← hρ]; exact t2, t3, t4, fun z hz => ?_⟩, fun x hx => hΦn e1 e2 q1 hx⟩
              obtain ⟨rows, u1, u2, u3, u4⟩ := t5 z hz
              refine ⟨rows, u1, u2, u3, u4.mono fun _ _ => F2.mono fun d a hk => ?_⟩
              cases dp with
              | none =>
                cases d' with
                | none => exact hk
                | some rs => cases hd
              | some rs =>
                cases d' with
                | none => exact .b hk
                | some rs' => exact RO.toM (fun id x h => toM_Φ id x h) hk
            · cases hob
  · obtain ⟨k, q, b1, t1, t2, t3, t4, t5⟩ := ψ_inv k3 k5
    obtain ⟨k', q', b2, u1, u2, u3, u4, u5⟩ := ψ_inv k4 k6
    have := r.inj _ _ _ _ _ _ _ t2 u2 t3 u3 t4 u4
    subst this
    exact okI_inj h4 t1 u1
  · obtain ⟨k, q, b1, t1, t2, t3, t4, t5⟩ := ψ_inv k3 k5
    obtain ⟨k', q', b2, u1, u2, u3, u4, u5⟩ := ψ_inv k4 k6
    have := r.inj _ _ _ _ _ _ _ t2 u2 t3 u3 t4 u4
    subst this
    rw [t5, u5, okI_inj h4 t1 u1]
  · obtain ⟨k, q, b1, t1, t2, t3, t4, t5⟩ := ψ_inv k1 k2
    exact r.bnd _ _ _ t3 t4
  · have hx' : frzM c H S.heap σ x = some (sz, rows) := hx
    simp only [frzM] at hx'
    split at hx'
    · rename_i y e1
      cases hx'
      exact r.frz _ _ _ e1
    · split at hx'
      · rename_i hc
        obtain ⟨k', p', s, y, d, q1, q2, q3, q4⟩ := hc
        split at hx'
        · rename_i e3
          cases hx'
          exact ⟨e3, r.bnd _ _ _ q2 q3⟩
        · cases hx'
      · cases hx'
theorem fit_ok (r : Rel c S env H K mk) (hρ : c.ρ = ρ0 ++ e) (hn : ρ0.length = n0) (h : fit n0 P S = some vals) : ∃ c', c'.κ = c.κ ∧ c'.ρ = ρ0 ++ denL c.ρ vals ∧ Rel c' P env H K mk := by
  unfold fit at h
  simp only at h
  split at h
  · rename_i h1
    cases h
    exact ⟨mtC c H S.heap (matchS n0 P S).2 (ρ0 ++ denL c.ρ (matchS n0 P S).1), rfl, rfl, okS_ok r hρ hn h1⟩
  · cases h
end

/-! More is known further on -/
mutual
theorem den_ext : ∀ {t : T} {ρ : List D} {j : Nat} {ρ' : List D}, t.den m Fs ρ = some (j, ρ') → ∃ e, ρ' = ρ ++ e
  | .fail, ρ, j, ρ', h => by cases h
  | .leaf i, ρ, j, ρ', h => by simp only [T.den, Option.some.injEq, Prod.mk.injEq] at h; exact ⟨[], by simp [h.2]⟩
  | .op p as t, ρ, j, ρ', h => by
    simp only [T.den] at h
    cases e1 : D.den1 p (denL ρ as) with
    | none => rw [e1] at h; cases h
    | some d => rw [e1] at h; obtain ⟨e, rfl⟩ := den_ext h; exact ⟨[d] ++ e, by simp⟩
  | .call f as t, ρ, j, ρ', h => by
    simp only [T.den] at h
    cases e1 : Fs f (denL ρ as) with
    | none => rw [e1] at h; cases h
    | some d => rw [e1] at h; obtain ⟨e, rfl⟩ := den_ext h; exact ⟨[d] ++ e, by simp⟩
  | .callD g as t, ρ, j, ρ', h => by
    simp only [T.den] at h
    cases eg : g.den ρ <;> rw [eg] at h <;> try (cases h; done)
    rename_i f a b
    simp only at h
    cases e1 : Fs f (a ++ denL ρ as ++ b) with
    | none => rw [e1] at h; cases h
    | some d => rw [e1] at h; obtain ⟨e, rfl⟩ := den_ext h; exact ⟨[d] ++ e, by simp⟩
  | .flat x t, ρ, j, ρ', h => by
    simp only [T.den] at h
    split at h
    · exact den_ext h
    · cases h
  | .shal n x t, ρ, j, ρ', h => by
    simp only [T.den] at h
    split at h
    · exact den_ext h
    · cases h
  | .ite x a b, ρ, j, ρ', h => by
    simp only [T.den] at h
    cases eg : x.den ρ <;> rw [eg] at h <;> try (cases h; done)
    simp only at h
    split at h
    · exact den_ext h
    · exact den_ext h
  | .blk body outs ks, ρ, j, ρ', h => by
    simp only [T.den] at h
    cases e1 : outOf outs (body.den m Fs ρ) with
    | none => rw [e1] at h; cases h
    | some q => rw [e1] at h; obtain ⟨e, rfl⟩ := denK_ext h; exact ⟨q.2 ++ e, by simp⟩
  | .loop init body outs ks, ρ, j, ρ', h => by
    simp only [T.den] at h
    cases e1 : iterD (fun vals => outOf outs (body.den m Fs (ρ ++ vals))) m (denL ρ init) with
    | none => rw [e1] at h; cases h
    | some q => rw [e1] at h; obtain ⟨e, rfl⟩ := denK_ext h; exact ⟨q.2 ++ e, by simp⟩
theorem denK_ext : ∀ {ts : List T} {ρ : List D} {i j : Nat} {ρ' : List D}, denK m Fs ρ ts i = some (j, ρ') → ∃ e, ρ' = ρ ++ e
  | [], ρ, i, j, ρ', h => by cases h
  | t :: ts, ρ, 0, j, ρ', h => den_ext (t := t) h
  | t :: ts, ρ, i + 1, j, ρ', h => denK_ext (ts := ts) h
end
theorem Post.ext {α : Type} {r : R α} {Q : α → List D → Prop} (h : Post m Fs r ρ Q) : Post m Fs r ρ fun a ρ' => Q a ρ' ∧ ∃ e, ρ' = ρ ++ e := fun j ρ' hd => by
  obtain ⟨a, h1, h2⟩ := h j ρ' hd
  exact ⟨a, h1, h2, den_ext hd⟩
theorem leaves_den (n : Nat) (ρ : List D) (t : Nat) : denK m Fs ρ (leaves n) t = if t < n then some (t, ρ) else none := by
  have key : ∀ (l : List Nat) (t : Nat), denK m Fs ρ (l.map T.leaf) t = (l[t]?).map fun j => (j, ρ) := by
    intro l
    induction l with
    | nil => intro t; cases t <;> rfl
    | cons a l ih =>
      intro t
      cases t with
      | zero => rfl
      | succ t => simp only [List.map_cons, denK]; rw [ih]; simp
  rw [leaves, key]
  by_cases h : t < n
  · rw [if_pos h, List.getElem?_range h]; rfl
  · rw [if_neg h, List.getElem?_eq_none (by simp; omega)]; rfl
theorem place_ok {n0 : Nat} {a : Lf} : ∀ {ps : List Lf} {i : Nat} {vals : List E} {k : Nat}, place n0 a ps i = some (vals, k) → ∃ p, i ≤ k ∧ ps[k - i]? = some p ∧ keyB p a = true ∧ fit n0 p.2 a.2 = some vals
  | [], i, vals, k, h => by cases h
  | p :: ps, i, vals, k, h => by
    have rec_ : place n0 a ps (i + 1) = some (vals, k) → ∃ q, i ≤ k ∧ (p :: ps)[k - i]? = some q ∧ keyB q a = true ∧ fit n0 q.2 a.2 = some vals := fun h => by
      obtain ⟨q, g1, g2, g3⟩ := place_ok h
      exact ⟨q, by omega, by rw [show k - i = (k - (i + 1)) + 1 by omega]; simpa using g2, g3⟩
    simp only [place] at h
    split at h
    · rename_i hk
      split at h
      · rename_i vals' e1
        cases h
        exact ⟨p, Nat.le_refl _, by simp, hk, e1⟩
      · exact rec_ h
    · exact rec_ h
theorem placeL_ok {n0 : Nat} {ps : List Lf} : ∀ {l : List Lf} {outs : List (List E × Nat)}, placeL n0 ps l = some outs → ∀ {j : Nat} {a : Lf}, l[j]? = some a → ∃ vals k p, outs[j]? = some (vals, k) ∧ ps[k]? = some p ∧ keyB p a = true ∧ fit n0 p.2 a.2 = some vals
  | [], outs, h, j, a, hj => by simp at hj
  | b :: l, outs, h, j, a, hj => by
    simp only [placeL] at h
    split at h
    · rename_i q qs e1 e2
      cases h
      cases j with
      | zero =>
        cases hj
        obtain ⟨vals, k⟩ := q
        obtain ⟨p, g1, g2, g3, g4⟩ := place_ok e1
        exact ⟨vals, k, p, rfl, by simpa using g2, g3, g4⟩
      | succ j => simpa using placeL_ok e2 (j := j) (a := a) (by simpa using hj)
    · cases h
theorem keyB_ex {p a : Lf} (h : keyB p a = true) : p.1 = a.1 := by
  simp only [keyB, Bool.and_eq_true] at h
  exact exB_eq h.1
/-- Ways meet. -/
theorem meet_ok {n0 : Nat} {r r' : R Lf} {Q : Lf → List D → Prop} (h : meet n0 r = some r') (hn : ρ.length = n0) (hr : Post m Fs r ρ Q)
    (hQ : ∀ (a p : Lf) ρ1 vals e, Q a ρ1 → ρ1 = ρ ++ e → p.1 = a.1 → fit n0 p.2 a.2 = some vals → Q p (ρ ++ denL ρ1 vals)) : Post m Fs r' ρ Q := by
  unfold meet at h
  simp only at h
  split at h
  · cases h; exact hr
  · split at h
    · rename_i outs e1
      cases h
      intro j ρ' hd
      simp only [T.den] at hd
      cases e2 : r.t.den m Fs ρ with
      | none => rw [e2] at hd; cases hd
      | some q =>
        obtain ⟨i, ρ1⟩ := q
        obtain ⟨a, g1, g2, e, g3⟩ := hr.ext i ρ1 e2
        obtain ⟨vals, k, p, k1, k2, k3, k4⟩ := placeL_ok e1 g1
        simp only [e2, outOf, k1, Option.map_some] at hd
        rw [leaves_den] at hd
        split at hd
        · simp only [Option.some.injEq, Prod.mk.injEq] at hd
          obtain ⟨rfl, rfl⟩ := hd
          exact ⟨p, k2, hQ a p ρ1 vals e g2 g3 (keyB_ex k3) k4⟩
        · cases hd
    · cases h
end Go.Q
/- Loops; marks and records. -/
set_option linter.unusedVariables false
set_option linter.unusedSimpArgs false
namespace Go.Q
open Go.V
variable {c c' : Cx} {S P : SS} {env : List AV} {H H' : Heap} {K : List FC} {mk : List Nat}
variable {TT : FuncId → Option IFn} {cb : Cb} {Fs : FuncId → List D → Option D} {Sh : Shp} {ρ ρ' : List D} {m M : Nat} {cbS : SCall} {cx : List CE}

/-- What is to be done at the end, here: marks are taken. -/
def marksD (ds : List Nat) : List DE := ds.map .mk
theorem marksD_app (a b : List Nat) : marksD (a ++ b) = marksD a ++ marksD b := by simp [marksD]
/-- What holds behind code. -/
def LfQ (K : List FC) (mk : List Nat) (κ : List Nat) (res : Option (Ex × RSt)) (p : Lf) (ρ' : List D) : Prop :=
  ∃ c' env' H' ds', res = some (p.1, ⟨⟨env', H'⟩, marksD ds'⟩) ∧ c'.κ = κ ∧ c'.ρ = ρ' ∧ Rel c' p.2 env' H' K (ds' ++ mk)
theorem LfQ.fit {κ : List Nat} {res : Option (Ex × RSt)} {n0 : Nat} (hn : ρ.length = n0) {a p : Lf} {ρ1 : List D} {vals : List E} {e : List D} (h : LfQ K mk κ res a ρ1) (he : ρ1 = ρ ++ e) (hp : p.1 = a.1) (hf : fit n0 p.2 a.2 = some vals) : LfQ K mk κ res p (ρ ++ denL ρ1 vals) := by
  obtain ⟨c', env', H', ds', h1, h2, h3, h4⟩ := h
  obtain ⟨c'', k1, k2, k3⟩ := fit_ok h4 (by rw [h3]; exact he) hn hf
  exact ⟨c'', env', H', ds', by rw [hp]; exact h1, k1.trans h2, by rw [k2, h3], k3⟩
theorem meet_lf {κ : List Nat} {res : Option (Ex × RSt)} {n0 : Nat} {r r' : R Lf} (h : meet n0 r = some r') (hn : ρ.length = n0) (hr : Post m Fs r ρ (LfQ K mk κ res)) : Post m Fs r' ρ (LfQ K mk κ res) :=
  meet_ok h hn hr fun a p ρ1 vals e h1 h2 h3 h4 => h1.fit hn h2 h3 h4
theorem iter_mono {f : RSt → Option (Ex × RSt)} : ∀ {n n' : Nat} {st : RSt} {r : Ex × RSt}, iter f n st = some r → n ≤ n' → iter f n' st = some r
  | 0, _, _, _, h, _ => by cases h
  | n + 1, 0, _, _, _, hn => by omega
  | n + 1, n' + 1, st, r, h, hn => by
    simp only [iter] at h ⊢
    cases e : f st with
    | none => rw [e] at h; cases h
    | some q =>
      obtain ⟨ex, st'⟩ := q
      rw [e] at h
      cases ex with
      | normal => exact iter_mono h (by omega)
      | exit id => exact h
      | ret => exact h
      | pan p => exact h
/-- What the round of a loop does. -/
def BodyOK (m : Nat) (Fs : FuncId → List D → Option D) (K : List FC) (mk κ : List Nat) (body : SS → Option (R Lf)) (f : RSt → Option (Ex × RSt)) : Prop :=
  ∀ {S r}, body S = some r → ∀ {c : Cx} {env H ds}, Rel c S env H K (ds ++ mk) → c.κ = κ → Post m Fs r c.ρ (LfQ K mk κ (f ⟨⟨env, H⟩, marksD ds⟩))
theorem mapM_get {α β : Type} {f : α → Option β} : ∀ {l : List α} {os : List β}, l.mapM f = some os → ∀ {j : Nat} {a : α}, l[j]? = some a → ∃ b, os[j]? = some b ∧ f a = some b
  | [], os, h, j, a, hj => by simp at hj
  | x :: l, os, h, j, a, hj => by
    simp only [List.mapM_cons, bind, Option.bind] at h
    cases e1 : f x with
    | none => simp [e1] at h
    | some b =>
      simp only [e1] at h
      cases e2 : l.mapM f with
      | none => simp [e2] at h
      | some bs =>
        simp only [e2, pure, Option.some.injEq] at h
        subst h
        cases j with
        | zero => cases hj; exact ⟨b, rfl, e1⟩
        | succ j => simpa using mapM_get e2 (j := j) (a := a) (by simpa using hj)
theorem loop_iter {κ : List Nat} {f : RSt → Option (Ex × RSt)} {r : R Lf} {os : List (List E × Option Nat)} {ps : List Lf} {n0 : Nat} (hn : ρ.length = n0)
    (hbody : ∀ {c : Cx} {env H ds}, Rel c P env H K (ds ++ mk) → c.κ = κ → Post m Fs r c.ρ (LfQ K mk κ (f ⟨⟨env, H⟩, marksD ds⟩)))
    (hos : ∀ {j : Nat} {a : Lf}, r.l[j]? = some a → ∃ vals t, os[j]? = some (vals, t) ∧
      match t with
      | none => a.1 = .normal ∧ fit n0 P a.2 = some vals
      | some t => a.1 ≠ .normal ∧ ∃ p, ps[t]? = some p ∧ p.1 = a.1 ∧ fit n0 p.2 a.2 = some vals) :
    ∀ (k : Nat) {vals : List D} {t : Nat} {vals' : List D} {c : Cx} {env : List AV} {H : Heap} {ds : List Nat}, iterD (fun vals => outOf os (r.t.den m Fs (ρ ++ vals))) k vals = some (t, vals') → c.ρ = ρ ++ vals → c.κ = κ → Rel c P env H K (ds ++ mk) →
      ∃ p, ps[t]? = some p ∧ LfQ K mk κ (iter f k ⟨⟨env, H⟩, marksD ds⟩) p (ρ ++ vals')
  | 0, vals, t, vals', c, env, H, ds, h, _, _, _ => by cases h
  | k + 1, vals, t, vals', c, env, H, ds, h, hc, hκ, hr => by
    simp only [iterD] at h
    cases e1 : r.t.den m Fs (ρ ++ vals) with
    | none => simp [e1, outOf] at h
    | some q =>
      obtain ⟨j, ρ1⟩ := q
      obtain ⟨a, g1, g2⟩ := hbody hr hκ j ρ1 (by rw [hc]; exact e1)
      obtain ⟨es, t', g3, g4⟩ := hos g1
      obtain ⟨e, he⟩ := den_ext e1
      have he' : ρ1 = ρ ++ (vals ++ e) := by rw [he]; simp
      simp only [e1, outOf, g3, Option.map_some] at h
      cases t' with
      | none =>
        simp only at h g4
        obtain ⟨k1, k2⟩ := g4
        have g5 := g2.fit (p := (a.1, P)) hn he' rfl k2
        obtain ⟨c', env', H', ds', u1, u2, u3, u4⟩ := g5
        have ih := loop_iter hn hbody hos k h u3 u2 u4
        obtain ⟨p, q1, q2⟩ := ih
        refine ⟨p, q1, ?_⟩
        simp only [iter, u1]
        rw [k1]
        exact q2
      | some t' =>
        simp only [Option.some.injEq, Prod.mk.injEq] at h
        obtain ⟨rfl, rfl⟩ := h
        obtain ⟨hne, p, k1, k2, k3⟩ := g4
        refine ⟨p, k1, ?_⟩
        have g5 := g2.fit (p := p) hn he' k2 k3
        obtain ⟨c', env', H', ds', u1, u2, u3, u4⟩ := g5
        refine ⟨c', env', H', ds', ?_, u2, u3, u4⟩
        simp only [iter, u1]
        rw [k2]
        cases ha : a.1 with
        | normal => exact absurd ha hne
        | exit id => rfl
        | ret => rfl
        | pan p => rfl
theorem tryLoop_ok {κ : List Nat} {f : RSt → Option (Ex × RSt)} {body : SS → Option (R Lf)} (hb : BodyOK m Fs K mk κ body f) {n0 : Nat} : ∀ (k : Nat) {S P : SS} {r' : R Lf}, tryLoop n0 S body k P = some r' → ∀ {c : Cx} {env H ds}, c.ρ.length = n0 → c.κ = κ → Rel c S env H K (ds ++ mk) →
    Post m Fs r' c.ρ (LfQ K mk κ (iter f m ⟨⟨env, H⟩, marksD ds⟩))
  | 0, S, P, r', h, c, env, H, ds, _, _, _ => by cases h
  | k + 1, S, P, r', h, c, env, H, ds, hn, hκ, hr => by
    simp only [tryLoop] at h
    split at h
    · cases h
    · rename_i r e1
      split at h
      · rename_i init e2 e3
        split at h
        · rename_i os e4
          cases h
          intro j ρ' hd
          simp only [T.den] at hd
          obtain ⟨c1, k1, k2, k3⟩ := fit_ok hr (e := []) (ρ0 := c.ρ) (by simp) hn e2
          cases e5 : iterD (fun vals => outOf os (r.t.den m Fs (c.ρ ++ vals))) m (denL c.ρ init) with
          | none => rw [e5] at hd; cases hd
          | some q =>
            obtain ⟨t, vals'⟩ := q
            rw [e5] at hd
            simp only [leaves_den] at hd
            have := loop_iter (ps := pats n0 (groups (r.l.filter fun a => !exB a.1 .normal))) (P := P) hn (fun {c env H ds} hr hκ => hb e1 hr hκ) (fun {j a} hj => by
              obtain ⟨q, q1, q2⟩ := mapM_get e4 hj
              split at q2
              · rename_i hx
                cases e6 : fit n0 P a.2 with
                | none => rw [e6] at q2; cases q2
                | some vals =>
                  rw [e6] at q2
                  simp only [Option.map_some, Option.some.injEq] at q2
                  subst q2
                  exact ⟨vals, none, q1, exB_eq hx, rfl⟩
              · rename_i hx
                cases e6 : place n0 a (pats n0 (groups (r.l.filter fun a => !exB a.1 .normal))) 0 with
                | none => rw [e6] at q2; cases q2
                | some q' =>
                  obtain ⟨vals, i⟩ := q'
                  rw [e6] at q2
                  simp only [Option.map_some, Option.some.injEq] at q2
                  subst q2
                  obtain ⟨p, t1, t2, t3, t4⟩ := place_ok e6
                  refine ⟨vals, some i, q1, fun ha => hx (by rw [ha]; rfl), p, by simpa using t2, keyB_ex t3, t4⟩) m e5 k2 (k1.trans hκ) k3
            obtain ⟨p, q1, q2⟩ := this
            split at hd
            · simp only [Option.some.injEq, Prod.mk.injEq] at hd
              obtain ⟨rfl, rfl⟩ := hd
              exact ⟨p, q1, q2⟩
            · cases hd
        · cases h
      · exact tryLoop_ok hb k h hn hκ hr
theorem unroll_ok {κ : List Nat} {f : RSt → Option (Ex × RSt)} {body other : SS → Option (R Lf)} (hb : BodyOK m Fs K mk κ body f)
    (ho : ∀ {S r}, other S = some r → ∀ {c : Cx} {env H ds}, Rel c S env H K (ds ++ mk) → c.κ = κ → Post m Fs r c.ρ (LfQ K mk κ (iter f m ⟨⟨env, H⟩, marksD ds⟩))) :
    ∀ (k : Nat) {S : SS} {r' : R Lf}, unroll body other k S = some r' → ∀ {c : Cx} {env H ds}, Rel c S env H K (ds ++ mk) → c.κ = κ → Post m Fs r' c.ρ (LfQ K mk κ (iter f (m + k) ⟨⟨env, H⟩, marksD ds⟩))
  | 0, S, r', h, c, env, H, ds, _, _ => by cases h
  | k + 1, S, r', h, c, env, H, ds, hr, hκ => by
    simp only [unroll] at h
    split at h
    · exact (ho h hr hκ).mono fun p ρ' hq => by
        obtain ⟨c', env', H', ds', q1, q2⟩ := hq
        exact ⟨c', env', H', ds', iter_mono q1 (by omega), q2⟩
    · rename_i r e1
      split at h
      · exact (ho h hr hκ).mono fun p ρ' hq => by
          obtain ⟨c', env', H', ds', q1, q2⟩ := hq
          exact ⟨c', env', H', ds', iter_mono q1 (by omega), q2⟩
      · refine Post.bind (hb e1 hr hκ) h fun a ρ1 ra hq hf => ?_
        obtain ⟨c1, env1, H1, ds1, q1, q2, q3, q4⟩ := hq
        split at hf
        · rename_i hx
          have ih := unroll_ok hb ho k hf q4 q2
          rw [q3] at ih
          refine ih.mono fun p ρ' hq => ?_
          obtain ⟨c', env', H', ds', u1, u2⟩ := hq
          refine ⟨c', env', H', ds', ?_, u2⟩
          rw [show m + (k + 1) = (m + k) + 1 by omega]
          simp only [iter, q1]
          rw [exB_eq hx]
          exact u1
        · rename_i hx
          cases hf
          refine Post.ret ⟨c1, env1, H1, ds1, ?_, q2, q3, q4⟩
          rw [show m + (k + 1) = (m + k) + 1 by omega]
          simp only [iter, q1]
          cases ha : a.1 with
          | normal => exact absurd (by rw [ha]; rfl) hx
          | exit id => rfl
          | ret => rfl
          | pan p => rfl

/-! Memory that is no row -/
theorem Rel.mem2 (r : Rel c S env H K mk) {stk' : List Fr} {K' : List FC} {mk' : List Nat} (hk : ∀ x, x < H.nx → (∃ s rows, hget H x = some (.row s rows)) → hget H' x = hget H x) (hnx : H.nx ≤ H'.nx) (hstk : F2 (RF c H') stk' K') (hr : (rngIds K').Nodup ∧ ∀ id ∈ rngIds K', id < H'.nx) (hm : mk'.Nodup ∧ ∀ d ∈ mk', hget H' d = some .mark ∧ d < H'.nx) :
    Rel c { S with stk := stk' } env H' K' mk' := by
  refine ⟨r.n, r.env, hstk, r.hlen, fun id h hh => ?_, r.inj, r.rt, fun i p x h1 h2 => Nat.lt_of_lt_of_le (r.bnd i p x h1 h2) hnx, fun x sz rows hx => ?_, r.f0, hr, hm⟩
  · obtain ⟨p, g1, g2, g3⟩ := r.heap id h hh
    exact ⟨p, g1, g2, fun b hb => ⟨(g3 b hb).1.mem fun x hx => hk x (r.bnd _ _ _ g1 hx) ((g3 b hb).1.row hx), (g3 b hb).2⟩⟩
  · obtain ⟨g1, g2⟩ := r.frz x sz rows hx
    exact ⟨by rw [hk x g2 ⟨_, _, g1⟩]; exact g1, Nat.lt_of_lt_of_le g2 hnx⟩
theorem RF.mem {fr : Fr} {k : FC} (h : RF c H fr k) (hk : ∀ id as ps a b d, k = .rng id as ps a b d → hget H' id = hget H id) : RF c H' fr k := by
  cases k with
  | call as => exact h
  | rng id as ps a b d => exact ⟨by rw [hk _ _ _ _ _ _ rfl]; exact h.1, h.2⟩
/-- Marks are taken away. -/
theorem Rel.unmark : ∀ {ds : List Nat} {H : Heap}, Rel c S env H K (ds ++ mk) → ∃ H', takeMarks H (marksD ds) = some H' ∧ Rel c S env H' K mk
  | [], H, r => ⟨H, rfl, r⟩
  | d :: ds, H, r => by
    obtain ⟨h1, h2⟩ := r.mks
    have hd := (h2 d (by simp)).1
    have hnd := List.nodup_cons.1 h1
    have hg : ∀ x, x ≠ d → hget (wrH H [(d, none)] 0) x = hget H x := fun x hx => by rw [hget_wr1]; simp only; rw [if_neg hx]
    have hn : (wrH H [(d, none)] 0).nx = H.nx := by simp [wrH]
    have r1 : Rel c S env (wrH H [(d, none)] 0) K (ds ++ mk) := r.mem2 (stk' := S.stk) (fun x _ hx => hg x (by rintro rfl; obtain ⟨s, rows, e⟩ := hx; rw [hd] at e; cases e)) (by rw [hn]; exact Nat.le_refl _)
      (RF.memL (fun id hid => hg id (by rintro rfl; obtain ⟨as, ps, a, b, st, pd, d', e⟩ := rng_at r.stk id hid; rw [hd] at e; cases e)) r.stk) (by rw [hn]; exact r.rngs)
      ⟨hnd.2, fun x hx => ⟨by rw [hg x (by rintro rfl; exact hnd.1 hx)]; exact (h2 x (by simp [hx])).1, by rw [hn]; exact (h2 x (by simp [hx])).2⟩⟩
    obtain ⟨H', k1, k2⟩ := Rel.unmark r1
    exact ⟨H', by simp only [marksD, List.map_cons, takeMarks, hd]; exact k1, k2⟩
theorem rngIds_at : ∀ {K : List FC} {pos id : Nat} {as ps a b d}, K[pos]? = some (.rng id as ps a b d) → id ∈ rngIds K
  | .rng i _ _ _ _ _ :: K, 0, id, as, ps, a, b, d, h => by cases h; simp [rngIds]
  | .call _ :: K, 0, id, as, ps, a, b, d, h => by cases h
  | .rng i _ _ _ _ _ :: K, pos + 1, id, as, ps, a, b, d, h => by
    have := rngIds_at (K := K) (pos := pos) (by simpa using h)
    simp [rngIds, this]
  | .call _ :: K, pos + 1, id, as, ps, a, b, d, h => by
    have := rngIds_at (K := K) (pos := pos) (by simpa using h)
    simpa [rngIds] using this
theorem rngIds_inj : ∀ {K : List FC} {pos pos' id : Nat} {as ps a b d as' ps' a' b' d'}, (rngIds K).Nodup → K[pos]? = some (.rng id as ps a b d) → K[pos']? = some (.rng id as' ps' a' b' d') → pos = pos'
  | .rng i _ _ _ _ _ :: K, 0, 0, _, _, _, _, _, _, _, _, _, _, _, _, _, _ => rfl
  | .rng i _ _ _ _ _ :: K, 0, q + 1, id, _, _, _, _, _, _, _, _, _, _, hn, h, h' => by
    cases h
    exact absurd (rngIds_at (K := K) (pos := q) (by simpa using h')) (List.nodup_cons.1 (by simpa [rngIds] using hn)).1
  | .rng i _ _ _ _ _ :: K, q + 1, 0, id, _, _, _, _, _, _, _, _, _, _, hn, h, h' => by
    cases h'
    exact absurd (rngIds_at (K := K) (pos := q) (by simpa using h)) (List.nodup_cons.1 (by simpa [rngIds] using hn)).1
  | .rng i _ _ _ _ _ :: K, q + 1, q' + 1, id, as, ps, a, b, d, as', ps', a', b', d', hn, h, h' => by
    have h1 : K[q]? = some (.rng id as ps a b d) := by simpa using h
    have h2 : K[q']? = some (.rng id as' ps' a' b' d') := by simpa using h'
    exact congrArg (· + 1) (rngIds_inj (List.nodup_cons.1 (by simpa [rngIds] using hn)).2 h1 h2)
  | .call _ :: K, 0, _, id, _, _, _, _, _, _, _, _, _, _, hn, h, h' => by cases h
  | .call _ :: K, q + 1, 0, id, _, _, _, _, _, _, _, _, _, _, hn, h, h' => by cases h'
  | .call _ :: K, q + 1, q' + 1, id, as, ps, a, b, d, as', ps', a', b', d', hn, h, h' => by
    have h1 : K[q]? = some (.rng id as ps a b d) := by simpa using h
    have h2 : K[q']? = some (.rng id as' ps' a' b' d') := by simpa using h'
    exact congrArg (· + 1) (rngIds_inj (by simpa [rngIds] using hn) h1 h2)
/-- A record is told anew. -/
theorem Rel.recd (r : Rel c S env H K mk) {pos id d : Nat} {as : List AV} {ps : List Nat} {a b : IC} {fr : Fr} (hK : K[pos]? = some (.rng id as ps a b d)) (hf : S.stk[pos]? = some fr) (st : LoopState) (pd : Ex) :
    hget H id = some (.loop as ps a b fr.st fr.pend d) ∧ Rel c { S with stk := S.stk.set pos { fr with st := st, pend := pd } } env (wrH H [(id, some (.loop as ps a b st pd d))] 0) K mk := by
  obtain ⟨k, h1, h2⟩ := r.stk.get hf
  rw [hK] at h1; cases h1
  obtain ⟨h3, h4⟩ := h2
  have hg : ∀ x, x ≠ id → hget (wrH H [(id, some (.loop as ps a b st pd d))] 0) x = hget H x := fun x hx => by rw [hget_wr1]; simp only; rw [if_neg hx]
  have hn : (wrH H [(id, some (.loop as ps a b st pd d))] 0).nx = H.nx := by simp [wrH]
  refine ⟨h3, r.mem2 (fun x _ hx => hg x (by rintro rfl; obtain ⟨s, rows, e⟩ := hx; rw [h3] at e; cases e)) (by rw [hn]; exact Nat.le_refl _) ?_ (by rw [hn]; exact r.rngs) ⟨r.mks.1, fun x hx => ⟨by rw [hg x (by rintro rfl; have := (r.mks.2 _ hx).1; rw [h3] at this; cases this)]; exact (r.mks.2 x hx).1, by rw [hn]; exact (r.mks.2 x hx).2⟩⟩⟩
  refine F2.of_get (by rw [List.length_set]; exact r.stk.len) fun i fr' k h5 h6 => ?_
  by_cases hi : i = pos
  · subst hi
    rw [hK] at h6; cases h6
    rw [List.getElem?_set_self (List.getElem?_eq_some_iff.1 hf).1] at h5
    cases h5
    exact ⟨by rw [hget_wr1]; simp, h4⟩
  · rw [List.getElem?_set_ne (fun h => hi h.symm)] at h5
    obtain ⟨k', q1, q2⟩ := r.stk.get h5
    rw [h6] at q1; cases q1
    refine q2.mem fun id' as' ps' a' b' d' hk => hg id' ?_
    rintro rfl
    subst hk
    exact hi (rngIds_inj r.rngs.1 h6 hK)
end Go.Q
