/- Soundness: regions in the text's order. -/
import Derived.Test.YtemlkeknpjbcnaaVo
import Derived.OrdersIn
set_option linter.unusedVariables false
set_option linter.unusedSimpArgs false
namespace Go.V
open Go.RowKit
variable {P : Program}

/-- The fences that the walk stands in. -/
inductive WF : Fence → Prop
  | wide : WF Fence.wide
  | rnd (l : Nat) : WF (Fence.wide.inRound l)
theorem WF.fn {F : Fence} (h : WF F) (f : FuncId) : F.fn f := by cases h <;> trivial
theorem WF.depth {F : Fence} (h : WF F) : F.depth = none := by cases h <;> rfl
theorem WF.calls {F : Fence} (h : WF F) {n : Nat} {P : Program} {f : FuncId} {args : Array Value} {w : World} {R : Ending → World → Prop} (hc : Calls P f args w R) : CallsIn F n P f args w R := by
  cases h with
  | wide => exact callsIn_wide.2 hc
  | rnd l => exact callsIn_wide.2 hc
theorem wpIn_of {P : Program} {F : Fence} (hF : WF F) {o : Oper} {a : Act} {w : World} {R : Value → World → Prop} {K : Act → World → Prop} {Q : Exit → Act → World → Prop} (hd : ∀ c, o.op ≠ .defer c) (h : OpOK P o a w R) (hK : ∀ v w', R v w' → K (a.put o.dst v) w') : o.wpIn F 0 P a w K Q := by
  refine ⟨fun f _ => hF.fn f, ?_⟩
  rw [Oper.semAt_eq _ _ _ hd]
  rcases h with ⟨v, w', h1, h2⟩ | ⟨w', h1, h2⟩ | ⟨f, args, w', h1, h2⟩
  · rw [h1]; exact hK v w' h2
  · rw [h1]; exact hK undef w' h2
  · rw [h1]
    refine ⟨(fun hh => by rw [hF.depth] at hh; cases hh), hF.calls (h2.mono ?_)⟩
    rintro e w'' ⟨v, rfl, h3⟩
    exact hK v w'' h3
/-- ... a round among what may come. -/
def OpW (P : Program) (o : Oper) (a : Act) (w : World) (R : Value → World → Prop) : Prop :=
  OpOK P o a w R ∨ ∃ l fn tmps x y w', (execOp a.eval o).run P w = .ok (.round l fn tmps x y) w' ∧ RoundIn Fence.wide 0 P l fn tmps x y w' fun e w'' => ∃ v, e = .returned v ∧ R v w''
theorem WF.round {F : Fence} (h : WF F) {n l fn : Nat} {tmps : Array Value} {x y : Code} {w : World} {R : Ending → World → Prop} (hc : RoundIn Fence.wide n P l fn tmps x y w R) : RoundIn F n P l fn tmps x y w R := by
  cases h with
  | wide => exact hc
  | rnd l => exact hc
theorem wpIn_ofW {F : Fence} (hF : WF F) {o : Oper} {a : Act} {w : World} {R : Value → World → Prop} {K : Act → World → Prop} {Q : Exit → Act → World → Prop} (hd : ∀ c, o.op ≠ .defer c) (h : OpW P o a w R) (hK : ∀ v w', R v w' → K (a.put o.dst v) w') : o.wpIn F 0 P a w K Q := by
  rcases h with h | ⟨l, fn, tmps, x, y, w', h1, h2⟩
  · exact wpIn_of hF hd h hK
  · refine ⟨fun f _ => hF.fn f, ?_⟩
    rw [Oper.semAt_eq _ _ _ hd, h1]
    refine ⟨(fun hh => by rw [hF.depth] at hh; cases hh), hF.round (h2.mono ?_)⟩
    rintro e w'' ⟨v, rfl, h3⟩
    exact hK v w'' h3
theorem callv_yield {a : Act} {o : Oper} {c : Call} {g : Operand} {l : Nat} (ho : o.op = .call c) (hc : c.callee = .value g) (hg : a.eval g = .func (.yield l) #[] #[]) (w : World) : (execOp a.eval o).run P w = (Instr.yield l (c.args.map a.eval)).run P w := by
  unfold execOp
  simp only [ho, resolve, hc, hg, Deferred.ofValue, Sem.run_bind, Sem.run_pure, Result.andThen_ok, invoke]
  simp
theorem cOp_noDefer {P : Program} {op : Op} {io : PO} (h : cOp P op = some io) : ∀ c, op ≠ .defer c := by
  rintro c rfl; cases h

/-! Memory -/
theorem hsetL_get : ∀ (l : List (Option Blk)) (i : Nat) (b : Option Blk) (j : Nat), (match (hsetL l i b)[j]? with | some (some x) => some x | _ => none) = if j = i then b else (match l[j]? with | some (some x) => some x | _ => none)
  | [], 0, b, j => by
    cases j with
    | zero => cases b <;> simp [hsetL]
    | succ j => simp [hsetL]
  | [], n + 1, b, j => by
    cases j with
    | zero => simp [hsetL]
    | succ j =>
      have := hsetL_get [] n b j
      simp only [hsetL, List.getElem?_cons_succ]
      rw [this]; simp
  | x :: l, 0, b, j => by
    cases j with
    | zero => cases b <;> simp [hsetL]
    | succ j => simp [hsetL]
  | x :: l, n + 1, b, j => by
    cases j with
    | zero => simp [hsetL]
    | succ j =>
      have := hsetL_get l n b j
      simp only [hsetL, List.getElem?_cons_succ]
      rw [this]; simp
theorem hget_wrL : ∀ (wr : Wr) (l : List (Option Blk)) (n n' : Nat), hget ⟨wrL l wr, n⟩ = updH (hget ⟨l, n'⟩) wr
  | [], l, n, n' => rfl
  | p :: wr, l, n, n' => by
    have h1 : hget ⟨wrL l (p :: wr), n⟩ = hget ⟨wrL (hsetL l p.1 p.2) wr, n⟩ := rfl
    have h2 : updH (hget ⟨l, n'⟩) (p :: wr) = updH (fun id => if id = p.1 then p.2 else hget ⟨l, n'⟩ id) wr := rfl
    rw [h1, h2, hget_wrL wr _ n n']
    congr 1
    funext id
    exact hsetL_get l p.1 p.2 id
theorem hget_wrH (H : Heap) (wr : Wr) (nx : Nat) : hget (wrH H wr nx) = updH (hget H) wr := hget_wrL wr H.l _ H.nx
theorem reps_put {w : World} {S : Nat → Prop} {φ : Phi} {env : List AV} {a : Act} {v : AV} {vv : Value} (hr : Reps w S φ env a.tmps) (hv : Rep w S φ v vv) (dst : Option Nat) : Reps w S φ (setD env dst v) (a.put dst vv).tmps := by
  cases dst with
  | none => exact hr
  | some d =>
    refine ⟨by simp [setD, Act.put, hr.1], fun i c u e1 e2 => ?_⟩
    simp only [setD, Act.put] at e1 e2
    by_cases hi : i = d
    · subst hi
      have hlt : i < env.length := by
        rcases Nat.lt_or_ge i env.length with h' | h'
        · exact h'
        · rw [List.getElem?_eq_none (by simpa using h')] at e1; cases e1
      rw [List.getElem?_set_self hlt] at e1
      rw [Array.getElem?_setIfInBounds_self_of_lt (by rw [hr.1]; exact hlt)] at e2
      cases e1; cases e2; exact hv
    · rw [List.getElem?_set_ne (Ne.symm hi)] at e1
      rw [Array.getElem?_setIfInBounds_ne (Ne.symm hi)] at e2
      exact hr.2 i c u e1 e2
theorem put_defers (a : Act) (dst : Option Nat) (v : Value) : (a.put dst v).defers = a.defers := by cases dst <;> rfl

/-! The state -/
structure Inv (P : Program) (S : Nat → Prop) (φ : Phi) (w : World) (st : St) (a : Act) : Prop where
  sim : Sim P S φ (hget st.H) w
  env : Reps w S φ st.env a.tmps
  top : ∀ id, st.H.nx ≤ id → φ id = none
def Reach (P : Program) (S : Nat → Prop) (φ : Phi) (w : World) (st : St) (a : Act) (st' : St) (a' : Act) (w' : World) : Prop :=
  ∃ S' φ', Inv P S' φ' w' st' a' ∧ Adv S φ (hget st.H) w S' φ' (hget st'.H) w' ∧ a'.defers = a.defers ∧ st.H.nx ≤ st'.H.nx
theorem Reach.refl {S : Nat → Prop} {φ : Phi} {w : World} {st : St} {a : Act} (h : Inv P S φ w st a) : Reach P S φ w st a st a w := ⟨S, φ, h, Adv.refl _ _ _ _, rfl, Nat.le_refl _⟩
/-- The world drew a number. -/
theorem Inv.drewR {S : Nat → Prop} {φ : Phi} {w : World} {st : St} {a : Act} (h : Inv P S φ w st a) : Inv P S φ w.drew st a := ⟨h.sim.drewR, (Adv.drewR _ _ _ _).reps h.sim h.env, h.top⟩

section seq
variable {P : Program} {T : FuncId → Option IFn} {cb : Cb}
theorem call_whole (hT : TOK P T) (hcb : CbOK P cb) {f : FuncId} {args : List AV} {us : Array Value} {H H' : Heap} {nx : Nat} {v : AV} {a : Act} {o : Oper} {S : Nat → Prop} {φ : Phi} {w : World}
    (hex : ∀ w, (execOp a.eval o).run P w = (callFunc f us).run P w) (hargs : Reps w S φ args us) (he : callOp T cb f args H nx = some (.whole v H')) (hs : Sim P S φ (hget H) w) (htop : ∀ id, H.nx ≤ id → φ id = none) :
    OpW P o a w (Fin P S φ H w v H') := by
  unfold callOp at he
  split at he
  · cases he
  · rename_i fn hfn
    split at he
    · cases hq : cb (.fn f) args H with
      | none => simp [hq] at he
      | some p =>
        simp [hq] at he
        obtain ⟨rfl, rfl⟩ := he
        obtain ⟨g, c, g1, g2, g3, -⟩ := cFn_spec (hT f fn hfn)
        exact .inl (.inr (.inr ⟨f, us, w, by rw [hex]; exact run_callFunc g1 g2 g3 us, hcb.fn f args H p.1 p.2 hq S φ w us hs htop hargs⟩))
    · split at he
      · split at he
        · split at he <;> cases he
        · cases he
      · cases he
theorem evalOp_whole {env : List AV} {H H' : Heap} {nx : Nat} {io : PO} {v : AV} (he : evalOp T cb env H nx io = some (.whole v H')) :
    (∃ f args, io = .call f args ∧ callOp T cb f (args.map (arg env)) H nx = some (.whole v H')) ∨ (∃ g args f first caps, io = .callv g args ∧ arg env g = .fn f first caps ∧ callOp T cb f (first ++ args.map (arg env) ++ caps) H nx = some (.whole v H')) ∨
    (∃ g args id, io = .callv g args ∧ arg env g = .yld id ∧ cb (.yl id) (args.map (arg env)) H = some (v, H')) := by
  cases io with
  | call f args => exact .inl ⟨f, args, rfl, he⟩
  | callv g args =>
    simp only [evalOp] at he
    split at he
    · rename_i f first caps e1; exact .inr (.inl ⟨g, args, f, first, caps, rfl, e1, he⟩)
    · rename_i id e1
      cases hq : cb (.yl id) (args.map (arg env)) H with
      | none => simp [hq] at he
      | some p => simp [hq] at he; obtain ⟨rfl, rfl⟩ := he; exact .inr (.inr ⟨g, args, id, rfl, e1, hq⟩)
    · cases he
  | eqv neg agg ks x y =>
    cases agg <;> simp only [evalOp] at he
    · cases h1 : eqL ks [arg env x] [arg env y] <;> simp [h1] at he
    · split at he
      · rename_i cs ds _ _; cases h1 : eqL ks cs ds <;> simp [h1] at he
      · cases he
  | _ =>
    simp only [evalOp] at he
    repeat' (first | (cases he; done) | split at he)
    all_goals (first | (cases he; done) | (simp [Option.bind_eq_some_iff, Option.map_eq_some_iff] at he; done))
def PO.isCall : PO → Bool
  | .call .. | .callv .. => true
  | _ => false
theorem cOp_call {op : Op} {io : PO} (hc : cOp P op = some io) (h : io.isCall = true) : ∃ c, op = .call c := by
  cases op with
  | call c => exact ⟨c, rfl⟩
  | fieldAddr s x i =>
    simp only [cOp] at hc
    split at hc
    · rename_i fs ax hu hx
      cases hf : fs[i]? with
      | none => simp [hf] at hc
      | some f =>
        simp only [hf, Option.bind_some] at hc
        split at hc <;> cases hc
        cases h
    · cases hc
  | binOp op t x y t' =>
    simp only [cOp] at hc
    split at hc
    · split at hc
      · cases hc; cases h
      · have key : ∀ {neg x y}, cEqv P neg t x y = some io → False := by
          intro neg x y hq
          unfold cEqv at hq
          split at hq
          · split at hq <;> cases hq
            cases h
          · cases hq
        have key2 : ∀ {neg x y z r}, (r = some io → False) → cNil P neg t x y z r = some io → False := by
          intro neg x y z r hr hq
          unfold cNil at hq
          split at hq
          · cases hq; cases h
          · exact hr hq
        split at hc
        · exact (key2 key hc).elim
        · exact (key2 key hc).elim
        · cases hc
    · cases hc
  | slice t x lo hi mx =>
    cases mx with
    | none =>
      simp only [cOp] at hc
      split at hc
      · simp only [Option.map_eq_some_iff] at hc; obtain ⟨_, _, rfl⟩ := hc; cases h
      · cases hc
    | some mx =>
      cases hi with
      | none => simp [cOp] at hc
      | some hi =>
        simp only [cOp] at hc
        split at hc
        · simp only [Option.map_eq_some_iff] at hc; obtain ⟨_, _, rfl⟩ := hc; cases h
        · cases hc
  | makeFunc fn first caps =>
    cases fn <;> simp only [cOp] at hc
    · split at hc <;> cases hc
      cases h
    all_goals cases hc
  | _ =>
    simp only [cOp] at hc
    repeat' (first | (cases hc; done) | split at hc)
    all_goals (first
      | (cases hc; cases h; done)
      | (simp only [Option.bind_eq_some_iff, Option.map_eq_some_iff] at hc; obtain ⟨_, _, rfl⟩ := hc; cases h; done)
      | (simp only [Option.bind_eq_some_iff, Option.map_eq_some_iff] at hc; obtain ⟨_, _, _, _, rfl⟩ := hc; cases h; done)
      | (simp only [Option.bind_eq_some_iff, Option.map_eq_some_iff] at hc; obtain ⟨_, _, h2⟩ := hc; cases h2; cases h; done))
theorem op_whole (hT : TOK P T) (hcb : CbOK P cb) {op : Op} {io : PO} {H H' : Heap} {nx : Nat} {v : AV} {a : Act} {o : Oper} {env : List AV} {S : Nat → Prop} {φ : Phi} {w : World} (hc : cOp P op = some io) (ho : o.op = op) (he : evalOp T cb env H nx io = some (.whole v H')) (hs : Sim P S φ (hget H) w) (hr : Reps w S φ env a.tmps) (htop : ∀ id, H.nx ≤ id → φ id = none) :
    OpW P o a w (Fin P S φ H w v H') := by
  have hcall : io.isCall = true := by
    rcases evalOp_whole he with ⟨f, args, rfl, -⟩ | ⟨g, args, f, first, caps, rfl, -⟩ | ⟨g, args, id, rfl, -⟩ <;> rfl
  obtain ⟨c, rfl⟩ := cOp_call hc hcall
  simp only [cOp] at hc
  split at hc
  · rename_i b args hcal hargs
    exfalso
    unfold cBuiltin at hc
    split at hc
    · split at hc <;> cases hc <;> cases hcall
    · split at hc
      · split at hc
        · split at hc
          · split at hc
            · cases hc; cases hcall
            · split at hc
              · cases hc; cases hcall
              · cases hc
          · cases hc
        · cases hc
      · cases hc
    · split at hc <;> cases hc
      cases hcall
    · split at hc
      · split at hc
        · split at hc <;> cases hc
          cases hcall
        · cases hc
      · cases hc
    · cases hc; cases hcall
    · cases hc; cases hcall
    · cases hc
  · rename_i f args hcal hargs
    cases hc
    exact call_whole (us := c.args.map a.eval) hT hcb (fun w => by rw [call_exec ho hcal]; simp [invoke]) (args_arr hargs hr) he hs htop
  · rename_i g args hng hcal hargs
    cases hg : cOpd g with
    | none => simp [hg] at hc
    | some ag =>
      simp [hg] at hc; subst hc
      simp only [evalOp] at he
      split at he
      · rename_i f first caps e1
        have hv := arg_rep hr hg
        rw [e1] at hv
        obtain ⟨vf, vc, k1, k2, k3⟩ : ∃ vf vc, a.eval g = .func (.func f) vf vc ∧ Reps w S φ first vf ∧ Reps w S φ caps vc := by
          generalize a.eval g = q at hv
          cases hv with
          | fn hl h hl' h' => exact ⟨_, _, rfl, ⟨hl, h⟩, ⟨hl', h'⟩⟩
        exact call_whole hT hcb (callv_exec ho hcal k1) ((k2.append (args_arr hargs hr)).append k3) he hs htop
      · rename_i id e1
        have hv := arg_rep hr hg
        rw [e1] at hv
        obtain ⟨loc, k1, k2⟩ : ∃ loc, φ id = some loc ∧ a.eval g = .func (.yield loc.blk) #[] #[] := by
          generalize a.eval g = q at hv
          cases hv with
          | yld h => exact ⟨_, h, rfl⟩
        cases hq : cb (.yl id) (args.map (arg env)) H with
        | none => simp [hq] at he
        | some p =>
          simp [hq] at he
          obtain ⟨rfl, rfl⟩ := he
          obtain ⟨fn, tmps, x, y, m1, m2⟩ := hcb.yl id _ H p.1 p.2 hq S φ w _ loc hs htop (args_arr hargs hr) k1
          exact .inr ⟨loc.blk, fn, tmps, x, y, w, by rw [callv_yield ho hcal k2]; exact m1, m2⟩
      · cases he
  · cases hc
theorem inv_eff {S : Nat → Prop} {φ : Phi} {w w' : World} {st : St} {a : Act} {v : AV} {wr : Wr} {nx : Nat} {vv : Value} (hI : Inv P S φ w st a) (h : Ends P S φ (hget st.H) w v wr st.H.nx nx vv w') (dst : Option Nat) : Reach P S φ w st a ⟨setD st.env dst v, wrH st.H wr nx⟩ (a.put dst vv) w' := by
  obtain ⟨S', φ', hD⟩ := h
  refine ⟨S', φ', ⟨by rw [hget_wrH]; exact hD.sim, reps_put (hD.adv.reps hI.sim hI.env) hD.rep dst, fun id hid => ?_⟩, by rw [hget_wrH]; exact hD.adv, put_defers _ _ _, Nat.le_max_left _ _⟩
  have hid' : max st.H.nx nx ≤ id := hid
  rw [hD.only id (.inr (by omega))]
  exact hI.top id (by omega)
theorem inv_undef {S : Nat → Prop} {φ : Phi} {w : World} {st : St} {a : Act} (hI : Inv P S φ w st a) (dst : Option Nat) : Reach P S φ w st a ⟨setD st.env dst undefA, st.H⟩ (a.put dst undef) w :=
  ⟨S, φ, ⟨hI.sim, reps_put hI.env undef_rep dst, hI.top⟩, Adv.refl _ _ _ _, put_defers _ _ _, Nat.le_refl _⟩
theorem Reach.trans {S : Nat → Prop} {φ : Phi} {w w' w'' : World} {st st' st'' : St} {a a' a'' : Act} (h : Reach P S φ w st a st' a' w') (k : ∀ S' φ', Inv P S' φ' w' st' a' → Reach P S' φ' w' st' a' st'' a'' w'') : Reach P S φ w st a st'' a'' w'' := by
  obtain ⟨S', φ', h1, h2, h3, h4⟩ := h
  obtain ⟨S'', φ'', k1, k2, k3, k4⟩ := k S' φ' h1
  exact ⟨S'', φ'', k1, h2.trans k2, k3.trans h3, Nat.le_trans h4 k4⟩
theorem Reach.step {S S' : Nat → Prop} {φ φ' : Phi} {w w' w'' : World} {st st' st'' : St} {a a' a'' : Act} (h2 : Adv S φ (hget st.H) w S' φ' (hget st'.H) w') (h3 : a'.defers = a.defers) (h4 : st.H.nx ≤ st'.H.nx) (k : Reach P S' φ' w' st' a' st'' a'' w'') : Reach P S φ w st a st'' a'' w'' := by
  obtain ⟨S'', φ'', k1, k2, k3, k4⟩ := k
  exact ⟨S'', φ'', k1, h2.trans k2, k3.trans h3, Nat.le_trans h4 k4⟩
theorem wanted_eq {S : Nat → Prop} {φ : Phi} {w : World} {env : List AV} {a : Act} {ops : Array Oper} {o : Oper} {bef : Nat} {io : IOp} (hc : cOper P ops bef o = some io) (hr : Reps w S φ env a.tmps) : wantedA env io.guard = Region.wanted o (yielded ops a.tmps) := by
  unfold cOper at hc
  split at hc
  · rename_i hg; cases hc; simp [wantedA, Region.wanted, hg]
  · rename_i j want hg
    split at hc
    · rename_i t ht
      cases hc
      simp only [wantedA, Region.wanted, hg, yielded, ht, Option.bind_some]
      have hv := hr.getD t
      have hsz : a.tmps[t]? = if t < a.tmps.size then some (a.tmps.getD t undef) else none := by
        by_cases h : t < a.tmps.size
        · simp [h]
        · simp [h]
      by_cases hlt : t < a.tmps.size
      · rw [hsz, if_pos hlt]
        generalize env.getD t undefA = x at hv
        generalize a.tmps.getD t undef = y at hv
        cases hv <;> simp
      · rw [hsz, if_neg hlt]
        have : env.getD t undefA = undefA := by simp [List.getD, List.getElem?_eq_none (show env.length ≤ t by rw [← hr.1]; exact Nat.le_of_not_lt hlt)]
        rw [this]; simp [undefA]
    · cases hc
theorem cOper_op {ops : Array Oper} {bef : Nat} {o : Oper} {io : IOp} (hc : cOper P ops bef o = some io) : io.dst = o.dst ∧ io.op = (cOp P o.op).getD .bad ∧ io.bef = bef := by
  unfold cOper at hc
  split at hc
  · cases hc; exact ⟨rfl, rfl, rfl⟩
  · split at hc
    · cases hc; exact ⟨rfl, rfl, rfl⟩
    · cases hc
theorem seq_sound (hT : TOK P T) (hcb : CbOK P cb) {F : Fence} (hF : WF F) {ops : Array Oper} {Q : Exit → Act → World → Prop} : ∀ (n k : Nat) (ios : List IOp) (st st' : St) (S : Nat → Prop) (φ : Phi) (w : World) (a : Act), k + n = ops.size → cOpers P ops (ops.toList.drop k) k = some ios → evalOps T cb ios st = some st' → Inv P S φ w st a →
    (∀ a' w', Reach P S φ w st a st' a' w' → Q .normal a' w') → wpOpsIn F 0 P ops Q (List.range' k n) a w
  | 0, k, ios, st, st', S, φ, w, a, hk, hc, he, hI, hQ => by
    have : ops.toList.drop k = [] := by simp; omega
    rw [this] at hc
    cases hc; cases he
    exact hQ a w (Reach.refl hI)
  | n + 1, k, ios, st, st', S, φ, w, a, hk, hc, he, hI, hQ => by
    have hlt : k < ops.size := by omega
    have hd : ops.toList.drop k = ops[k] :: ops.toList.drop (k + 1) := by rw [List.drop_eq_getElem_cons (by simpa using hlt)]; simp
    rw [hd] at hc
    simp only [cOpers] at hc
    split at hc
    · rename_i io ios' h1 h2
      cases hc
      obtain ⟨d1, d2, d3⟩ := cOper_op h1
      have ho : ops[k]? = some ops[k] := by simp [hlt]
      have hw := wanted_eq h1 hI.env
      simp only [List.range'_succ, wpOpsIn, ho]
      simp only [evalOps] at he
      split at he
      · rename_i hwant
        rw [hwant] at hw
        rw [if_pos hw.symm]
        split at he
        · rename_i v rd wr nx e1
          rw [d2] at e1
          cases hcop : cOp P ops[k].op with
          | none => rw [hcop] at e1; cases e1
          | some oo =>
            rw [hcop] at e1
            refine wpIn_of hF (cOp_noDefer hcop) (op_eff hT hcb hcop rfl e1 (fun _ _ => rfl) hI.sim hI.env (fun id i1 _ => hI.top id i1)) fun vv w' hE => ?_
            have hR := inv_eff hI hE io.dst
            rw [d1] at hR he
            obtain ⟨S', φ', r1, r2, r3, r4⟩ := hR
            exact seq_sound hT hcb hF n (k + 1) ios' _ st' S' φ' w' _ (by omega) h2 he r1 fun a' w'' hR' => hQ a' w'' (Reach.step r2 r3 r4 hR')
        · rename_i v H' e1
          rw [d2] at e1
          cases hcop : cOp P ops[k].op with
          | none => rw [hcop] at e1; cases e1
          | some oo =>
            rw [hcop] at e1
            refine wpIn_ofW hF (cOp_noDefer hcop) (op_whole hT hcb hcop rfl e1 hI.sim hI.env hI.top) fun vv w' hE => ?_
            obtain ⟨S', φ', r2, r1, r3, r4, r5⟩ := hE
            rw [d1] at he
            exact seq_sound hT hcb hF n (k + 1) ios' _ st' S' φ' w' _ (by omega) h2 he ⟨r1, reps_put (r2.reps hI.sim hI.env) r3 _, r4⟩ fun a' w'' hR' => hQ a' w'' (Reach.step r2 (put_defers _ _ _) r5 hR')
        · cases he
      · rename_i hwant
        have hwant' : wantedA st.env io.guard = false := by simpa using hwant
        rw [hwant'] at hw
        rw [if_neg (by rw [← hw]; simp)]
        refine ⟨fun f _ => hF.fn f, ?_⟩
        rw [d1] at he
        obtain ⟨S', φ', r1, r2, r3, r4⟩ := inv_undef hI ops[k].dst
        exact seq_sound hT hcb hF n (k + 1) ios' _ st' S' φ' w _ (by omega) h2 he r1 fun a' w'' hR' => hQ a' w'' (Reach.step r2 r3 r4 hR')
    · cases hc
theorem region_seq (hT : TOK P T) (hcb : CbOK P cb) {F : Fence} (hF : WF F) {id : Nat} {ops : Array Oper} {Q : Exit → Act → World → Prop} {ios : List IOp} {st st' : St} {S : Nat → Prop} {φ : Phi} {w : World} {a : Act} (hc : cOpers P ops ops.toList 0 = some ios) (he : evalOps T cb ios st = some st') (hI : Inv P S φ w st a)
    (hQ : ∀ a' w', Reach P S φ w st a st' a' w' → Q .normal a' w') : (Code.region id ops false).wpIn F 0 P Q a w := by
  refine wpIn_region ?_
  rw [List.range_eq_range']
  exact seq_sound hT hcb hF ops.size 0 ios st st' S φ w a (by omega) (by simpa using hc) he hI hQ
end seq
end Go.V
