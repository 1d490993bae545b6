/- Soundness: regions in the text's order. -/
import Derived.Test.YtiailejekbnkgaaGreatJF
import Derived.OrdersIn
set_option linter.unusedVariables false
set_option linter.unusedSimpArgs false
namespace Go.V
open Go.RowKit
variable {P : Program}

/-- The fences that the walk stands in. -/
inductive WF : Fence → Prop
  | wide : WF Fence.wide
  | rnd (l : Nat) : WF (Fence.wide.inRound l)
theorem WF.fn {F : Fence} (h : WF F) (f : FuncId) : F.fn f := by cases h <;> trivial
theorem WF.depth {F : Fence} (h : WF F) : F.depth = none := by cases h <;> rfl
theorem WF.calls {F : Fence} (h : WF F) {n : Nat} {P : Program} {f : FuncId} {args : Array Value} {w : World} {R : Ending → World → Prop} (hc : Calls P f args w R) : CallsIn F n P f args w R := by
  cases h with
  | wide => exact callsIn_wide.2 hc
  | rnd l => exact callsIn_wide.2 hc
theorem wpIn_of {P : Program} {F : Fence} (hF : WF F) {o : Oper} {a : Act} {w : World} {R : Value → World → Prop} {K : Act → World → Prop} {Q : Exit → Act → World → Prop} (hd : ∀ c, o.op ≠ .defer c) (h : OpOK P o a w R) (hK : ∀ v w', R v w' → K (a.put o.dst v) w') : o.wpIn F 0 P a w K Q := by
  refine ⟨fun f _ => hF.fn f, ?_⟩
  rw [Oper.semAt_eq _ _ _ hd]
  rcases h with ⟨v, w', h1, h2⟩ | ⟨w', h1, h2⟩ | ⟨f, args, w', h1, h2⟩
  · rw [h1]; exact hK v w' h2
  · rw [h1]; exact hK undef w' h2
  · rw [h1]
    refine ⟨(fun hh => by rw [hF.depth] at hh; cases hh), hF.calls (h2.mono ?_)⟩
    rintro e w'' ⟨v, rfl, h3⟩
    exact hK v w'' h3
/-- ... a round among what may come. -/
def OpW (P : Program) (o : Oper) (a : Act) (w : World) (R : Value → World → Prop) : Prop :=
  OpOK P o a w R ∨ ∃ l fn tmps x y w', (execOp a.eval o).run P w = .ok (.round l fn tmps x y) w' ∧ RoundIn Fence.wide 0 P l fn tmps x y w' fun e w'' => ∃ v, e = .returned v ∧ R v w''
theorem WF.round {F : Fence} (h : WF F) {n l fn : Nat} {tmps : Array Value} {x y : Code} {w : World} {R : Ending → World → Prop} (hc : RoundIn Fence.wide n P l fn tmps x y w R) : RoundIn F n P l fn tmps x y w R := by
  cases h with
  | wide => exact hc
  | rnd l => exact hc
theorem wpIn_ofW {F : Fence} (hF : WF F) {o : Oper} {a : Act} {w : World} {R : Value → World → Prop} {K : Act → World → Prop} {Q : Exit → Act → World → Prop} (hd : ∀ c, o.op ≠ .defer c) (h : OpW P o a w R) (hK : ∀ v w', R v w' → K (a.put o.dst v) w') : o.wpIn F 0 P a w K Q := by
  rcases h with h | ⟨l, fn, tmps, x, y, w', h1, h2⟩
  · exact wpIn_of hF hd h hK
  · refine ⟨fun f _ => hF.fn f, ?_⟩
    rw [Oper.semAt_eq _ _ _ hd, h1]
    refine ⟨(fun hh => by rw [hF.depth] at hh; cases hh), hF.round (h2.mono ?_)⟩
    rintro e w'' ⟨v, rfl, h3⟩
    exact hK v w'' h3
theorem callv_yield {a : Act} {o : Oper} {c : Call} {g : Operand} {l : Nat} (ho : o.op = .call c) (hc : c.callee = .value g) (hg : a.eval g = .func (.yield l) #[] #[]) (w : World) : (execOp a.eval o).run P w = (Instr.yield l (c.args.map a.eval)).run P w := by
  unfold execOp
  simp only [ho, resolve, hc, hg, Deferred.ofValue, Sem.run_bind, Sem.run_pure, Result.andThen_ok, invoke]
  simp
theorem cOp_noDefer {P : Program} {T : FuncId → Option IFn} {cb : Cb} {env : List AV} {H : Heap} {nx : Nat} {op : Op} {io : PO} {r : OpR} (h : cOp P op = some io) (he : evalOp T cb env H nx io = some r) : ∀ c, op ≠ .defer c := by
  rintro c rfl
  simp only [cOp] at h
  split at h
  · simp only [Option.map_eq_some_iff] at h
    obtain ⟨_, _, rfl⟩ := h
    cases he
  · cases h

/-! Memory -/
theorem hsetL_get : ∀ (l : List (Option Blk)) (i : Nat) (b : Option Blk) (j : Nat), (match (hsetL l i b)[j]? with | some (some x) => some x | _ => none) = if j = i then b else (match l[j]? with | some (some x) => some x | _ => none)
  | [], 0, b, j => by
    cases j with
    | zero => cases b <;> simp [hsetL]
    | succ j => simp [hsetL]
  | [], n + 1, b, j => by
    cases j with
    | zero => simp [hsetL]
    | succ j =>
      have := hsetL_get [] n b j
      simp only [hsetL, List.getElem?_cons_succ]
      rw [this]; simp
  | x :: l, 0, b, j => by
    cases j with
    | zero => cases b <;> simp [hsetL]
    | succ j => simp [hsetL]
  | x :: l, n + 1, b, j => by
    cases j with
    | zero => simp [hsetL]
    | succ j =>
      have := hsetL_get l n b j
      simp only [hsetL, List.getElem?_cons_succ]
      rw [this]; simp
theorem hget_wrL : ∀ (wr : Wr) (l : List (Option Blk)) (n n' : Nat), hget ⟨wrL l wr, n⟩ = updH (hget ⟨l, n'⟩) wr
  | [], l, n, n' => rfl
  | p :: wr, l, n, n' => by
    have h1 : hget ⟨wrL l (p :: wr), n⟩ = hget ⟨wrL (hsetL l p.1 p.2) wr, n⟩ := rfl
    have h2 : updH (hget ⟨l, n'⟩) (p :: wr) = updH (fun id => if id = p.1 then p.2 else hget ⟨l, n'⟩ id) wr := rfl
    rw [h1, h2, hget_wrL wr _ n n']
    congr 1
    funext id
    exact hsetL_get l p.1 p.2 id
theorem hget_wrH (H : Heap) (wr : Wr) (nx : Nat) : hget (wrH H wr nx) = updH (hget H) wr := hget_wrL wr H.l _ H.nx
theorem reps_put {w : World} {S : Nat → Prop} {φ : Phi} {env : List AV} {a : Act} {v : AV} {vv : Value} (hr : Reps w S φ env a.tmps) (hv : Rep w S φ v vv) (dst : Option Nat) : Reps w S φ (setD env dst v) (a.put dst vv).tmps := by
  cases dst with
  | none => exact hr
  | some d =>
    refine ⟨by simp [setD, setK_eq, Act.put, hr.1], fun i c u e1 e2 => ?_⟩
    simp only [setD, setK_eq, Act.put] at e1 e2
    by_cases hi : i = d
    · subst hi
      have hlt : i < env.length := by
        rcases Nat.lt_or_ge i env.length with h' | h'
        · exact h'
        · rw [List.getElem?_eq_none (by simpa using h')] at e1; cases e1
      rw [List.getElem?_set_self hlt] at e1
      rw [Array.getElem?_setIfInBounds_self_of_lt (by rw [hr.1]; exact hlt)] at e2
      cases e1; cases e2; exact hv
    · rw [List.getElem?_set_ne (Ne.symm hi)] at e1
      rw [Array.getElem?_setIfInBounds_ne (Ne.symm hi)] at e2
      exact hr.2 i c u e1 e2
theorem put_defers (a : Act) (dst : Option Nat) (v : Value) : (a.put dst v).defers = a.defers := by cases dst <;> rfl

/-! The state -/
structure Inv (P : Program) (S : Nat → Prop) (φ : Phi) (w : World) (st : St) (a : Act) : Prop where
  sim : Sim P S φ (hget st.H) w
  env : Reps w S φ st.env a.tmps
  top : ∀ id, st.H.nx ≤ id → φ id = none
def Reach (P : Program) (S : Nat → Prop) (φ : Phi) (w : World) (st : St) (a : Act) (st' : St) (a' : Act) (w' : World) : Prop :=
  ∃ S' φ', Inv P S' φ' w' st' a' ∧ Adv S φ (hget st.H) w S' φ' (hget st'.H) w' ∧ a'.defers = a.defers ∧ st.H.nx ≤ st'.H.nx
theorem Reach.refl {S : Nat → Prop} {φ : Phi} {w : World} {st : St} {a : Act} (h : Inv P S φ w st a) : Reach P S φ w st a st a w := ⟨S, φ, h, Adv.refl _ _ _ _, rfl, Nat.le_refl _⟩
/-- The world drew a number. -/
theorem Inv.drewR {S : Nat → Prop} {φ : Phi} {w : World} {st : St} {a : Act} (h : Inv P S φ w st a) : Inv P S φ w.drew st a := ⟨h.sim.drewR, (Adv.drewR _ _ _ _).reps h.sim h.env, h.top⟩

section seq
variable {P : Program} {T : FuncId → Option IFn} {cb : Cb}
theorem call_whole (hT : TOK P T) (hcb : CbOK P cb) {f : FuncId} {args : List AV} {us : Array Value} {H H' : Heap} {nx : Nat} {v : AV} {a : Act} {o : Oper} {S : Nat → Prop} {φ : Phi} {w : World}
    (hex : ∀ w, (execOp a.eval o).run P w = (callFunc f us).run P w) (hargs : Reps w S φ args us) (he : callOp T cb f args H nx = some (.whole v H')) (hs : Sim P S φ (hget H) w) (htop : ∀ id, H.nx ≤ id → φ id = none) :
    OpW P o a w (Fin P S φ H w v H') := by
  unfold callOp at he
  split at he
  · cases he
  · rename_i fn hfn
    split at he
    · cases hq : cb (.fn f) args H with
      | none => simp [hq] at he
      | some p =>
        simp only [hq, Option.bind_some] at he
        split at he
        · cases he
        · rename_i hp
          cases he
          obtain ⟨g, c, g1, g2, g3, -⟩ := cFn_spec (hT f fn hfn)
          exact .inl (.inr (.inr ⟨f, us, w, by rw [hex]; exact run_callFunc g1 g2 g3 us, hcb.ret hq (by simpa using hp) hs htop hargs⟩))
    · split at he
      · split at he
        · split at he <;> cases he
        · cases he
      · cases he
theorem evalOp_whole {env : List AV} {H H' : Heap} {nx : Nat} {io : PO} {v : AV} (he : evalOp T cb env H nx io = some (.whole v H')) :
    (∃ f args, io = .call f args ∧ callOp T cb f (args.map (arg env)) H nx = some (.whole v H')) ∨ (∃ g args f first caps, io = .callv g args ∧ arg env g = .fn f first caps ∧ callOp T cb f (first ++ args.map (arg env) ++ caps) H nx = some (.whole v H')) ∨
    (∃ g args id, io = .callv g args ∧ arg env g = .yld id ∧ cb (.yl id) (args.map (arg env)) H = some (v, H')) ∨
    (∃ tbl x args t u f, io = .inv tbl x args ∧ arg env x = .ifc t u ∧ lookT t tbl = some f ∧ callOp T cb f (u :: args.map (arg env)) H nx = some (.whole v H')) := by
  cases io with
  | call f args => exact .inl ⟨f, args, rfl, he⟩
  | callv g args =>
    simp only [evalOp] at he
    split at he
    · rename_i f first caps e1; exact .inr (.inl ⟨g, args, f, first, caps, rfl, e1, he⟩)
    · rename_i id e1
      cases hq : cb (.yl id) (args.map (arg env)) H with
      | none => simp [hq] at he
      | some p => simp [hq] at he; obtain ⟨rfl, rfl⟩ := he; exact .inr (.inr (.inl ⟨g, args, id, rfl, e1, hq⟩))
    · cases he
  | inv tbl x args =>
    simp only [evalOp] at he
    split at he
    · rename_i t u e1
      split at he
      · rename_i f e2; exact .inr (.inr (.inr ⟨tbl, x, args, t, u, f, rfl, e1, e2, he⟩))
      · cases he
    · cases he
  | eqv neg agg ks x y =>
    cases agg <;> simp only [evalOp] at he
    · cases h1 : eqL ks [arg env x] [arg env y] <;> simp [h1] at he
    · split at he
      · rename_i cs ds _ _; cases h1 : eqL ks cs ds <;> simp [h1] at he
      · cases he
  | _ =>
    simp only [evalOp] at he
    repeat' (first | (cases he; done) | split at he)
    all_goals (first | (cases he; done) | (simp [Option.bind_eq_some_iff, Option.map_eq_some_iff] at he; done))
def PO.isCall : PO → Bool
  | .call .. | .callv .. | .inv .. => true
  | _ => false
theorem cOp_call {op : Op} {io : PO} (hc : cOp P op = some io) (h : io.isCall = true) : ∃ c, op = .call c := by
  cases op with
  | call c => exact ⟨c, rfl⟩
  | fieldAddr s x i =>
    simp only [cOp] at hc
    split at hc
    · rename_i fs ax hu hx
      cases hf : fs[i]? with
      | none => simp [hf] at hc
      | some f =>
        simp only [hf, Option.bind_some] at hc
        split at hc <;> cases hc
        cases h
    · cases hc
  | binOp op t x y t' =>
    simp only [cOp] at hc
    split at hc
    · split at hc
      · cases hc; cases h
      · have key : ∀ {neg x y}, cEqv P neg t x y = some io → False := by
          intro neg x y hq
          unfold cEqv at hq
          split at hq
          · split at hq <;> cases hq
            cases h
          · cases hq
        have key2 : ∀ {neg x y z r}, (r = some io → False) → cNil P neg t x y z r = some io → False := by
          intro neg x y z r hr hq
          unfold cNil at hq
          split at hq
          · cases hq; cases h
          · exact hr hq
        split at hc
        · split at hc
          · split at hc <;> cases hc <;> cases h
          · cases hc
        split at hc
        · split at hc <;> cases hc <;> cases h
        · split at hc
          · exact (key2 key hc).elim
          · exact (key2 key hc).elim
          · cases hc
    · cases hc
  | makeMap t r =>
    cases r with
    | none =>
      simp only [cOp, Option.map_eq_some_iff] at hc
      obtain ⟨_, _, rfl⟩ := hc
      cases h
    | some r => simp [cOp] at hc
  | slice t x lo hi mx =>
    cases mx with
    | none =>
      simp only [cOp] at hc
      split at hc
      · simp only [Option.map_eq_some_iff] at hc; obtain ⟨_, _, rfl⟩ := hc; cases h
      · simp only [Option.map_eq_some_iff] at hc; obtain ⟨_, _, rfl⟩ := hc; cases h
      · cases hc
    | some mx =>
      cases hi with
      | none => simp [cOp] at hc
      | some hi =>
        simp only [cOp] at hc
        split at hc
        · simp only [Option.map_eq_some_iff] at hc; obtain ⟨_, _, rfl⟩ := hc; cases h
        · cases hc
  | makeFunc fn first caps =>
    cases fn <;> simp only [cOp] at hc
    · split at hc <;> cases hc
      cases h
    all_goals cases hc
  | _ =>
    simp only [cOp] at hc
    repeat' (first | (cases hc; done) | split at hc)
    all_goals (first
      | (cases hc; cases h; done)
      | (simp only [Option.bind_eq_some_iff, Option.map_eq_some_iff] at hc; obtain ⟨_, _, rfl⟩ := hc; cases h; done)
      | (simp only [Option.bind_eq_some_iff, Option.map_eq_some_iff] at hc; obtain ⟨_, _, _, _, rfl⟩ := hc; cases h; done)
      | (simp only [Option.bind_eq_some_iff, Option.map_eq_some_iff] at hc; obtain ⟨_, _, h2⟩ := hc; cases h2; cases h; done))
def PO.isPnc : PO → Bool
  | .pnc _ => true
  | _ => false
theorem cOp_pnc {op : Op} {io : PO} (hc : cOp P op = some io) (h : io.isPnc = true) : ∃ x, op = .panic x := by
  cases op with
  | panic x => exact ⟨x, rfl⟩
  | call c =>
    exfalso
    simp only [cOp] at hc
    split at hc
    · unfold cBuiltin at hc
      repeat' (first | (cases hc; done) | split at hc)
      all_goals (first
        | (cases hc; cases h; done)
        | (simp only [Option.map_eq_some_iff] at hc; obtain ⟨_, _, rfl⟩ := hc; cases h; done))
    · cases hc; cases h
    · simp only [Option.map_eq_some_iff] at hc; obtain ⟨_, _, rfl⟩ := hc; cases h
    · simp only [Option.map_eq_some_iff] at hc; obtain ⟨_, _, rfl⟩ := hc; cases h
    · cases hc
  | fieldAddr s x i =>
    simp only [cOp] at hc
    split at hc
    · rename_i fs ax hu hx
      cases hf : fs[i]? with
      | none => simp [hf] at hc
      | some f =>
        simp only [hf, Option.bind_some] at hc
        split at hc <;> cases hc
        cases h
    · cases hc
  | binOp op t x y t' =>
    simp only [cOp] at hc
    split at hc
    · split at hc
      · cases hc; cases h
      · have key : ∀ {neg x y}, cEqv P neg t x y = some io → False := by
          intro neg x y hq
          unfold cEqv at hq
          split at hq
          · split at hq <;> cases hq
            cases h
          · cases hq
        have key2 : ∀ {neg x y z r}, (r = some io → False) → cNil P neg t x y z r = some io → False := by
          intro neg x y z r hr hq
          unfold cNil at hq
          split at hq
          · cases hq; cases h
          · exact hr hq
        split at hc
        · split at hc
          · split at hc <;> cases hc <;> cases h
          · cases hc
        split at hc
        · split at hc <;> cases hc <;> cases h
        · split at hc
          · exact (key2 key hc).elim
          · exact (key2 key hc).elim
          · cases hc
    · cases hc
  | makeMap t r =>
    cases r with
    | none =>
      simp only [cOp, Option.map_eq_some_iff] at hc
      obtain ⟨_, _, rfl⟩ := hc
      cases h
    | some r => simp [cOp] at hc
  | slice t x lo hi mx =>
    cases mx with
    | none =>
      simp only [cOp] at hc
      split at hc
      · simp only [Option.map_eq_some_iff] at hc; obtain ⟨_, _, rfl⟩ := hc; cases h
      · simp only [Option.map_eq_some_iff] at hc; obtain ⟨_, _, rfl⟩ := hc; cases h
      · cases hc
    | some mx =>
      cases hi with
      | none => simp [cOp] at hc
      | some hi =>
        simp only [cOp] at hc
        split at hc
        · simp only [Option.map_eq_some_iff] at hc; obtain ⟨_, _, rfl⟩ := hc; cases h
        · cases hc
  | makeFunc fn first caps =>
    cases fn <;> simp only [cOp] at hc
    · split at hc <;> cases hc
      cases h
    all_goals cases hc
  | _ =>
    simp only [cOp] at hc
    repeat' (first | (cases hc; done) | split at hc)
    all_goals (first
      | (cases hc; cases h; done)
      | (simp only [Option.bind_eq_some_iff, Option.map_eq_some_iff] at hc; obtain ⟨_, _, rfl⟩ := hc; cases h; done)
      | (simp only [Option.bind_eq_some_iff, Option.map_eq_some_iff] at hc; obtain ⟨_, _, _, _, rfl⟩ := hc; cases h; done)
      | (simp only [Option.bind_eq_some_iff, Option.map_eq_some_iff] at hc; obtain ⟨_, _, h2⟩ := hc; cases h2; cases h; done))
def PO.isDfr : PO → Bool
  | .dfr _ _ => true
  | _ => false
theorem cOp_dfr {op : Op} {io : PO} (hc : cOp P op = some io) (h : io.isDfr = true) : ∃ c, op = .defer c := by
  cases op with
  | defer c => exact ⟨c, rfl⟩
  | call c =>
    exfalso
    simp only [cOp] at hc
    split at hc
    · unfold cBuiltin at hc
      repeat' (first | (cases hc; done) | split at hc)
      all_goals (first
        | (cases hc; cases h; done)
        | (simp only [Option.map_eq_some_iff] at hc; obtain ⟨_, _, rfl⟩ := hc; cases h; done))
    · cases hc; cases h
    · simp only [Option.map_eq_some_iff] at hc; obtain ⟨_, _, rfl⟩ := hc; cases h
    · simp only [Option.map_eq_some_iff] at hc; obtain ⟨_, _, rfl⟩ := hc; cases h
    · cases hc
  | fieldAddr s x i =>
    simp only [cOp] at hc
    split at hc
    · rename_i fs ax hu hx
      cases hf : fs[i]? with
      | none => simp [hf] at hc
      | some f =>
        simp only [hf, Option.bind_some] at hc
        split at hc <;> cases hc
        cases h
    · cases hc
  | binOp op t x y t' =>
    simp only [cOp] at hc
    split at hc
    · split at hc
      · cases hc; cases h
      · have key : ∀ {neg x y}, cEqv P neg t x y = some io → False := by
          intro neg x y hq
          unfold cEqv at hq
          split at hq
          · split at hq <;> cases hq
            cases h
          · cases hq
        have key2 : ∀ {neg x y z r}, (r = some io → False) → cNil P neg t x y z r = some io → False := by
          intro neg x y z r hr hq
          unfold cNil at hq
          split at hq
          · cases hq; cases h
          · exact hr hq
        split at hc
        · split at hc
          · split at hc <;> cases hc <;> cases h
          · cases hc
        split at hc
        · split at hc <;> cases hc <;> cases h
        · split at hc
          · exact (key2 key hc).elim
          · exact (key2 key hc).elim
          · cases hc
    · cases hc
  | makeMap t r =>
    cases r with
    | none =>
      simp only [cOp, Option.map_eq_some_iff] at hc
      obtain ⟨_, _, rfl⟩ := hc
      cases h
    | some r => simp [cOp] at hc
  | slice t x lo hi mx =>
    cases mx with
    | none =>
      simp only [cOp] at hc
      split at hc
      · simp only [Option.map_eq_some_iff] at hc; obtain ⟨_, _, rfl⟩ := hc; cases h
      · simp only [Option.map_eq_some_iff] at hc; obtain ⟨_, _, rfl⟩ := hc; cases h
      · cases hc
    | some mx =>
      cases hi with
      | none => simp [cOp] at hc
      | some hi =>
        simp only [cOp] at hc
        split at hc
        · simp only [Option.map_eq_some_iff] at hc; obtain ⟨_, _, rfl⟩ := hc; cases h
        · cases hc
  | makeFunc fn first caps =>
    cases fn <;> simp only [cOp] at hc
    · split at hc <;> cases hc
      cases h
    all_goals cases hc
  | _ =>
    simp only [cOp] at hc
    repeat' (first | (cases hc; done) | split at hc)
    all_goals (first
      | (cases hc; cases h; done)
      | (simp only [Option.bind_eq_some_iff, Option.map_eq_some_iff] at hc; obtain ⟨_, _, rfl⟩ := hc; cases h; done)
      | (simp only [Option.bind_eq_some_iff, Option.map_eq_some_iff] at hc; obtain ⟨_, _, _, _, rfl⟩ := hc; cases h; done)
      | (simp only [Option.bind_eq_some_iff, Option.map_eq_some_iff] at hc; obtain ⟨_, _, h2⟩ := hc; cases h2; cases h; done))
def PO.isMvB : PO → Bool
  | .mv _ => true
  | _ => false
theorem cOp_mv {op : Op} {io : PO} (hc : cOp P op = some io) (h : io.isMvB = true) : ∃ x, op = .move x ∨ op = .assign x := by
  cases op with
  | move x => exact ⟨x, .inl rfl⟩
  | assign x => exact ⟨x, .inr rfl⟩
  | call c =>
    exfalso
    simp only [cOp] at hc
    split at hc
    · unfold cBuiltin at hc
      repeat' (first | (cases hc; done) | split at hc)
      all_goals (first
        | (cases hc; cases h; done)
        | (simp only [Option.map_eq_some_iff] at hc; obtain ⟨_, _, rfl⟩ := hc; cases h; done))
    · cases hc; cases h
    · simp only [Option.map_eq_some_iff] at hc; obtain ⟨_, _, rfl⟩ := hc; cases h
    · simp only [Option.map_eq_some_iff] at hc; obtain ⟨_, _, rfl⟩ := hc; cases h
    · cases hc
  | fieldAddr s x i =>
    simp only [cOp] at hc
    split at hc
    · rename_i fs ax hu hx
      cases hf : fs[i]? with
      | none => simp [hf] at hc
      | some f =>
        simp only [hf, Option.bind_some] at hc
        split at hc <;> cases hc
        cases h
    · cases hc
  | binOp op t x y t' =>
    simp only [cOp] at hc
    split at hc
    · split at hc
      · cases hc; cases h
      · have key : ∀ {neg x y}, cEqv P neg t x y = some io → False := by
          intro neg x y hq
          unfold cEqv at hq
          split at hq
          · split at hq <;> cases hq
            cases h
          · cases hq
        have key2 : ∀ {neg x y z r}, (r = some io → False) → cNil P neg t x y z r = some io → False := by
          intro neg x y z r hr hq
          unfold cNil at hq
          split at hq
          · cases hq; cases h
          · exact hr hq
        split at hc
        · split at hc
          · split at hc <;> cases hc <;> cases h
          · cases hc
        split at hc
        · split at hc <;> cases hc <;> cases h
        · split at hc
          · exact (key2 key hc).elim
          · exact (key2 key hc).elim
          · cases hc
    · cases hc
  | makeMap t r =>
    cases r with
    | none =>
      simp only [cOp, Option.map_eq_some_iff] at hc
      obtain ⟨_, _, rfl⟩ := hc
      cases h
    | some r => simp [cOp] at hc
  | slice t x lo hi mx =>
    cases mx with
    | none =>
      simp only [cOp] at hc
      split at hc
      · simp only [Option.map_eq_some_iff] at hc; obtain ⟨_, _, rfl⟩ := hc; cases h
      · simp only [Option.map_eq_some_iff] at hc; obtain ⟨_, _, rfl⟩ := hc; cases h
      · cases hc
    | some mx =>
      cases hi with
      | none => simp [cOp] at hc
      | some hi =>
        simp only [cOp] at hc
        split at hc
        · simp only [Option.map_eq_some_iff] at hc; obtain ⟨_, _, rfl⟩ := hc; cases h
        · cases hc
  | makeFunc fn first caps =>
    cases fn <;> simp only [cOp] at hc
    · split at hc <;> cases hc
      cases h
    all_goals cases hc
  | _ =>
    simp only [cOp] at hc
    repeat' (first | (cases hc; done) | split at hc)
    all_goals (first
      | (cases hc; cases h; done)
      | (simp only [Option.bind_eq_some_iff, Option.map_eq_some_iff] at hc; obtain ⟨_, _, rfl⟩ := hc; cases h; done)
      | (simp only [Option.bind_eq_some_iff, Option.map_eq_some_iff] at hc; obtain ⟨_, _, _, _, rfl⟩ := hc; cases h; done)
      | (simp only [Option.bind_eq_some_iff, Option.map_eq_some_iff] at hc; obtain ⟨_, _, h2⟩ := hc; cases h2; cases h; done))
def PO.isRcB : PO → Bool
  | .rcv => true
  | _ => false
theorem cOp_rcv {op : Op} {io : PO} (hc : cOp P op = some io) (h : io.isRcB = true) : ∃ c, op = .call c := by
  cases op with
  | call c => exact ⟨c, rfl⟩
  | fieldAddr s x i =>
    simp only [cOp] at hc
    split at hc
    · rename_i fs ax hu hx
      cases hf : fs[i]? with
      | none => simp [hf] at hc
      | some f =>
        simp only [hf, Option.bind_some] at hc
        split at hc <;> cases hc
        cases h
    · cases hc
  | binOp op t x y t' =>
    simp only [cOp] at hc
    split at hc
    · split at hc
      · cases hc; cases h
      · have key : ∀ {neg x y}, cEqv P neg t x y = some io → False := by
          intro neg x y hq
          unfold cEqv at hq
          split at hq
          · split at hq <;> cases hq
            cases h
          · cases hq
        have key2 : ∀ {neg x y z r}, (r = some io → False) → cNil P neg t x y z r = some io → False := by
          intro neg x y z r hr hq
          unfold cNil at hq
          split at hq
          · cases hq; cases h
          · exact hr hq
        split at hc
        · split at hc
          · split at hc <;> cases hc <;> cases h
          · cases hc
        split at hc
        · split at hc <;> cases hc <;> cases h
        · split at hc
          · exact (key2 key hc).elim
          · exact (key2 key hc).elim
          · cases hc
    · cases hc
  | makeMap t r =>
    cases r with
    | none =>
      simp only [cOp, Option.map_eq_some_iff] at hc
      obtain ⟨_, _, rfl⟩ := hc
      cases h
    | some r => simp [cOp] at hc
  | slice t x lo hi mx =>
    cases mx with
    | none =>
      simp only [cOp] at hc
      split at hc
      · simp only [Option.map_eq_some_iff] at hc; obtain ⟨_, _, rfl⟩ := hc; cases h
      · simp only [Option.map_eq_some_iff] at hc; obtain ⟨_, _, rfl⟩ := hc; cases h
      · cases hc
    | some mx =>
      cases hi with
      | none => simp [cOp] at hc
      | some hi =>
        simp only [cOp] at hc
        split at hc
        · simp only [Option.map_eq_some_iff] at hc; obtain ⟨_, _, rfl⟩ := hc; cases h
        · cases hc
  | makeFunc fn first caps =>
    cases fn <;> simp only [cOp] at hc
    · split at hc <;> cases hc
      cases h
    all_goals cases hc
  | _ =>
    simp only [cOp] at hc
    repeat' (first | (cases hc; done) | split at hc)
    all_goals (first
      | (cases hc; cases h; done)
      | (simp only [Option.bind_eq_some_iff, Option.map_eq_some_iff] at hc; obtain ⟨_, _, rfl⟩ := hc; cases h; done)
      | (simp only [Option.bind_eq_some_iff, Option.map_eq_some_iff] at hc; obtain ⟨_, _, _, _, rfl⟩ := hc; cases h; done)
      | (simp only [Option.bind_eq_some_iff, Option.map_eq_some_iff] at hc; obtain ⟨_, _, h2⟩ := hc; cases h2; cases h; done))
theorem op_whole (hT : TOK P T) (hcb : CbOK P cb) {op : Op} {io : PO} {H H' : Heap} {nx : Nat} {v : AV} {a : Act} {o : Oper} {env : List AV} {S : Nat → Prop} {φ : Phi} {w : World} (hc : cOp P op = some io) (ho : o.op = op) (he : evalOp T cb env H nx io = some (.whole v H')) (hs : Sim P S φ (hget H) w) (hr : Reps w S φ env a.tmps) (htop : ∀ id, H.nx ≤ id → φ id = none) :
    OpW P o a w (Fin P S φ H w v H') := by
  have hcall : io.isCall = true := by
    rcases evalOp_whole he with ⟨f, args, rfl, -⟩ | ⟨g, args, f, first, caps, rfl, -⟩ | ⟨g, args, id, rfl, -⟩ | ⟨tbl, x, args, t, u, f, rfl, -⟩ <;> rfl
  obtain ⟨c, rfl⟩ := cOp_call hc hcall
  simp only [cOp] at hc
  split at hc
  · rename_i b args hcal hargs
    exfalso
    unfold cBuiltin at hc
    split at hc
    · split at hc <;> cases hc <;> cases hcall
    · simp only [Option.map_eq_some_iff] at hc
      obtain ⟨_, _, rfl⟩ := hc
      cases hcall
    · cases hc; cases hcall
    · split at hc
      · simp only [Option.map_eq_some_iff] at hc
        obtain ⟨_, _, rfl⟩ := hc
        cases hcall
      · cases hc
    · split at hc
      · split at hc
        · split at hc
          · split at hc
            · cases hc; cases hcall
            · split at hc
              · cases hc; cases hcall
              · cases hc
          · cases hc
        · cases hc
      · cases hc
    · split at hc <;> cases hc
      cases hcall
    · split at hc
      · split at hc
        · split at hc <;> cases hc
          cases hcall
        · cases hc
      · cases hc
    · cases hc; cases hcall
    · cases hc; cases hcall
    · cases hc
  · rename_i f args hcal hargs
    cases hc
    exact call_whole (us := c.args.map a.eval) hT hcb (fun w => by rw [call_exec ho hcal]; simp [invoke]) (args_arr hargs hr) he hs htop
  · rename_i g args hng hcal hargs
    cases hg : cOpd g with
    | none => simp [hg] at hc
    | some ag =>
      simp [hg] at hc; subst hc
      simp only [evalOp] at he
      split at he
      · rename_i f first caps e1
        have hv := arg_rep hr hg
        rw [e1] at hv
        obtain ⟨vf, vc, k1, k2, k3⟩ : ∃ vf vc, a.eval g = .func (.func f) vf vc ∧ Reps w S φ first vf ∧ Reps w S φ caps vc := by
          generalize a.eval g = q at hv
          cases hv with
          | fn hl h hl' h' => exact ⟨_, _, rfl, ⟨hl, h⟩, ⟨hl', h'⟩⟩
        exact call_whole hT hcb (callv_exec ho hcal k1) ((k2.append (args_arr hargs hr)).append k3) he hs htop
      · rename_i id e1
        have hv := arg_rep hr hg
        rw [e1] at hv
        obtain ⟨loc, k1, k2⟩ : ∃ loc, φ id = some loc ∧ a.eval g = .func (.yield loc.blk) #[] #[] := by
          generalize a.eval g = q at hv
          cases hv with
          | yld h => exact ⟨_, h, rfl⟩
        cases hq : cb (.yl id) (args.map (arg env)) H with
        | none => simp [hq] at he
        | some p =>
          simp [hq] at he
          obtain ⟨rfl, rfl⟩ := he
          obtain ⟨fn, tmps, x, y, m1, m2⟩ := hcb.yl id _ H p.1 p.2 hq S φ w _ loc hs htop (args_arr hargs hr) k1
          exact .inr ⟨loc.blk, fn, tmps, x, y, w, by rw [callv_yield ho hcal k2]; exact m1, m2⟩
      · cases he
  · rename_i x name args hcal hargs
    cases hx : cOpd x with
    | none => simp [hx] at hc
    | some ax =>
      simp [hx] at hc; subst hc
      simp only [evalOp] at he
      split at he
      · rename_i t u e1
        have hv := arg_rep hr hx
        rw [e1] at hv
        obtain ⟨vu, k1, k2⟩ := hv.inv_ifc
        split at he
        · rename_i f hf
          exact call_whole hT hcb (inv_exec ho hcal k1 hf) (by simpa using (reps_one k2).append (args_arr hargs hr)) he hs htop
        · cases he
      · cases he
  · cases hc
theorem ref_exec {op : Op} {io : PO} {a : Act} {o : Oper} {env : List AV} {f : FuncId} {args : List AV} {S : Nat → Prop} {φ : Phi} {w : World} (hc : cOp P op = some io) (ho : o.op = op) (he : refOp T env io = some (f, args)) (hr : Reps w S φ env a.tmps) :
    ∃ us, (∀ w, (execOp a.eval o).run P w = (callFunc f us).run P w) ∧ Reps w S φ args us := by
  have hcall : io.isCall = true := by cases io <;> first | rfl | (simp only [refOp] at he; cases he)
  obtain ⟨c, rfl⟩ := cOp_call hc hcall
  simp only [cOp] at hc
  split at hc
  · exfalso
    unfold cBuiltin at hc
    repeat' (first | (cases hc; done) | split at hc)
    all_goals (first
      | (cases hc; cases hcall; done)
      | (simp only [Option.map_eq_some_iff] at hc; obtain ⟨_, _, rfl⟩ := hc; cases hcall; done))
  · rename_i f' args' hcal hargs
    cases hc
    simp only [refOp] at he
    split at he
    · split at he
      · cases he
        exact ⟨c.args.map a.eval, fun w => by rw [call_exec ho hcal]; simp [invoke], args_arr hargs hr⟩
      · cases he
    · cases he
  · rename_i g args' hng hcal hargs
    cases hg : cOpd g with
    | none => simp [hg] at hc
    | some ag =>
      simp [hg] at hc; subst hc
      simp only [refOp] at he
      split at he
      · rename_i f' first caps e1
        have hv := arg_rep hr hg
        rw [e1] at hv
        obtain ⟨vf, vc, k1, k2, k3⟩ : ∃ vf vc, a.eval g = .func (.func f') vf vc ∧ Reps w S φ first vf ∧ Reps w S φ caps vc := by
          generalize a.eval g = q at hv
          cases hv with
          | fn hl h hl' h' => exact ⟨_, _, rfl, ⟨hl, h⟩, ⟨hl', h'⟩⟩
        split at he
        · split at he
          · cases he
            exact ⟨_, callv_exec ho hcal k1, (k2.append (args_arr hargs hr)).append k3⟩
          · cases he
        · cases he
      · cases he
  · rename_i x name args' hcal hargs
    cases hx : cOpd x with
    | none => simp [hx] at hc
    | some ax =>
      simp [hx] at hc; subst hc
      simp only [refOp] at he
      split at he
      · rename_i t u e1
        have hv := arg_rep hr hx
        rw [e1] at hv
        obtain ⟨vu, k1, k2⟩ := hv.inv_ifc
        split at he
        · rename_i f' hf
          split at he
          · split at he
            · cases he
              exact ⟨_, inv_exec ho hcal k1 hf, by simpa using (reps_one k2).append (args_arr hargs hr)⟩
            · cases he
          · cases he
        · cases he
      · cases he
  · cases hc
theorem opD_eff (hT : TOK P T) (hcb : CbOK P cb) {op : Op} {io : PO} (hc : cOp P op = some io) {o : Oper} (ho : o.op = op) {env : List AV} {H : Heap} {nx : Nat} {v : AV} {rd : List Nat} {wr : Wr} {nx' : Nat} (he : evalD T cb env H nx io = some (.eff v rd wr nx')) {S : Nat → Prop} {φ : Phi} {h : Mem} {w : World} {a : Act} (hrd : ∀ id ∈ rd, h id = hget H id) (hs : Sim P S φ h w) (hr : Reps w S φ env a.tmps) (hn : ∀ id, nx ≤ id → id < nx' → φ id = none) :
    OpOK P o a w (Ends P S φ h w v wr nx nx') := by
  unfold evalD at he
  split at he
  · rename_i f args e1
    split at he
    · exact op_eff hT hcb hc ho he hrd hs hr hn
    · obtain ⟨us, h1, h2⟩ := ref_exec hc ho e1 hr
      split at he
      · obtain ⟨k1, k2⟩ := free_eff hT hcb he hs h2
        exact .inr (.inr ⟨f, us, w, by rw [h1]; exact k1 us, k2⟩)
      · obtain ⟨k1, k2⟩ := whole_eff hT hcb he hrd hs h2 hn
        exact .inr (.inr ⟨f, us, w, by rw [h1]; exact k1 us, k2⟩)
  · exact op_eff hT hcb hc ho he hrd hs hr hn
theorem cOp_noDeferD {env : List AV} {H : Heap} {nx : Nat} {op : Op} {io : PO} {r : OpR} (h : cOp P op = some io) (he : evalD T cb env H nx io = some r) : ∀ c, op ≠ .defer c := by
  rintro c rfl
  simp only [cOp] at h
  split at h
  · simp only [Option.map_eq_some_iff] at h
    obtain ⟨_, _, rfl⟩ := h
    cases he
  · cases h
theorem inv_eff {S : Nat → Prop} {φ : Phi} {w w' : World} {st : St} {a : Act} {v : AV} {wr : Wr} {nx : Nat} {vv : Value} (hI : Inv P S φ w st a) (h : Ends P S φ (hget st.H) w v wr st.H.nx nx vv w') (dst : Option Nat) : Reach P S φ w st a ⟨setD st.env dst v, wrH st.H wr nx⟩ (a.put dst vv) w' := by
  obtain ⟨S', φ', hD⟩ := h
  refine ⟨S', φ', ⟨by rw [hget_wrH]; exact hD.sim, reps_put (hD.adv.reps hI.sim hI.env) hD.rep dst, fun id hid => ?_⟩, by rw [hget_wrH]; exact hD.adv, put_defers _ _ _, Nat.le_max_left _ _⟩
  have hid' : max st.H.nx nx ≤ id := hid
  rw [hD.only id (.inr (by omega))]
  exact hI.top id (by omega)
theorem inv_undef {S : Nat → Prop} {φ : Phi} {w : World} {st : St} {a : Act} (hI : Inv P S φ w st a) (dst : Option Nat) : Reach P S φ w st a ⟨setD st.env dst undefA, st.H⟩ (a.put dst undef) w :=
  ⟨S, φ, ⟨hI.sim, reps_put hI.env undef_rep dst, hI.top⟩, Adv.refl _ _ _ _, put_defers _ _ _, Nat.le_refl _⟩
theorem Reach.trans {S : Nat → Prop} {φ : Phi} {w w' w'' : World} {st st' st'' : St} {a a' a'' : Act} (h : Reach P S φ w st a st' a' w') (k : ∀ S' φ', Inv P S' φ' w' st' a' → Reach P S' φ' w' st' a' st'' a'' w'') : Reach P S φ w st a st'' a'' w'' := by
  obtain ⟨S', φ', h1, h2, h3, h4⟩ := h
  obtain ⟨S'', φ'', k1, k2, k3, k4⟩ := k S' φ' h1
  exact ⟨S'', φ'', k1, h2.trans k2, k3.trans h3, Nat.le_trans h4 k4⟩
theorem Reach.step {S S' : Nat → Prop} {φ φ' : Phi} {w w' w'' : World} {st st' st'' : St} {a a' a'' : Act} (h2 : Adv S φ (hget st.H) w S' φ' (hget st'.H) w') (h3 : a'.defers = a.defers) (h4 : st.H.nx ≤ st'.H.nx) (k : Reach P S' φ' w' st' a' st'' a'' w'') : Reach P S φ w st a st'' a'' w'' := by
  obtain ⟨S'', φ'', k1, k2, k3, k4⟩ := k
  exact ⟨S'', φ'', k1, h2.trans k2, k3.trans h3, Nat.le_trans h4 k4⟩
theorem wanted_eq {S : Nat → Prop} {φ : Phi} {w : World} {env : List AV} {a : Act} {ops : Array Oper} {o : Oper} {bef : Nat} {io : IOp} (hc : cOper P ops bef o = some io) (hr : Reps w S φ env a.tmps) : wantedA env io.guard = Region.wanted o (yielded ops a.tmps) := by
  unfold cOper at hc
  split at hc
  · rename_i hg; cases hc; simp [wantedA, Region.wanted, hg]
  · rename_i j want hg
    split at hc
    · rename_i t ht
      cases hc
      simp only [wantedA, Region.wanted, hg, yielded, ht, Option.bind_some]
      have hv := hr.getD t
      have hsz : a.tmps[t]? = if t < a.tmps.size then some (a.tmps.getD t undef) else none := by
        by_cases h : t < a.tmps.size
        · simp [h]
        · simp [h]
      by_cases hlt : t < a.tmps.size
      · rw [hsz, if_pos hlt]
        generalize env.getD t undefA = x at hv
        generalize a.tmps.getD t undef = y at hv
        cases hv <;> simp
      · rw [hsz, if_neg hlt]
        have : env.getD t undefA = undefA := by simp [List.getD, List.getElem?_eq_none (show env.length ≤ t by rw [← hr.1]; exact Nat.le_of_not_lt hlt)]
        rw [this]; simp [undefA]
    · cases hc
theorem cOper_op {ops : Array Oper} {bef : Nat} {o : Oper} {io : IOp} (hc : cOper P ops bef o = some io) : io.dst = o.dst ∧ io.op = (cOp P o.op).getD .bad ∧ io.bef = bef := by
  unfold cOper at hc
  split at hc
  · cases hc; exact ⟨rfl, rfl, rfl⟩
  · split at hc
    · cases hc; exact ⟨rfl, rfl, rfl⟩
    · cases hc
theorem seq_sound (hT : TOK P T) (hcb : CbOK P cb) {F : Fence} (hF : WF F) {ops : Array Oper} {Q : Exit → Act → World → Prop} : ∀ (n k : Nat) (ios : List IOp) (st st' : St) (S : Nat → Prop) (φ : Phi) (w : World) (a : Act), k + n = ops.size → cOpers P ops (ops.toList.drop k) k = some ios → evalOps T cb ios st = some st' → Inv P S φ w st a →
    (∀ a' w', Reach P S φ w st a st' a' w' → Q .normal a' w') → wpOpsIn F 0 P ops Q (List.range' k n) a w
  | 0, k, ios, st, st', S, φ, w, a, hk, hc, he, hI, hQ => by
    have : ops.toList.drop k = [] := by simp; omega
    rw [this] at hc
    cases hc; cases he
    exact hQ a w (Reach.refl hI)
  | n + 1, k, ios, st, st', S, φ, w, a, hk, hc, he, hI, hQ => by
    have hlt : k < ops.size := by omega
    have hd : ops.toList.drop k = ops[k] :: ops.toList.drop (k + 1) := by rw [List.drop_eq_getElem_cons (by simpa using hlt)]; simp
    rw [hd] at hc
    simp only [cOpers] at hc
    split at hc
    · rename_i io ios' h1 h2
      cases hc
      obtain ⟨d1, d2, d3⟩ := cOper_op h1
      have ho : ops[k]? = some ops[k] := by simp [hlt]
      have hw := wanted_eq h1 hI.env
      simp only [List.range'_succ, wpOpsIn, ho]
      simp only [evalOps] at he
      split at he
      · rename_i hwant
        rw [hwant] at hw
        rw [if_pos hw.symm]
        split at he
        · rename_i v rd wr nx e1
          rw [d2] at e1
          cases hcop : cOp P ops[k].op with
          | none => rw [hcop] at e1; cases e1
          | some oo =>
            rw [hcop] at e1
            refine wpIn_of hF (cOp_noDefer hcop e1) (op_eff hT hcb hcop rfl e1 (fun _ _ => rfl) hI.sim hI.env (fun id i1 _ => hI.top id i1)) fun vv w' hE => ?_
            have hR := inv_eff hI hE io.dst
            rw [d1] at hR he
            obtain ⟨S', φ', r1, r2, r3, r4⟩ := hR
            exact seq_sound hT hcb hF n (k + 1) ios' _ st' S' φ' w' _ (by omega) h2 he r1 fun a' w'' hR' => hQ a' w'' (Reach.step r2 r3 r4 hR')
        · rename_i v H' e1
          rw [d2] at e1
          cases hcop : cOp P ops[k].op with
          | none => rw [hcop] at e1; cases e1
          | some oo =>
            rw [hcop] at e1
            refine wpIn_ofW hF (cOp_noDefer hcop e1) (op_whole hT hcb hcop rfl e1 hI.sim hI.env hI.top) fun vv w' hE => ?_
            obtain ⟨S', φ', r2, r1, r3, r4, r5⟩ := hE
            rw [d1] at he
            exact seq_sound hT hcb hF n (k + 1) ios' _ st' S' φ' w' _ (by omega) h2 he ⟨r1, reps_put (r2.reps hI.sim hI.env) r3 _, r4⟩ fun a' w'' hR' => hQ a' w'' (Reach.step r2 (put_defers _ _ _) r5 hR')
        · cases he
      · rename_i hwant
        have hwant' : wantedA st.env io.guard = false := by simpa using hwant
        rw [hwant'] at hw
        rw [if_neg (by rw [← hw]; simp)]
        refine ⟨fun f _ => hF.fn f, ?_⟩
        rw [d1] at he
        obtain ⟨S', φ', r1, r2, r3, r4⟩ := inv_undef hI ops[k].dst
        exact seq_sound hT hcb hF n (k + 1) ios' _ st' S' φ' w _ (by omega) h2 he r1 fun a' w'' hR' => hQ a' w'' (Reach.step r2 r3 r4 hR')
    · cases hc
theorem region_seq (hT : TOK P T) (hcb : CbOK P cb) {F : Fence} (hF : WF F) {id : Nat} {ops : Array Oper} {Q : Exit → Act → World → Prop} {ios : List IOp} {st st' : St} {S : Nat → Prop} {φ : Phi} {w : World} {a : Act} (hc : cOpers P ops ops.toList 0 = some ios) (he : evalOps T cb ios st = some st') (hI : Inv P S φ w st a)
    (hQ : ∀ a' w', Reach P S φ w st a st' a' w' → Q .normal a' w') : (Code.region id ops false).wpIn F 0 P Q a w := by
  refine wpIn_region ?_
  rw [List.range_eq_range']
  exact seq_sound hT hcb hF ops.size 0 ios st st' S φ w a (by omega) (by simpa using hc) he hI hQ
end seq
end Go.V
/- Soundness: regions that draw their order. First: plain facts. -/
set_option linter.unusedVariables false
set_option linter.unusedSimpArgs false
namespace Go.V
open Go.RowKit
variable {P : Program}

/-! An operation looks at its arguments alone -/
theorem fillA_congr {env env' : List AV} : ∀ {ps : List (Nat × Nat × Arg)} {zs : List AV}, (∀ x ∈ ps.map (·.2.2), arg env x = arg env' x) → fillA env ps zs = fillA env' ps zs
  | [], zs, h => rfl
  | (o, s, x) :: ps, zs, h => by
    have h1 : arg env x = arg env' x := h x (by simp)
    have ih : ∀ zs, fillA env ps zs = fillA env' ps zs := fun zs => fillA_congr fun y hy => h y (by simp at hy ⊢; exact .inr hy)
    simp only [fillA, h1]
    have : fillA env ps = fillA env' ps := funext ih
    rw [this]
theorem fillS_congr {env env' : List AV} {sz : Nat} : ∀ {ps : List (Nat × Arg)} {xs : List (List AV)}, (∀ x ∈ ps.map (·.2), arg env x = arg env' x) → fillS env sz ps xs = fillS env' sz ps xs
  | [], xs, h => rfl
  | (i, x) :: ps, xs, h => by
    have h1 : arg env x = arg env' x := h x (by simp)
    have ih : ∀ zs, fillS env sz ps zs = fillS env' sz ps zs := fun zs => fillS_congr fun y hy => h y (by simp at hy ⊢; exact .inr hy)
    simp only [fillS, h1, ih]
theorem bnd_congr {env env' : List AV} {d m : Nat} {x : Option Arg} (h : ∀ y ∈ optArgs x, arg env y = arg env' y) : bnd env d m x = bnd env' d m x := by
  cases x with
  | none => rfl
  | some y => simp only [bnd, h y (by simp [optArgs])]
theorem evalOp_congr {T : FuncId → Option IFn} {cb : Cb} {env env' : List AV} {H : Heap} {nx : Nat} {io : PO} (h : ∀ x ∈ io.args, arg env x = arg env' x) : evalOp T cb env H nx io = evalOp T cb env' H nx io := by
  have map_congr : ∀ l : List Arg, (∀ x ∈ l, arg env x = arg env' x) → l.map (arg env) = l.map (arg env') := fun l hl => List.map_congr_left hl
  cases io with
  | build z ps => simp only [evalOp, fillA_congr (env := env) (env' := env') (ps := ps) h]
  | buildS s n z ps => simp only [evalOp, fillS_congr (env := env) (env' := env') (ps := ps) h]
  | sl s x lo hi =>
    have h1 := h x (by simp [PO.args])
    have h2 : ∀ d m, bnd env d m lo = bnd env' d m lo := fun d m => bnd_congr fun y hy => h y (by simp [PO.args, hy])
    have h3 : ∀ d m, bnd env d m hi = bnd env' d m hi := fun d m => bnd_congr fun y hy => h y (by simp [PO.args, hy])
    simp only [evalOp, h1, h2, h3]
  | mkF f a b => simp only [evalOp, map_congr a fun x hx => h x (by simp [PO.args, hx]), map_congr b fun x hx => h x (by simp [PO.args, hx])]
  | call f as => simp only [evalOp, map_congr as h]
  | callv g as => simp only [evalOp, map_congr as fun x hx => h x (by simp [PO.args, hx]), h g (by simp [PO.args])]
  | mx m xs =>
    cases xs with
    | nil => rfl
    | cons x xs => simp only [evalOp, h x (by simp [PO.args]), map_congr xs fun y hy => h y (by simp [PO.args, hy])]
  | pick c a b => simp only [evalOp, h c (by simp [PO.args]), h a (by simp [PO.args]), h b (by simp [PO.args])]
  | new _ => rfl
  | mkM => rfl
  | nck x => simp only [evalOp, h x (by simp [PO.args])]
  | cpy _ x y => simp only [evalOp, h x (by simp [PO.args]), h y (by simp [PO.args])]
  | strX x y => simp only [evalOp, h x (by simp [PO.args]), h y (by simp [PO.args])]
  | bstr x => simp only [evalOp, h x (by simp [PO.args])]
  | eqS _ x y => simp only [evalOp, h x (by simp [PO.args]), h y (by simp [PO.args])]
  | slA s n x hi =>
    have h1 := h x (by simp [PO.args])
    have h3 : ∀ d m, bnd env d m hi = bnd env' d m hi := fun d m => bnd_congr fun y hy => h y (by simp [PO.args, hy])
    simp only [evalOp, h1, h3]
  | rcv => rfl
  | dfr _ _ => rfl
  | pnc _ => rfl
  | look _ _ _ x y => simp only [evalOp, h x (by simp [PO.args]), h y (by simp [PO.args])]
  | ment _ _ x y => simp only [evalOp, h x (by simp [PO.args]), h y (by simp [PO.args])]
  | mdel _ x y => simp only [evalOp, h x (by simp [PO.args]), h y (by simp [PO.args])]
  | mset _ x y z => simp only [evalOp, h x (by simp [PO.args]), h y (by simp [PO.args]), h z (by simp [PO.args])]
  | mest x y z => simp only [evalOp, h x (by simp [PO.args]), h y (by simp [PO.args]), h z (by simp [PO.args])]
  | lenM x => simp only [evalOp, h x (by simp [PO.args])]
  | mkI _ x => simp only [evalOp, h x (by simp [PO.args])]
  | tas _ _ x => simp only [evalOp, h x (by simp [PO.args])]
  | isNilI _ x => simp only [evalOp, h x (by simp [PO.args])]
  | inv _ x as => simp only [evalOp, map_congr as fun y hy => h y (by simp [PO.args, hy]), h x (by simp [PO.args])]
  | lenC _ => rfl
  | bad => rfl
  | eqv neg agg ks x y => cases agg <;> simp only [evalOp, h x (by simp [PO.args]), h y (by simp [PO.args])]
  | mv x => simp only [evalOp, h x (by simp [PO.args])]
  | box x => simp only [evalOp, h x (by simp [PO.args])]
  | load n x => simp only [evalOp, h x (by simp [PO.args])]
  | fieldA n x => simp only [evalOp, h x (by simp [PO.args])]
  | field n o x => simp only [evalOp, h x (by simp [PO.args])]
  | un o x => simp only [evalOp, h x (by simp [PO.args])]
  | conv k x => simp only [evalOp, h x (by simp [PO.args])]
  | ext x i => simp only [evalOp, h x (by simp [PO.args])]
  | lenS x => simp only [evalOp, h x (by simp [PO.args])]
  | store n x y => simp only [evalOp, h x (by simp [PO.args]), h y (by simp [PO.args])]
  | indexS n x y => simp only [evalOp, h x (by simp [PO.args]), h y (by simp [PO.args])]
  | indexA l n x y => simp only [evalOp, h x (by simp [PO.args]), h y (by simp [PO.args])]
  | indexV l n s x y => simp only [evalOp, h x (by simp [PO.args]), h y (by simp [PO.args])]
  | bin o x y => simp only [evalOp, h x (by simp [PO.args]), h y (by simp [PO.args])]
  | mkS s b z x y => simp only [evalOp, h x (by simp [PO.args]), h y (by simp [PO.args])]
  | app s b x y => simp only [evalOp, h x (by simp [PO.args]), h y (by simp [PO.args])]
  | appZ s b z x y => simp only [evalOp, h x (by simp [PO.args]), h y (by simp [PO.args])]
  | capS x => simp only [evalOp, h x (by simp [PO.args])]
  | isNil g x => simp only [evalOp, h x (by simp [PO.args])]
  | clr s z x => simp only [evalOp, h x (by simp [PO.args])]
  | sl3 s x lo hi m =>
    have h1 := h x (by simp [PO.args])
    have h2 : ∀ d m, bnd env d m lo = bnd env' d m lo := fun d m => bnd_congr fun y hy => h y (by simp [PO.args, hy])
    have h3 : ∀ d n, bnd env d n (some hi) = bnd env' d n (some hi) := fun d n => bnd_congr fun y hy => h y (by simp [optArgs] at hy; simp [PO.args, hy])
    have h4 : ∀ d n, bnd env d n (some m) = bnd env' d n (some m) := fun d n => bnd_congr fun y hy => h y (by simp [optArgs] at hy; simp [PO.args, hy])
    simp only [evalOp, h1, h2, h3, h4]

theorem refOp_congr {T : FuncId → Option IFn} {env env' : List AV} {io : PO} (h : ∀ x ∈ io.args, arg env x = arg env' x) : refOp T env io = refOp T env' io := by
  have map_congr : ∀ l : List Arg, (∀ x ∈ l, arg env x = arg env' x) → l.map (arg env) = l.map (arg env') := fun l hl => List.map_congr_left hl
  cases io with
  | call f as => simp only [refOp, map_congr as h]
  | callv g as => simp only [refOp, map_congr as fun x hx => h x (by simp [PO.args, hx]), h g (by simp [PO.args])]
  | inv _ x as => simp only [refOp, map_congr as fun y hy => h y (by simp [PO.args, hy]), h x (by simp [PO.args])]
  | _ => rfl
theorem evalD_congr {T : FuncId → Option IFn} {cb : Cb} {env env' : List AV} {H : Heap} {nx : Nat} {io : PO} (h : ∀ x ∈ io.args, arg env x = arg env' x) : evalD T cb env H nx io = evalD T cb env' H nx io := by
  unfold evalD
  rw [refOp_congr h, evalOp_congr h]

/-! The way in the text's order -/
structure Tr where
  st : St
  v : AV
  rd : List Nat
  wr : Wr
  nx : Nat
  k : Nat
def ids (wr : Wr) : List Nat := wr.map (·.1)
def Tr.foot (t : Tr) : Foot := ⟨t.rd, ids t.wr, t.k⟩
structure StepT (T : FuncId → Option IFn) (cb : Cb) (io : IOp) (t : Tr) : Prop where
  run : (wantedA t.st.env io.guard = true ∧ evalD T cb t.st.env t.st.H t.st.H.nx io.op = some (.eff t.v t.rd t.wr t.nx) ∧ t.k = kOf t.rd t.wr t.st.H t.nx) ∨ (wantedA t.st.env io.guard = false ∧ t.v = undefA ∧ t.rd = [] ∧ t.wr = [] ∧ t.nx = t.st.H.nx ∧ t.k = 0) ∨
    (wantedA t.st.env io.guard = true ∧ t.k = 2 ∧ ∃ H', evalD T cb t.st.env t.st.H t.st.H.nx io.op = some (.whole t.v H') ∧ t.rd = [] ∧ t.wr = snap t.st.H H' ∧ t.nx = H'.nx ∧ t.st.H.nx ≤ H'.nx)
def Tr.next (io : IOp) (t : Tr) : St := ⟨setD t.st.env io.dst t.v, wrH t.st.H t.wr t.nx⟩
theorem footOK_spec {f : Foot} {bef : Nat} : ∀ {n : Nat} {fs : List Foot}, footOK f bef n fs = true → ∀ (k : Nat) g, fs[k]? = some g → k < n ∧ (bef.testBit (n - 1 - k) = true ∨ clash g f = false)
  | n, [], h, k, g, hk => by simp at hk
  | 0, _ :: _, h, k, g, hk => by simp [footOK] at h
  | n + 1, x :: fs, h, k, g, hk => by
    simp only [footOK, Bool.and_eq_true, Bool.or_eq_true, Bool.not_eq_true'] at h
    cases k with
    | zero => simp at hk; subst hk; exact ⟨by omega, by simpa using h.1⟩
    | succ k =>
      obtain ⟨h1, h2⟩ := footOK_spec h.2 k g (by simpa using hk)
      exact ⟨by omega, by rw [show n + 1 - 1 - (k + 1) = n - 1 - k by omega]; exact h2⟩
theorem clash_nil (g : Foot) : clash g ⟨[], [], 0⟩ = false := by simp [clash]
theorem StepT.quiet {T : FuncId → Option IFn} {cb : Cb} {io : IOp} {t : Tr} (h : StepT T cb io t) (hk : t.k = 0) : t.wr = [] ∧ t.nx ≤ t.st.H.nx := by
  rcases h.run with ⟨-, -, h3⟩ | ⟨-, -, -, h4, h5, -⟩ | ⟨-, h2, -⟩
  · rw [hk] at h3
    unfold kOf at h3
    split at h3
    · rename_i hc
      simp only [Bool.and_eq_true, List.isEmpty_iff, decide_eq_true_eq] at hc
      exact ⟨hc.1.2, hc.2⟩
    · cases h3
  · exact ⟨h4, by omega⟩
  · omega
/-- What an evaluation of a drawing region went through. -/
theorem trace {T : FuncId → Option IFn} {cb : Cb} : ∀ {ios : List IOp} {n : Nat} {fs : List Foot} {st st' : St}, evalDraw T cb ios n fs st = some st' →
    ∃ ts : List Tr, ts.length = ios.length ∧ (∀ (i : Nat) io t, ios[i]? = some io → ts[i]? = some t → StepT T cb io t ∧ ((ts[i + 1]?).map (·.st)).getD st' = t.next io ∧
      (∀ (k : Nat) g, fs[k]? = some g → k < n → (io.bef.testBit (n - 1 - k) = true ∨ clash g t.foot = false)) ∧ (∀ (j : Nat) u, j < i → ts[j]? = some u → (io.bef.testBit (n + j) = true ∨ clash u.foot t.foot = false))) ∧
      ((ts[0]?).map (·.st)).getD st' = st
  | [], n, fs, st, st', h => by cases h; exact ⟨[], rfl, by simp, rfl⟩
  | io :: ios, n, fs, st, st', h => by
    have step : ∀ (t : Tr), t.st = st → StepT T cb io t → (∀ (k : Nat) g, fs[k]? = some g → k < n → (io.bef.testBit (n - 1 - k) = true ∨ clash g t.foot = false)) → evalDraw T cb ios (n + 1) (t.foot :: fs) (t.next io) = some st' → ∃ ts : List Tr, ts.length = (io :: ios).length ∧ (∀ (i : Nat) io' t, (io :: ios)[i]? = some io' → ts[i]? = some t → StepT T cb io' t ∧ ((ts[i + 1]?).map (·.st)).getD st' = t.next io' ∧
      (∀ (k : Nat) g, fs[k]? = some g → k < n → (io'.bef.testBit (n - 1 - k) = true ∨ clash g t.foot = false)) ∧ (∀ (j : Nat) u, j < i → ts[j]? = some u → (io'.bef.testBit (n + j) = true ∨ clash u.foot t.foot = false))) ∧
      ((ts[0]?).map (·.st)).getD st' = st := by
      intro t ht hst hf he
      obtain ⟨ts, h1, h2, h3⟩ := trace he
      refine ⟨t :: ts, by simp [h1], fun i io' u hi hu => ?_, by simpa using ht⟩
      cases i with
      | zero =>
        simp at hi hu; subst hi hu
        exact ⟨hst, by simpa using h3, hf, fun j u hj => by omega⟩
      | succ i =>
        simp at hi hu
        obtain ⟨g1, g2, g3, g4⟩ := h2 i io' u hi hu
        refine ⟨g1, by simpa using g2, fun k g hk hkn => ?_, fun j x hj hx => ?_⟩
        · have := g3 (k + 1) g (by simpa using hk) (by omega)
          rwa [show n + 1 - 1 - (k + 1) = n - 1 - k by omega] at this
        · cases j with
          | zero =>
            simp at hx; subst hx
            have := g3 0 t.foot (by simp) (by omega)
            simpa using this
          | succ j =>
            simp at hx
            have := g4 j x (by omega) hx
            rwa [show n + 1 + j = n + (j + 1) by omega] at this
    simp only [evalDraw] at h
    split at h
    · rename_i hw
      split at h
      · rename_i v rd wr nx he
        split at h
        · rename_i hfo
          exact step ⟨st, v, rd, wr, nx, _⟩ rfl ⟨.inl ⟨hw, he, rfl⟩⟩ (fun k g hk _ => (footOK_spec hfo k g hk).2) h
        · cases h
      · rename_i v H' he
        split at h
        · rename_i hfo
          simp only [Bool.and_eq_true, decide_eq_true_eq] at hfo
          exact step ⟨st, v, [], snap st.H H', H'.nx, 2⟩ rfl ⟨.inr (.inr ⟨hw, rfl, H', he, rfl, rfl, rfl, hfo.2⟩)⟩ (fun k g hk _ => (footOK_spec hfo.1 k g hk).2) h
        · cases h
      · cases h
    · rename_i hw
      have hwr : wrH st.H [] st.H.nx = st.H := by simp [wrH, wrL]
      exact step ⟨st, undefA, [], [], st.H.nx, 0⟩ rfl ⟨.inr (.inl ⟨by simpa using hw, rfl, rfl, rfl, rfl, rfl⟩)⟩ (fun k g _ _ => .inr (clash_nil g)) (by simpa [Tr.next, hwr, Tr.foot, ids] using h)

/-! What stands behind a set of the operations -/
theorem setD_length (env : List AV) (d : Option Nat) (v : AV) : (setD env d v).length = env.length := by cases d <;> simp [setD, setK_eq]
theorem setD_get (env : List AV) (d : Option Nat) (v : AV) (t : Nat) : (setD env d v)[t]? = if d = some t ∧ t < env.length then some v else env[t]? := by
  cases d with
  | none => simp [setD]
  | some d =>
    simp only [setD, setK_eq, Option.some.injEq]
    by_cases h : d = t
    · subst h
      by_cases hl : d < env.length
      · rw [List.getElem?_set_self hl, if_pos ⟨rfl, hl⟩]
      · rw [if_neg (fun q => hl q.2), List.getElem?_eq_none (by simpa using hl), List.getElem?_eq_none (by simpa using hl)]
    · rw [List.getElem?_set_ne h, if_neg (fun q => h q.1)]
theorem setD_comm (env : List AV) {d e : Option Nat} (v u : AV) (h : ∀ t, d = some t → e ≠ some t) : setD (setD env d v) e u = setD (setD env e u) d v := by
  apply List.ext_getElem?
  intro t
  simp only [setD_get, setD_length]
  by_cases h1 : d = some t
  · have := h t h1
    simp [h1, this]
  · simp [h1]
def envL (st : List AV) (dst : Nat → Option Nat) (v : Nat → AV) (p : Nat → Bool) : Nat → List AV
  | 0 => st
  | n + 1 => if p n then setD (envL st dst v p n) (dst n) (v n) else envL st dst v p n
def memL (h : Mem) (wr : Nat → Wr) (p : Nat → Bool) : Nat → Mem
  | 0 => h
  | n + 1 => if p n then updH (memL h wr p n) (wr n) else memL h wr p n
theorem envL_length (st : List AV) (dst : Nat → Option Nat) (v : Nat → AV) (p : Nat → Bool) (n : Nat) : (envL st dst v p n).length = st.length := by
  induction n with
  | zero => rfl
  | succ n ih => simp only [envL]; split <;> simp [setD_length, ih]
theorem envL_congr {st : List AV} {dst : Nat → Option Nat} {v : Nat → AV} {p q : Nat → Bool} {t : Nat} (n : Nat) (h : ∀ j, j < n → dst j = some t → p j = q j) : (envL st dst v p n)[t]? = (envL st dst v q n)[t]? := by
  induction n with
  | zero => rfl
  | succ n ih =>
    have ih := ih fun j hj => h j (by omega)
    simp only [envL]
    by_cases hd : dst n = some t
    · rw [h n (by omega) hd]
      split
      · simp only [setD_get, envL_length, ih]
      · exact ih
    · split <;> split <;> (try simp only [setD_get, hd, false_and, if_false]) <;> exact ih
theorem envL_add {st : List AV} {dst : Nat → Option Nat} {v : Nat → AV} {p : Nat → Bool} {i : Nat} (hp : p i = false) : ∀ n, (∀ j, i < j → j < n → p j = true → ∀ t, dst i = some t → dst j ≠ some t) → envL st dst v (fun j => if j = i then true else p j) n = if i < n then setD (envL st dst v p n) (dst i) (v i) else envL st dst v p n
  | 0, _ => by simp [envL]
  | n + 1, h => by
    have ih := envL_add (st := st) (dst := dst) (v := v) hp n fun j hj hn => h j hj (by omega)
    simp only [envL]
    rw [ih]
    by_cases h1 : n = i
    · subst h1
      simp [hp]
    · simp only [h1, if_false]
      by_cases h2 : i < n
      · rw [if_pos h2, if_pos (show i < n + 1 by omega)]
        by_cases h3 : p n = true
        · rw [if_pos h3, if_pos h3, setD_comm _ _ _ (h n h2 (by omega) h3)]
        · rw [if_neg h3, if_neg h3]
      · rw [if_neg h2, if_neg (show ¬ i < n + 1 by omega)]
def lookW : Wr → Nat → Option (Option Blk)
  | [], _ => none
  | p :: wr, id => match lookW wr id with
    | some b => some b
    | none => if id = p.1 then some p.2 else none
theorem updH_look : ∀ (wr : Wr) (h : Mem) (id : Nat), updH h wr id = match lookW wr id with | some b => b | none => h id
  | [], h, id => rfl
  | p :: wr, h, id => by
    have : updH h (p :: wr) = updH (fun i => if i = p.1 then p.2 else h i) wr := rfl
    rw [this, updH_look wr]
    simp only [lookW]
    cases lookW wr id with
    | some b => rfl
    | none => by_cases h1 : id = p.1 <;> simp [h1]
theorem lookW_none : ∀ {wr : Wr} {id : Nat}, id ∉ ids wr → lookW wr id = none
  | [], id, _ => rfl
  | p :: wr, id, h => by
    simp only [ids, List.map_cons, List.mem_cons, not_or] at h
    simp only [lookW, lookW_none (wr := wr) h.2, h.1, if_false]
theorem updH_comm {h : Mem} {a b : Wr} (hd : ∀ id, id ∈ ids a → id ∉ ids b) : updH (updH h a) b = updH (updH h b) a := by
  funext id
  simp only [updH_look]
  by_cases h1 : id ∈ ids a
  · rw [lookW_none (hd id h1)]
  · rw [lookW_none h1]
theorem memL_congr {h : Mem} {wr : Nat → Wr} {p q : Nat → Bool} {id : Nat} (n : Nat) (hh : ∀ j, j < n → id ∈ ids (wr j) → p j = q j) : memL h wr p n id = memL h wr q n id := by
  induction n with
  | zero => rfl
  | succ n ih =>
    have ih := ih fun j hj => hh j (by omega)
    simp only [memL]
    by_cases hd : id ∈ ids (wr n)
    · rw [hh n (by omega) hd]
      split
      · simp only [updH_look, ih]
      · exact ih
    · have : ∀ m : Mem, updH m (wr n) id = m id := fun m => by rw [updH_look, lookW_none hd]
      split <;> split <;> (try simp only [this]) <;> exact ih
theorem memL_add {h : Mem} {wr : Nat → Wr} {p : Nat → Bool} {i : Nat} (hp : p i = false) : ∀ n, (∀ j, i < j → j < n → p j = true → ∀ id, id ∈ ids (wr i) → id ∉ ids (wr j)) → memL h wr (fun j => if j = i then true else p j) n = if i < n then updH (memL h wr p n) (wr i) else memL h wr p n
  | 0, _ => by simp [memL]
  | n + 1, hh => by
    have ih := memL_add (h := h) (wr := wr) hp n fun j hj hn => hh j hj (by omega)
    simp only [memL]
    rw [ih]
    by_cases h1 : n = i
    · subst h1
      simp [hp]
    · simp only [h1, if_false]
      by_cases h2 : i < n
      · rw [if_pos h2, if_pos (show i < n + 1 by omega)]
        by_cases h3 : p n = true
        · rw [if_pos h3, if_pos h3, updH_comm (hh n h2 (by omega) h3)]
        · rw [if_neg h3, if_neg h3]
      · rw [if_neg h2, if_neg (show ¬ i < n + 1 by omega)]
/-! The memory behind an operation that worked on all of it -/
theorem lookW_snap {H H' : Heap} (id : Nat) : (match lookW (snap H H') id with | some b => b | none => hget H id) = hget H' id := by
  have key : ∀ (l : List Nat), l.Nodup → lookW (l.map fun i => (i, hget H' i)) id = if id ∈ l then some (hget H' id) else none := by
    intro l
    induction l with
    | nil => intro _; rfl
    | cons x l ih =>
      intro hn
      obtain ⟨h1, h2⟩ := List.nodup_cons.1 hn
      simp only [List.map_cons, lookW, ih h2, List.mem_cons]
      by_cases hx : id = x
      · subst hx; simp [h1]
      · by_cases hl : id ∈ l
        · simp [hl]
        · simp [hl, hx]
  have hl : lookW (snap H H') id = if id ∈ List.range (max H.l.length H'.l.length) then some (hget H' id) else none := key _ List.nodup_range
  rw [hl]
  by_cases h : id ∈ List.range (max H.l.length H'.l.length)
  · simp [h]
  · simp only [h, if_false]
    simp only [List.mem_range, Nat.not_lt] at h
    have h1 : H.l[id]? = none := List.getElem?_eq_none (by omega)
    have h2 : H'.l[id]? = none := List.getElem?_eq_none (by omega)
    simp only [hget, h1, h2]
theorem updH_snap (H H' : Heap) : updH (hget H) (snap H H') = hget H' := by
  funext id
  rw [updH_look]; exact lookW_snap id
theorem evalD_whole {T : FuncId → Option IFn} {cb : Cb} {env : List AV} {H H' : Heap} {nx : Nat} {io : PO} {v : AV} (h : evalD T cb env H nx io = some (.whole v H')) : evalOp T cb env H nx io = some (.whole v H') := by
  unfold evalD at h
  split at h
  · split at h
    · exact h
    · exfalso
      split at h
      · simp only [freeC] at h
        split at h
        · split at h
          · split at h <;> cases h
          · cases h
        · cases h
      · simp only [wholeC] at h
        split at h
        · split at h
          · split at h <;> cases h
          · cases h
        · cases h
  · exact h
end Go.V
/- Soundness: regions that draw their order. -/
set_option linter.unusedVariables false
set_option linter.unusedSimpArgs false
namespace Go.V
open Go.RowKit
variable {P : Program}

/-! What comes before what -/
theorem edges_fold {acc : Array Nat} {j : Nat} : ∀ (es : List Edge) (s : Nat), (es.foldl (fun s e => if Region.binds .any e then s ||| 2 ^ e.on ||| acc.getD e.on 0 else s) s).testBit j = true → s.testBit j = true ∨ ∃ e ∈ es, Region.binds .any e = true ∧ (e.on = j ∨ (acc.getD e.on 0).testBit j = true)
  | [], s, h => .inl h
  | e :: es, s, h => by
    simp only [List.foldl_cons] at h
    rcases edges_fold es _ h with h1 | ⟨e', h1, h2⟩
    · split at h1
      · rename_i hb
        simp only [Nat.testBit_or, Bool.or_eq_true, Nat.testBit_two_pow, decide_eq_true_eq] at h1
        rcases h1 with (h1 | h1) | h1
        · exact .inl h1
        · exact .inr ⟨e, by simp, hb, .inl h1⟩
        · exact .inr ⟨e, by simp, hb, .inr h1⟩
      · exact .inl h1
    · exact .inr ⟨e', by simp [h1], h2⟩
theorem before_fold : ∀ (l : List Oper) (acc : Array Nat), (l.foldl (fun acc o => acc.push (o.after.foldl (fun s e => if Region.binds .any e then s ||| 2 ^ e.on ||| acc.getD e.on 0 else s) 0)) acc).size = acc.size + l.length ∧
    (∀ k, k < acc.size → (l.foldl (fun acc o => acc.push (o.after.foldl (fun s e => if Region.binds .any e then s ||| 2 ^ e.on ||| acc.getD e.on 0 else s) 0)) acc).getD k 0 = acc.getD k 0) ∧
    ∀ (k : Nat) o, l[k]? = some o → ∀ j, ((l.foldl (fun acc o => acc.push (o.after.foldl (fun s e => if Region.binds .any e then s ||| 2 ^ e.on ||| acc.getD e.on 0 else s) 0)) acc).getD (acc.size + k) 0).testBit j = true →
      ∃ e ∈ o.after, Region.binds .any e = true ∧ (e.on = j ∨ (e.on < acc.size + k ∧ ((l.foldl (fun acc o => acc.push (o.after.foldl (fun s e => if Region.binds .any e then s ||| 2 ^ e.on ||| acc.getD e.on 0 else s) 0)) acc).getD e.on 0).testBit j = true))
  | [], acc => ⟨by simp, fun _ _ => rfl, by simp⟩
  | o :: l, acc => by
    obtain ⟨h1, h2, h3⟩ := before_fold l (acc.push (o.after.foldl (fun s e => if Region.binds .any e then s ||| 2 ^ e.on ||| acc.getD e.on 0 else s) 0))
    simp only [List.foldl_cons]
    refine ⟨by rw [h1]; simp; omega, fun k hk => ?_, fun k o' hk j hj => ?_⟩
    · rw [h2 k (by simp; omega)]
      simp only [Array.getD_eq_getD_getElem?]
      rw [Array.getElem?_push, if_neg (by omega)]
    · cases k with
      | zero =>
        simp at hk; subst hk
        rw [Nat.add_zero, h2 acc.size (by simp)] at hj
        have : (acc.push (o.after.foldl (fun s e => if Region.binds .any e then s ||| 2 ^ e.on ||| acc.getD e.on 0 else s) 0)).getD acc.size 0 = o.after.foldl (fun s e => if Region.binds .any e then s ||| 2 ^ e.on ||| acc.getD e.on 0 else s) 0 := by
          simp only [Array.getD_eq_getD_getElem?]; rw [Array.getElem?_push, if_pos rfl]; rfl
        rw [this, ← Array.foldl_toList] at hj
        rcases edges_fold _ _ hj with h | ⟨e, q1, q2, q3⟩
        · simp at h
        · refine ⟨e, by simpa using q1, q2, ?_⟩
          rcases q3 with q3 | q3
          · exact .inl q3
          · right
            have hlt : e.on < acc.size := by
              rcases Nat.lt_or_ge e.on acc.size with h' | h'
              · exact h'
              · simp only [Array.getD_eq_getD_getElem?] at q3
                rw [Array.getElem?_eq_none h'] at q3; simp at q3
            refine ⟨by omega, ?_⟩
            rw [h2 e.on (by simp; omega)]
            simp only [Array.getD_eq_getD_getElem?] at q3 ⊢
            rw [Array.getElem?_push, if_neg (by omega)]; exact q3
      | succ k =>
        simp at hk
        have hs : (acc.push (o.after.foldl (fun s e => if Region.binds .any e then s ||| 2 ^ e.on ||| acc.getD e.on 0 else s) 0)).size + k = acc.size + (k + 1) := by simp; omega
        obtain ⟨e, q1, q2, q3⟩ := h3 k o' hk j (by rw [hs]; exact hj)
        rw [hs] at q3
        exact ⟨e, q1, q2, q3⟩
theorem before_spec {ops : Array Oper} {i : Nat} {o : Oper} (ho : ops[i]? = some o) {j : Nat} (h : ((Region.before ops).getD i 0).testBit j = true) : ∃ e ∈ o.after, Region.binds .any e = true ∧ (e.on = j ∨ (e.on < i ∧ ((Region.before ops).getD e.on 0).testBit j = true)) := by
  have := (before_fold ops.toList #[]).2.2 i o (by simpa using ho) j
  unfold Region.before at h ⊢
  simp only [← Array.foldl_toList] at h ⊢
  simp only [← Array.foldl_toList] at this
  simpa using this (by simpa using h)
/-- Who has all that comes just before has all that comes before. -/
theorem closed_before {ops : Array Oper} {listed : Array Bool} (hcl : ∀ i o, listed.getD i false = true → ops[i]? = some o → ∀ e ∈ o.after, Region.binds .any e = true → listed.getD e.on false = true) :
    ∀ (i : Nat) o, ops[i]? = some o → (∀ e ∈ o.after, Region.binds .any e = true → listed.getD e.on false = true) → ∀ j, ((Region.before ops).getD i 0).testBit j = true → listed.getD j false = true := by
  intro i
  induction i using Nat.strongRecOn with
  | _ i ih =>
    intro o ho hall j hj
    obtain ⟨e, q1, q2, q3⟩ := before_spec ho hj
    rcases q3 with q3 | ⟨q3, q4⟩
    · exact q3 ▸ hall e q1 q2
    · have hl := hall e q1 q2
      cases he : ops[e.on]? with
      | none =>
        -- a number without an operation: nothing comes before it
        have : (Region.before ops).getD e.on 0 = 0 := by
          have hs := (before_fold ops.toList #[]).1
          simp only [Array.getD_eq_getD_getElem?]
          rw [Array.getElem?_eq_none]
          · rfl
          · have h1 : (Region.before ops).size = ops.size := by unfold Region.before; rw [← Array.foldl_toList]; simpa using hs
            rw [h1]; exact Array.getElem?_eq_none_iff.1 he
        rw [this] at q4; simp at q4
      | some o' => exact ih e.on q3 o' he (hcl e.on o' hl he) j q4

/-! Reading the code -/
theorem cOpers_get {P : Program} {ops : Array Oper} : ∀ {l : List Oper} {k : Nat} {ios : List IOp}, cOpers P ops l k = some ios → ios.length = l.length ∧ ∀ (i : Nat) o io, l[i]? = some o → ios[i]? = some io → cOper P ops ((Region.before ops).getD (k + i) 0) o = some io
  | [], k, ios, h => by cases h; exact ⟨rfl, by simp⟩
  | o :: l, k, ios, h => by
    simp only [cOpers] at h
    split at h
    · rename_i a as h1 h2
      cases h
      obtain ⟨g1, g2⟩ := cOpers_get h2
      refine ⟨by simp [g1], fun i o' io hi hio => ?_⟩
      cases i with
      | zero => simp at hi hio; subst hi hio; exact h1
      | succ i =>
        simp at hi hio
        have := g2 i o' io hi hio
        rwa [show k + 1 + i = k + (i + 1) by omega] at this
    · cases h
theorem slots_spec {ops : Array Oper} (h : slotsOK ops = true) : (∀ (i j : Nat) oi oj, i < j → ops[i]? = some oi → ops[j]? = some oj → ((Region.before ops).getD j 0).testBit i = true ∨ oi.apart ops oj = true) ∧ ∀ (i : Nat) o, ops[i]? = some o → ∀ e ∈ o.after, Region.binds .any e = true → e.on < i := by
  unfold slotsOK at h
  simp only [Bool.and_eq_true, List.all_eq_true] at h
  obtain ⟨h1, h2⟩ := h
  have mem : ∀ (i : Nat) o, ops[i]? = some o → (o, i) ∈ ops.toList.zipIdx := fun i o ho => by
    rw [List.mem_zipIdx_iff_getElem?]; simpa using ho
  refine ⟨fun i j oi oj hij hi hj => ?_, fun i o ho e he hb => ?_⟩
  · have := h1 (oj, j) (mem j oj hj) (oi, i) (mem i oi hi)
    simp only [hij, decide_true, Bool.not_true, Bool.false_or, Bool.or_eq_true] at this
    exact this
  · have := h2 (o, i) (mem i o ho) e (by simpa using he)
    simpa [hb] using this
theorem uses_spec {ops : Array Oper} : ∀ {os : List Oper} {ios : List IOp}, usesOK ops os ios = true → ∀ (i : Nat) o io, os[i]? = some o → ios[i]? = some io → ∀ n, Arg.t n ∈ io.op.args → n ∈ o.looksAt ops
  | [], ios, h, i, o, io, hi, hio, n, hn => by simp at hi
  | o' :: os, [], h, i, o, io, hi, hio, n, hn => by simp at hio
  | o' :: os, io' :: ios, h, i, o, io, hi, hio, n, hn => by
    simp only [usesOK, Bool.and_eq_true, List.all_eq_true] at h
    cases i with
    | zero =>
      simp at hi hio; subst hi hio
      have := h.1 _ hn
      simpa using this
    | succ i => simp at hi hio; exact uses_spec h.2 i o io hi hio n hn
theorem apart_dst {ops : Array Oper} {x y : Oper} (h : x.apart ops y = true) : (∀ d, x.dst = some d → d ∉ y.looksAt ops) ∧ (∀ d, x.dst = some d → y.dst ≠ some d) ∧ (∀ d, y.dst = some d → d ∉ x.looksAt ops) := Oper.apart_spec h
theorem clash_false {a b : Foot} (h : clash a b = false) : (∀ id ∈ a.wr, id ∉ b.rd ∧ id ∉ b.wr) ∧ ∀ id ∈ b.wr, id ∉ a.rd := by
  simp only [clash, Bool.or_eq_false_iff, List.any_eq_false, Bool.or_eq_true, not_or, List.contains_iff_mem, Bool.not_eq_true] at h
  refine ⟨fun id hid => ?_, fun id hid => ?_⟩
  · have := h.1.2 id hid
    simpa using this
  · have := h.2 id hid
    simpa using this
theorem clash_all {a b : Foot} (h : clash a b = false) : (a.k = 2 → b.k = 0) ∧ (b.k = 2 → a.k = 0) := by
  simp only [clash, Bool.or_eq_false_iff, Bool.and_eq_false_iff, beq_eq_false_iff_ne, bne_eq_false_iff_eq] at h
  refine ⟨fun h2 => ?_, fun h2 => ?_⟩
  · rcases h.1.1.1 with h1 | h1
    · exact absurd h2 h1
    · exact h1
  · rcases h.1.1.2 with h1 | h1
    · exact absurd h2 h1
    · exact h1
/-- How many are left. -/
def leftN (n : Nat) (listed : Array Bool) : Nat := ((List.range n).filter fun i => !listed.getD i true).length
theorem filter_set {l : List Nat} {i : Nat} {p p' : Nat → Bool} (hp : p i = true) (hp' : p' i = false) (he : ∀ j, j ≠ i → p' j = p j) (hnd : l.Nodup) : (i ∈ l → (l.filter p').length + 1 = (l.filter p).length) ∧ (i ∉ l → (l.filter p').length = (l.filter p).length) := by
  induction l with
  | nil => simp
  | cons x l ih =>
    have hnd' := List.nodup_cons.1 hnd
    obtain ⟨ih1, ih2⟩ := ih hnd'.2
    refine ⟨fun hm => ?_, fun hm => ?_⟩
    · simp only [List.mem_cons] at hm
      by_cases hx : x = i
      · subst hx
        rw [List.filter_cons_of_pos hp, List.filter_cons_of_neg (by simp [hp'])]
        rw [ih2 hnd'.1]; rfl
      · have hm' := hm.resolve_left (Ne.symm hx)
        have := ih1 hm'
        by_cases hpx : p x = true
        · rw [List.filter_cons_of_pos hpx, List.filter_cons_of_pos (by rw [he x hx]; exact hpx)]; simp; omega
        · rw [List.filter_cons_of_neg hpx, List.filter_cons_of_neg (by rw [he x hx]; exact hpx)]; exact this
    · simp only [List.mem_cons, not_or] at hm
      have := ih2 hm.2
      by_cases hpx : p x = true
      · rw [List.filter_cons_of_pos hpx, List.filter_cons_of_pos (by rw [he x (Ne.symm hm.1)]; exact hpx)]; simp [this]
      · rw [List.filter_cons_of_neg hpx, List.filter_cons_of_neg (by rw [he x (Ne.symm hm.1)]; exact hpx)]; exact this
theorem leftN_set {n i : Nat} {listed : Array Bool} (hi : i < n) (hs : listed.size = n) (h : listed.getD i true = false) : leftN n (listed.setIfInBounds i true) + 1 = leftN n listed := by
  refine (filter_set (i := i) (by simp [h]) ?_ (fun j hj => ?_) List.nodup_range).1 (by simpa using hi)
  · simp only [Array.getD_eq_getD_getElem?]
    rw [Array.getElem?_setIfInBounds_self_of_lt (by omega)]; rfl
  · simp only [Array.getD_eq_getD_getElem?]
    rw [Array.getElem?_setIfInBounds_ne (Ne.symm hj)]
end Go.V
/- Soundness: regions that draw their order: the theorem. -/
set_option linter.unusedVariables false
set_option linter.unusedSimpArgs false
namespace Go.V
open Go.RowKit
variable {P : Program}

section
variable {P : Program} {T : FuncId → Option IFn} {cb : Cb}
instance : Inhabited Tr := ⟨⟨⟨[], noH⟩, undefA, [], [], 0, 0⟩⟩
/-- All that is known of a drawing region's evaluation. -/
structure Drawn (P : Program) (T : FuncId → Option IFn) (cb : Cb) (ops : Array Oper) (ios : List IOp) (st st' : St) (ts : List Tr) : Prop where
  comp : ∀ (i : Nat) o io, ops[i]? = some o → ios[i]? = some io → cOper P ops ((Region.before ops).getD i 0) o = some io
  len : ios.length = ops.size
  tlen : ts.length = ops.size
  slots : ∀ (i j : Nat) oi oj, i < j → ops[i]? = some oi → ops[j]? = some oj → ((Region.before ops).getD j 0).testBit i = true ∨ oi.apart ops oj = true
  edges : ∀ (i : Nat) o, ops[i]? = some o → ∀ e ∈ o.after, Region.binds .any e = true → e.on < i
  uses : ∀ (i : Nat) o io, ops[i]? = some o → ios[i]? = some io → ∀ n, Arg.t n ∈ io.op.args → n ∈ o.looksAt ops
  step : ∀ (i : Nat) io t, ios[i]? = some io → ts[i]? = some t → StepT T cb io t ∧ ((ts[i + 1]?).map (·.st)).getD st' = t.next io ∧ ∀ (j : Nat) u, j < i → ts[j]? = some u → (io.bef.testBit j = true ∨ clash u.foot t.foot = false)
  start : ((ts[0]?).map (·.st)).getD st' = st
variable {ops : Array Oper} {ios : List IOp} {st st' : St} {ts : List Tr}
def dstF (ios : List IOp) (j : Nat) : Option Nat := ((ios[j]?).map (·.dst)).getD none
def valF (ts : List Tr) (j : Nat) : AV := ((ts[j]?).map (·.v)).getD undefA
def wrF (ts : List Tr) (j : Nat) : Wr := ((ts[j]?).map (·.wr)).getD []
def stF (ts : List Tr) (st' : St) (j : Nat) : St := ((ts[j]?).map (·.st)).getD st'
theorem Drawn.ios_at (D : Drawn P T cb ops ios st st' ts) {i : Nat} (hi : i < ops.size) : ∃ o io t, ops[i]? = some o ∧ ios[i]? = some io ∧ ts[i]? = some t :=
  ⟨ops[i], ios[i]'(by rw [D.len]; exact hi), ts[i]'(by rw [D.tlen]; exact hi), by simp [hi], by simp [D.len, hi], by simp [D.tlen, hi]⟩
theorem Drawn.at_ (D : Drawn P T cb ops ios st st' ts) : ∀ i, i ≤ ops.size → (stF ts st' i).env = envL st.env (dstF ios) (valF ts) (fun _ => true) i ∧ hget (stF ts st' i).H = memL (hget st.H) (wrF ts) (fun _ => true) i ∧ st.H.nx ≤ (stF ts st' i).H.nx
  | 0, _ => by
    have := D.start
    unfold stF
    rw [this]; exact ⟨rfl, rfl, Nat.le_refl _⟩
  | i + 1, hi => by
    obtain ⟨h1, h2, h3⟩ := D.at_ i (by omega)
    obtain ⟨o, io, t, e1, e2, e3⟩ := D.ios_at (i := i) (by omega)
    obtain ⟨-, g2, -⟩ := D.step i io t e2 e3
    have hst : stF ts st' (i + 1) = t.next io := g2
    have hti : stF ts st' i = t.st := by simp [stF, e3]
    rw [hst]
    rw [hti] at h1 h2 h3
    have hd : dstF ios i = io.dst := by simp [dstF, e2]
    have hv : valF ts i = t.v := by simp [valF, e3]
    have hw : wrF ts i = t.wr := by simp [wrF, e3]
    refine ⟨?_, ?_, ?_⟩
    · simp only [envL, if_true, hd, hv, ← h1, Tr.next]
    · simp only [memL, if_true, hw, ← h2, Tr.next, hget_wrH]
    · exact Nat.le_trans h3 (Nat.le_max_left _ _)
/-- Numbers of places rise. -/
theorem Drawn.nx_mono (D : Drawn P T cb ops ios st st' ts) : ∀ {i j : Nat}, i ≤ j → j ≤ ops.size → (stF ts st' i).H.nx ≤ (stF ts st' j).H.nx := by
  intro i j hij
  induction j with
  | zero => intro _; have : i = 0 := by omega
            subst this; exact Nat.le_refl _
  | succ j ih =>
    intro hj
    by_cases h : i = j + 1
    · subst h; exact Nat.le_refl _
    · refine Nat.le_trans (ih (by omega) (by omega)) ?_
      obtain ⟨o, io, t, e1, e2, e3⟩ := D.ios_at (i := j) (by omega)
      obtain ⟨-, g2, -⟩ := D.step j io t e2 e3
      have hst : stF ts st' (j + 1) = t.next io := g2
      have hti : stF ts st' j = t.st := by simp [stF, e3]
      rw [hst, hti]
      exact Nat.le_max_left _ _
/-- Behind a set of the operations. -/
structure Good (P : Program) (ops : Array Oper) (ios : List IOp) (ts : List Tr) (st st' : St) (S0 : Nat → Prop) (φ0 : Phi) (w0 : World) (a0 : Act) (listed : Array Bool) (a : Act) (w : World) : Prop where
  size : listed.size = ops.size
  closed : ∀ i o, listed.getD i false = true → ops[i]? = some o → ∀ e ∈ o.after, Region.binds .any e = true → listed.getD e.on false = true
  defers : a.defers = a0.defers
  ex : ∃ S φ, Sim P S φ (memL (hget st.H) (wrF ts) (fun j => listed.getD j false) ops.size) w ∧ Reps w S φ (envL st.env (dstF ios) (valF ts) (fun j => listed.getD j false) ops.size) a.tmps ∧
    Adv S0 φ0 (hget st.H) w0 S φ (memL (hget st.H) (wrF ts) (fun j => listed.getD j false) ops.size) w ∧
    ∀ id, st.H.nx ≤ id → (∀ j, j < ops.size → listed.getD j false = true → (stF ts st' j).H.nx ≤ id → (stF ts st' (j + 1)).H.nx ≤ id) → φ id = none
theorem envL_true (st : List AV) (dst : Nat → Option Nat) (v : Nat → AV) (i : Nat) : ∀ n, i ≤ n → envL st dst v (fun j => decide (j < i)) n = envL st dst v (fun _ => true) i := by
  have base : ∀ m, m ≤ i → envL st dst v (fun j => decide (j < i)) m = envL st dst v (fun _ => true) m := fun m hm => by
    induction m with
    | zero => rfl
    | succ m ih => simp only [envL, ih (by omega), show m < i by omega, decide_true, if_true]
  intro n hn
  induction n with
  | zero => have : i = 0 := by omega
            subst this; rfl
  | succ n ih =>
    by_cases h : i = n + 1
    · subst h; exact base _ (Nat.le_refl _)
    · simp only [envL, show ¬ n < i by omega, decide_false, Bool.false_eq_true, if_false]
      exact ih (by omega)
theorem memL_true (h : Mem) (wr : Nat → Wr) (i : Nat) : ∀ n, i ≤ n → memL h wr (fun j => decide (j < i)) n = memL h wr (fun _ => true) i := by
  have base : ∀ m, m ≤ i → memL h wr (fun j => decide (j < i)) m = memL h wr (fun _ => true) m := fun m hm => by
    induction m with
    | zero => rfl
    | succ m ih => simp only [memL, ih (by omega), show m < i by omega, decide_true, if_true]
  intro n hn
  induction n with
  | zero => have : i = 0 := by omega
            subst this; rfl
  | succ n ih =>
    by_cases h : i = n + 1
    · subst h; exact base _ (Nat.le_refl _)
    · simp only [memL, show ¬ n < i by omega, decide_false, Bool.false_eq_true, if_false]
      exact ih (by omega)
theorem memL_none (h : Mem) (wr : Nat → Wr) : ∀ n, memL h wr (fun _ => false) n = h
  | 0 => rfl
  | n + 1 => by simp only [memL, Bool.false_eq_true, if_false]; exact memL_none h wr n
theorem envL_none (st : List AV) (dst : Nat → Option Nat) (v : Nat → AV) : ∀ n, envL st dst v (fun _ => false) n = st
  | 0 => rfl
  | n + 1 => by simp only [envL, Bool.false_eq_true, if_false]; exact envL_none st dst v n
theorem listed_lt {listed : Array Bool} {n j : Nat} (hs : listed.size = n) (h : listed.getD j false = true) : j < n := by
  rcases Nat.lt_or_ge j listed.size with h' | h'
  · omega
  · simp only [Array.getD_eq_getD_getElem?] at h
    rw [Array.getElem?_eq_none h'] at h; simp at h
theorem getD_same {listed : Array Bool} {n i : Nat} (hs : listed.size = n) (hi : i < n) (h : listed.getD i true = false) : listed.getD i false = false := by
  have hlt : i < listed.size := by omega
  simp only [Array.getD_eq_getD_getElem?] at h ⊢
  have : listed[i]? = some listed[i] := by simp [hlt]
  rw [this] at h ⊢; simpa using h
theorem set_listed {listed : Array Bool} {i : Nat} (hi : i < listed.size) : (fun j => (listed.setIfInBounds i true).getD j false) = fun j => if j = i then true else listed.getD j false := by
  funext j
  by_cases h : j = i
  · subst h
    simp only [Array.getD_eq_getD_getElem?, if_true]
    rw [Array.getElem?_setIfInBounds_self_of_lt hi]; rfl
  · simp only [Array.getD_eq_getD_getElem?, h, if_false]
    rw [Array.getElem?_setIfInBounds_ne (Ne.symm h)]
theorem draw_any (hT : TOK P T) (hcb : CbOK P cb) {F : Fence} (hF : WF F) (D : Drawn P T cb ops ios st st' ts) {S0 : Nat → Prop} {φ0 : Phi} {w0 : World} {a0 : Act} {Q : Exit → Act → World → Prop}
    (hQ : ∀ a w, (∃ S φ, Sim P S φ (hget st'.H) w ∧ Reps w S φ st'.env a.tmps ∧ Adv S0 φ0 (hget st.H) w0 S φ (hget st'.H) w ∧ (∀ id, st'.H.nx ≤ id → φ id = none)) → a.defers = a0.defers → Q .normal a w) :
    ∀ (fuel : Nat) (listed : Array Bool) (a : Act) (w : World), leftN ops.size listed = fuel → Good P ops ios ts st st' S0 φ0 w0 a0 listed a w → wpAnyIn F 0 P .any ops Q fuel listed a w := by
  -- when none is ready all are listed
  have hend : ∀ (listed : Array Bool) (a : Act) (w : World), Good P ops ios ts st st' S0 φ0 w0 a0 listed a w → Region.ready .any ops listed = [] → Q .normal a w := by
    intro listed a w G hr
    have hall : ∀ i, i < ops.size → listed.getD i false = true := by
      intro i
      induction i using Nat.strongRecOn with
      | _ i ih =>
        intro hi
        cases hl : listed.getD i true with
        | true =>
          simp only [Array.getD_eq_getD_getElem?] at hl ⊢
          have hlt : i < listed.size := by rw [G.size]; exact hi
          have : listed[i]? = some listed[i] := by simp [hlt]
          rw [this] at hl ⊢; simpa using hl
        | false =>
          have : i ∈ Region.ready .any ops listed := by
            rw [mem_ready]
            refine ⟨hl, ops[i], by simp [hi], fun e he hb => ?_⟩
            have hlt := D.edges i ops[i] (by simp [hi]) e he hb
            exact ih e.on hlt (by omega)
          rw [hr] at this; cases this
    obtain ⟨S, φ, h1, h2, h3, h4⟩ := G.ex
    obtain ⟨f1, f2, f3⟩ := D.at_ ops.size (Nat.le_refl _)
    have hfin : stF ts st' ops.size = st' := by
      unfold stF
      rw [List.getElem?_eq_none (by rw [D.tlen]; exact Nat.le_refl _)]; rfl
    rw [hfin] at f1 f2 f3
    have em : memL (hget st.H) (wrF ts) (fun j => listed.getD j false) ops.size = hget st'.H := by
      rw [f2]; funext id
      exact memL_congr _ fun j hj _ => hall j hj
    have ee : envL st.env (dstF ios) (valF ts) (fun j => listed.getD j false) ops.size = st'.env := by
      rw [f1]; apply List.ext_getElem?; intro t
      exact envL_congr _ fun j hj _ => hall j hj
    rw [em] at h1 h3
    rw [ee] at h2
    refine hQ a w ⟨S, φ, h1, h2, h3, fun id hid => h4 id (by omega) fun j hj _ _ => ?_⟩ G.defers
    have := D.nx_mono (i := j + 1) (j := ops.size) (by omega) (Nat.le_refl _)
    rw [hfin] at this; omega
  intro fuel
  induction fuel with
  | zero =>
    intro listed a w hl G
    have hr : Region.ready .any ops listed = [] := by
      cases hr : Region.ready .any ops listed with
      | nil => rfl
      | cons i l =>
        have hi : i ∈ Region.ready .any ops listed := by rw [hr]; simp
        rw [mem_ready] at hi
        obtain ⟨h0, o, ho, -⟩ := hi
        have hlt : i < ops.size := (Array.getElem?_eq_some_iff.1 ho).1
        have := leftN_set hlt G.size h0
        omega
    exact ⟨hr, hend listed a w G hr⟩
  | succ fuel ih =>
    intro listed a w hl G
    refine ⟨hend listed a w G, fun i hi => ?_⟩
    rw [mem_ready] at hi
    obtain ⟨h0, o, ho, hall⟩ := hi
    have hlt : i < ops.size := (Array.getElem?_eq_some_iff.1 ho).1
    have hleft := leftN_set hlt G.size h0
    obtain ⟨o', io, t, e1, e2, e3⟩ := D.ios_at hlt
    rw [ho] at e1; cases e1
    obtain ⟨hst, hnext, hfoot⟩ := D.step i io t e2 e3
    have hcomp := D.comp i o io ho e2
    obtain ⟨d1, d2, d3⟩ := cOper_op hcomp
    have hp : listed.getD i false = false := getD_same G.size hlt h0
    have hbef := closed_before (listed := listed) (fun i o h1 h2 => G.closed i o h1 h2) i o ho hall
    have hti : stF ts st' i = t.st := by simp [stF, e3]
    obtain ⟨c1, c2, c3⟩ := D.at_ i (by omega)
    rw [hti] at c1 c2 c3
    have hdst : dstF ios i = io.dst := by simp [dstF, e2]
    have hval : valF ts i = t.v := by simp [valF, e3]
    have hwr : wrF ts i = t.wr := by simp [wrF, e3]
    -- those behind that are listed do not hang on it
    have later : ∀ j oj ioj, i < j → ops[j]? = some oj → ios[j]? = some ioj → listed.getD j false = true → ((Region.before ops).getD j 0).testBit i = false := fun j oj ioj hij hoj hioj hlj => by
      cases hb : ((Region.before ops).getD j 0).testBit i with
      | false => rfl
      | true =>
        have := closed_before (listed := listed) (fun i o h1 h2 => G.closed i o h1 h2) j oj hoj (G.closed j oj hlj hoj) i hb
        rw [hp] at this; cases this
    -- the slots that it looks at
    have slot : ∀ s, (s ∈ o.looksAt ops ∨ o.dst = some s) → ∀ j, j < ops.size → dstF ios j = some s → j ≠ i → listed.getD j false = decide (j < i) := by
      intro s hs j hj hdj hji
      obtain ⟨oj, ioj, tj, q1, q2, q3⟩ := D.ios_at hj
      have hoj := (cOper_op (D.comp j oj ioj q1 q2)).1
      have hdj' : oj.dst = some s := by rw [← hoj]; simpa [dstF, q2] using hdj
      rcases Nat.lt_or_gt_of_ne hji with hlt2 | hlt2
      · simp only [hlt2, decide_true]
        rcases D.slots j i oj o hlt2 q1 ho with h1 | h1
        · exact hbef j h1
        · exfalso
          obtain ⟨r1, r2, r3⟩ := apart_dst h1
          rcases hs with hs | hs
          · exact r1 s hdj' hs
          · exact r2 s hdj' hs
      · simp only [show ¬ j < i by omega, decide_false]
        cases hlj : listed.getD j false with
        | false => rfl
        | true =>
          exfalso
          have hb := later j oj ioj hlt2 q1 q2 hlj
          rcases D.slots i j o oj hlt2 ho q1 with h1 | h1
          · rw [hb] at h1; cases h1
          · obtain ⟨r1, r2, r3⟩ := apart_dst h1
            rcases hs with hs | hs
            · exact r3 s hdj' hs
            · exact r2 s hs hdj'
    obtain ⟨S, φ, s1, s2, s3, s4⟩ := G.ex
    have looks : ∀ s, s ∈ o.looksAt ops → (envL st.env (dstF ios) (valF ts) (fun j => listed.getD j false) ops.size).getD s undefA = t.st.env.getD s undefA := by
      intro s hs
      have : (envL st.env (dstF ios) (valF ts) (fun j => listed.getD j false) ops.size)[s]? = t.st.env[s]? := by
        rw [c1, ← envL_true st.env (dstF ios) (valF ts) i ops.size (by omega)]
        refine envL_congr _ fun j hj hdj => ?_
        by_cases hji : j = i
        · subst hji; rw [hp]; simp
        · exact slot s (.inl hs) j hj hdj hji
      simp only [List.getD_eq_getElem?_getD, this]
    have hwant : wantedA (envL st.env (dstF ios) (valF ts) (fun j => listed.getD j false) ops.size) io.guard = wantedA t.st.env io.guard := by
      unfold cOper at hcomp
      split at hcomp
      · cases hcomp; rfl
      · rename_i j want hg
        split at hcomp
        · rename_i tt ht
          cases hcomp
          have hin : tt ∈ o.looksAt ops := by unfold Oper.looksAt; simp only [hg, ht]; simp
          simp only [wantedA, looks tt hin]
        · cases hcomp
    have hwant2 := wanted_eq hcomp s2
    rw [hwant] at hwant2
    -- what comes behind it
    have after : ∀ (S' : Nat → Prop) (φ' : Phi) (vv : Value) (w' : World), Sim P S' φ' (updH (memL (hget st.H) (wrF ts) (fun j => listed.getD j false) ops.size) t.wr) w' → Adv S φ (memL (hget st.H) (wrF ts) (fun j => listed.getD j false) ops.size) w S' φ' (updH (memL (hget st.H) (wrF ts) (fun j => listed.getD j false) ops.size) t.wr) w' →
        Rep w' S' φ' t.v vv → (∀ id, st.H.nx ≤ id → (∀ j, j < ops.size → (listed.setIfInBounds i true).getD j false = true → (stF ts st' j).H.nx ≤ id → (stF ts st' (j + 1)).H.nx ≤ id) → φ' id = none) → Good P ops ios ts st st' S0 φ0 w0 a0 (listed.setIfInBounds i true) (a.put o.dst vv) w' := by
      intro S' φ' vv w' k1 k2 k3 k4
      have hsz : i < listed.size := by rw [G.size]; exact hlt
      have hset := set_listed (listed := listed) hsz
      have emem : memL (hget st.H) (wrF ts) (fun j => (listed.setIfInBounds i true).getD j false) ops.size = updH (memL (hget st.H) (wrF ts) (fun j => listed.getD j false) ops.size) t.wr := by
        rw [hset, memL_add hp ops.size fun j hij hj hlj id hid hidj => ?_, if_pos hlt, hwr]
        obtain ⟨oj, ioj, tj, q1, q2, q3⟩ := D.ios_at hj
        have hb := later j oj ioj hij q1 q2 hlj
        obtain ⟨-, -, f3⟩ := D.step j ioj tj q2 q3
        have hbj := (cOper_op (D.comp j oj ioj q1 q2)).2.2
        rcases f3 i t hij e3 with h1 | h1
        · rw [hbj, hb] at h1; cases h1
        · have := (clash_false h1).1 id (by simpa [Tr.foot, wrF, e3] using hid)
          exact this.2 (by simpa [Tr.foot, wrF, q3] using hidj)
      have eenv : envL st.env (dstF ios) (valF ts) (fun j => (listed.setIfInBounds i true).getD j false) ops.size = setD (envL st.env (dstF ios) (valF ts) (fun j => listed.getD j false) ops.size) o.dst t.v := by
        rw [hset, envL_add hp ops.size fun j hij hj hlj s hs hsj => ?_, if_pos hlt, hval, hdst, d1]
        have := slot s (.inr (by rw [← d1, ← hdst]; exact hs)) j hj hsj (by omega)
        rw [hlj] at this; simp at this; omega
      refine ⟨by simp [G.size], fun j oj hlj hoj e he hb => ?_, by rw [put_defers]; exact G.defers, S', φ', by rw [emem]; exact k1, ?_, by rw [emem]; exact s3.trans k2, fun id hid hj => ?_⟩
      · have := congrFun hset j
        rw [this] at hlj
        by_cases hji : j = i
        · subst hji; rw [ho] at hoj; cases hoj
          exact getD_set_true (hall e he hb)
        · simp only [hji, if_false] at hlj
          exact getD_set_true (G.closed j oj hlj hoj e he hb)
      · rw [eenv]; exact reps_put (k2.reps s1 s2) k3 o.dst
      · exact k4 id hid hj
    -- numbers of places that are drawn by one operation
    have only : ∀ (φ' : Phi), (∀ id, (id < t.st.H.nx ∨ t.nx ≤ id) → φ' id = φ id) → ∀ id, st.H.nx ≤ id → (∀ j, j < ops.size → (listed.setIfInBounds i true).getD j false = true → (stF ts st' j).H.nx ≤ id → (stF ts st' (j + 1)).H.nx ≤ id) → φ' id = none := by
      intro φ' k4 id hid hj
      have hsz : i < listed.size := by rw [G.size]; exact hlt
      have hset := set_listed (listed := listed) hsz
      have hi' := hj i hlt (by have := congrFun hset i; rw [this]; simp)
      rw [hti] at hi'
      have hn1 : (stF ts st' (i + 1)).H.nx = max t.st.H.nx t.nx := by
        have : stF ts st' (i + 1) = t.next io := hnext
        rw [this]; rfl
      rw [hn1] at hi'
      rw [k4 id (by omega)]
      refine s4 id hid fun j hjs hlj => hj j hjs ?_
      have := congrFun hset j
      rw [this, hlj]; simp
    unfold wpOpIn
    rw [ho]
    simp only
    rcases hst.run with ⟨r1, r2, -⟩ | ⟨r1, r2, r3, r4, r5, -⟩ | ⟨r1, hk2, H', r2, -, r4, r5, r6⟩
    · rw [r1] at hwant2
      rw [if_pos hwant2.symm]
      rw [d2] at r2
      cases hcop : cOp P o.op with
      | none => rw [hcop] at r2; cases r2
      | some oo =>
        rw [hcop] at r2
        have huse := D.uses i o io ho e2
        rw [d2, hcop] at huse
        have hev : evalD T cb (envL st.env (dstF ios) (valF ts) (fun j => listed.getD j false) ops.size) t.st.H t.st.H.nx oo = some (.eff t.v t.rd t.wr t.nx) := by
          rw [← r2]
          refine evalD_congr fun x hx => ?_
          cases x with
          | c v => rfl
          | t n => rw [arg_t, arg_t]; exact looks n (huse n hx)
        refine wpIn_of hF (cOp_noDeferD hcop hev) (opD_eff hT hcb hcop rfl hev (fun id hid => ?_) s1 s2 (fun id i1 i2 => ?_)) fun vv w' hE => ?_
        · -- what it reads is as it was
          rw [c2, ← memL_true (hget st.H) (wrF ts) i ops.size (by omega)]
          refine memL_congr _ fun j hj hidj => ?_
          obtain ⟨oj, ioj, tj, q1, q2, q3⟩ := D.ios_at hj
          by_cases hji : j = i
          · subst hji; rw [hp]; simp
          · rcases Nat.lt_or_gt_of_ne hji with hlt2 | hlt2
            · simp only [hlt2, decide_true]
              rcases hfoot j tj hlt2 q3 with h1 | h1
              · rw [d3] at h1; exact hbef j h1
              · exact absurd hid ((clash_false h1).1 id (by simpa [Tr.foot, wrF, q3] using hidj)).1
            · simp only [show ¬ j < i by omega, decide_false]
              cases hlj : listed.getD j false with
              | false => rfl
              | true =>
                have hb := later j oj ioj hlt2 q1 q2 hlj
                obtain ⟨-, -, f3⟩ := D.step j ioj tj q2 q3
                have hbj := (cOper_op (D.comp j oj ioj q1 q2)).2.2
                rcases f3 i t hlt2 e3 with h1 | h1
                · rw [hbj, hb] at h1; cases h1
                · exact absurd hid ((clash_false h1).2 id (by simpa [Tr.foot, wrF, q3] using hidj))
        · -- its new places are new
          refine s4 id (by omega) fun j hj hlj hle => ?_
          by_cases hji : j = i
          · subst hji; rw [hp] at hlj; cases hlj
          · rcases Nat.lt_or_gt_of_ne hji with hlt2 | hlt2
            · have := D.nx_mono (i := j + 1) (j := i) (by omega) (by omega)
              rw [hti] at this; omega
            · have h1 := D.nx_mono (i := i + 1) (j := j) (by omega) (by omega)
              have hn1 : (stF ts st' (i + 1)).H.nx = max t.st.H.nx t.nx := by
                have : stF ts st' (i + 1) = t.next io := hnext
                rw [this]; rfl
              rw [hn1] at h1; omega
        · obtain ⟨S', φ', hD⟩ := hE
          exact ih _ _ _ (by omega) (after S' φ' vv w' hD.sim hD.adv hD.rep (only φ' hD.only))
    · rw [r1] at hwant2
      rw [if_neg (by rw [← hwant2]; simp)]
      refine ⟨fun f _ => hF.fn f, ih _ _ _ (by omega) (after S φ undef w ?_ ?_ ?_ (only φ fun _ _ => rfl))⟩
      · rw [r4]; exact s1
      · rw [r4]; exact Adv.refl _ _ _ _
      · rw [r2]; exact undef_rep
    · -- an operation that works on all of the memory: all that touched it before is done, nothing behind it
      rw [r1] at hwant2
      rw [if_pos hwant2.symm]
      rw [d2] at r2
      have quiet : ∀ j tj, j < ops.size → ts[j]? = some tj → tj.k = 0 → tj.wr = [] ∧ (stF ts st' (j + 1)).H.nx = (stF ts st' j).H.nx := by
        intro j tj hj q3 hk
        obtain ⟨oj, ioj, tj', q1, q2, q3'⟩ := D.ios_at hj
        rw [q3] at q3'; cases q3'
        obtain ⟨f1, f2, -⟩ := D.step j ioj tj q2 q3
        obtain ⟨g1, g2⟩ := f1.quiet hk
        refine ⟨g1, ?_⟩
        have hs1 : stF ts st' (j + 1) = tj.next ioj := f2
        have hs2 : stF ts st' j = tj.st := by simp [stF, q3]
        rw [hs1, hs2]
        show max tj.st.H.nx tj.nx = tj.st.H.nx
        omega
      have done : ∀ j tj, j < i → ts[j]? = some tj → tj.k ≠ 0 → listed.getD j false = true := by
        intro j tj hj q3 hk
        rcases hfoot j tj hj q3 with h1 | h1
        · rw [d3] at h1; exact hbef j h1
        · exact absurd ((clash_all h1).2 hk2) hk
      have open_ : ∀ j tj, i < j → j < ops.size → ts[j]? = some tj → tj.k ≠ 0 → listed.getD j false = false := by
        intro j tj hij hj q3 hk
        obtain ⟨oj, ioj, tj', q1, q2, q3'⟩ := D.ios_at hj
        rw [q3] at q3'; cases q3'
        cases hlj : listed.getD j false with
        | false => rfl
        | true =>
          have hb := later j oj ioj hij q1 q2 hlj
          obtain ⟨-, -, f3⟩ := D.step j ioj tj q2 q3
          have hbj := (cOper_op (D.comp j oj ioj q1 q2)).2.2
          rcases f3 i t hij e3 with h1 | h1
          · rw [hbj, hb] at h1; cases h1
          · exact absurd ((clash_all h1).1 hk2) hk
      have hmem : memL (hget st.H) (wrF ts) (fun j => listed.getD j false) ops.size = hget t.st.H := by
        funext id
        rw [c2, ← memL_true (hget st.H) (wrF ts) i ops.size (by omega)]
        refine memL_congr _ fun j hj hidj => ?_
        obtain ⟨oj, ioj, tj, q1, q2, q3⟩ := D.ios_at hj
        have hk : tj.k ≠ 0 := fun hk => by
          have := (quiet j tj hj q3 hk).1
          simp [wrF, q3, this, ids] at hidj
        by_cases hji : j = i
        · subst hji; rw [hp]; simp
        · rcases Nat.lt_or_gt_of_ne hji with hlt2 | hlt2
          · simp only [hlt2, decide_true]; exact done j tj hlt2 q3 hk
          · simp only [show ¬ j < i by omega, decide_false]; exact open_ j tj hlt2 hj q3 hk
      have htop : ∀ id, t.st.H.nx ≤ id → φ id = none := fun id hid => by
        refine s4 id (by omega) fun j hj hlj hle => ?_
        by_cases hji : j = i
        · subst hji; rw [hp] at hlj; cases hlj
        · rcases Nat.lt_or_gt_of_ne hji with hlt2 | hlt2
          · have := D.nx_mono (i := j + 1) (j := i) (by omega) (by omega)
            rw [hti] at this; omega
          · obtain ⟨oj, ioj, tj, q1, q2, q3⟩ := D.ios_at hj
            by_cases hk : tj.k = 0
            · rw [(quiet j tj hj q3 hk).2]; exact hle
            · rw [open_ j tj hlt2 hj q3 hk] at hlj; cases hlj
      have hn1 : (stF ts st' (i + 1)).H.nx = H'.nx := by
        have : stF ts st' (i + 1) = t.next io := hnext
        rw [this]
        show max t.st.H.nx t.nx = H'.nx
        omega
      cases hcop : cOp P o.op with
      | none => rw [hcop] at r2; cases r2
      | some oo =>
        rw [hcop] at r2
        have huse := D.uses i o io ho e2
        rw [d2, hcop] at huse
        have hev : evalD T cb (envL st.env (dstF ios) (valF ts) (fun j => listed.getD j false) ops.size) t.st.H t.st.H.nx oo = some (.whole t.v H') := by
          rw [← r2]
          refine evalD_congr fun x hx => ?_
          cases x with
          | c v => rfl
          | t n => rw [arg_t, arg_t]; exact looks n (huse n hx)
        rw [hmem] at s1
        refine wpIn_ofW hF (cOp_noDeferD hcop hev) (op_whole hT hcb hcop rfl (evalD_whole hev) s1 s2 htop) fun vv w' hE => ?_
        obtain ⟨S', φ', k2, k1, k3, k4, k5⟩ := hE
        refine ih _ _ _ (by omega) (after S' φ' vv w' ?_ ?_ k3 fun id hid hj => ?_)
        · rw [hmem, r4, updH_snap]; exact k1
        · rw [hmem, r4, updH_snap]; exact k2
        · -- places that were there before are all drawn
          refine k4 id ?_
          have hsz : i < listed.size := by rw [G.size]; exact hlt
          have hset := set_listed (listed := listed) hsz
          have walk : ∀ j, j ≤ i + 1 → (stF ts st' j).H.nx ≤ id := by
            intro j
            induction j with
            | zero =>
              intro _
              have := D.start
              unfold stF
              rw [this]; exact hid
            | succ j ihj =>
              intro hj1
              have hle := ihj (by omega)
              have hjs : j < ops.size := by omega
              by_cases hji : j = i
              · exact hj j hjs (by have := congrFun hset j; rw [this]; simp [hji]) hle
              · obtain ⟨oj, ioj, tj, q1, q2, q3⟩ := D.ios_at hjs
                by_cases hk : tj.k = 0
                · rw [(quiet j tj hjs q3 hk).2]; exact hle
                · exact hj j hjs (by have := congrFun hset j; rw [this]; simp only [hji, if_false]; exact done j tj (by omega) q3 hk) hle
          have := walk (i + 1) (Nat.le_refl _)
          omega
theorem region_draw (hT : TOK P T) (hcb : CbOK P cb) (hm : P.follows .mixedOrders = true) {F : Fence} (hF : WF F) {id : Nat} {Q : Exit → Act → World → Prop} {S : Nat → Prop} {φ : Phi} {w : World} {a : Act} (hc : cOpers P ops ops.toList 0 = some ios) (hs : slotsOK ops = true) (hu : usesOK ops ops.toList ios = true) (he : evalDraw T cb ios 0 [] st = some st') (hI : Inv P S φ w st a)
    (hQ : ∀ a' w', Reach P S φ w st a st' a' w' → Q .normal a' w') : (Code.region id ops true).wpIn F 0 P Q a w := by
  obtain ⟨ts, h1, h2, h3⟩ := trace he
  obtain ⟨c1, c2⟩ := cOpers_get hc
  obtain ⟨sl1, sl2⟩ := slots_spec hs
  have cc : ∀ (i : Nat) o io, ops[i]? = some o → ios[i]? = some io → cOper P ops ((Region.before ops).getD i 0) o = some io := fun i o io ho hio => by
    have := c2 i o io (by simpa using ho) hio
    simpa using this
  have D : Drawn P T cb ops ios st st' ts := ⟨cc, by simpa using c1, by rw [h1]; simpa using c1, sl1, sl2, fun i o io ho hio => uses_spec hu i o io (by simpa using ho) hio,
    fun i io t hio ht => by
      obtain ⟨g1, g2, -, g4⟩ := h2 i io t hio ht
      exact ⟨g1, g2, fun j u hj hu => by simpa using g4 j u hj hu⟩, h3⟩
  refine wpIn_region_any hm ?_
  have hfin : stF ts st' ops.size = st' := by
    unfold stF
    rw [List.getElem?_eq_none (by rw [D.tlen]; exact Nat.le_refl _)]; rfl
  have hle := (D.at_ ops.size (Nat.le_refl _)).2.2
  rw [hfin] at hle
  refine draw_any hT hcb hF D (S0 := S) (φ0 := φ) (w0 := w) (a0 := a) (fun a' w' hex hd => ?_) ops.size (Array.replicate ops.size false) a w.drew ?_ ?_
  · obtain ⟨S', φ', k1, k2, k3, k4⟩ := hex
    exact hQ a' w' ⟨S', φ', ⟨k1, k2, k4⟩, k3, hd, hle⟩
  · have hall : ∀ i ∈ List.range ops.size, (!(Array.replicate ops.size false).getD i true) = true := fun i hi => by
      have hi' : i < ops.size := by simpa using hi
      simp [hi']
    unfold leftN
    rw [List.filter_eq_self.2 hall]; simp
  · have hno : ∀ j, (Array.replicate ops.size false).getD j false = false := fun j => by
      by_cases hj : j < ops.size
      · simp [hj]
      · simp only [Array.getD_eq_getD_getElem?]; rw [Array.getElem?_eq_none (by simpa using hj)]; rfl
    have hp : (fun j => (Array.replicate ops.size false).getD j false) = fun _ => false := funext hno
    have em : memL (hget st.H) (wrF ts) (fun j => (Array.replicate ops.size false).getD j false) ops.size = hget st.H := by rw [hp]; exact memL_none _ _ _
    have ee : envL st.env (dstF ios) (valF ts) (fun j => (Array.replicate ops.size false).getD j false) ops.size = st.env := by rw [hp]; exact envL_none _ _ _ _
    exact ⟨by simp, (fun i o hl => by rw [hno] at hl; cases hl), rfl, S, φ, by rw [em]; exact hI.drewR.sim, by rw [ee]; exact hI.drewR.env, by rw [em]; exact Adv.drewR _ _ _ _, fun id hid _ => hI.top id hid⟩
end
end Go.V
