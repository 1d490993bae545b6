/- Soundness: functions and rounds. -/
import Derived.Test.YtppfkmmlojpcfaaGreatJF
import Derived.RecoverIn
set_option linter.unusedVariables false
set_option linter.unusedSimpArgs false
namespace Go.V
open Go.RowKit
variable {P : Program} {T : FuncId → Option IFn}

theorem setPs_rep {w : World} {S : Nat → Prop} {φ : Phi} : ∀ {ps : List Nat} {env vs : List AV} {tmps : Array Value} {us : List Value}, vs.length = ps.length → Reps w S φ env tmps → Reps w S φ vs us.toArray →
    Reps w S φ (setPs env ps vs) ((ps.zip us).foldl (fun tmps (t, a) => tmps.setIfInBounds t a) tmps)
  | [], env, vs, tmps, us, hl, hr, hv => by
    have : setPs env [] vs = env := by cases vs <;> rfl
    rw [this]; simpa using hr
  | p :: ps, env, [], tmps, us, hl, hr, hv => by simp at hl
  | p :: ps, env, v :: vs, tmps, us, hl, hr, hv => by
    cases us with
    | nil => have := hv.1; simp at this
    | cons u us =>
      simp only [setPs, List.zip_cons_cons, List.foldl_cons]
      refine setPs_rep (by simpa using hl) ?_ ⟨by have := hv.1; simpa using this, fun i c x q1 q2 => hv.2 (i + 1) c x (by simpa using q1) (by simpa using q2)⟩
      exact reps_put (a := { tmps := tmps, defers := [] }) hr (hv.2 0 v u (by simp) (by simp)) (some p)
theorem marks_leave {F : Fence} {fn : Func} {tmps : Array Value} {R : Ending → World → Prop} {S : Nat → Prop} {φ : Phi} : ∀ {ids : List DE} {ds : List Deferred} {H H' : Heap} {w : World}, Marks w S φ ids ds → takeMarks H ids = some H' → Sim P S φ (hget H) w →
    (∀ w', Adv S φ (hget H) w S φ (hget H') w' → Sim P S φ (hget H') w' → H.nx ≤ H'.nx → LeavesInM F 0 P fn tmps R [] .returning w') → LeavesInM F 0 P fn tmps R ds .returning w
  | [], [], H, H', w, hm, ht, hs, h => by cases ht; exact h w (Adv.refl _ _ _ _) hs (Nat.le_refl _)
  | .fn _ _ :: _, _ :: _, H, H', w, hm, ht, hs, h => by simp [takeMarks] at ht
  | .mk id :: ids, d :: ds, H, H', w, hm, ht, hs, h => by
    obtain ⟨⟨loc, h1, rfl⟩, hm⟩ := hm
    simp only [takeMarks] at ht
    split at ht
    · rename_i hb
      obtain ⟨loc', g1, g2, -⟩ := hs.blk id _ hb
      rw [h1] at g1; cases g1
      have hrun := run_takeDeferred (P := P) (show w.heap[loc.blk]? = some (.deferred (some [])) from g2)
      obtain ⟨q1, q2⟩ := put_sim (P := P) (b' := none) (o := .deferred none) hs hb h1 (shape_deferred g2) (fun x hx => by cases hx)
      rw [← hget_wr1 H id none 0] at q1 q2
      refine ⟨by simp, .inl ⟨loc.blk, _, rfl, hrun, marks_leave (hm.adv q1 hs) ht q2 fun w' a1 a2 a3 => h w' (q1.trans a1) a2 (Nat.le_trans (Nat.le_max_left _ _) a3)⟩⟩
    · cases ht
  | [], _ :: _, _, _, _, hm, _, _, _ => hm.elim
  | _ :: _, [], _, _, _, hm, _, _, _ => hm.elim
theorem leave_fn {fn : IFn} {g : Func} {r : RSt} {v : AV} {H' : Heap} (hc : cRess P g.results.toList = some fn.res) (he : leaveF fn r = some (v, H')) {S S' : Nat → Prop} {φ φ' : Phi} {H : Heap} {w w' : World} {a' : Act} (hI : InvR P S' φ' w' r a') (hadv : Adv S φ (hget H) w S' φ' (hget r.st.H) w') (hnx : H.nx ≤ r.st.H.nx) :
    LeavesInM Fence.wide 0 P g a'.tmps (fun e w'' => ∃ vv, e = .returned vv ∧ Fin P S φ H w v H' vv w'') a'.defers .returning w' := by
  unfold leaveF at he
  split at he
  · rename_i H1 ht
    cases hl : resL ⟨r.st.env, H1⟩ fn.res with
    | none => simp [hl] at he
    | some vs =>
      simp [hl] at he
      obtain ⟨rfl, rfl⟩ := he
      refine marks_leave hI.mrk ht hI.inv.sim fun w'' a1 a2 a3 => ?_
      have hI2 : Inv P S' φ' w'' ⟨r.st.env, H1⟩ a' := ⟨a2, a1.reps hI.inv.sim hI.inv.env, fun k hk => hI.inv.top k (Nat.le_trans a3 hk)⟩
      obtain ⟨vv, q1, q2⟩ := results_run (P := P) hc hl hI2
      exact ⟨vv, q1, vv, rfl, S', φ', hadv.trans a1, a2, q2, hI2.top, Nat.le_trans hnx a3⟩
  · cases he
theorem settle_modeF (md : Option Value) : settle (modeF md) = modeF md := by cases md <;> rfl
theorem leaveX_ok {cb : Cb} (hcb : CbOK P cb) {fn : IFn} {g : Func} (hc : cRess P g.results.toList = some fn.res) {env : List AV} {tmps : Array Value} {S0 : Nat → Prop} {φ0 : Phi} {H0 : Heap} {w0 : World} {v : AV} {H' : Heap} :
    ∀ {ds : List DE} {dd : List Deferred} {md : Option Value} {H : Heap} {S : Nat → Prop} {φ : Phi} {w : World}, leaveX cb fn env md ds H = some (v, H') → Marks w S φ ds dd → Sim P S φ (hget H) w → Reps w S φ env tmps → (∀ id, H.nx ≤ id → φ id = none) →
      Adv S0 φ0 (hget H0) w0 S φ (hget H) w → H0.nx ≤ H.nx → LeavesInM Fence.wide 0 P g tmps (fun e w'' => FinE P S0 φ0 H0 w0 v H' e w'') dd (modeF md) w
  | [], [], md, H, S, φ, w, he, hm, hs, hr, ht, ha, hn => by
    cases md with
    | none =>
      simp only [leaveX, Option.map_eq_some_iff] at he
      obtain ⟨vs, h1, h2⟩ := he
      cases h2
      obtain ⟨vv, q1, q2⟩ := results_run (P := P) (a := { tmps := tmps, defers := [] }) hc h1 ⟨hs, hr, ht⟩
      exact ⟨vv, q1, .inl ⟨vv, rfl, S, φ, ha, hs, q2, ht, hn⟩⟩
    | some p =>
      simp only [leaveX] at he
      cases he
      exact .inr ⟨p, rfl, rfl, S, φ, ha, hs, ht, hn⟩
  | .mk id :: ds, d :: dd, md, H, S, φ, w, he, hm, hs, hr, ht, ha, hn => by
    have hne : modeF md ≠ .run := by cases md <;> simp [modeF]
    obtain ⟨⟨loc, h1, rfl⟩, hm⟩ := hm
    simp only [leaveX] at he
    split at he
    · rename_i hb
      obtain ⟨loc', g1, g2, -⟩ := hs.blk id _ hb
      rw [h1] at g1; cases g1
      have hrun := run_takeDeferred (P := P) (show w.heap[loc.blk]? = some (.deferred (some [])) from g2)
      obtain ⟨q1, q2⟩ := put_sim (P := P) (b' := none) (o := .deferred none) hs hb h1 (shape_deferred g2) (fun x hx => by cases hx)
      rw [← hget_wr1 H id none 0] at q1 q2
      exact ⟨hne, .inl ⟨loc.blk, _, rfl, hrun, leaveX_ok hcb hc he (hm.adv q1 hs) q2 (q1.reps hs hr) (fun k hk => ht k (Nat.le_trans (Nat.le_max_left _ _) hk)) (ha.trans q1) (Nat.le_trans hn (Nat.le_max_left _ _))⟩⟩
    · cases he
  | .fn f args :: ds, d :: dd, md, H, S, φ, w, he, hm, hs, hr, ht, ha, hn => by
    obtain ⟨⟨caps, da, rfl, hargs⟩, hm⟩ := hm
    have hne : modeF md ≠ .run := by cases md <;> simp [modeF]
    have key : ∀ (r : Bool) (H2 : Heap), cb (.df f md) args H = some (.bool r, H2) → leaveX cb fn env (if r then none else md) ds H2 = some (v, H') →
        LeavesInM Fence.wide 0 P g tmps (fun e w'' => FinE P S0 φ0 H0 w0 v H' e w'') ({ target := .fn (.func f) caps, args := da } :: dd) (modeF md) w := by
      intro r H2 e1 e2
      obtain ⟨k1, r', k2, k3⟩ := hcb.df f md args H _ H2 e1 S φ w _ hs ht hargs
      cases k2
      refine ⟨hne, .inr ⟨(fun hh => by cases hh), .func f, caps, f, da ++ caps, rfl, k1 _, fun g' _ => trivial, k3.mono ?_⟩⟩
      rintro e u' w' ⟨⟨vv, rfl⟩, h2, S2, φ2, adv, sim, top, nx⟩
      show LeavesInM Fence.wide 0 P g tmps _ dd (settle u') w'
      rw [h2]
      exact leaveX_ok hcb hc e2 (hm.adv adv hs) sim (adv.reps hs hr) top (ha.trans adv) (Nat.le_trans hn nx)
    simp only [leaveX] at he
    split at he
    · rename_i H2 e1; exact key true H2 e1 he
    · rename_i H2 e1; exact key false H2 e1 he
    · cases he
  | [], _ :: _, _, _, _, _, _, _, hm, _, _, _, _, _ => hm.elim
  | _ :: _, [], _, _, _, _, _, _, hm, _, _, _, _, _ => hm.elim
theorem LeavesInM.mono {F : Fence} {n : Nat} {fn : Func} {tmps : Array Value} {R R' : Ending → World → Prop} (hR : ∀ e w, R e w → R' e w) : ∀ {ds : List Deferred} {u : FrameMode} {w : World}, LeavesInM F n P fn tmps R ds u w → LeavesInM F n P fn tmps R' ds u w
  | [], u, w, h => by
    cases u with
    | run => exact h.elim
    | returning => obtain ⟨v, h1, h2⟩ := h; exact ⟨v, h1, hR _ _ h2⟩
    | panicking chain => exact hR _ _ h
  | d :: ds, u, w, ⟨hu, h⟩ => by
    refine ⟨hu, ?_⟩
    rcases h with ⟨r, w', h1, h2, h3⟩ | ⟨h1, fv, cap, f, args, h2, h3, h4, h5⟩
    · exact .inl ⟨r, w', h1, h2, LeavesInM.mono hR h3⟩
    · refine .inr ⟨h1, fv, cap, f, args, h2, h3, h4, h5.mono fun e u' w' hq => ?_⟩
      cases e with
      | returned v => exact LeavesInM.mono hR hq
      | panicked ch => exact LeavesInM.mono hR hq
      | outgrown => exact hR _ _ hq
theorem begin_inv {f : FuncId} {fn : IFn} {g : Func} {args : List AV} {H : Heap} {S : Nat → Prop} {φ : Phi} {w : World} {vargs : Array Value} (g6 : fn.ntmps = g.ntmps) (hs : Sim P S φ (hget H) w) (htop : ∀ id, H.nx ≤ id → φ id = none) (hargs : Reps w S φ args vargs) :
    InvR P S φ w ⟨⟨args ++ List.replicate (fn.ntmps - args.length) undefA, H⟩, []⟩ { tmps := vargs ++ Array.replicate (g.ntmps - vargs.size) undef, defers := [] } := by
  refine ⟨⟨hs, ?_, htop⟩, trivial⟩
  rw [g6, hargs.1]
  refine hargs.append ⟨by simp, fun i c v e1 e2 => ?_⟩
  have h1 : c = undefA := List.eq_of_mem_replicate (List.mem_of_getElem? e1)
  have h2 : v = undef := by
    rw [Array.getElem?_replicate] at e2
    split at e2
    · cases e2; rfl
    · cases e2
  rw [h1, h2]; exact undef_rep
theorem callBody_ok (hT : TOK P T) (hm : P.follows .mixedOrders = true) {cb : Cb} (hcb : CbOK P cb) {m : Nat} {f : FuncId} {args : List AV} {H H' : Heap} {v : AV} (h : callBody T m cb f args H = some (v, H')) {S : Nat → Prop} {φ : Phi} {w : World} {vargs : Array Value} (hs : Sim P S φ (hget H) w) (htop : ∀ id, H.nx ≤ id → φ id = none) (hargs : Reps w S φ args vargs) :
    Calls P f vargs w fun e w' => FinE P S φ H w v H' e w' := by
  unfold callBody at h
  split at h
  · cases h
  · rename_i fn hfn
    obtain ⟨g, c, g1, g2, g3, g4, g5, g6⟩ := cFn_spec (hT f fn hfn)
    have hI := begin_inv (f := f) (fn := fn) (g := g) g6 hs htop hargs
    cases hrun : run T cb m none fn.body ⟨⟨args ++ List.replicate (fn.ntmps - args.length) undefA, H⟩, []⟩ with
    | none => rw [hrun] at h; cases h
    | some p =>
      obtain ⟨ex, r⟩ := p
      rw [hrun] at h
      refine (callsIn_wide (n := 0)).1 (callsIn_of_wp_marks g1 g3 trivial (run_sound hT hcb hm m none .wide c fn.body g4 _ ex r hrun S φ w _ rfl hI _ fun a' w' hR => ?_))
      obtain ⟨S', φ', k1, k2, k4⟩ := hR
      have ret : (match leaveF fn r with
          | some q => some q
          | none => leaveX cb fn r.st.env none r.ds r.st.H) = some (v, H') → LeavesInM Fence.wide 0 P g a'.tmps (fun e w'' => FinE P S φ H w v H' e w'') a'.defers .returning w' := by
        intro he
        cases hl : leaveF fn r with
        | some q =>
          rw [hl] at he
          cases he
          have hlv := leave_fn (H := H) (w := w) (S := S) (φ := φ) g5 hl k1 k2 k4
          exact LeavesInM.mono (fun e w'' hq => .inl hq) hlv
        | none =>
          rw [hl] at he
          exact leaveX_ok hcb g5 he k1.mrk k1.inv.sim k1.inv.env k1.inv.top k2 k4
      cases ex with
      | exit id => cases h
      | normal => exact ret h
      | ret => exact ret h
      | pan p => exact leaveX_ok hcb g5 h k1.mrk k1.inv.sim k1.inv.env k1.inv.top k2 k4
/-! Deferred calls -/
def frM (md : Option Value) (r : Bool) : FrameMode :=
  match md with
  | none => .returning
  | some p => .panicking [{ v := p, recovered := r }]
theorem frM_settle (md : Option Value) (r : Bool) (hr : r = true → md.isSome = true) : settle (frM md r) = modeF (if r then none else md) := by
  cases md with
  | none => cases r with
    | false => rfl
    | true => exact absurd (hr rfl) (by simp)
  | some p => cases r <;> rfl
theorem ofPan_rep {w : World} {S : Nat → Prop} {φ : Phi} {p : Value} {a : AV} (h : ofPan p = some a) : Rep w S φ a p := by
  unfold ofPan at h
  split at h
  · simp only [Option.map_eq_some_iff] at h
    obtain ⟨b, h1, rfl⟩ := h
    exact .ifc (ofValue1_rep h1).1
  · cases h
theorem isMv_spec {io : PO} {x : Arg} (h : isMv io = some x) : io = .mv x := by
  unfold isMv at h
  split at h
  · cases h; rfl
  · cases h
theorem isRcv_spec {io : PO} (h : isRcv io = true) : io = .rcv := by
  unfold isRcv at h
  split at h
  · rfl
  · cases h
theorem reg_rec {ops : Array Oper} {md : Option Value} {c0 : Frame} {cs : List Frame} {Q : Exit → Act → List Frame → World → Prop} : ∀ (n k : Nat) (ios : List IOp) (r r' : Bool) (st st' : St) (S : Nat → Prop) (φ : Phi) (w : World) (a : Act), k + n = ops.size → cOpers P ops (ops.toList.drop k) k = some ios → evalR md ios r st = some (r', st') →
    Inv P S φ w st a → (r = true → md.isSome = true) → (∀ a' , (r' = true → md.isSome = true) → Inv P S φ w st' a' → a'.defers = a.defers → st'.H = st.H → Q .normal a' ({ c0 with mode := frM md r' } :: cs) w) → wpOpsSIn Fence.wide 0 P ops Q (List.range' k n) a ({ c0 with mode := frM md r } :: cs) w
  | 0, k, ios, r, r', st, st', S, φ, w, a, hk, hc, he, hI, hr, hQ => by
    have : ops.toList.drop k = [] := by simp; omega
    rw [this] at hc
    cases hc; cases he
    exact hQ a hr hI rfl rfl
  | n + 1, k, ios, r, r', st, st', S, φ, w, a, hk, hc, he, hI, hr, hQ => by
    have hlt : k < ops.size := by omega
    have hd : ops.toList.drop k = ops[k] :: ops.toList.drop (k + 1) := by rw [List.drop_eq_getElem_cons (by simpa using hlt)]; simp
    rw [hd] at hc
    simp only [cOpers] at hc
    split at hc
    · rename_i io ios' h1 h2
      cases hc
      obtain ⟨d1, d2, d3⟩ := cOper_op h1
      have ho : ops[k]? = some ops[k] := by simp [hlt]
      have hw := wanted_eq h1 hI.env
      simp only [List.range'_succ, wpOpsSIn, ho]
      refine ⟨fun f _ => trivial, ?_⟩
      simp only [evalR] at he
      split at he
      · rename_i hwant
        rw [hwant] at hw
        rw [if_pos hw.symm]
        cases hcop : cOp P ops[k].op with
        | none =>
          rw [hcop] at d2
          have d2 : io.op = .bad := d2
          simp [d2, isMv, isRcv] at he
        | some oo =>
          rw [hcop] at d2
          have d2 : io.op = oo := d2
          rw [d2] at he
          split at he
          · rename_i x hx
            have hx := isMv_spec hx
            subst hx
            have hex : ∃ y, execOp a.eval ops[k] = pure (.value (a.eval y)) ∧ cOpd y = some x := by
              obtain ⟨y, hy | hy⟩ := cOp_mv hcop rfl
              · refine ⟨y, by unfold execOp; simp only [hy], ?_⟩
                rw [hy] at hcop
                simpa [cOp] using hcop
              · refine ⟨y, by unfold execOp; simp only [hy], ?_⟩
                rw [hy] at hcop
                simpa [cOp] using hcop
            obtain ⟨y, e1, e2⟩ := hex
            rw [e1]
            rw [d1] at he
            refine reg_rec n (k + 1) ios' r r' _ st' S φ w _ (by omega) h2 he ⟨hI.sim, reps_put hI.env (arg_rep hI.env e2) _, hI.top⟩ hr fun a' q1 q2 q3 q4 => hQ a' q1 q2 (q3.trans (put_defers _ _ _)) q4
          · split at he
            · rename_i hrc
              have hx := isRcv_spec hrc
              subst hx
              have hex : (execOp a.eval ops[k]).run P w = .ok .recover w := by
                obtain ⟨c, hcl⟩ := cOp_rcv hcop rfl
                have hcb : c.callee = .builtin .recover := by
                  rw [hcl] at hcop
                  simp only [cOp] at hcop
                  split at hcop
                  · rename_i b args hcal hargs
                    unfold cBuiltin at hcop
                    repeat' (first | (cases hcop; done) | (exact hcal) | split at hcop)
                    all_goals (first
                      | (cases hcop; done)
                      | (simp only [Option.map_eq_some_iff] at hcop; obtain ⟨_, _, h3⟩ := hcop; cases h3; done))
                  · cases hcop
                  · simp only [Option.map_eq_some_iff] at hcop; obtain ⟨_, _, h3⟩ := hcop; cases h3
                  · simp only [Option.map_eq_some_iff] at hcop; obtain ⟨_, _, h3⟩ := hcop; cases h3
                  · cases hcop
                obtain ⟨consts, hx⟩ := builtin_exec (a := a) hcl hcb
                rw [hx]
                simp [invoke, builtin]
              rw [hex]
              rw [d1] at he
              split at he
              · rename_i p hp
                split at he
                · rename_i v hv
                  have hmd : md = some p ∧ r = false := by
                    cases r
                    · exact ⟨by simpa using hp, rfl⟩
                    · simp at hp
                  obtain ⟨rfl, rfl⟩ := hmd
                  show wpOpsSIn Fence.wide 0 P ops Q _ _ ({ c0 with mode := frM (some p) true } :: cs) w
                  exact reg_rec n (k + 1) ios' true r' _ st' S φ w _ (by omega) h2 he ⟨hI.sim, reps_put hI.env (ofPan_rep hv) _, hI.top⟩ (fun _ => rfl) fun a' q1 q2 q3 q4 => hQ a' q1 q2 (q3.trans (put_defers _ _ _)) q4
                · cases he
              · rename_i hp
                have hrec : recoverD ({ c0 with mode := frM md r } :: cs) = none := by
                  cases md with
                  | none => rfl
                  | some p => cases r with
                    | true => rfl
                    | false => simp at hp
                show (match recoverD ({ c0 with mode := frM md r } :: cs) with
                  | some (v, cs') => _
                  | none => _)
                rw [hrec]
                exact reg_rec n (k + 1) ios' r r' _ st' S φ w _ (by omega) h2 he ⟨hI.sim, reps_put hI.env .ifcN _, hI.top⟩ hr fun a' q1 q2 q3 q4 => hQ a' q1 q2 (q3.trans (put_defers _ _ _)) q4
            · cases he
      · rename_i hwant
        have hwant' : wantedA st.env io.guard = false := by simpa using hwant
        rw [hwant'] at hw
        rw [if_neg (by rw [← hw]; simp)]
        rw [d1] at he
        exact reg_rec n (k + 1) ios' r r' _ st' S φ w _ (by omega) h2 he ⟨hI.sim, reps_put hI.env undef_rep _, hI.top⟩ hr fun a' q1 q2 q3 q4 => hQ a' q1 q2 (q3.trans (put_defers _ _ _)) q4
    · cases hc
/-- Behind code of a deferred function. -/
def RchS (P : Program) (S : Nat → Prop) (φ : Phi) (w : World) (st st' : St) (a' : Act) (w' : World) : Prop :=
  ∃ S' φ', Inv P S' φ' w' st' a' ∧ Adv S φ (hget st.H) w S' φ' (hget st'.H) w' ∧ a'.defers = [] ∧ st.H.nx ≤ st'.H.nx
theorem via_run (hT : TOK P T) (hm : P.follows .mixedOrders = true) {cb : Cb} (hcb : CbOK P cb) {m : Nat} {md : Option Value} {c : Code} {ic : IC} (hc : cCode P c = some ic) {st : St} {ex : Ex} {q : RSt} (h : run T cb m none ic ⟨st, []⟩ = some (ex, q)) (hq : q.ds.isEmpty = true) {S : Nat → Prop} {φ : Phi} {w : World} {a : Act} (hI : Inv P S φ w st a) (ha : a.defers = [])
    {cs : List Frame} {Q : Exit → Act → List Frame → World → Prop} (hQ : ∀ a' w', RchS P S φ w st q.st a' w' → Q ex.to a' cs w') : c.wpSIn Fence.wide 0 P Q a cs w := by
  refine wpSIn_of_wpIn rfl (run_sound hT hcb hm m none .wide c ic hc _ ex q h S φ w a rfl ⟨hI, by show Marks w S φ [] a.defers; rw [ha]; trivial⟩ _ fun a' w' hR => ?_)
  obtain ⟨S', φ', k1, k2, k4⟩ := hR
  refine hQ a' w' ⟨S', φ', k1.inv, k2, ?_, k4⟩
  have := k1.mrk
  rw [List.isEmpty_iff.1 hq] at this
  cases hd : a'.defers with
  | nil => rfl
  | cons x xs => rw [hd] at this; exact this.elim
theorem runR_ok (hT : TOK P T) (hm : P.follows .mixedOrders = true) {cb : Cb} (hcb : CbOK P cb) {m : Nat} {md : Option Value} {c0 : Frame} {cs : List Frame} : ∀ (c : Code) (ic : IC), cCode P c = some ic → ∀ (r : Bool) (st : St) (ex : Ex) (r' : Bool) (st' : St), runR T cb m md ic r st = some (ex, r', st') →
    ∀ (S : Nat → Prop) (φ : Phi) (w : World) (a : Act), Inv P S φ w st a → a.defers = [] → (r = true → md.isSome = true) → ∀ Q : Exit → Act → List Frame → World → Prop, (∀ a' w', (r' = true → md.isSome = true) → RchS P S φ w st st' a' w' → Q ex.to a' ({ c0 with mode := frM md r' } :: cs) w') →
    c.wpSIn Fence.wide 0 P Q a ({ c0 with mode := frM md r } :: cs) w := by
  have other : ∀ (c : Code) (ic : IC), cCode P c = some ic → ∀ (r : Bool) (st : St) (ex : Ex) (r' : Bool) (st' : St), (match run T cb m none ic ⟨st, []⟩ with
      | some (ex, q) => if q.ds.isEmpty then some (ex, r, q.st) else none
      | none => none) = some (ex, r', st') →
      ∀ (S : Nat → Prop) (φ : Phi) (w : World) (a : Act), Inv P S φ w st a → a.defers = [] → (r = true → md.isSome = true) → ∀ Q : Exit → Act → List Frame → World → Prop, (∀ a' w', (r' = true → md.isSome = true) → RchS P S φ w st st' a' w' → Q ex.to a' ({ c0 with mode := frM md r' } :: cs) w') →
      c.wpSIn Fence.wide 0 P Q a ({ c0 with mode := frM md r } :: cs) w := by
    intro c ic hc r st ex r' st' h S φ w a hI ha hr Q hQ
    split at h
    · rename_i ex1 q e1
      split at h
      · rename_i hq
        cases h
        exact via_run (md := md) hT hm hcb hc e1 hq hI ha fun a' w' hR => hQ a' w' hr hR
      · cases h
    · cases h
  intro c
  induction c with
  | seq x y ihx ihy =>
    intro ic hc r st ex r' st' h S φ w a hI ha hr Q hQ
    simp only [cCode] at hc
    split at hc
    · rename_i ia ib h1 h2
      cases hc
      simp only [runR] at h
      cases e1 : runR T cb m md ia r st with
      | none => rw [e1] at h; cases h
      | some p =>
        obtain ⟨ex1, r1, st1⟩ := p
        rw [e1] at h
        refine wpSIn_seq (ihx ia h1 r st ex1 r1 st1 e1 S φ w a hI ha hr _ fun a' w' hr1 hR => ?_)
        cases ex1 with
        | normal =>
          obtain ⟨S', φ', k1, k2, k3, k4⟩ := hR
          refine ihy ib h2 r1 st1 ex r' st' h S' φ' w' a' k1 k3 hr1 Q fun a'' w'' hr2 hR2 => hQ a'' w'' hr2 ?_
          obtain ⟨S'', φ'', l1, l2, l3, l4⟩ := hR2
          exact ⟨S'', φ'', l1, k2.trans l2, l3, Nat.le_trans k4 l4⟩
        | exit id => cases h; exact hQ a' w' hr1 hR
        | ret => cases h; exact hQ a' w' hr1 hR
        | pan p => cases h; exact hQ a' w' hr1 hR
    · cases hc
  | region id ops draw =>
    intro ic hc r st ex r' st' h S φ w a hI ha hr Q hQ
    have hc0 := hc
    simp only [cCode] at hc
    split at hc
    · rename_i os hos
      cases draw with
      | true =>
        simp only [if_true] at hc
        split at hc
        · cases hc
          simp only [runR] at h
          split at h
          · simp at h
          · exact other _ _ hc0 r st ex r' st' h S φ w a hI ha hr Q hQ
        · cases hc
      | false =>
        simp only [Bool.false_eq_true, if_false] at hc
        cases hc
        simp only [runR] at h
        split at h
        · simp only [Bool.false_eq_true, if_false, Option.map_eq_some_iff] at h
          obtain ⟨p, e1, h2⟩ := h
          cases h2
          refine wpSIn_region ?_
          rw [List.range_eq_range']
          refine reg_rec ops.size 0 os r p.1 st p.2 S φ w a (by omega) (by simpa using hos) e1 hI hr fun a' q1 q2 q3 q4 => ?_

          exact hQ a' w q1 ⟨S, φ, q2, by rw [q4]; exact Adv.refl _ _ _ _, q3.trans ha, by rw [q4]; exact Nat.le_refl _⟩
        · exact other _ _ hc0 r st ex r' st' h S φ w a hI ha hr Q hQ
    · cases hc
  | _ =>
    intro ic hc r st ex r' st' h S φ w a hI ha hr Q hQ
    have hc0 := hc
    refine other _ _ hc0 r st ex r' st' ?_ S φ w a hI ha hr Q hQ
    simp only [cCode] at hc
    first
      | (cases hc; exact h)
      | (repeat' (first | (cases hc; done) | split at hc)
         all_goals (cases hc; exact h))
      | (simp only [Option.map_eq_some_iff] at hc; obtain ⟨_, _, rfl⟩ := hc; exact h)
theorem callDef_ok (hT : TOK P T) (hm : P.follows .mixedOrders = true) {cb : Cb} (hcb : CbOK P cb) {m : Nat} {f : FuncId} {md : Option Value} {args : List AV} {H H' : Heap} {v : AV} (h : callDef T m cb f md args H = some (v, H')) {S : Nat → Prop} {φ : Phi} {w : World} {vargs : Array Value} (hs : Sim P S φ (hget H) w) (htop : ∀ id, H.nx ≤ id → φ id = none) (hargs : Reps w S φ args vargs) :
    (∀ us, (callFunc f us).run P w = .ok (.enter f us) w) ∧ ∃ r, v = .bool r ∧ CallsDIn Fence.wide 0 P f vargs (modeF md) w fun e u' w' => (∃ vv, e = .returned vv) ∧ settle u' = modeF (if r then none else md) ∧ Left P S φ H w H' w' := by
  unfold callDef at h
  split at h
  · cases h
  · rename_i fn hfn
    obtain ⟨g, c, g1, g2, g3, g4, g5, g6⟩ := cFn_spec (hT f fn hfn)
    refine ⟨fun us => run_callFunc g1 g2 g3 us, ?_⟩
    have hI := begin_inv (f := f) (fn := fn) (g := g) g6 hs htop hargs
    have plain : ∀ (ex : Ex) (r : RSt), run T cb m none fn.body ⟨⟨args ++ List.replicate (fn.ntmps - args.length) undefA, H⟩, []⟩ = some (ex, r) → (ex = .normal ∨ ex = .ret) → r.ds.isEmpty = true → ∀ vs, resL r.st fn.res = some vs →
        CallsDIn Fence.wide 0 P f vargs (modeF md) w fun e u' w' => (∃ vv, e = .returned vv) ∧ settle u' = modeF md ∧ Left P S φ H w r.st.H w' := by
      intro ex r hrun hex hds vs hvs
      refine (callsDIn_of_wp (R := fun e w' => (∃ vv, e = .returned vv) ∧ Left P S φ H w r.st.H w') g1 g3 trivial (run_sound hT hcb hm m none .wide c fn.body g4 _ ex r hrun S φ w _ rfl hI _ fun a' w' hR => ?_)).mono ?_
      · obtain ⟨S', φ', k1, k2, k4⟩ := hR
        have hmk := k1.mrk
        rw [List.isEmpty_iff.1 hds] at hmk
        have hd : a'.defers = [] := by
          cases hd : a'.defers with
          | nil => rfl
          | cons x xs => rw [hd] at hmk; exact hmk.elim
        obtain ⟨vv, q1, q2⟩ := results_run (P := P) g5 hvs k1.inv
        have : bodyPost P g (fun e w' => (∃ vv, e = .returned vv) ∧ Left P S φ H w r.st.H w') .ret a' w' := ⟨hd, vv, q1, ⟨vv, rfl⟩, S', φ', k2, k1.inv.sim, k1.inv.top, k4⟩
        rcases hex with rfl | rfl
        · exact this
        · exact this
      · rintro e u' w' ⟨rfl, h1, h2⟩
        exact ⟨h1, settle_modeF md, h2⟩
    split at h
    · rename_i r hrun
      split at h
      · rename_i hds
        simp only [Option.map_eq_some_iff] at h
        obtain ⟨vs, h1, h2⟩ := h
        cases h2
        exact ⟨false, rfl, plain _ r hrun (.inl rfl) hds vs h1⟩
      · cases h
    · rename_i r hrun
      split at h
      · rename_i hds
        simp only [Option.map_eq_some_iff] at h
        obtain ⟨vs, h1, h2⟩ := h
        cases h2
        exact ⟨false, rfl, plain _ r hrun (.inr rfl) hds vs h1⟩
      · cases h
    · cases h
    · have recv : ∀ (ex : Ex) (r : Bool) (st : St), runR T cb m md fn.body false ⟨args ++ List.replicate (fn.ntmps - args.length) undefA, H⟩ = some (ex, r, st) → (ex = .normal ∨ ex = .ret) → ∀ vs, resL st fn.res = some vs →
          CallsDIn Fence.wide 0 P f vargs (modeF md) w fun e u' w' => (∃ vv, e = .returned vv) ∧ settle u' = modeF (if r then none else md) ∧ Left P S φ H w st.H w' := by
        intro ex r st hrun hex vs hvs
        refine callsDIn_of_wpSIn g1 g3 trivial fun c0 cs hu => ?_
        have hc0 : ({ c0 with mode := frM md false } : Frame) = c0 := by
          have : frM md false = modeF md := by cases md <;> rfl
          rw [this, ← hu]
        have hw := runR_ok (c0 := c0) (cs := cs) hT hm hcb c fn.body g4 false _ ex r st hrun S φ w _ hI.inv rfl (fun hh => by cases hh) (bodyPostS P g c0 cs fun e u' w' => (∃ vv, e = .returned vv) ∧ settle u' = modeF (if r then none else md) ∧ Left P S φ H w st.H w') (fun a' w' hr hR => by
          obtain ⟨S', φ', k1, k2, k3, k4⟩ := hR
          obtain ⟨vv, q1, q2⟩ := results_run (P := P) g5 hvs k1
          have : bodyPostS P g c0 cs (fun e u' w' => (∃ vv, e = .returned vv) ∧ settle u' = modeF (if r then none else md) ∧ Left P S φ H w st.H w') .ret a' ({ c0 with mode := frM md r } :: cs) w' :=
            ⟨k3, frM md r, rfl, vv, q1, ⟨vv, rfl⟩, frM_settle md r hr, S', φ', k2, k1.sim, k1.top, k4⟩
          rcases hex with rfl | rfl
          · exact this
          · exact this)
        rw [hc0] at hw
        exact hw
      split at h
      · rename_i r st hrun
        simp only [Option.map_eq_some_iff] at h
        obtain ⟨vs, h1, h2⟩ := h
        cases h2
        exact ⟨r, rfl, recv _ r st hrun (.inl rfl) vs h1⟩
      · rename_i r st hrun
        simp only [Option.map_eq_some_iff] at h
        obtain ⟨vs, h1, h2⟩ := h
        cases h2
        exact ⟨r, rfl, recv _ r st hrun (.inr rfl) vs h1⟩
      · cases h
theorem callPure_ok (hT : TOK P T) (hm : P.follows .mixedOrders = true) {cb : Cb} (hcb : CbOK P cb) {m : Nat} {f : FuncId} {args : List AV} {H' : Heap} {t : AV} (h : pureR (callBody T m cb f args noH) = some (t, H')) : PuOK P f args t := by
  intro Sc w us hs hargs
  cases hb : callBody T m cb f args noH with
  | none => rw [hb] at h; cases h
  | some p =>
    obtain ⟨v, H1⟩ := p
    rw [hb] at h
    simp only [pureR] at h
    split at h
    · rename_i t' ids e1
      split at h
      · rename_i hnd
        cases h
        refine (callBody_ok hT hm hcb hb hs (fun _ _ => rfl) hargs).mono ?_
        rintro e w' (⟨vv, rfl, S', φ', adv, sim, rep, -, -⟩ | ⟨p, rfl, -⟩)
        · exact ⟨vv, rfl, v, H1, ids, S', φ', adv, sim, rep, e1, hnd⟩
        · simp [detach, detach1, detachC, AV.noId] at e1
      · cases h
    · cases h
theorem callRound_ok (hT : TOK P T) (hm : P.follows .mixedOrders = true) {cb : Cb} (hcb : CbOK P cb) {m : Nat} {id : Nat} {args : List AV} {H H' : Heap} {v : AV} (h : callRound T m cb id args H = some (v, H')) {S : Nat → Prop} {φ : Phi} {w : World} {vargs : Array Value} {loc : Loc} (hs : Sim P S φ (hget H) w) (htop : ∀ id, H.nx ≤ id → φ id = none) (hargs : Reps w S φ args vargs) (hφ : φ id = some loc) :
    ∃ fn tmps a b, (Instr.yield loc.blk vargs).run P w = .ok (.round loc.blk fn tmps a b) w ∧ RoundIn Fence.wide 0 P loc.blk fn tmps a b w fun e w' => ∃ vv, e = .returned vv ∧ Fin P S φ H w v H' vv w' := by
  unfold callRound at h
  split at h
  · rename_i env ps ia ib st pend d hb
    split at h
    · rename_i hlen
      obtain ⟨loc', g1, g2, -⟩ := hs.blk id _ hb
      rw [hφ] at g1; cases g1
      obtain ⟨r0, f1, f2, f3, f4, f5, f6, f7, ld, f8, f9⟩ := g2
      have hsz : vargs.size = r0.params.size := by rw [hargs.1, hlen, ← f3]; simp
      refine ⟨r0.fn, _, r0.assign, r0.body, run_yield f1 hsz, ?_⟩
      have henv : Reps w S φ (setPs env ps args) ((r0.params.zip vargs).foldl (fun tmps (t, a) => tmps.setIfInBounds t a) r0.tmps) := by
        have := setPs_rep (ps := ps) (us := vargs.toList) hlen f2 (by simpa using hargs)
        rw [← f3] at this ⊢
        have e : (r0.params.zip vargs).foldl (fun tmps (t, a) => tmps.setIfInBounds t a) r0.tmps = (r0.params.toList.zip vargs.toList).foldl (fun tmps (t, a) => tmps.setIfInBounds t a) r0.tmps := by
          rw [← Array.foldl_toList, Array.toList_zip]
        rw [e]; exact this
      split at h
      · rename_i r1 h1
        split at h
        · rename_i r2 h2
          split at h
          · rename_i ex r3 h3
            have hI : InvR P S φ w ⟨⟨setPs env ps args, H⟩, []⟩ { tmps := (r0.params.zip vargs).foldl (fun tmps (t, a) => tmps.setIfInBounds t a) r0.tmps, defers := [] } := ⟨⟨hs, henv, htop⟩, trivial⟩
            refine roundIn_of_wpIn trivial (run_sound hT hcb hm m (some id) _ r0.assign ia f4 _ _ _ h1 S φ w _ ⟨loc, hφ, rfl⟩ hI _ fun a1 w1 hR => ?_)
            obtain ⟨S1, φ1, k1, k2, k4⟩ := hR
            -- the round begins
            unfold enterR at h2
            split at h2
            · rename_i env' ps' a' b' pend' d' hb1
              cases h2
              have hφ1 := k2.phi _ _ hφ
              obtain ⟨loc', g1, g2, -⟩ := k1.inv.sim.blk id _ hb1
              rw [hφ1] at g1; cases g1
              obtain ⟨r01, e1, e2, e3, e4, e5, e6, e7, ld', e8, e9⟩ := g2
              have hbeg := run_beginRound (P := P) e1 e6
              obtain ⟨q1, q2⟩ := put_sim (P := P) (b' := some (.loop env' ps' a' b' .busy pend' d')) (o := .loop { r01 with state := .busy }) k1.inv.sim hb1 hφ1 (shape_loop e1) (fun x hx adv => by
                cases hx
                exact ⟨_, World.putObj_heap_same (k1.inv.sim.lt hb1 hφ1), adv.reps k1.inv.sim e2, e3, e4, e5, rfl, e7, ld', e8, e9⟩)
              rw [← hget_wr1 r1.st.H id _ 0] at q1 q2
              refine ⟨_, hbeg, ?_⟩
              have hI2 : InvR P S1 φ1 (w1.putObj loc.blk (.loop { r01 with state := .busy })) ⟨⟨r1.st.env, wrH r1.st.H [(id, some (.loop env' ps' a' b' .busy pend' d'))] 0⟩, r1.ds⟩ a1 :=
                ⟨⟨q2, q1.reps k1.inv.sim k1.inv.env, fun k hk => k1.inv.top k (Nat.le_trans (Nat.le_max_left _ _) hk)⟩, k1.mrk.adv q1 k1.inv.sim⟩
              refine run_sound hT hcb hm m (some id) _ r0.body ib f5 _ _ _ h3 S1 φ1 _ _ ⟨loc, hφ1, rfl⟩ hI2 _ fun a2 w2 hR2 => ?_
              obtain ⟨S2, φ2, l1, l2, l4⟩ := hR2
              have hφ2 := l2.phi _ _ hφ1
              have hall : Adv S φ (hget H) w S2 φ2 (hget r3.st.H) w2 := (k2.trans q1).trans l2
              have hnx : H.nx ≤ r3.st.H.nx := Nat.le_trans (Nat.le_trans k4 (Nat.le_max_left _ _)) l4
              unfold leaveR at h
              split at h
              · rename_i env3 ps3 a3 b3 pend3 d3 hb3
                obtain ⟨loc', g1, g2, -⟩ := l1.inv.sim.blk id _ hb3
                rw [hφ2] at g1; cases g1
                obtain ⟨r03, m1, m2, m3, m4, m5, m6, m7, ld3, m8, m9⟩ := g2
                have fin : ∀ (st' : LoopState) (pend' : Ex), Fin P S φ H w v (wrH r3.st.H [(id, some (.loop env3 ps3 a3 b3 st' pend' d3))] 0) (.bool (pend'.code.isNone)) (w2.putObj loc.blk (.loop { r03 with state := st', pending := pend'.code })) ∨ v ≠ .bool pend'.code.isNone := by
                  intro st' pend'
                  by_cases hv : v = .bool pend'.code.isNone
                  · subst hv
                    obtain ⟨q1, q2⟩ := put_sim (P := P) (b' := some (.loop env3 ps3 a3 b3 st' pend' d3)) (o := .loop { r03 with state := st', pending := pend'.code }) l1.inv.sim hb3 hφ2 (shape_loop m1) (fun x hx adv => by
                      cases hx
                      exact ⟨_, World.putObj_heap_same (l1.inv.sim.lt hb3 hφ2), adv.reps l1.inv.sim m2, m3, m4, m5, rfl, rfl, ld3, m8, m9⟩)
                    rw [← hget_wr1 r3.st.H id _ 0] at q1 q2
                    exact .inl ⟨S2, φ2, hall.trans q1, q2, .bool, fun k hk => l1.inv.top k (Nat.le_trans (Nat.le_max_left _ _) hk), Nat.le_trans hnx (Nat.le_max_left _ _)⟩
                  · exact .inr hv
                cases ex with
                | normal =>
                  cases h
                  exact ⟨_, _, run_endRound none m1, _, rfl, (fin .ready .normal).resolve_right (by simp [Ex.code])⟩
                | pan p => cases h
                | ret =>
                  cases h
                  exact ⟨_, _, run_endRound (some .ret) m1, _, rfl, (fin .done .ret).resolve_right (by simp [Ex.code])⟩
                | exit id' =>
                  cases h
                  exact ⟨_, _, run_endRound (some (.exit id')) m1, _, rfl, (fin .done (.exit id')).resolve_right (by simp [Ex.code])⟩
              · cases h
            · cases h2
          · cases h
        · cases h
      · cases h
    · cases h
  · cases h
/-! What is known of calls already -/
/-- A call on a memory that is known. -/
def FnOK (P : Program) (k : MemoF) : Prop := ∀ S φ w vargs, Sim P S φ (hget k.H) w → (∀ id, k.H.nx ≤ id → φ id = none) → Reps w S φ k.args vargs → Calls P k.f vargs w fun e w' => FinE P S φ k.H w k.v k.H' e w'
theorem sameM_eq {a b : Option Blk} (h : sameM a b = true) : a = b := by
  unfold sameM at h
  split at h
  · rfl
  · exact sameB_eq h
theorem eqHp_eq {H K : Heap} (h : eqHp H K = true) : H = K := by
  obtain ⟨l, n⟩ := H
  obtain ⟨l', n'⟩ := K
  simp only [eqHp, Bool.and_eq_true] at h
  rw [eqLs_eq (fun a b => sameM_eq) h.2, Nat.eq_of_beq_eq_true h.1]
theorem eqVal_eq : ∀ {d : Nat} {p q : Value}, eqVal d p q = true → p = q
  | 0, _, _, h => by simp [eqVal] at h
  | d + 1, p, q, h => by
    unfold eqVal at h
    split at h
    · cases h
    · rename_i e; cases e
      simp only [Bool.and_eq_true, beq_iff_eq] at h
      rw [h.1, eqVal_eq h.2]
    · simp only [Bool.and_eq_true, beq_iff_eq] at h
      rw [h.1, h.2]
    · rfl
    · cases h
theorem eqP_eq {a b : AV} (h : eqP a b = true) : a = b := by
  unfold eqP at h
  split at h
  · rw [eqVal_eq h]
  · exact eqD_eq h
def MemosOK (P : Program) : MemT → Prop
  | .nil => True
  | .one k r => PuOK P k.f k.args k.t ∧ MemosOK P r
  | .oneF k r => FnOK P k ∧ MemosOK P r
  | .node _ l r => MemosOK P l ∧ MemosOK P r
theorem findT_ok {f : FuncId} {args : List AV} {key : Nat} {t : AV} : ∀ {L : MemT}, MemosOK P L → findT f args key L = some t → PuOK P f args t
  | .nil, _, h => by cases h
  | .one k r, hL, h => by
    simp only [findT, cond_eq_ite] at h
    split at h
    · rename_i hc
      cases h
      simp only [Bool.and_eq_true] at hc
      have := hL.1
      rwa [Nat.eq_of_beq_eq_true hc.1, List.reverse_inj.1 (eqLs_eq (fun a b => eqD_eq) hc.2)] at this
    · exact findT_ok hL.2 h
  | .oneF k r, hL, h => by
    simp only [findT] at h
    exact findT_ok hL.2 h
  | .node n l r, hL, h => by
    simp only [findT, cond_eq_ite] at h
    split at h
    · exact findT_ok hL.1 h
    · exact findT_ok hL.2 h
theorem findM_ok {f : FuncId} {args : List AV} {t : AV} {L : MemT} (hL : MemosOK P L) (h : findM f args L = some t) : PuOK P f args t := findT_ok hL h
theorem findTF_ok {f : FuncId} {args : List AV} {H H' : Heap} {key : Nat} {v : AV} : ∀ {L : MemT}, MemosOK P L → findTF f args H key L = some (v, H') → FnOK P ⟨f, args, H, v, H'⟩
  | .nil, _, h => by cases h
  | .one k r, hL, h => by
    simp only [findTF] at h
    exact findTF_ok hL.2 h
  | .oneF k r, hL, h => by
    simp only [findTF, cond_eq_ite] at h
    split at h
    · rename_i hc
      cases h
      simp only [Bool.and_eq_true] at hc
      have h1 := Nat.eq_of_beq_eq_true hc.1
      have h2 := List.reverse_inj.1 (eqLs_eq (fun a b => eqD_eq) hc.2.1)
      have h3 := eqHp_eq hc.2.2
      have := hL.1
      obtain ⟨kf, ka, kH, kv, kH'⟩ := k
      dsimp only at h1 h2 h3 this ⊢
      subst h1 h2 h3
      exact this
    · exact findTF_ok hL.2 h
  | .node n l r, hL, h => by
    simp only [findTF, cond_eq_ite] at h
    split at h
    · exact findTF_ok hL.1 h
    · exact findTF_ok hL.2 h
theorem callFn_ok (hT : TOK P T) (hm : P.follows .mixedOrders = true) (m : Nat) {L : MemT} (hL : MemosOK P L) : ∀ n, CbOK P (callFn T m L n)
  | 0 => ⟨fun f args H v H' h => (by cases h), fun f md args H v H' h => (by cases h), fun f args H v H' h => (by cases h), fun id args H v H' h => (by cases h)⟩
  | n + 1 => by
    have hcb := callFn_ok hT hm m hL n
    refine ⟨fun f args H v H' h S φ w vargs hs htop hargs => ?_, fun f md args H v H' h S φ w vargs hs htop hargs => callDef_ok hT hm hcb h hs htop hargs, fun f args H t H' h => ?_, fun id args H v H' h S φ w vargs loc hs htop hargs hφ => callRound_ok hT hm hcb h hs htop hargs hφ⟩
    · simp only [callFn] at h
      split at h
      · rename_i q e1; cases h; exact findTF_ok hL e1 S φ w vargs hs htop hargs
      · exact callBody_ok hT hm hcb h hs htop hargs
    simp only [callFn] at h
    split at h
    · rename_i t' e1; cases h; exact findM_ok hL e1
    · exact callPure_ok hT hm hcb h
end Go.V
