/- Soundness: functions and rounds. -/
import Derived.Test.YtcgeghpmnnhcpaaJG
import Derived.RecoverIn
import Derived.Test.YtcgeghpmnnhcpaaJB
set_option linter.unusedVariables false
set_option linter.unusedSimpArgs false
namespace Go.V
open Go.RowKit
variable {P : Program} {T : FuncId → Option IFn}

theorem setPs_rep {w : World} {S : Nat → Prop} {φ : Phi} : ∀ {ps : List Nat} {env vs : List AV} {tmps : Array Value} {us : List Value}, vs.length = ps.length → Reps w S φ env tmps → Reps w S φ vs us.toArray →
    Reps w S φ (setPs env ps vs) ((ps.zip us).foldl (fun tmps (t, a) => tmps.setIfInBounds t a) tmps)
  | [], env, vs, tmps, us, hl, hr, hv => by
    have : setPs env [] vs = env := by cases vs <;> rfl
    rw [this]; simpa using hr
  | p :: ps, env, [], tmps, us, hl, hr, hv => by simp at hl
  | p :: ps, env, v :: vs, tmps, us, hl, hr, hv => by
    cases us with
    | nil => have := hv.1; simp at this
    | cons u us =>
      simp only [setPs, List.zip_cons_cons, List.foldl_cons]
      refine setPs_rep (by simpa using hl) ?_ ⟨by have := hv.1; simpa using this, fun i c x q1 q2 => hv.2 (i + 1) c x (by simpa using q1) (by simpa using q2)⟩
      have := reps_put (a := { tmps := tmps, defers := [] }) hr (hv.2 0 v u (by simp) (by simp)) (some p)
      simpa only [setD, setK_eq, Act.put] using this
theorem marks_leave {F : Fence} {fn : Func} {tmps : Array Value} {R : Ending → World → Prop} {S : Nat → Prop} {φ : Phi} : ∀ {ids : List DE} {ds : List Deferred} {H H' : Heap} {w : World}, Marks w S φ ids ds → takeMarks H ids = some H' → Sim P S φ (hget H) w →
    (∀ w', Adv S φ (hget H) w S φ (hget H') w' → Sim P S φ (hget H') w' → H.nx ≤ H'.nx → LeavesInM F 0 P fn tmps R [] .returning w') → LeavesInM F 0 P fn tmps R ds .returning w
  | [], [], H, H', w, hm, ht, hs, h => by cases ht; exact h w (Adv.refl _ _ _ _) hs (Nat.le_refl _)
  | .fn _ _ :: _, _ :: _, H, H', w, hm, ht, hs, h => by simp [takeMarks] at ht
  | .mk id :: ids, d :: ds, H, H', w, hm, ht, hs, h => by
    obtain ⟨⟨loc, h1, rfl⟩, hm⟩ := hm
    simp only [takeMarks] at ht
    split at ht
    · rename_i hb
      obtain ⟨loc', g1, g2, -⟩ := hs.blk id _ hb
      rw [h1] at g1; cases g1
      have hrun := run_takeDeferred (P := P) (show w.heap[loc.blk]? = some (.deferred (some [])) from g2)
      obtain ⟨q1, q2⟩ := put_sim (P := P) (b' := none) (o := .deferred none) hs hb h1 (shape_deferred g2) (fun x hx => by cases hx)
      rw [← hget_wr1 H id none 0] at q1 q2
      refine ⟨by simp, .inl ⟨loc.blk, _, rfl, hrun, marks_leave (hm.adv q1 hs) ht q2 fun w' a1 a2 a3 => h w' (q1.trans a1) a2 (Nat.le_trans (Nat.le_max_left _ _) a3)⟩⟩
    · cases ht
  | [], _ :: _, _, _, _, hm, _, _, _ => hm.elim
  | _ :: _, [], _, _, _, hm, _, _, _ => hm.elim
theorem leave_fn {fn : IFn} {g : Func} {r : RSt} {v : AV} {H' : Heap} (hc : cRess P g.results.toList = some fn.res) (he : leaveF fn r = some (v, H')) {S S' : Nat → Prop} {φ φ' : Phi} {H : Heap} {w w' : World} {a' : Act} (hI : InvR P S' φ' w' r a') (hadv : Adv S φ (hget H) w S' φ' (hget r.st.H) w') (hnx : H.nx ≤ r.st.H.nx) :
    LeavesInM Fence.wide 0 P g a'.tmps (fun e w'' => ∃ vv, e = .returned vv ∧ Fin P S φ H w v H' vv w'') a'.defers .returning w' := by
  unfold leaveF at he
  split at he
  · rename_i H1 ht
    cases hl : resL ⟨r.st.env, H1⟩ fn.res with
    | none => simp [hl] at he
    | some vs =>
      simp [hl] at he
      obtain ⟨rfl, rfl⟩ := he
      refine marks_leave hI.mrk ht hI.inv.sim fun w'' a1 a2 a3 => ?_
      have hI2 : Inv P S' φ' w'' ⟨r.st.env, H1⟩ a' := ⟨a2, a1.reps hI.inv.sim hI.inv.env, fun k hk => hI.inv.top k (Nat.le_trans a3 hk)⟩
      obtain ⟨vv, q1, q2⟩ := results_run (P := P) hc hl hI2
      exact ⟨vv, q1, vv, rfl, S', φ', hadv.trans a1, a2, q2, hI2.top, Nat.le_trans hnx a3⟩
  · cases he
theorem settle_modeF (md : Option Value) : settle (modeF md) = modeF md := by cases md <;> rfl
theorem leaveX_ok {cb : Cb} (hcb : CbOK P cb) {fn : IFn} {g : Func} (hc : cRess P g.results.toList = some fn.res) {env : List AV} {tmps : Array Value} {S0 : Nat → Prop} {φ0 : Phi} {H0 : Heap} {w0 : World} {v : AV} {H' : Heap} :
    ∀ {ds : List DE} {dd : List Deferred} {md : Option Value} {H : Heap} {S : Nat → Prop} {φ : Phi} {w : World}, leaveX cb fn env md ds H = some (v, H') → Marks w S φ ds dd → Sim P S φ (hget H) w → Reps w S φ env tmps → (∀ id, H.nx ≤ id → φ id = none) →
      Adv S0 φ0 (hget H0) w0 S φ (hget H) w → H0.nx ≤ H.nx → LeavesInM Fence.wide 0 P g tmps (fun e w'' => FinE P S0 φ0 H0 w0 v H' e w'') dd (modeF md) w
  | [], [], md, H, S, φ, w, he, hm, hs, hr, ht, ha, hn => by
    cases md with
    | none =>
      simp only [leaveX, Option.map_eq_some_iff] at he
      obtain ⟨vs, h1, h2⟩ := he
      cases h2
      obtain ⟨vv, q1, q2⟩ := results_run (P := P) (a := { tmps := tmps, defers := [] }) hc h1 ⟨hs, hr, ht⟩
      exact ⟨vv, q1, .inl ⟨vv, rfl, S, φ, ha, hs, q2, ht, hn⟩⟩
    | some p =>
      simp only [leaveX] at he
      cases he
      exact .inr ⟨p, rfl, rfl, S, φ, ha, hs, ht, hn⟩
  | .mk id :: ds, d :: dd, md, H, S, φ, w, he, hm, hs, hr, ht, ha, hn => by
    have hne : modeF md ≠ .run := by cases md <;> simp [modeF]
    obtain ⟨⟨loc, h1, rfl⟩, hm⟩ := hm
    simp only [leaveX] at he
    split at he
    · rename_i hb
      obtain ⟨loc', g1, g2, -⟩ := hs.blk id _ hb
      rw [h1] at g1; cases g1
      have hrun := run_takeDeferred (P := P) (show w.heap[loc.blk]? = some (.deferred (some [])) from g2)
      obtain ⟨q1, q2⟩ := put_sim (P := P) (b' := none) (o := .deferred none) hs hb h1 (shape_deferred g2) (fun x hx => by cases hx)
      rw [← hget_wr1 H id none 0] at q1 q2
      exact ⟨hne, .inl ⟨loc.blk, _, rfl, hrun, leaveX_ok hcb hc he (hm.adv q1 hs) q2 (q1.reps hs hr) (fun k hk => ht k (Nat.le_trans (Nat.le_max_left _ _) hk)) (ha.trans q1) (Nat.le_trans hn (Nat.le_max_left _ _))⟩⟩
    · cases he
  | .fn f args :: ds, d :: dd, md, H, S, φ, w, he, hm, hs, hr, ht, ha, hn => by
    obtain ⟨⟨caps, da, rfl, hargs⟩, hm⟩ := hm
    have hne : modeF md ≠ .run := by cases md <;> simp [modeF]
    have key : ∀ (r : Bool) (H2 : Heap), cb (.df f md) args H = some (.bool r, H2) → leaveX cb fn env (if r then none else md) ds H2 = some (v, H') →
        LeavesInM Fence.wide 0 P g tmps (fun e w'' => FinE P S0 φ0 H0 w0 v H' e w'') ({ target := .fn (.func f) caps, args := da } :: dd) (modeF md) w := by
      intro r H2 e1 e2
      obtain ⟨k1, r', k2, k3⟩ := hcb.df f md args H _ H2 e1 S φ w _ hs ht hargs
      cases k2
      refine ⟨hne, .inr ⟨(fun hh => by cases hh), .func f, caps, f, da ++ caps, rfl, k1 _, fun g' _ => trivial, k3.mono ?_⟩⟩
      rintro e u' w' ⟨⟨vv, rfl⟩, h2, S2, φ2, adv, sim, top, nx⟩
      show LeavesInM Fence.wide 0 P g tmps _ dd (settle u') w'
      rw [h2]
      exact leaveX_ok hcb hc e2 (hm.adv adv hs) sim (adv.reps hs hr) top (ha.trans adv) (Nat.le_trans hn nx)
    simp only [leaveX] at he
    split at he
    · rename_i H2 e1; exact key true H2 e1 he
    · rename_i H2 e1; exact key false H2 e1 he
    · cases he
  | [], _ :: _, _, _, _, _, _, _, hm, _, _, _, _, _ => hm.elim
  | _ :: _, [], _, _, _, _, _, _, hm, _, _, _, _, _ => hm.elim
theorem LeavesInM.mono {F : Fence} {n : Nat} {fn : Func} {tmps : Array Value} {R R' : Ending → World → Prop} (hR : ∀ e w, R e w → R' e w) : ∀ {ds : List Deferred} {u : FrameMode} {w : World}, LeavesInM F n P fn tmps R ds u w → LeavesInM F n P fn tmps R' ds u w
  | [], u, w, h => by
    cases u with
    | run => exact h.elim
    | returning => obtain ⟨v, h1, h2⟩ := h; exact ⟨v, h1, hR _ _ h2⟩
    | panicking chain => exact hR _ _ h
  | d :: ds, u, w, ⟨hu, h⟩ => by
    refine ⟨hu, ?_⟩
    rcases h with ⟨r, w', h1, h2, h3⟩ | ⟨h1, fv, cap, f, args, h2, h3, h4, h5⟩
    · exact .inl ⟨r, w', h1, h2, LeavesInM.mono hR h3⟩
    · refine .inr ⟨h1, fv, cap, f, args, h2, h3, h4, h5.mono fun e u' w' hq => ?_⟩
      cases e with
      | returned v => exact LeavesInM.mono hR hq
      | panicked ch => exact LeavesInM.mono hR hq
      | outgrown => exact hR _ _ hq
theorem begin_inv {f : FuncId} {fn : IFn} {g : Func} {args : List AV} {H : Heap} {S : Nat → Prop} {φ : Phi} {w : World} {vargs : Array Value} (g6 : fn.ntmps = g.ntmps) (hs : Sim P S φ (hget H) w) (htop : ∀ id, H.nx ≤ id → φ id = none) (hargs : Reps w S φ args vargs) :
    InvR P S φ w ⟨⟨args ++ List.replicate (fn.ntmps - args.length) undefA, H⟩, []⟩ { tmps := vargs ++ Array.replicate (g.ntmps - vargs.size) undef, defers := [] } := by
  refine ⟨⟨hs, ?_, htop⟩, trivial⟩
  rw [g6, hargs.1]
  refine hargs.append ⟨by simp, fun i c v e1 e2 => ?_⟩
  have h1 : c = undefA := List.eq_of_mem_replicate (List.mem_of_getElem? e1)
  have h2 : v = undef := by
    rw [Array.getElem?_replicate] at e2
    split at e2
    · cases e2; rfl
    · cases e2
  rw [h1, h2]; exact undef_rep
theorem callBody_ok (hT : TOK P T) (hm : P.follows .mixedOrders = true) {cb : Cb} (hcb : CbOK P cb) {m : Nat} {f : FuncId} {args : List AV} {H H' : Heap} {v : AV} (h : callBody T m cb f args H = some (v, H')) {S : Nat → Prop} {φ : Phi} {w : World} {vargs : Array Value} (hs : Sim P S φ (hget H) w) (htop : ∀ id, H.nx ≤ id → φ id = none) (hargs : Reps w S φ args vargs) :
    Calls P f vargs w fun e w' => FinE P S φ H w v H' e w' := by
  unfold callBody at h
  split at h
  · cases h
  · rename_i fn hfn
    obtain ⟨g, c, g1, g2, g3, g4, g5, g6⟩ := cFn_spec (hT f fn hfn)
    have hI := begin_inv (f := f) (fn := fn) (g := g) g6 hs htop hargs
    cases hrun : run T cb m none fn.body ⟨⟨args ++ List.replicate (fn.ntmps - args.length) undefA, H⟩, []⟩ with
    | none => rw [hrun] at h; cases h
    | some p =>
      obtain ⟨ex, r⟩ := p
      rw [hrun] at h
      refine (callsIn_wide (n := 0)).1 (callsIn_of_wp_marks g1 g3 trivial (run_sound hT hcb hm m none .wide c fn.body g4 _ ex r hrun S φ w _ rfl hI _ fun a' w' hR => ?_))
      obtain ⟨S', φ', k1, k2, k4⟩ := hR
      have ret : (match leaveF fn r with
          | some q => some q
          | none => leaveX cb fn r.st.env none r.ds r.st.H) = some (v, H') → LeavesInM Fence.wide 0 P g a'.tmps (fun e w'' => FinE P S φ H w v H' e w'') a'.defers .returning w' := by
        intro he
        cases hl : leaveF fn r with
        | some q =>
          rw [hl] at he
          cases he
          have hlv := leave_fn (H := H) (w := w) (S := S) (φ := φ) g5 hl k1 k2 k4
          exact LeavesInM.mono (fun e w'' hq => .inl hq) hlv
        | none =>
          rw [hl] at he
          exact leaveX_ok hcb g5 he k1.mrk k1.inv.sim k1.inv.env k1.inv.top k2 k4
      cases ex with
      | exit id => cases h
      | normal => exact ret h
      | ret => exact ret h
      | pan p => exact leaveX_ok hcb g5 h k1.mrk k1.inv.sim k1.inv.env k1.inv.top k2 k4
/-! Deferred calls -/
def frM (md : Option Value) (r : Bool) : FrameMode :=
  match md with
  | none => .returning
  | some p => .panicking [{ v := p, recovered := r }]
theorem frM_settle (md : Option Value) (r : Bool) (hr : r = true → md.isSome = true) : settle (frM md r) = modeF (if r then none else md) := by
  cases md with
  | none => cases r with
    | false => rfl
    | true => exact absurd (hr rfl) (by simp)
  | some p => cases r <;> rfl
theorem ofPan_rep {w : World} {S : Nat → Prop} {φ : Phi} {p : Value} {a : AV} (h : ofPan p = some a) : Rep w S φ a p := by
  unfold ofPan at h
  split at h
  · simp only [Option.map_eq_some_iff] at h
    obtain ⟨b, h1, rfl⟩ := h
    exact .ifc (ofValue1_rep h1).1
  · cases h
theorem isMv_spec {io : PO} {x : Arg} (h : isMv io = some x) : io = .mv x := by
  unfold isMv at h
  split at h
  · cases h; rfl
  · cases h
theorem isRcv_spec {io : PO} (h : isRcv io = true) : io = .rcv := by
  unfold isRcv at h
  split at h
  · rfl
  · cases h
theorem reg_rec {ops : Array Oper} {md : Option Value} {c0 : Frame} {cs : List Frame} {Q : Exit → Act → List Frame → World → Prop} : ∀ (n k : Nat) (ios : List IOp) (r r' : Bool) (st st' : St) (S : Nat → Prop) (φ : Phi) (w : World) (a : Act), k + n = ops.size → cOpers P ops (ops.toList.drop k) k = some ios → evalR md ios r st = some (r', st') →
    Inv P S φ w st a → (r = true → md.isSome = true) → (∀ a' , (r' = true → md.isSome = true) → Inv P S φ w st' a' → a'.defers = a.defers → st'.H = st.H → Q .normal a' ({ c0 with mode := frM md r' } :: cs) w) → wpOpsSIn Fence.wide 0 P ops Q (List.range' k n) a ({ c0 with mode := frM md r } :: cs) w
  | 0, k, ios, r, r', st, st', S, φ, w, a, hk, hc, he, hI, hr, hQ => by
    have : ops.toList.drop k = [] := by simp; omega
    rw [this] at hc
    cases hc; cases he
    exact hQ a hr hI rfl rfl
  | n + 1, k, ios, r, r', st, st', S, φ, w, a, hk, hc, he, hI, hr, hQ => by
    have hlt : k < ops.size := by omega
    have hd : ops.toList.drop k = ops[k] :: ops.toList.drop (k + 1) := by rw [List.drop_eq_getElem_cons (by simpa using hlt)]; simp
    rw [hd] at hc
    simp only [cOpers] at hc
    split at hc
    · rename_i io ios' h1 h2
      cases hc
      obtain ⟨d1, d2, d3⟩ := cOper_op h1
      have ho : ops[k]? = some ops[k] := by simp [hlt]
      have hw := wanted_eq h1 hI.env
      simp only [List.range'_succ, wpOpsSIn, ho]
      refine ⟨fun f _ => trivial, ?_⟩
      simp only [evalR] at he
      split at he
      · rename_i hwant
        rw [hwant] at hw
        rw [if_pos hw.symm]
        cases hcop : cOp P ops[k].op with
        | none =>
          rw [hcop] at d2
          have d2 : io.op = .bad := d2
          simp [d2, isMv, isRcv] at he
        | some oo =>
          rw [hcop] at d2
          have d2 : io.op = oo := d2
          rw [d2] at he
          split at he
          · rename_i x hx
            have hx := isMv_spec hx
            subst hx
            have hex : ∃ y, execOp a.eval ops[k] = pure (.value (a.eval y)) ∧ cOpd y = some x := by
              obtain ⟨y, hy | hy⟩ := cOp_mv hcop rfl
              · refine ⟨y, by unfold execOp; simp only [hy], ?_⟩
                rw [hy] at hcop
                simpa [cOp] using hcop
              · refine ⟨y, by unfold execOp; simp only [hy], ?_⟩
                rw [hy] at hcop
                simpa [cOp] using hcop
            obtain ⟨y, e1, e2⟩ := hex
            rw [e1]
            rw [d1] at he
            refine reg_rec n (k + 1) ios' r r' _ st' S φ w _ (by omega) h2 he ⟨hI.sim, reps_put hI.env (arg_rep hI.env e2) _, hI.top⟩ hr fun a' q1 q2 q3 q4 => hQ a' q1 q2 (q3.trans (put_defers _ _ _)) q4
          · split at he
            · rename_i hrc
              have hx := isRcv_spec hrc
              subst hx
              have hex : (execOp a.eval ops[k]).run P w = .ok .recover w := by
                obtain ⟨c, hcl⟩ := cOp_rcv hcop rfl
                have hcb : c.callee = .builtin .recover := by
                  rw [hcl] at hcop
                  simp only [cOp] at hcop
                  split at hcop
                  · rename_i b args hcal hargs
                    unfold cBuiltin at hcop
                    repeat' (first | (cases hcop; done) | (exact hcal) | split at hcop)
                    all_goals (first
                      | (cases hcop; done)
                      | (simp only [Option.map_eq_some_iff] at hcop; obtain ⟨_, _, h3⟩ := hcop; cases h3; done))
                  · cases hcop
                  · simp only [Option.map_eq_some_iff] at hcop; obtain ⟨_, _, h3⟩ := hcop; cases h3
                  · simp only [Option.map_eq_some_iff] at hcop; obtain ⟨_, _, h3⟩ := hcop; cases h3
                  · cases hcop
                obtain ⟨consts, hx⟩ := builtin_exec (a := a) hcl hcb
                rw [hx]
                simp [invoke, builtin]
              rw [hex]
              rw [d1] at he
              split at he
              · rename_i p hp
                split at he
                · rename_i v hv
                  have hmd : md = some p ∧ r = false := by
                    cases r
                    · exact ⟨by simpa using hp, rfl⟩
                    · simp at hp
                  obtain ⟨rfl, rfl⟩ := hmd
                  show wpOpsSIn Fence.wide 0 P ops Q _ _ ({ c0 with mode := frM (some p) true } :: cs) w
                  exact reg_rec n (k + 1) ios' true r' _ st' S φ w _ (by omega) h2 he ⟨hI.sim, reps_put hI.env (ofPan_rep hv) _, hI.top⟩ (fun _ => rfl) fun a' q1 q2 q3 q4 => hQ a' q1 q2 (q3.trans (put_defers _ _ _)) q4
                · cases he
              · rename_i hp
                have hrec : recoverD ({ c0 with mode := frM md r } :: cs) = none := by
                  cases md with
                  | none => rfl
                  | some p => cases r with
                    | true => rfl
                    | false => simp at hp
                show (match recoverD ({ c0 with mode := frM md r } :: cs) with
                  | some (v, cs') => _
                  | none => _)
                rw [hrec]
                exact reg_rec n (k + 1) ios' r r' _ st' S φ w _ (by omega) h2 he ⟨hI.sim, reps_put hI.env .ifcN _, hI.top⟩ hr fun a' q1 q2 q3 q4 => hQ a' q1 q2 (q3.trans (put_defers _ _ _)) q4
            · cases he
      · rename_i hwant
        have hwant' : wantedA st.env io.guard = false := by simpa using hwant
        rw [hwant'] at hw
        rw [if_neg (by rw [← hw]; simp)]
        rw [d1] at he
        exact reg_rec n (k + 1) ios' r r' _ st' S φ w _ (by omega) h2 he ⟨hI.sim, reps_put hI.env undef_rep _, hI.top⟩ hr fun a' q1 q2 q3 q4 => hQ a' q1 q2 (q3.trans (put_defers _ _ _)) q4
    · cases hc
/-- Behind code of a deferred function. -/
def RchS (P : Program) (S : Nat → Prop) (φ : Phi) (w : World) (st st' : St) (a' : Act) (w' : World) : Prop :=
  ∃ S' φ', Inv P S' φ' w' st' a' ∧ Adv S φ (hget st.H) w S' φ' (hget st'.H) w' ∧ a'.defers = [] ∧ st.H.nx ≤ st'.H.nx
theorem via_run (hT : TOK P T) (hm : P.follows .mixedOrders = true) {cb : Cb} (hcb : CbOK P cb) {m : Nat} {md : Option Value} {c : Code} {ic : IC} (hc : cCode P c = some ic) {st : St} {ex : Ex} {q : RSt} (h : run T cb m none ic ⟨st, []⟩ = some (ex, q)) (hq : q.ds.isEmpty = true) {S : Nat → Prop} {φ : Phi} {w : World} {a : Act} (hI : Inv P S φ w st a) (ha : a.defers = [])
    {cs : List Frame} {Q : Exit → Act → List Frame → World → Prop} (hQ : ∀ a' w', RchS P S φ w st q.st a' w' → Q ex.to a' cs w') : c.wpSIn Fence.wide 0 P Q a cs w := by
  refine wpSIn_of_wpIn rfl (run_sound hT hcb hm m none .wide c ic hc _ ex q h S φ w a rfl ⟨hI, by show Marks w S φ [] a.defers; rw [ha]; trivial⟩ _ fun a' w' hR => ?_)
  obtain ⟨S', φ', k1, k2, k4⟩ := hR
  refine hQ a' w' ⟨S', φ', k1.inv, k2, ?_, k4⟩
  have := k1.mrk
  rw [List.isEmpty_iff.1 hq] at this
  cases hd : a'.defers with
  | nil => rfl
  | cons x xs => rw [hd] at this; exact this.elim
theorem runR_ok (hT : TOK P T) (hm : P.follows .mixedOrders = true) {cb : Cb} (hcb : CbOK P cb) {m : Nat} {md : Option Value} {c0 : Frame} {cs : List Frame} : ∀ (c : Code) (ic : IC), cCode P c = some ic → ∀ (r : Bool) (st : St) (ex : Ex) (r' : Bool) (st' : St), runR T cb m md ic r st = some (ex, r', st') →
    ∀ (S : Nat → Prop) (φ : Phi) (w : World) (a : Act), Inv P S φ w st a → a.defers = [] → (r = true → md.isSome = true) → ∀ Q : Exit → Act → List Frame → World → Prop, (∀ a' w', (r' = true → md.isSome = true) → RchS P S φ w st st' a' w' → Q ex.to a' ({ c0 with mode := frM md r' } :: cs) w') →
    c.wpSIn Fence.wide 0 P Q a ({ c0 with mode := frM md r } :: cs) w := by
  have other : ∀ (c : Code) (ic : IC), cCode P c = some ic → ∀ (r : Bool) (st : St) (ex : Ex) (r' : Bool) (st' : St), (match run T cb m none ic ⟨st, []⟩ with
      | some (ex, q) => if q.ds.isEmpty then some (ex, r, q.st) else none
      | none => none) = some (ex, r', st') →
      ∀ (S : Nat → Prop) (φ : Phi) (w : World) (a : Act), Inv P S φ w st a → a.defers = [] → (r = true → md.isSome = true) → ∀ Q : Exit → Act → List Frame → World → Prop, (∀ a' w', (r' = true → md.isSome = true) → RchS P S φ w st st' a' w' → Q ex.to a' ({ c0 with mode := frM md r' } :: cs) w') →
      c.wpSIn Fence.wide 0 P Q a ({ c0 with mode := frM md r } :: cs) w := by
    intro c ic hc r st ex r' st' h S φ w a hI ha hr Q hQ
    split at h
    · rename_i ex1 q e1
      split at h
      · rename_i hq
        cases h
        exact via_run (md := md) hT hm hcb hc e1 hq hI ha fun a' w' hR => hQ a' w' hr hR
      · cases h
    · cases h
  intro c
  induction c with
  | seq x y ihx ihy =>
    intro ic hc r st ex r' st' h S φ w a hI ha hr Q hQ
    simp only [cCode] at hc
    split at hc
    · rename_i ia ib h1 h2
      cases hc
      simp only [runR] at h
      cases e1 : runR T cb m md ia r st with
      | none => rw [e1] at h; cases h
      | some p =>
        obtain ⟨ex1, r1, st1⟩ := p
        rw [e1] at h
        refine wpSIn_seq (ihx ia h1 r st ex1 r1 st1 e1 S φ w a hI ha hr _ fun a' w' hr1 hR => ?_)
        cases ex1 with
        | normal =>
          obtain ⟨S', φ', k1, k2, k3, k4⟩ := hR
          refine ihy ib h2 r1 st1 ex r' st' h S' φ' w' a' k1 k3 hr1 Q fun a'' w'' hr2 hR2 => hQ a'' w'' hr2 ?_
          obtain ⟨S'', φ'', l1, l2, l3, l4⟩ := hR2
          exact ⟨S'', φ'', l1, k2.trans l2, l3, Nat.le_trans k4 l4⟩
        | exit id => cases h; exact hQ a' w' hr1 hR
        | ret => cases h; exact hQ a' w' hr1 hR
        | pan p => cases h; exact hQ a' w' hr1 hR
    · cases hc
  | region id ops draw =>
    intro ic hc r st ex r' st' h S φ w a hI ha hr Q hQ
    have hc0 := hc
    simp only [cCode] at hc
    split at hc
    · rename_i os hos
      cases draw with
      | true =>
        simp only [if_true] at hc
        split at hc
        · cases hc
          simp only [runR] at h
          split at h
          · simp at h
          · exact other _ _ hc0 r st ex r' st' h S φ w a hI ha hr Q hQ
        · cases hc
      | false =>
        simp only [Bool.false_eq_true, if_false] at hc
        cases hc
        simp only [runR] at h
        split at h
        · simp only [Bool.false_eq_true, if_false, Option.map_eq_some_iff] at h
          obtain ⟨p, e1, h2⟩ := h
          cases h2
          refine wpSIn_region ?_
          rw [List.range_eq_range']
          refine reg_rec ops.size 0 os r p.1 st p.2 S φ w a (by omega) (by simpa using hos) e1 hI hr fun a' q1 q2 q3 q4 => ?_

          exact hQ a' w q1 ⟨S, φ, q2, by rw [q4]; exact Adv.refl _ _ _ _, q3.trans ha, by rw [q4]; exact Nat.le_refl _⟩
        · exact other _ _ hc0 r st ex r' st' h S φ w a hI ha hr Q hQ
    · cases hc
  | _ =>
    intro ic hc r st ex r' st' h S φ w a hI ha hr Q hQ
    have hc0 := hc
    refine other _ _ hc0 r st ex r' st' ?_ S φ w a hI ha hr Q hQ
    simp only [cCode] at hc
    first
      | (cases hc; exact h)
      | (repeat' (first | (cases hc; done) | split at hc)
         all_goals (cases hc; exact h))
      | (simp only [Option.map_eq_some_iff] at hc; obtain ⟨_, _, rfl⟩ := hc; exact h)
theorem callDef_ok (hT : TOK P T) (hm : P.follows .mixedOrders = true) {cb : Cb} (hcb : CbOK P cb) {m : Nat} {f : FuncId} {md : Option Value} {args : List AV} {H H' : Heap} {v : AV} (h : callDef T m cb f md args H = some (v, H')) {S : Nat → Prop} {φ : Phi} {w : World} {vargs : Array Value} (hs : Sim P S φ (hget H) w) (htop : ∀ id, H.nx ≤ id → φ id = none) (hargs : Reps w S φ args vargs) :
    (∀ us, (callFunc f us).run P w = .ok (.enter f us) w) ∧ ∃ r, v = .bool r ∧ CallsDIn Fence.wide 0 P f vargs (modeF md) w fun e u' w' => (∃ vv, e = .returned vv) ∧ settle u' = modeF (if r then none else md) ∧ Left P S φ H w H' w' := by
  unfold callDef at h
  split at h
  · cases h
  · rename_i fn hfn
    obtain ⟨g, c, g1, g2, g3, g4, g5, g6⟩ := cFn_spec (hT f fn hfn)
    refine ⟨fun us => run_callFunc g1 g2 g3 us, ?_⟩
    have hI := begin_inv (f := f) (fn := fn) (g := g) g6 hs htop hargs
    have plain : ∀ (ex : Ex) (r : RSt), run T cb m none fn.body ⟨⟨args ++ List.replicate (fn.ntmps - args.length) undefA, H⟩, []⟩ = some (ex, r) → (ex = .normal ∨ ex = .ret) → r.ds.isEmpty = true → ∀ vs, resL r.st fn.res = some vs →
        CallsDIn Fence.wide 0 P f vargs (modeF md) w fun e u' w' => (∃ vv, e = .returned vv) ∧ settle u' = modeF md ∧ Left P S φ H w r.st.H w' := by
      intro ex r hrun hex hds vs hvs
      refine (callsDIn_of_wp (R := fun e w' => (∃ vv, e = .returned vv) ∧ Left P S φ H w r.st.H w') g1 g3 trivial (run_sound hT hcb hm m none .wide c fn.body g4 _ ex r hrun S φ w _ rfl hI _ fun a' w' hR => ?_)).mono ?_
      · obtain ⟨S', φ', k1, k2, k4⟩ := hR
        have hmk := k1.mrk
        rw [List.isEmpty_iff.1 hds] at hmk
        have hd : a'.defers = [] := by
          cases hd : a'.defers with
          | nil => rfl
          | cons x xs => rw [hd] at hmk; exact hmk.elim
        obtain ⟨vv, q1, q2⟩ := results_run (P := P) g5 hvs k1.inv
        have : bodyPost P g (fun e w' => (∃ vv, e = .returned vv) ∧ Left P S φ H w r.st.H w') .ret a' w' := ⟨hd, vv, q1, ⟨vv, rfl⟩, S', φ', k2, k1.inv.sim, k1.inv.top, k4⟩
        rcases hex with rfl | rfl
        · exact this
        · exact this
      · rintro e u' w' ⟨rfl, h1, h2⟩
        exact ⟨h1, settle_modeF md, h2⟩
    split at h
    · rename_i r hrun
      split at h
      · rename_i hds
        simp only [Option.map_eq_some_iff] at h
        obtain ⟨vs, h1, h2⟩ := h
        cases h2
        exact ⟨false, rfl, plain _ r hrun (.inl rfl) hds vs h1⟩
      · cases h
    · rename_i r hrun
      split at h
      · rename_i hds
        simp only [Option.map_eq_some_iff] at h
        obtain ⟨vs, h1, h2⟩ := h
        cases h2
        exact ⟨false, rfl, plain _ r hrun (.inr rfl) hds vs h1⟩
      · cases h
    · cases h
    · have recv : ∀ (ex : Ex) (r : Bool) (st : St), runR T cb m md fn.body false ⟨args ++ List.replicate (fn.ntmps - args.length) undefA, H⟩ = some (ex, r, st) → (ex = .normal ∨ ex = .ret) → ∀ vs, resL st fn.res = some vs →
          CallsDIn Fence.wide 0 P f vargs (modeF md) w fun e u' w' => (∃ vv, e = .returned vv) ∧ settle u' = modeF (if r then none else md) ∧ Left P S φ H w st.H w' := by
        intro ex r st hrun hex vs hvs
        refine callsDIn_of_wpSIn g1 g3 trivial fun c0 cs hu => ?_
        have hc0 : ({ c0 with mode := frM md false } : Frame) = c0 := by
          have : frM md false = modeF md := by cases md <;> rfl
          rw [this, ← hu]
        have hw := runR_ok (c0 := c0) (cs := cs) hT hm hcb c fn.body g4 false _ ex r st hrun S φ w _ hI.inv rfl (fun hh => by cases hh) (bodyPostS P g c0 cs fun e u' w' => (∃ vv, e = .returned vv) ∧ settle u' = modeF (if r then none else md) ∧ Left P S φ H w st.H w') (fun a' w' hr hR => by
          obtain ⟨S', φ', k1, k2, k3, k4⟩ := hR
          obtain ⟨vv, q1, q2⟩ := results_run (P := P) g5 hvs k1
          have : bodyPostS P g c0 cs (fun e u' w' => (∃ vv, e = .returned vv) ∧ settle u' = modeF (if r then none else md) ∧ Left P S φ H w st.H w') .ret a' ({ c0 with mode := frM md r } :: cs) w' :=
            ⟨k3, frM md r, rfl, vv, q1, ⟨vv, rfl⟩, frM_settle md r hr, S', φ', k2, k1.sim, k1.top, k4⟩
          rcases hex with rfl | rfl
          · exact this
          · exact this)
        rw [hc0] at hw
        exact hw
      split at h
      · rename_i r st hrun
        simp only [Option.map_eq_some_iff] at h
        obtain ⟨vs, h1, h2⟩ := h
        cases h2
        exact ⟨r, rfl, recv _ r st hrun (.inl rfl) vs h1⟩
      · rename_i r st hrun
        simp only [Option.map_eq_some_iff] at h
        obtain ⟨vs, h1, h2⟩ := h
        cases h2
        exact ⟨r, rfl, recv _ r st hrun (.inr rfl) vs h1⟩
      · cases h
theorem callPure_ok (hT : TOK P T) (hm : P.follows .mixedOrders = true) {cb : Cb} (hcb : CbOK P cb) {m : Nat} {f : FuncId} {args : List AV} {H' : Heap} {t : AV} (h : pureR (callBody T m cb f args noH) = some (t, H')) : PuOK P f args t := by
  intro Sc w us hs hargs
  cases hb : callBody T m cb f args noH with
  | none => rw [hb] at h; cases h
  | some p =>
    obtain ⟨v, H1⟩ := p
    rw [hb] at h
    simp only [pureR] at h
    split at h
    · rename_i t' ids e1
      split at h
      · rename_i hnd
        cases h
        refine (callBody_ok hT hm hcb hb hs (fun _ _ => rfl) hargs).mono ?_
        rintro e w' (⟨vv, rfl, S', φ', adv, sim, rep, -, -⟩ | ⟨p, rfl, -⟩)
        · exact ⟨vv, rfl, v, H1, ids, S', φ', adv, sim, rep, e1, hnd⟩
        · simp [detach, detach1, detachC, AV.noId] at e1
      · cases h
    · cases h
theorem callRound_ok (hT : TOK P T) (hm : P.follows .mixedOrders = true) {cb : Cb} (hcb : CbOK P cb) {m : Nat} {id : Nat} {args : List AV} {H H' : Heap} {v : AV} (h : callRound T m cb id args H = some (v, H')) {S : Nat → Prop} {φ : Phi} {w : World} {vargs : Array Value} {loc : Loc} (hs : Sim P S φ (hget H) w) (htop : ∀ id, H.nx ≤ id → φ id = none) (hargs : Reps w S φ args vargs) (hφ : φ id = some loc) :
    ∃ fn tmps a b, (Instr.yield loc.blk vargs).run P w = .ok (.round loc.blk fn tmps a b) w ∧ RoundIn Fence.wide 0 P loc.blk fn tmps a b w fun e w' => ∃ vv, e = .returned vv ∧ Fin P S φ H w v H' vv w' := by
  unfold callRound at h
  split at h
  · rename_i env ps ia ib st pend d hb
    split at h
    · rename_i hlen
      obtain ⟨loc', g1, g2, -⟩ := hs.blk id _ hb
      rw [hφ] at g1; cases g1
      obtain ⟨r0, f1, f2, f3, f4, f5, f6, f7, ld, f8, f9⟩ := g2
      have hsz : vargs.size = r0.params.size := by rw [hargs.1, hlen, ← f3]; simp
      refine ⟨r0.fn, _, r0.assign, r0.body, run_yield f1 hsz, ?_⟩
      have henv : Reps w S φ (setPs env ps args) ((r0.params.zip vargs).foldl (fun tmps (t, a) => tmps.setIfInBounds t a) r0.tmps) := by
        have := setPs_rep (ps := ps) (us := vargs.toList) hlen f2 (by simpa using hargs)
        rw [← f3] at this ⊢
        have e : (r0.params.zip vargs).foldl (fun tmps (t, a) => tmps.setIfInBounds t a) r0.tmps = (r0.params.toList.zip vargs.toList).foldl (fun tmps (t, a) => tmps.setIfInBounds t a) r0.tmps := by
          rw [← Array.foldl_toList, Array.toList_zip]
        rw [e]; exact this
      split at h
      · rename_i r1 h1
        split at h
        · rename_i r2 h2
          split at h
          · rename_i ex r3 h3
            have hI : InvR P S φ w ⟨⟨setPs env ps args, H⟩, []⟩ { tmps := (r0.params.zip vargs).foldl (fun tmps (t, a) => tmps.setIfInBounds t a) r0.tmps, defers := [] } := ⟨⟨hs, henv, htop⟩, trivial⟩
            refine roundIn_of_wpIn trivial (run_sound hT hcb hm m (some id) _ r0.assign ia f4 _ _ _ h1 S φ w _ ⟨loc, hφ, rfl⟩ hI _ fun a1 w1 hR => ?_)
            obtain ⟨S1, φ1, k1, k2, k4⟩ := hR
            -- the round begins
            unfold enterR at h2
            split at h2
            · rename_i env' ps' a' b' pend' d' hb1
              cases h2
              have hφ1 := k2.phi _ _ hφ
              obtain ⟨loc', g1, g2, -⟩ := k1.inv.sim.blk id _ hb1
              rw [hφ1] at g1; cases g1
              obtain ⟨r01, e1, e2, e3, e4, e5, e6, e7, ld', e8, e9⟩ := g2
              have hbeg := run_beginRound (P := P) e1 e6
              obtain ⟨q1, q2⟩ := put_sim (P := P) (b' := some (.loop env' ps' a' b' .busy pend' d')) (o := .loop { r01 with state := .busy }) k1.inv.sim hb1 hφ1 (shape_loop e1) (fun x hx adv => by
                cases hx
                exact ⟨_, World.putObj_heap_same (k1.inv.sim.lt hb1 hφ1), adv.reps k1.inv.sim e2, e3, e4, e5, rfl, e7, ld', e8, e9⟩)
              rw [← hget_wr1 r1.st.H id _ 0] at q1 q2
              refine ⟨_, hbeg, ?_⟩
              have hI2 : InvR P S1 φ1 (w1.putObj loc.blk (.loop { r01 with state := .busy })) ⟨⟨r1.st.env, wrH r1.st.H [(id, some (.loop env' ps' a' b' .busy pend' d'))] 0⟩, r1.ds⟩ a1 :=
                ⟨⟨q2, q1.reps k1.inv.sim k1.inv.env, fun k hk => k1.inv.top k (Nat.le_trans (Nat.le_max_left _ _) hk)⟩, k1.mrk.adv q1 k1.inv.sim⟩
              refine run_sound hT hcb hm m (some id) _ r0.body ib f5 _ _ _ h3 S1 φ1 _ _ ⟨loc, hφ1, rfl⟩ hI2 _ fun a2 w2 hR2 => ?_
              obtain ⟨S2, φ2, l1, l2, l4⟩ := hR2
              have hφ2 := l2.phi _ _ hφ1
              have hall : Adv S φ (hget H) w S2 φ2 (hget r3.st.H) w2 := (k2.trans q1).trans l2
              have hnx : H.nx ≤ r3.st.H.nx := Nat.le_trans (Nat.le_trans k4 (Nat.le_max_left _ _)) l4
              unfold leaveR at h
              split at h
              · rename_i env3 ps3 a3 b3 pend3 d3 hb3
                obtain ⟨loc', g1, g2, -⟩ := l1.inv.sim.blk id _ hb3
                rw [hφ2] at g1; cases g1
                obtain ⟨r03, m1, m2, m3, m4, m5, m6, m7, ld3, m8, m9⟩ := g2
                have fin : ∀ (st' : LoopState) (pend' : Ex), Fin P S φ H w v (wrH r3.st.H [(id, some (.loop env3 ps3 a3 b3 st' pend' d3))] 0) (.bool (pend'.code.isNone)) (w2.putObj loc.blk (.loop { r03 with state := st', pending := pend'.code })) ∨ v ≠ .bool pend'.code.isNone := by
                  intro st' pend'
                  by_cases hv : v = .bool pend'.code.isNone
                  · subst hv
                    obtain ⟨q1, q2⟩ := put_sim (P := P) (b' := some (.loop env3 ps3 a3 b3 st' pend' d3)) (o := .loop { r03 with state := st', pending := pend'.code }) l1.inv.sim hb3 hφ2 (shape_loop m1) (fun x hx adv => by
                      cases hx
                      exact ⟨_, World.putObj_heap_same (l1.inv.sim.lt hb3 hφ2), adv.reps l1.inv.sim m2, m3, m4, m5, rfl, rfl, ld3, m8, m9⟩)
                    rw [← hget_wr1 r3.st.H id _ 0] at q1 q2
                    exact .inl ⟨S2, φ2, hall.trans q1, q2, .bool, fun k hk => l1.inv.top k (Nat.le_trans (Nat.le_max_left _ _) hk), Nat.le_trans hnx (Nat.le_max_left _ _)⟩
                  · exact .inr hv
                cases ex with
                | normal =>
                  cases h
                  exact ⟨_, _, run_endRound none m1, _, rfl, (fin .ready .normal).resolve_right (by simp [Ex.code])⟩
                | pan p => cases h
                | ret =>
                  cases h
                  exact ⟨_, _, run_endRound (some .ret) m1, _, rfl, (fin .done .ret).resolve_right (by simp [Ex.code])⟩
                | exit id' =>
                  cases h
                  exact ⟨_, _, run_endRound (some (.exit id')) m1, _, rfl, (fin .done (.exit id')).resolve_right (by simp [Ex.code])⟩
              · cases h
            · cases h2
          · cases h
        · cases h
      · cases h
    · cases h
  · cases h
/-! What is known of calls already -/
/-- A call on a memory that is known. -/
def FnOK (P : Program) (k : MemoF) : Prop := ∀ S φ w vargs, Sim P S φ (hget k.H) w → (∀ id, k.H.nx ≤ id → φ id = none) → Reps w S φ k.args vargs → Calls P k.f vargs w fun e w' => FinE P S φ k.H w k.v k.H' e w'
theorem sameM_eq {a b : Option Blk} (h : sameM a b = true) : a = b := by
  unfold sameM at h
  split at h
  · rfl
  · exact sameB_eq h
theorem eqHp_eq {H K : Heap} (h : eqHp H K = true) : H = K := by
  obtain ⟨l, n⟩ := H
  obtain ⟨l', n'⟩ := K
  simp only [eqHp, Bool.and_eq_true] at h
  rw [eqLs_eq (fun a b => sameM_eq) h.2, Nat.eq_of_beq_eq_true h.1]
theorem eqVal_eq : ∀ {d : Nat} {p q : Value}, eqVal d p q = true → p = q
  | 0, _, _, h => by simp [eqVal] at h
  | d + 1, p, q, h => by
    unfold eqVal at h
    split at h
    · cases h
    · rename_i e; cases e
      simp only [Bool.and_eq_true, beq_iff_eq] at h
      rw [h.1, eqVal_eq h.2]
    · simp only [Bool.and_eq_true, beq_iff_eq] at h
      rw [h.1, h.2]
    · rfl
    · cases h
theorem eqP_eq {a b : AV} (h : eqP a b = true) : a = b := by
  unfold eqP at h
  split at h
  · rw [eqVal_eq h]
  · exact eqD_eq h
def MemosOK (P : Program) : MemT → Prop
  | .nil => True
  | .one k r => PuOK P k.f k.args k.t ∧ MemosOK P r
  | .oneF k r => FnOK P k ∧ MemosOK P r
  | .node _ l r => MemosOK P l ∧ MemosOK P r
theorem findT_ok {f : FuncId} {args : List AV} {key : Nat} {t : AV} : ∀ {L : MemT}, MemosOK P L → findT f args key L = some t → PuOK P f args t
  | .nil, _, h => by cases h
  | .one k r, hL, h => by
    simp only [findT, cond_eq_ite] at h
    split at h
    · rename_i hc
      cases h
      simp only [Bool.and_eq_true] at hc
      have := hL.1
      rwa [Nat.eq_of_beq_eq_true hc.1, List.reverse_inj.1 (eqLs_eq (fun a b => eqD_eq) hc.2)] at this
    · exact findT_ok hL.2 h
  | .oneF k r, hL, h => by
    simp only [findT] at h
    exact findT_ok hL.2 h
  | .node n l r, hL, h => by
    simp only [findT, cond_eq_ite] at h
    split at h
    · exact findT_ok hL.1 h
    · exact findT_ok hL.2 h
theorem findM_ok {f : FuncId} {args : List AV} {t : AV} {L : MemT} (hL : MemosOK P L) (h : findM f args L = some t) : PuOK P f args t := findT_ok hL h
theorem findTF_ok {f : FuncId} {args : List AV} {H H' : Heap} {key : Nat} {v : AV} : ∀ {L : MemT}, MemosOK P L → findTF f args H key L = some (v, H') → FnOK P ⟨f, args, H, v, H'⟩
  | .nil, _, h => by cases h
  | .one k r, hL, h => by
    simp only [findTF] at h
    exact findTF_ok hL.2 h
  | .oneF k r, hL, h => by
    simp only [findTF, cond_eq_ite] at h
    split at h
    · rename_i hc
      cases h
      simp only [Bool.and_eq_true] at hc
      have h1 := Nat.eq_of_beq_eq_true hc.1
      have h2 := List.reverse_inj.1 (eqLs_eq (fun a b => eqD_eq) hc.2.1)
      have h3 := eqHp_eq hc.2.2
      have := hL.1
      obtain ⟨kf, ka, kH, kv, kH'⟩ := k
      dsimp only at h1 h2 h3 this ⊢
      subst h1 h2 h3
      exact this
    · exact findTF_ok hL.2 h
  | .node n l r, hL, h => by
    simp only [findTF, cond_eq_ite] at h
    split at h
    · exact findTF_ok hL.1 h
    · exact findTF_ok hL.2 h
theorem callFn_ok (hT : TOK P T) (hm : P.follows .mixedOrders = true) (m : Nat) {L : MemT} (hL : MemosOK P L) : ∀ n, CbOK P (callFn T m L n)
  | 0 => ⟨fun f args H v H' h => (by cases h), fun f md args H v H' h => (by cases h), fun f args H v H' h => (by cases h), fun id args H v H' h => (by cases h)⟩
  | n + 1 => by
    have hcb := callFn_ok hT hm m hL n
    refine ⟨fun f args H v H' h S φ w vargs hs htop hargs => ?_, fun f md args H v H' h S φ w vargs hs htop hargs => callDef_ok hT hm hcb h hs htop hargs, fun f args H t H' h => ?_, fun id args H v H' h S φ w vargs loc hs htop hargs hφ => callRound_ok hT hm hcb h hs htop hargs hφ⟩
    · simp only [callFn] at h
      split at h
      · rename_i q e1; cases h; exact findTF_ok hL e1 S φ w vargs hs htop hargs
      · exact callBody_ok hT hm hcb h hs htop hargs
    simp only [callFn] at h
    split at h
    · rename_i t' e1; cases h; exact findM_ok hL e1
    · exact callPure_ok hT hm hcb h
end Go.V
/- What data and known values stand for among the evaluator's values. -/
set_option linter.unusedVariables false
set_option linter.unusedSimpArgs false
namespace Go.Q
open Go.V

/-! Pointwise -/
inductive F2 {α β : Type} (R : α → β → Prop) : List α → List β → Prop
  | nil : F2 R [] []
  | cons {a : α} {b : β} {as : List α} {bs : List β} : R a b → F2 R as bs → F2 R (a :: as) (b :: bs)
section
variable {α β : Type} {R S : α → β → Prop}
theorem F2.len : ∀ {as : List α} {bs : List β}, F2 R as bs → as.length = bs.length
  | _, _, .nil => rfl
  | _, _, .cons _ h => by simp [h.len]
theorem F2.get : ∀ {as : List α} {bs : List β}, F2 R as bs → ∀ {i : Nat} {a : α}, as[i]? = some a → ∃ b, bs[i]? = some b ∧ R a b
  | _, _, .cons h t, 0, a, e => by cases e; exact ⟨_, rfl, h⟩
  | _, _, .cons h t, i + 1, a, e => by simpa using t.get (i := i) (by simpa using e)
theorem F2.getr : ∀ {as : List α} {bs : List β}, F2 R as bs → ∀ {i : Nat} {b : β}, bs[i]? = some b → ∃ a, as[i]? = some a ∧ R a b
  | _, _, .cons h t, 0, a, e => by cases e; exact ⟨_, rfl, h⟩
  | _, _, .cons h t, i + 1, a, e => by simpa using t.getr (i := i) (by simpa using e)
theorem F2.of_get : ∀ {as : List α} {bs : List β}, as.length = bs.length → (∀ (i : Nat) a b, as[i]? = some a → bs[i]? = some b → R a b) → F2 R as bs
  | [], [], _, _ => .nil
  | a :: as, b :: bs, hl, h => .cons (h 0 a b rfl rfl) (F2.of_get (by simpa using hl) fun i a b h1 h2 => h (i + 1) a b (by simpa using h1) (by simpa using h2))
theorem F2.mono (hRS : ∀ a b, R a b → S a b) : ∀ {as : List α} {bs : List β}, F2 R as bs → F2 S as bs
  | _, _, .nil => .nil
  | _, _, .cons h t => .cons (hRS _ _ h) (t.mono hRS)
theorem F2.monoMem : ∀ {as : List α} {bs : List β}, (∀ a ∈ as, ∀ b ∈ bs, R a b → S a b) → F2 R as bs → F2 S as bs
  | _, _, _, .nil => .nil
  | _, _, hRS, .cons h t => .cons (hRS _ (by simp) _ (by simp) h) (t.monoMem fun a ha b hb => hRS a (by simp [ha]) b (by simp [hb]))
theorem F2.append : ∀ {as cs : List α} {bs ds : List β}, F2 R as bs → F2 R cs ds → F2 R (as ++ cs) (bs ++ ds)
  | _, _, _, _, .nil, h => h
  | _, _, _, _, .cons h t, h' => .cons h (t.append h')
theorem F2.take : ∀ {as : List α} {bs : List β} (n : Nat), F2 R as bs → F2 R (as.take n) (bs.take n)
  | _, _, _, .nil => by simpa using F2.nil
  | _, _, 0, .cons h t => .nil
  | _, _, n + 1, .cons h t => .cons h (t.take n)
theorem F2.drop : ∀ {as : List α} {bs : List β} (n : Nat), F2 R as bs → F2 R (as.drop n) (bs.drop n)
  | _, _, _, .nil => by simpa using F2.nil
  | _, _, 0, .cons h t => .cons h t
  | _, _, n + 1, .cons h t => by simpa using t.drop n
theorem F2.set {a : α} {b : β} (hab : R a b) : ∀ {as : List α} {bs : List β} (n : Nat), F2 R as bs → F2 R (as.set n a) (bs.set n b)
  | _, _, _, .nil => by simpa using F2.nil
  | _, _, 0, .cons h t => .cons hab t
  | _, _, n + 1, .cons h t => .cons h (t.set hab n)
theorem F2.replicate {a : α} {b : β} (hab : R a b) : ∀ n, F2 R (List.replicate n a) (List.replicate n b)
  | 0 => .nil
  | n + 1 => .cons hab (F2.replicate hab n)
theorem F2.single {a : α} {b : β} (h : R a b) : F2 R [a] [b] := .cons h .nil
theorem F2.map {γ δ : Type} {Q : γ → δ → Prop} {f : α → γ} {g : β → δ} (h : ∀ a b, R a b → Q (f a) (g b)) : ∀ {as : List α} {bs : List β}, F2 R as bs → F2 Q (as.map f) (bs.map g)
  | _, _, .nil => .nil
  | _, _, .cons x t => .cons (h _ _ x) (t.map h)
theorem F2.inv_nil {bs : List β} (h : F2 R [] bs) : bs = [] := by cases h; rfl
theorem F2.inv_cons {a : α} {as : List α} {bs : List β} (h : F2 R (a :: as) bs) : ∃ b t, bs = b :: t ∧ R a b ∧ F2 R as t := by cases h with | cons h t => exact ⟨_, _, rfl, h, t⟩
theorem F2.inv_app : ∀ {as cs : List α} {bs : List β}, F2 R (as ++ cs) bs → ∃ x y, bs = x ++ y ∧ F2 R as x ∧ F2 R cs y
  | [], _, bs, h => ⟨[], bs, rfl, .nil, h⟩
  | a :: as, cs, bs, h => by
    obtain ⟨b, t, rfl, h1, h2⟩ := F2.inv_cons h
    obtain ⟨x, y, rfl, h3, h4⟩ := F2.inv_app h2
    exact ⟨b :: x, y, rfl, .cons h1 h3, h4⟩
end

/-! Data -/
/-- Data, as values that lie in no memory of one's own. -/
inductive RD : D → AV → Prop
  | int {k : IntKind} {n : Int} : RD (.int k n) (.int k n)
  | bool {b : Bool} : RD (.bool b) (.bool b)
  | str {s : ByteArray} : RD (.str s) (.str s)
  | nilP : RD .nilP .nilP
  | nilF : RD .nilF .nilF
  | node {ds : List D} {as : List AV} (h : F2 RD ds as) : RD (.node ds) (.agg as)
  | nilS : RD (.list []) .nilS
  | emp {z : Bool} : RD (.list []) (.emp z)
  | lst {sz : Nat} {xs : List (List D)} {as : List (List AV)} (hne : xs ≠ []) (hs : ∀ y ∈ as, y.length = sz ∧ y.all AV.one = true) (h : F2 (F2 RD) xs as) : RD (.list xs) (.lst sz as)
  | fn {f : FuncId} {a b : List D} {as bs : List AV} (h : F2 RD a as) (h' : F2 RD b bs) (hf : as.all AV.flat = true ∧ bs.all AV.flat = true) : RD (.fn f a b) (.fn f as bs)
abbrev Frz := Nat → Option (Nat × List (List AV))
/-- Data, parts of which lie in memory that nobody writes any more. -/
inductive RO (Φ : Frz) (A : Nat → Prop) : D → AV → Prop
  | b {d : D} {a : AV} (h : RD d a) : RO Φ A d a
  | own {id off sz : Nat} {rows : List (List AV)} {xs : List (List D)} (hΦ : Φ id = some (sz, rows)) (hA : A id) (hl : off + xs.length ≤ rows.length) (hs : ∀ y ∈ rows, y.length = sz ∧ y.all AV.one = true)
      (h : F2 (F2 (RO Φ A)) xs ((rows.drop off).take xs.length)) : RO Φ A (.list xs) (.own id off xs.length)
/-- Where a block lies: its place (none: nowhere, as it is empty), from which element on, how many elements; its root. -/
structure Pl where
  idc : Option Nat
  off : Nat
  len : Nat
  rt : Nat
structure Cx where
  Φ : Frz
  F0 : Nat → Prop
  ψ : Nat → Option Pl
  κ : List Nat
  ρ : List D
def Cx.okr (c : Cx) (rs : List Nat) (id : Nat) : Prop := c.F0 id ∨ ∃ s p, c.ψ s = some p ∧ p.idc = some id ∧ p.rt ∈ rs
/-- What a known value stands for. -/
inductive Cv (c : Cx) : SV → AV → Prop
  | e {x : E} {a : AV} (hx : x.upto c.ρ.length = true) (h : RD (x.den c.ρ) a) (h1 : a.one = true) : Cv c (.e x) a
  | fz {x : E} {rs : List Nat} {a : AV} (hx : x.upto c.ρ.length = true) (h : RO c.Φ (c.okr rs) (x.den c.ρ) a) (h1 : a.one = true) : Cv c (.fz x rs) a
  | agg {cs : List SV} {as : List AV} (h : F2 (Cv c) cs as) (h1 : as.all AV.one = true) : Cv c (.agg cs) (.agg as)
  | tup {cs : List SV} {as : List AV} (h : F2 (Cv c) cs as) : Cv c (.tup cs) (.tup as)
  | own {id x : Nat} {p : Pl} (hp : c.ψ id = some p) (hx : p.idc = some x) : Cv c (.own id) (.own x p.off p.len)
  | ownE {id : Nat} {p : Pl} {a : AV} (hp : c.ψ id = some p) (hl : p.len = 0) (ha : a = .nilS ∨ a = .emp true) : Cv c (.own id) a
  | nil : Cv c .nil .nilS
  | ptr {id j x : Nat} {p : Pl} (hp : c.ψ id = some p) (hx : p.idc = some x) : Cv c (.ptr id j) (.ptr x 0 j)
  | ptrO {id j x : Nat} {p : Pl} {i : E} {k : IntKind} {n : Int} (hp : c.ψ id = some p) (hx : p.idc = some x) (hi : i.upto c.ρ.length = true) (hn : i.den c.ρ = .int k n) (h0 : 0 ≤ n) (hl : n.toNat < p.len) :
      Cv c (.ptrO id i j) (.ptr x (p.off + n.toNat) j)
  | sufO {id : Nat} {lo : E} {p : Pl} {k : IntKind} {n : Int} {a : AV} (hp : c.ψ id = some p) (hi : lo.upto c.ρ.length = true) (hn : lo.den c.ρ = .int k n) (h0 : 0 ≤ n) (hl : n.toNat ≤ p.len)
      (ha : (∃ x, p.idc = some x ∧ a = .own x (p.off + n.toNat) (p.len - n.toNat)) ∨ (n.toNat = p.len ∧ (a = .nilS ∨ ∃ z, a = .emp z))) : Cv c (.sufO id lo) a
  | ptrE {x i : E} {j sz : Nat} {rs : Option (List Nat)} {xs : List (List D)} {rows : List (List AV)} {k : IntKind} {n : Int} (hx : x.upto c.ρ.length = true) (hi : i.upto c.ρ.length = true) (hd : x.den c.ρ = .list xs)
      (hn : i.den c.ρ = .int k n) (h0 : 0 ≤ n) (hl : n.toNat < xs.length) (hs : ∀ y ∈ rows, y.length = sz ∧ y.all AV.one = true) (h : F2 (F2 RD) xs rows) : Cv c (.ptrE x i j rs) (.ptrL sz rows n.toNat j)
  | ptrF {x i : E} {j sz id off : Nat} {rs : List Nat} {xs : List (List D)} {rows : List (List AV)} {k : IntKind} {n : Int} (hx : x.upto c.ρ.length = true) (hi : i.upto c.ρ.length = true) (hd : x.den c.ρ = .list xs)
      (hn : i.den c.ρ = .int k n) (h0 : 0 ≤ n) (hl : n.toNat < xs.length) (hΦ : c.Φ id = some (sz, rows)) (hA : c.okr rs id) (hl' : off + xs.length ≤ rows.length) (hs : ∀ y ∈ rows, y.length = sz ∧ y.all AV.one = true)
      (h : F2 (F2 (RO c.Φ (c.okr rs))) xs ((rows.drop off).take xs.length)) : Cv c (.ptrE x i j (some rs)) (.ptr id (off + n.toNat) j)
  | fn {f : FuncId} {a b : List SV} {as bs : List AV} (h : F2 (Cv c) a as) (h' : F2 (Cv c) b bs) : Cv c (.fn f a b) (.fn f as bs)
  | yld {k id : Nat} (h : c.κ[k]? = some id) : Cv c (.yld k) (.yld id)
  | unk {a : AV} : Cv c .unk a

theorem one_noPan {a : AV} (h : a.one = true) : a.isPan = false := by cases a <;> first | rfl | (simp [AV.one] at h)
theorem Cv.noPan {c : Cx} {v : SV} {a : AV} (h : Cv c v a) (hv : v ≠ .unk) : a.isPan = false := by
  cases h with
  | e _ _ h1 => exact one_noPan h1
  | fz _ _ h1 => exact one_noPan h1
  | ownE _ _ ha => rcases ha with rfl | rfl <;> rfl
  | sufO _ _ _ _ _ ha => rcases ha with ⟨x, _, rfl⟩ | ⟨_, rfl | ⟨z, rfl⟩⟩ <;> rfl
  | unk => exact absurd rfl hv
  | _ => rfl

/-! More is known -/
mutual
theorem E.den_app {n : Nat} {ρ e : List D} (hn : n ≤ ρ.length) : ∀ {x : E}, x.upto n = true → x.den (ρ ++ e) = x.den ρ
  | .v k, h => by
    have : k < ρ.length := by have := of_decide_eq_true h; omega
    simp [E.den, List.getD_eq_getElem?_getD, List.getElem?_append_left this]
  | .c d, _ => rfl
  | .cell x j, h => by simp [E.den, E.den_app hn (x := x) h]
  | .node xs, h => by simp [E.den, denL_app hn (xs := xs) h]
  | .fn f a b, h => by
    simp only [E.upto, Bool.and_eq_true] at h
    simp [E.den, denL_app hn (xs := a) h.1, denL_app hn (xs := b) h.2]
theorem denL_app {n : Nat} {ρ e : List D} (hn : n ≤ ρ.length) : ∀ {xs : List E}, uptoL n xs = true → denL (ρ ++ e) xs = denL ρ xs
  | [], _ => rfl
  | x :: xs, h => by
    simp only [uptoL, Bool.and_eq_true] at h
    simp [denL, E.den_app hn (x := x) h.1, denL_app hn (xs := xs) h.2]
end
mutual
theorem E.upto_mono {n m : Nat} (hn : n ≤ m) : ∀ {x : E}, x.upto n = true → x.upto m = true
  | .v k, h => by have := of_decide_eq_true h; exact decide_eq_true (by omega)
  | .c d, _ => rfl
  | .cell x j, h => E.upto_mono hn (x := x) h
  | .node xs, h => uptoL_mono hn (xs := xs) h
  | .fn f a b, h => by
    simp only [E.upto, Bool.and_eq_true] at h ⊢
    exact ⟨uptoL_mono hn (xs := a) h.1, uptoL_mono hn (xs := b) h.2⟩
theorem uptoL_mono {n m : Nat} (hn : n ≤ m) : ∀ {xs : List E}, uptoL n xs = true → uptoL m xs = true
  | [], _ => rfl
  | x :: xs, h => by
    simp only [uptoL, Bool.and_eq_true] at h ⊢
    exact ⟨E.upto_mono hn (x := x) h.1, uptoL_mono hn (xs := xs) h.2⟩
end
structure Cx.le (c c' : Cx) : Prop where
  Φ : ∀ id x, c.Φ id = some x → c'.Φ id = some x
  F0 : c'.F0 = c.F0
  ψ : ∀ id p, c.ψ id = some p → c'.ψ id = some p
  κ : c'.κ = c.κ
  ρ : ∃ e, c'.ρ = c.ρ ++ e
theorem Cx.le.refl (c : Cx) : c.le c := ⟨fun _ _ h => h, rfl, fun _ _ h => h, rfl, [], by simp⟩
theorem Cx.le.trans {a b c : Cx} (h : a.le b) (h' : b.le c) : a.le c :=
  ⟨fun i x e => h'.Φ i x (h.Φ i x e), h'.F0.trans h.F0, fun i x e => h'.ψ i x (h.ψ i x e), h'.κ.trans h.κ, by
    obtain ⟨e, h1⟩ := h.ρ; obtain ⟨e', h2⟩ := h'.ρ; exact ⟨e ++ e', by rw [h2, h1, List.append_assoc]⟩⟩
theorem Cx.le.len {c c' : Cx} (h : c.le c') : c.ρ.length ≤ c'.ρ.length := by obtain ⟨e, h1⟩ := h.ρ; rw [h1]; simp
theorem Cx.le.den {c c' : Cx} (h : c.le c') {x : E} (hx : x.upto c.ρ.length = true) : x.den c'.ρ = x.den c.ρ := by
  obtain ⟨e, h1⟩ := h.ρ; rw [h1]; exact E.den_app (Nat.le_refl _) hx
theorem Cx.le.denL {c c' : Cx} (h : c.le c') {xs : List E} (hx : uptoL c.ρ.length xs = true) : Go.Q.denL c'.ρ xs = Go.Q.denL c.ρ xs := by
  obtain ⟨e, h1⟩ := h.ρ; rw [h1]; exact denL_app (Nat.le_refl _) hx
theorem Cx.le.upto {c c' : Cx} (h : c.le c') {x : E} (hx : x.upto c.ρ.length = true) : x.upto c'.ρ.length = true := E.upto_mono h.len hx
theorem Cx.le.okr {c c' : Cx} (h : c.le c') {rs : List Nat} {id : Nat} (hx : c.okr rs id) : c'.okr rs id := by
  rcases hx with h1 | ⟨s, p, h1, h2, h3⟩
  · exact .inl (by rw [h.F0]; exact h1)
  · exact .inr ⟨s, p, h.ψ _ _ h1, h2, h3⟩
mutual
theorem RO.mono {Φ Φ' : Frz} {A A' : Nat → Prop} (hΦ : ∀ id x, Φ id = some x → Φ' id = some x) (hA : ∀ id, A id → A' id) : ∀ {d : D} {a : AV}, RO Φ A d a → RO Φ' A' d a
  | _, _, .b h => .b h
  | _, _, .own h1 h2 h3 h4 h5 => .own (hΦ _ _ h1) (hA _ h2) h3 h4 (RO.monoLL hΦ hA h5)
theorem RO.monoL {Φ Φ' : Frz} {A A' : Nat → Prop} (hΦ : ∀ id x, Φ id = some x → Φ' id = some x) (hA : ∀ id, A id → A' id) : ∀ {d : List D} {a : List AV}, F2 (RO Φ A) d a → F2 (RO Φ' A') d a
  | _, _, .nil => .nil
  | _, _, .cons h t => .cons (RO.mono hΦ hA h) (RO.monoL hΦ hA t)
theorem RO.monoLL {Φ Φ' : Frz} {A A' : Nat → Prop} (hΦ : ∀ id x, Φ id = some x → Φ' id = some x) (hA : ∀ id, A id → A' id) : ∀ {d : List (List D)} {a : List (List AV)}, F2 (F2 (RO Φ A)) d a → F2 (F2 (RO Φ' A')) d a
  | _, _, .nil => .nil
  | _, _, .cons h t => .cons (RO.monoL hΦ hA h) (RO.monoLL hΦ hA t)
end
mutual
theorem Cv.mono {c c' : Cx} (h : c.le c') : ∀ {v : SV} {a : AV}, Cv c v a → Cv c' v a
  | _, _, .e hx h1 h2 => .e (h.upto hx) (by rw [h.den hx]; exact h1) h2
  | _, _, .fz hx h1 h2 => .fz (h.upto hx) (by rw [h.den hx]; exact h1.mono h.Φ fun id => h.okr) h2
  | _, _, .agg h1 h2 => .agg (Cv.monoL h h1) h2
  | _, _, .tup h1 => .tup (Cv.monoL h h1)
  | _, _, .own h1 h2 => .own (h.ψ _ _ h1) h2
  | _, _, .ownE h1 h2 h3 => .ownE (h.ψ _ _ h1) h2 h3
  | _, _, .nil => .nil
  | _, _, .ptr h1 h2 => .ptr (h.ψ _ _ h1) h2
  | _, _, .ptrO h1 h2 hi h3 h4 h5 => .ptrO (h.ψ _ _ h1) h2 (h.upto hi) (by rw [h.den hi]; exact h3) h4 h5
  | _, _, .sufO h1 hi h3 h4 h5 ha => .sufO (h.ψ _ _ h1) (h.upto hi) (by rw [h.den hi]; exact h3) h4 h5 ha
  | _, _, .ptrE hx hi h1 h2 h3 h4 h5 h6 => .ptrE (h.upto hx) (h.upto hi) (by rw [h.den hx]; exact h1) (by rw [h.den hi]; exact h2) h3 h4 h5 h6
  | _, _, .ptrF hx hi h1 h2 h3 h4 h5 h6 h7 h8 h9 => .ptrF (h.upto hx) (h.upto hi) (by rw [h.den hx]; exact h1) (by rw [h.den hi]; exact h2) h3 h4 (h.Φ _ _ h5) (h.okr h6) h7 h8 (RO.monoLL h.Φ (fun id => h.okr) h9)
  | _, _, .fn h1 h2 => .fn (Cv.monoL h h1) (Cv.monoL h h2)
  | _, _, .yld h1 => .yld (by rw [h.κ]; exact h1)
  | _, _, .unk => .unk
theorem Cv.monoL {c c' : Cx} (h : c.le c') : ∀ {v : List SV} {a : List AV}, F2 (Cv c) v a → F2 (Cv c') v a
  | _, _, .nil => .nil
  | _, _, .cons h1 t => .cons (Cv.mono h h1) (Cv.monoL h t)
end
end Go.Q
/- How a state that is known in part stands to the evaluator's state. -/
set_option linter.unusedVariables false
set_option linter.unusedSimpArgs false
namespace Go.Q
open Go.V

/-- What waits, in the evaluator's terms: the slots of a caller; the record of a loop over a function. -/
inductive FC where
  | call (as : List AV)
  | rng (id : Nat) (as : List AV) (ps : List Nat) (a b : IC) (d : Nat)
def RF (c : Cx) (H : Heap) (fr : Fr) : FC → Prop
  | .call as => F2 (Cv c) fr.env as
  | .rng id as ps a b d => hget H id = some (.loop as ps a b fr.st fr.pend d) ∧ F2 (Cv c) fr.env as
/-- Cells of a list. -/
def Rk (c : Cx) : Option (List Nat) → D → AV → Prop
  | none => RD
  | some rs => RO c.Φ (c.okr rs)
def BOK (c : Cx) (H : Heap) (p : Pl) : SB → Prop
  | .cells cs => ∃ x as, p.idc = some x ∧ hget H x = some (.row cs.length [as]) ∧ F2 (Cv c) cs as ∧ as.all AV.one = true
  | .list sz x dp => ∃ xs, x.upto c.ρ.length = true ∧ x.den c.ρ = .list xs ∧ xs.length = p.len ∧ (p.idc = none → p.len = 0) ∧
      ∀ y, p.idc = some y → ∃ rows, hget H y = some (.row sz rows) ∧ p.off + p.len ≤ rows.length ∧ (∀ r ∈ rows, r.length = sz ∧ r.all AV.one = true) ∧ F2 (F2 (Rk c dp)) xs ((rows.drop p.off).take p.len)
def rngIds : List FC → List Nat
  | [] => []
  | .call _ :: K => rngIds K
  | .rng id _ _ _ _ _ :: K => id :: rngIds K
structure Rel (c : Cx) (S : SS) (env : List AV) (H : Heap) (K : List FC) (mk : List Nat) : Prop where
  n : S.n = c.ρ.length
  env : F2 (Cv c) S.env env
  stk : F2 (RF c H) S.stk K
  hlen : ∀ id p, c.ψ id = some p → id < S.heap.length
  heap : ∀ id h, S.heap[id]? = some h → ∃ p, c.ψ id = some p ∧ p.rt = h.rt ∧ ∀ b, h.b = some b → BOK c H p b ∧ ∀ x, p.idc = some x → c.Φ x = none
  inj : ∀ i i' p p' x b b', bget S.heap i = some b → bget S.heap i' = some b' → c.ψ i = some p → c.ψ i' = some p' → p.idc = some x → p'.idc = some x → i = i'
  rt : ∀ i i' p p' x, c.ψ i = some p → c.ψ i' = some p' → p.idc = some x → p'.idc = some x → p.rt = p'.rt
  bnd : ∀ i p x, c.ψ i = some p → p.idc = some x → x < H.nx
  frz : ∀ x sz rows, c.Φ x = some (sz, rows) → hget H x = some (.row sz rows) ∧ x < H.nx
  f0 : ∀ x, c.F0 x → c.Φ x ≠ none
  rngs : (rngIds K).Nodup ∧ ∀ id ∈ rngIds K, id < H.nx
  mks : mk.Nodup ∧ ∀ d ∈ mk, hget H d = some .mark ∧ d < H.nx

variable {c c' : Cx} {S : SS} {env : List AV} {H H' : Heap} {K : List FC} {mk : List Nat}
theorem Rk.mono (h : c.le c') {dp : Option (List Nat)} {d : D} {a : AV} (hk : Rk c dp d a) : Rk c' dp d a := by
  cases dp with
  | none => exact hk
  | some rs => exact RO.mono h.Φ (fun _ => h.okr) hk
theorem BOK.mono (h : c.le c') {p : Pl} {b : SB} (hb : BOK c H p b) : BOK c' H p b := by
  cases b with
  | cells cs => obtain ⟨x, as, h1, h2, h3, h4⟩ := hb; exact ⟨x, as, h1, h2, Cv.monoL h h3, h4⟩
  | list sz x dp =>
    obtain ⟨xs, h1, h2, h3, h4, h5⟩ := hb
    refine ⟨xs, h.upto h1, by rw [h.den h1]; exact h2, h3, h4, fun y hy => ?_⟩
    obtain ⟨rows, g1, g2, g3, g4⟩ := h5 y hy
    exact ⟨rows, g1, g2, g3, g4.mono fun _ _ => F2.mono fun _ _ => Rk.mono h⟩
theorem BOK.mem {p : Pl} {b : SB} (hb : BOK c H p b) (hk : ∀ x, p.idc = some x → hget H' x = hget H x) : BOK c H' p b := by
  cases b with
  | cells cs => obtain ⟨x, as, h1, h2, h3, h4⟩ := hb; exact ⟨x, as, h1, by rw [hk x h1]; exact h2, h3, h4⟩
  | list sz x dp =>
    obtain ⟨xs, h1, h2, h3, h4, h5⟩ := hb
    refine ⟨xs, h1, h2, h3, h4, fun y hy => ?_⟩
    obtain ⟨rows, g1, g2⟩ := h5 y hy
    exact ⟨rows, by rw [hk y hy]; exact g1, g2⟩
theorem BOK.row {p : Pl} {b : SB} (hb : BOK c H p b) {x : Nat} (hx : p.idc = some x) : ∃ s rows, hget H x = some (.row s rows) := by
  cases b with
  | cells cs => obtain ⟨y, as, h1, h2, h3, h4⟩ := hb; rw [hx] at h1; cases h1; exact ⟨_, _, h2⟩
  | list sz x dp => obtain ⟨xs, h1, h2, h3, h4, h5⟩ := hb; obtain ⟨rows, g1, -⟩ := h5 _ hx; exact ⟨_, _, g1⟩
theorem RF.mono (h : c.le c') {fr : Fr} {k : FC} (hf : RF c H fr k) : RF c' H fr k := by
  cases k with
  | call as => exact Cv.monoL h hf
  | rng id as ps a b d => exact ⟨hf.1, Cv.monoL h hf.2⟩
theorem RF.memL : ∀ {frs : List Fr} {K : List FC}, (∀ id ∈ rngIds K, hget H' id = hget H id) → F2 (RF c H) frs K → F2 (RF c H') frs K
  | _, _, _, .nil => .nil
  | _, .call as :: K, hk, .cons h t => .cons h (RF.memL (K := K) (fun id hid => hk id (by simpa [rngIds] using hid)) t)
  | _, .rng id as ps a b d :: K, hk, .cons h t => .cons ⟨by rw [hk id (by simp [rngIds])]; exact h.1, h.2⟩ (RF.memL (K := K) (fun id hid => hk id (by simp [rngIds, hid])) t)
theorem rng_at : ∀ {frs : List Fr} {K : List FC}, F2 (RF c H) frs K → ∀ id ∈ rngIds K, ∃ as ps a b st pd d, hget H id = some (.loop as ps a b st pd d)
  | _, _, .nil, _, h => by cases h
  | _, .call as :: K, .cons h t, id, hid => rng_at t id (by simpa [rngIds] using hid)
  | _, .rng i as ps a b d :: K, .cons h t, id, hid => by
    simp only [rngIds, List.mem_cons] at hid
    rcases hid with rfl | hid
    · exact ⟨_, _, _, _, _, _, _, h.1⟩
    · exact rng_at t id hid
theorem bget_some {heap : List HB} {i : Nat} {b : SB} : bget heap i = some b ↔ ∃ h, heap[i]? = some h ∧ h.b = some b := by
  unfold bget
  constructor
  · intro h
    split at h
    · rename_i r b' e; cases h; exact ⟨_, e, rfl⟩
    · cases h
  · rintro ⟨⟨r, b'⟩, h1, h2⟩
    simp only at h2; subst h2; rw [h1]
theorem Rel.blk (r : Rel c S env H K mk) {i : Nat} {b : SB} (hb : bget S.heap i = some b) : ∃ p, c.ψ i = some p ∧ p.rt = rtOf S.heap i ∧ BOK c H p b ∧ ∀ x, p.idc = some x → c.Φ x = none := by
  obtain ⟨h, h1, h2⟩ := bget_some.1 hb
  obtain ⟨p, g1, g2, g3⟩ := r.heap i h h1
  exact ⟨p, g1, by simp [rtOf, h1, g2], (g3 b h2).1, (g3 b h2).2⟩
/-- Memory changes where nothing is known of it, or at blocks that are told anew. -/
theorem Rel.mem {heap' : List HB} (r : Rel c S env H K mk) (hle : c.le c') (hρ : c'.ρ = c.ρ) (W : Nat → Prop)
    (hW : ∀ x, W x → ∃ i p b, bget S.heap i = some b ∧ c.ψ i = some p ∧ p.idc = some x)
    (hk : ∀ x, x < H.nx → ¬ W x → hget H' x = hget H x) (hnx : H.nx ≤ H'.nx)
    (hlen : ∀ id p, c'.ψ id = some p → id < heap'.length)
    (heap : ∀ id h, heap'[id]? = some h → ∃ p, c'.ψ id = some p ∧ p.rt = h.rt ∧ ∀ b, h.b = some b → BOK c' H' p b ∧ ∀ x, p.idc = some x → c'.Φ x = none)
    (inj : ∀ i i' p p' x b b', bget heap' i = some b → bget heap' i' = some b' → c'.ψ i = some p → c'.ψ i' = some p' → p.idc = some x → p'.idc = some x → i = i')
    (rt : ∀ i i' p p' x, c'.ψ i = some p → c'.ψ i' = some p' → p.idc = some x → p'.idc = some x → p.rt = p'.rt)
    (bnd : ∀ i p x, c'.ψ i = some p → p.idc = some x → x < H'.nx)
    (frz : ∀ x sz rows, c'.Φ x = some (sz, rows) → c.Φ x = none → hget H' x = some (.row sz rows) ∧ x < H'.nx) :
    Rel c' { S with heap := heap' } env H' K mk := by
  have hrow : ∀ x, W x → ∃ s rows, hget H x = some (.row s rows) := fun x hx => by
    obtain ⟨i, p, b, h1, h2, h3⟩ := hW x hx
    obtain ⟨p', g1, g2, g3, g4⟩ := r.blk h1
    rw [h2] at g1; cases g1
    exact g3.row h3
  have hrng : ∀ id ∈ rngIds K, hget H' id = hget H id := fun id hid => hk id (r.rngs.2 id hid) fun hw => by
    obtain ⟨s, rows, e⟩ := hrow id hw
    obtain ⟨as, ps, a, b, st, pd, d, e'⟩ := rng_at r.stk id hid
    rw [e] at e'; cases e'
  refine ⟨by rw [hρ]; exact r.n, Cv.monoL hle r.env, RF.memL hrng (r.stk.mono fun _ _ => RF.mono hle), hlen, heap, inj, rt, bnd, fun x sz rows hx => ?_, fun x hx => ?_, ⟨r.rngs.1, fun id hid => Nat.lt_of_lt_of_le (r.rngs.2 id hid) hnx⟩, r.mks.1, fun d hd => ?_⟩
  · cases e : c.Φ x with
    | none => exact frz x sz rows hx e
    | some y =>
      have := hle.Φ x y e
      rw [hx] at this; cases this
      obtain ⟨g1, g2⟩ := r.frz x sz rows e
      refine ⟨?_, Nat.lt_of_lt_of_le g2 hnx⟩
      rw [hk x g2 fun hw => by
        obtain ⟨i, p, b, h1, h2, h3⟩ := hW x hw
        obtain ⟨p', q1, q2, q3, q4⟩ := r.blk h1
        rw [h2] at q1; cases q1
        rw [q4 x h3] at e; cases e]
      exact g1
  · rw [hle.F0] at hx
    have := r.f0 x hx
    cases e : c.Φ x with
    | none => exact absurd e this
    | some y => rw [hle.Φ x y e]; simp
  · obtain ⟨g1, g2⟩ := r.mks.2 d hd
    refine ⟨?_, Nat.lt_of_lt_of_le g2 hnx⟩
    rw [hk d g2 fun hw => by
      obtain ⟨s, rows, e⟩ := hrow d hw
      rw [e] at g1; cases g1]
    exact g1
/-- A new block of memory, of which nothing is told yet. -/
theorem Rel.alloc (r : Rel c S env H K mk) (b : Option Blk) : Rel c S env (wrH H [(H.nx, b)] (H.nx + 1)) K mk := by
  have hg : ∀ x, x < H.nx → hget (wrH H [(H.nx, b)] (H.nx + 1)) x = hget H x := fun x hx => by
    rw [hget_wr1]; simp only; rw [if_neg (by omega)]
  have hn : H.nx ≤ (wrH H [(H.nx, b)] (H.nx + 1)).nx := by simp [wrH]
  have := r.mem (c' := c) (heap' := S.heap) (H' := wrH H [(H.nx, b)] (H.nx + 1)) (Cx.le.refl c) rfl (fun _ => False) (fun _ h => h.elim) (fun x hx _ => hg x hx) hn r.hlen
    (fun id h hh => by
      obtain ⟨p, g1, g2, g3⟩ := r.heap id h hh
      exact ⟨p, g1, g2, fun b hb => ⟨(g3 b hb).1.mem fun x hx => hg x (r.bnd _ _ _ g1 hx), (g3 b hb).2⟩⟩)
    r.inj r.rt (fun i p x h1 h2 => Nat.lt_of_lt_of_le (r.bnd i p x h1 h2) hn) (fun x sz rows h1 h2 => by rw [h1] at h2; cases h2)
  exact this
def Cx.add (c : Cx) (i : Nat) (p : Pl) : Cx := { c with ψ := fun k => if k = i then some p else c.ψ k }
theorem Rel.le_add (r : Rel c S env H K mk) (p : Pl) : c.le (c.add S.heap.length p) :=
  ⟨fun _ _ h => h, rfl, fun id q h => by
    have := r.hlen id q h
    simp only [Cx.add]; rw [if_neg (by omega)]; exact h, rfl, [], by simp [Cx.add]⟩
theorem getElem?_snoc {α : Type} {l : List α} {a : α} {i : Nat} {b : α} (h : (l ++ [a])[i]? = some b) : l[i]? = some b ∨ (i = l.length ∧ b = a) := by
  rcases Nat.lt_trichotomy i l.length with h1 | h1 | h1
  · rw [List.getElem?_append_left h1] at h; exact .inl h
  · subst h1; simp at h; exact .inr ⟨rfl, h.symm⟩
  · rw [List.getElem?_append_right (by omega), List.getElem?_eq_none (by simp; omega)] at h; cases h
/-- A block that is told. -/
theorem Rel.add (r : Rel c S env H K mk) (p : Pl) (b : SB)
    (hx : ∀ x, p.idc = some x → x < H.nx ∧ c.Φ x = none ∧ (∀ i q b', bget S.heap i = some b' → c.ψ i = some q → q.idc ≠ some x) ∧ (∀ i q, c.ψ i = some q → q.idc = some x → q.rt = p.rt))
    (hb : BOK c H p b) : Rel (c.add S.heap.length p) { S with heap := S.heap ++ [⟨p.rt, some b⟩] } env H K mk := by
  have hle := r.le_add p
  have hψ : ∀ i q, (c.add S.heap.length p).ψ i = some q → (c.ψ i = some q ∧ i < S.heap.length) ∨ (i = S.heap.length ∧ q = p) := fun i q h => by
    simp only [Cx.add] at h
    split at h
    · rename_i e; cases h; exact .inr ⟨e, rfl⟩
    · exact .inl ⟨h, r.hlen _ _ h⟩
  have hbg : ∀ i b', bget (S.heap ++ [⟨p.rt, some b⟩]) i = some b' → bget S.heap i = some b' ∨ i = S.heap.length := fun i b' h => by
    obtain ⟨h', g1, g2⟩ := bget_some.1 h
    rcases getElem?_snoc g1 with g1 | ⟨g1, -⟩
    · exact .inl (bget_some.2 ⟨h', g1, g2⟩)
    · exact .inr g1
  refine r.mem hle rfl (fun _ => False) (fun _ h => h.elim) (fun _ _ _ => rfl) (Nat.le_refl _) ?_ ?_ ?_ ?_ ?_ ?_
  · intro i q h
    rcases hψ i q h with ⟨-, h1⟩ | ⟨h1, -⟩ <;> simp <;> omega
  · intro i h hh
    rcases getElem?_snoc hh with hh | ⟨rfl, rfl⟩
    · obtain ⟨q, g1, g2, g3⟩ := r.heap i h hh
      exact ⟨q, hle.ψ _ _ g1, g2, fun b hb => ⟨(g3 b hb).1.mono hle, (g3 b hb).2⟩⟩
    · exact ⟨p, by simp [Cx.add], rfl, fun b' e => by cases e; exact ⟨hb.mono hle, fun x h1 => (hx x h1).2.1⟩⟩
  · intro i i' q q' x b1 b2 h1 h2 h3 h4 h5 h6
    rcases hbg _ _ h1 with g1 | g1 <;> rcases hbg _ _ h2 with g2 | g2
    · rcases hψ _ _ h3 with ⟨e3, e3'⟩ | ⟨e3, e3'⟩
      · rcases hψ _ _ h4 with ⟨e4, e4'⟩ | ⟨e4, e4'⟩
        · exact r.inj _ _ _ _ _ _ _ g1 g2 e3 e4 h5 h6
        · subst e4; obtain ⟨h, k1, -⟩ := bget_some.1 g2; simp at k1
      · subst e3; obtain ⟨h, k1, -⟩ := bget_some.1 g1; simp at k1
    · subst g2
      rcases hψ _ _ h3 with ⟨e3, e3'⟩ | ⟨e3, e3'⟩
      · rcases hψ _ _ h4 with ⟨e4, e4'⟩ | ⟨e4, e4'⟩
        · omega
        · subst e4'; exact absurd h5 ((hx x h6).2.2.1 _ _ _ g1 e3)
      · exact e3
    · subst g1
      rcases hψ _ _ h4 with ⟨e4, e4'⟩ | ⟨e4, e4'⟩
      · rcases hψ _ _ h3 with ⟨e3, e3'⟩ | ⟨e3, e3'⟩
        · omega
        · subst e3'; exact absurd h6 ((hx x h5).2.2.1 _ _ _ g2 e4)
      · exact e4.symm
    · rw [g1, g2]
  · intro i i' q q' x h3 h4 h5 h6
    rcases hψ _ _ h3 with ⟨e3, e3'⟩ | ⟨e3, e3'⟩ <;> rcases hψ _ _ h4 with ⟨e4, e4'⟩ | ⟨e4, e4'⟩
    · exact r.rt _ _ _ _ _ e3 e4 h5 h6
    · subst e4'; exact (hx x h6).2.2.2 _ _ e3 h5
    · subst e3'; exact ((hx x h5).2.2.2 _ _ e4 h6).symm
    · rw [e3', e4']
  · intro i q x h1 h2
    rcases hψ _ _ h1 with ⟨e3, e3'⟩ | ⟨e3, e3'⟩
    · exact r.bnd _ _ _ e3 h2
    · subst e3'; exact (hx x h2).1
  · intro x sz rows h1 h2; rw [show (c.add S.heap.length p).Φ = c.Φ from rfl] at h1; rw [h1] at h2; cases h2
theorem hput_at {heap : List HB} {id : Nat} {b : Option SB} {i : Nat} {h : HB} (hh : (hput heap id b)[i]? = some h) : (i ≠ id ∧ heap[i]? = some h) ∨ (i = id ∧ h = ⟨rtOf heap id, b⟩ ∧ id < heap.length) := by
  unfold hput at hh
  by_cases e : i = id
  · subst e
    by_cases hl : i < heap.length
    · rw [List.getElem?_set_self hl] at hh; cases hh; exact .inr ⟨rfl, rfl, hl⟩
    · rw [List.getElem?_eq_none (by simp; omega)] at hh; cases hh
  · rw [List.getElem?_set_ne (fun h => e h.symm)] at hh; exact .inl ⟨e, hh⟩
theorem hput_len {heap : List HB} {id : Nat} {b : Option SB} : (hput heap id b).length = heap.length := by simp [hput]
theorem bget_put {heap : List HB} {id : Nat} {b : Option SB} {i : Nat} {b' : SB} (h : bget (hput heap id b) i = some b') : (i ≠ id ∧ bget heap i = some b') ∨ (i = id ∧ b = some b') := by
  obtain ⟨h', g1, g2⟩ := bget_some.1 h
  rcases hput_at g1 with ⟨e, g⟩ | ⟨e, rfl, -⟩
  · exact .inl ⟨e, bget_some.2 ⟨h', g, g2⟩⟩
  · exact .inr ⟨e, g2⟩
/-- A block of which nothing is told any more. -/
theorem Rel.drop (r : Rel c S env H K mk) (id : Nat) : Rel c { S with heap := hput S.heap id none } env H K mk := by
  refine r.mem (Cx.le.refl c) rfl (fun _ => False) (fun _ h => h.elim) (fun _ _ _ => rfl) (Nat.le_refl _) (fun i p h => by rw [hput_len]; exact r.hlen i p h) ?_ ?_ r.rt r.bnd (fun x sz rows h1 h2 => by rw [h1] at h2; cases h2)
  · intro i h hh
    rcases hput_at hh with ⟨e, g⟩ | ⟨rfl, rfl, hl⟩
    · exact r.heap i h g
    · obtain ⟨p, g1, g2, g3⟩ := r.heap i _ (List.getElem?_eq_getElem hl)
      exact ⟨p, g1, by rw [g2]; simp [rtOf, List.getElem?_eq_getElem hl], fun b e => by cases e⟩
  · intro i i' p p' x b b' h1 h2 h3 h4 h5 h6
    rcases bget_put h1 with ⟨-, g1⟩ | ⟨-, e⟩
    · rcases bget_put h2 with ⟨-, g2⟩ | ⟨-, e⟩
      · exact r.inj _ _ _ _ _ _ _ g1 g2 h3 h4 h5 h6
      · cases e
    · cases e
/-- A block is told anew, its memory written. -/
theorem Rel.put (r : Rel c S env H K mk) {id : Nat} {b : SB} {p : Pl} {x : Nat} (hb : bget S.heap id = some b) (hp : c.ψ id = some p) (hx : p.idc = some x) (b' : SB) (o : Option Blk) (hb' : BOK c (wrH H [(x, o)] H.nx) p b') :
    Rel c { S with heap := hput S.heap id (some b') } env (wrH H [(x, o)] H.nx) K mk := by
  have hg : ∀ y, y ≠ x → hget (wrH H [(x, o)] H.nx) y = hget H y := fun y hy => by rw [hget_wr1]; simp only; rw [if_neg hy]
  have hn : (wrH H [(x, o)] H.nx).nx = H.nx := by simp [wrH]
  obtain ⟨p', q1, q2, q3, q4⟩ := r.blk hb
  rw [hp] at q1; cases q1
  refine r.mem (Cx.le.refl c) rfl (fun y => y = x) (fun y h => ⟨id, p, b, hb, hp, by rw [h]; exact hx⟩) (fun y _ hy => hg y hy) (by rw [hn]; exact Nat.le_refl _) (fun i p h => by rw [hput_len]; exact r.hlen i p h) ?_ ?_ r.rt (by rw [hn]; exact r.bnd) (fun x sz rows h1 h2 => by rw [h1] at h2; cases h2)
  · intro i h hh
    rcases hput_at hh with ⟨e, g⟩ | ⟨rfl, rfl, hl⟩
    · obtain ⟨q, g1, g2, g3⟩ := r.heap i h g
      refine ⟨q, g1, g2, fun b1 hb1 => ⟨(g3 b1 hb1).1.mem fun y hy => hg y ?_, (g3 b1 hb1).2⟩⟩
      rintro rfl
      exact e (r.inj _ _ _ _ _ _ _ (bget_some.2 ⟨h, g, hb1⟩) hb g1 hp hy hx)
    · exact ⟨p, hp, q2, fun b1 e => by cases e; exact ⟨hb', q4⟩⟩
  · intro i i' q q' y b1 b2 h1 h2 h3 h4 h5 h6
    have k1 : ∃ b, bget S.heap i = some b := by
      rcases bget_put h1 with ⟨-, g1⟩ | ⟨rfl, e⟩
      · exact ⟨_, g1⟩
      · exact ⟨_, hb⟩
    have k2 : ∃ b, bget S.heap i' = some b := by
      rcases bget_put h2 with ⟨-, g1⟩ | ⟨rfl, e⟩
      · exact ⟨_, g1⟩
      · exact ⟨_, hb⟩
    obtain ⟨_, k1⟩ := k1; obtain ⟨_, k2⟩ := k2
    exact r.inj _ _ _ _ _ _ _ k1 k2 h3 h4 h5 h6
/-- A block is told anew, memory stays. -/
theorem Rel.swap (r : Rel c S env H K mk) {id : Nat} {b : SB} {p : Pl} (hb : bget S.heap id = some b) (hp : c.ψ id = some p) (b' : SB) (hb' : BOK c H p b') : Rel c { S with heap := hput S.heap id (some b') } env H K mk := by
  obtain ⟨p', q1, q2, q3, q4⟩ := r.blk hb
  rw [hp] at q1; cases q1
  refine r.mem (Cx.le.refl c) rfl (fun _ => False) (fun _ h => h.elim) (fun _ _ _ => rfl) (Nat.le_refl _) (fun i p h => by rw [hput_len]; exact r.hlen i p h) ?_ ?_ r.rt r.bnd (fun x sz rows h1 h2 => by rw [h1] at h2; cases h2)
  · intro i h hh
    rcases hput_at hh with ⟨e, g⟩ | ⟨rfl, rfl, hl⟩
    · exact r.heap i h g
    · exact ⟨p, hp, q2, fun b1 e => by cases e; exact ⟨hb', q4⟩⟩
  · intro i i' q q' y b1 b2 h1 h2 h3 h4 h5 h6
    have k1 : ∃ b, bget S.heap i = some b := by
      rcases bget_put h1 with ⟨-, g1⟩ | ⟨rfl, e⟩
      · exact ⟨_, g1⟩
      · exact ⟨_, hb⟩
    have k2 : ∃ b, bget S.heap i' = some b := by
      rcases bget_put h2 with ⟨-, g1⟩ | ⟨rfl, e⟩
      · exact ⟨_, g1⟩
      · exact ⟨_, hb⟩
    obtain ⟨_, k1⟩ := k1; obtain ⟨_, k2⟩ := k2
    exact r.inj _ _ _ _ _ _ _ k1 k2 h3 h4 h5 h6
def Cx.frz (c : Cx) (x : Nat) (o : Nat × List (List AV)) : Cx := { c with Φ := fun k => if k = x then some o else c.Φ k }
/-- A list that is written no more. -/
theorem Rel.freeze (r : Rel c S env H K mk) {id : Nat} {b : SB} {p : Pl} {x : Nat} (hb : bget S.heap id = some b) (hp : c.ψ id = some p) (hx : p.idc = some x) {sz : Nat} {rows : List (List AV)} (hr : hget H x = some (.row sz rows)) :
    c.le (c.frz x (sz, rows)) ∧ Rel (c.frz x (sz, rows)) { S with heap := hput S.heap id none } env H K mk := by
  obtain ⟨p', q1, q2, q3, q4⟩ := r.blk hb
  rw [hp] at q1; cases q1
  have hle : c.le (c.frz x (sz, rows)) := ⟨fun i y h => by
    simp only [Cx.frz]; split
    · rename_i e; subst e; rw [q4 _ hx] at h; cases h
    · exact h, rfl, fun _ _ h => h, rfl, [], by simp [Cx.frz]⟩
  refine ⟨hle, r.mem hle rfl (fun _ => False) (fun _ h => h.elim) (fun _ _ _ => rfl) (Nat.le_refl _) (fun i p h => by rw [hput_len]; exact r.hlen i p h) ?_ ?_ r.rt r.bnd (fun y sz' rows' h1 h2 => ?_)⟩
  · intro i h hh
    rcases hput_at hh with ⟨e, g⟩ | ⟨rfl, rfl, hl⟩
    · obtain ⟨q, g1, g2, g3⟩ := r.heap i h g
      refine ⟨q, g1, g2, fun b1 hb1 => ⟨(g3 b1 hb1).1.mono hle, fun y hy => ?_⟩⟩
      simp only [Cx.frz]
      split
      · rename_i e'; subst e'
        exact absurd (r.inj _ _ _ _ _ _ _ (bget_some.2 ⟨h, g, hb1⟩) hb g1 hp hy hx) e
      · exact (g3 b1 hb1).2 y hy
    · obtain ⟨p, g1, g2, g3⟩ := r.heap i _ (List.getElem?_eq_getElem hl)
      exact ⟨p, g1, by rw [g2]; simp [rtOf, List.getElem?_eq_getElem hl], fun b e => by cases e⟩
  · intro i i' p p' x b b' h1 h2 h3 h4 h5 h6
    rcases bget_put h1 with ⟨-, g1⟩ | ⟨-, e⟩
    · rcases bget_put h2 with ⟨-, g2⟩ | ⟨-, e⟩
      · exact r.inj _ _ _ _ _ _ _ g1 g2 h3 h4 h5 h6
      · cases e
    · cases e
  · simp only [Cx.frz] at h1
    split at h1
    · rename_i e; subst e; cases h1; exact ⟨hr, r.bnd _ _ _ hp hx⟩
    · rw [h1] at h2; cases h2
/-- More variables. -/
theorem Rel.var (r : Rel c S env H K mk) (d : D) : c.le { c with ρ := c.ρ ++ [d] } ∧ Rel { c with ρ := c.ρ ++ [d] } { S with n := S.n + 1 } env H K mk := by
  have hle : c.le { c with ρ := c.ρ ++ [d] } := ⟨fun _ _ h => h, rfl, fun _ _ h => h, rfl, [d], rfl⟩
  refine ⟨hle, by simp [r.n], Cv.monoL hle r.env, r.stk.mono fun _ _ => RF.mono hle, r.hlen, fun id h hh => ?_, r.inj, r.rt, r.bnd, r.frz, r.f0, r.rngs, r.mks⟩
  obtain ⟨p, g1, g2, g3⟩ := r.heap id h hh
  exact ⟨p, g1, g2, fun b hb => ⟨(g3 b hb).1.mono hle, (g3 b hb).2⟩⟩
/-- Other slots. -/
theorem Rel.slots (r : Rel c S env H K mk) {env' : List AV} {senv : List SV} (h : F2 (Cv c) senv env') : Rel c { S with env := senv } env' H K mk :=
  ⟨r.n, h, r.stk, r.hlen, r.heap, r.inj, r.rt, r.bnd, r.frz, r.f0, r.rngs, r.mks⟩
theorem Rel.set (r : Rel c S env H K mk) {dst : Option Nat} {v : SV} {a : AV} (h : Cv c v a) : Rel c { S with env := setS S.env dst v } (setD env dst a) H K mk := by
  refine r.slots ?_
  cases dst with
  | none => exact r.env
  | some d => rw [setS_eq]; show F2 (Cv c) (S.env.set d v) (setK env d a); rw [setK_eq]; exact r.env.set h d
end Go.Q
/- One operation: what is reckoned. -/
set_option linter.unusedVariables false
set_option linter.unusedSimpArgs false
namespace Go.Q
open Go.V
variable {c c' : Cx} {S : SS} {env : List AV} {H H' : Heap} {K : List FC} {mk : List Nat}

/-! Slots -/
theorem ofAV1_ok (v : AV) : Cv c (ofAV1 v) v := by
  unfold ofAV1
  split
  · exact .e rfl .int rfl
  · exact .e rfl .bool rfl
  · exact .e rfl .str rfl
  · exact .nil
  · exact .e rfl .nilP rfl
  · exact .e rfl .nilF rfl
  · exact .unk
theorem ofAV1_okL : ∀ (l : List AV), F2 (Cv c) (l.map ofAV1) l
  | [] => .nil
  | v :: l => .cons (ofAV1_ok v) (ofAV1_okL l)
theorem ofAV_ok (v : AV) : Cv c (ofAV v) v := by
  unfold ofAV
  split
  · split
    · rename_i h; exact .agg (ofAV1_okL _) h
    · exact .unk
  · exact .fn .nil .nil
  · exact ofAV1_ok _
theorem sarg_ok {senv : List SV} (h : F2 (Cv c) senv env) (x : Arg) : Cv c (sarg senv x) (arg env x) := by
  cases x with
  | c v => exact ofAV_ok v
  | t n =>
    simp only [sarg, sget_eq, arg_t, List.getD_eq_getElem?_getD]
    cases e : senv[n]? with
    | none => exact .unk
    | some v => obtain ⟨a, h1, h2⟩ := h.get e; rw [h1]; exact h2
theorem sargL_ok {senv : List SV} (h : F2 (Cv c) senv env) : ∀ xs : List Arg, F2 (Cv c) (xs.map (sarg senv)) (xs.map (arg env))
  | [] => .nil
  | x :: xs => .cons (sarg_ok h x) (sargL_ok h xs)
theorem cells_one {a : AV} (h : a.one = true) : a.cells = [a] := by cases a <;> first | rfl | cases h
theorem cells_ok {v : SV} {a : AV} {cs : List SV} (h : Cv c v a) (hc : v.cells = some cs) : F2 (Cv c) cs a.cells ∧ a.cells.all AV.one = true := by
  cases h with
  | agg h h1 => cases hc; exact ⟨h, h1⟩
  | tup h => cases hc
  | unk => cases hc
  | e hx h h1 => cases hc; rw [cells_one h1]; exact ⟨.single (.e hx h h1), by simp [h1]⟩
  | fz hx h h1 => cases hc; rw [cells_one h1]; exact ⟨.single (.fz hx h h1), by simp [h1]⟩
  | own hp hx => cases hc; exact ⟨.single (.own hp hx), rfl⟩
  | ownE hp hl ha => cases hc; rcases ha with rfl | rfl <;> exact ⟨.single (.ownE hp hl (by simp)), rfl⟩
  | nil => cases hc; exact ⟨.single .nil, rfl⟩
  | ptr hp hx => cases hc; exact ⟨.single (.ptr hp hx), rfl⟩
  | ptrO a1 a2 a3 a4 a5 a6 => cases hc; exact ⟨.single (.ptrO a1 a2 a3 a4 a5 a6), rfl⟩
  | sufO a1 a2 a3 a4 a5 a6 => cases hc; rcases a6 with ⟨x, h1, rfl⟩ | ⟨h1, rfl | ⟨z, rfl⟩⟩ <;> exact ⟨.single (.sufO a1 a2 a3 a4 a5 (by simp [h1])), rfl⟩
  | ptrE a1 a2 a3 a4 a5 a6 a7 a8 => cases hc; exact ⟨.single (.ptrE a1 a2 a3 a4 a5 a6 a7 a8), rfl⟩
  | ptrF a1 a2 a3 a4 a5 a6 a7 a8 a9 a10 a11 => cases hc; exact ⟨.single (.ptrF a1 a2 a3 a4 a5 a6 a7 a8 a9 a10 a11), rfl⟩
  | fn h h' => cases hc; exact ⟨.single (.fn h h'), rfl⟩
  | yld h => cases hc; exact ⟨.single (.yld h), rfl⟩

theorem Cv.inv_ptr {id j : Nat} {a : AV} (h : Cv c (.ptr id j) a) : ∃ p x, c.ψ id = some p ∧ p.idc = some x ∧ a = .ptr x 0 j := by
  cases h with | ptr hp hx => exact ⟨_, _, hp, hx, rfl⟩
theorem Cv.inv_ptrO {id j : Nat} {i : E} {a : AV} (h : Cv c (.ptrO id i j) a) : ∃ p x k n, c.ψ id = some p ∧ p.idc = some x ∧ i.upto c.ρ.length = true ∧ i.den c.ρ = .int k n ∧ 0 ≤ n ∧ n.toNat < p.len ∧ a = .ptr x (p.off + n.toNat) j := by
  cases h with | ptrO hp hx hi hn h0 hl => exact ⟨_, _, _, _, hp, hx, hi, hn, h0, hl, rfl⟩
theorem Cv.inv_sufO {id : Nat} {lo : E} {a : AV} (h : Cv c (.sufO id lo) a) : ∃ p k n, c.ψ id = some p ∧ lo.upto c.ρ.length = true ∧ lo.den c.ρ = .int k n ∧ 0 ≤ n ∧ n.toNat ≤ p.len ∧
    ((∃ x, p.idc = some x ∧ a = .own x (p.off + n.toNat) (p.len - n.toNat)) ∨ (n.toNat = p.len ∧ (a = .nilS ∨ ∃ z, a = .emp z))) := by
  cases h with | sufO hp hi hn h0 hl ha => exact ⟨_, _, _, hp, hi, hn, h0, hl, ha⟩
theorem Cv.inv_ptrE {x i : E} {j : Nat} {rs : Option (List Nat)} {a : AV} (h : Cv c (.ptrE x i j rs) a) :
    x.upto c.ρ.length = true ∧ i.upto c.ρ.length = true ∧ ∃ xs k n, x.den c.ρ = .list xs ∧ i.den c.ρ = .int k n ∧ 0 ≤ n ∧ n.toNat < xs.length ∧
    ((∃ sz rows, (∀ y ∈ rows, y.length = sz ∧ y.all AV.one = true) ∧ F2 (F2 RD) xs rows ∧ a = .ptrL sz rows n.toNat j) ∨
     ∃ r id off sz rows, rs = some r ∧ c.Φ id = some (sz, rows) ∧ c.okr r id ∧ off + xs.length ≤ rows.length ∧ (∀ y ∈ rows, y.length = sz ∧ y.all AV.one = true) ∧ F2 (F2 (RO c.Φ (c.okr r))) xs ((rows.drop off).take xs.length) ∧ a = .ptr id (off + n.toNat) j) := by
  cases h with
  | ptrE hx hi hd hn h0 hl hs h => exact ⟨hx, hi, _, _, _, hd, hn, h0, hl, .inl ⟨_, _, hs, h, rfl⟩⟩
  | ptrF hx hi hd hn h0 hl hΦ hA hl' hs h => exact ⟨hx, hi, _, _, _, hd, hn, h0, hl, .inr ⟨_, _, _, _, _, rfl, hΦ, hA, hl', hs, h, rfl⟩⟩
theorem Cv.inv_own {id : Nat} {a : AV} (h : Cv c (.own id) a) : ∃ p, c.ψ id = some p ∧ ((∃ x, p.idc = some x ∧ a = .own x p.off p.len) ∨ (p.len = 0 ∧ (a = .nilS ∨ a = .emp true))) := by
  cases h with
  | own hp hx => exact ⟨_, hp, .inl ⟨_, hx, rfl⟩⟩
  | ownE hp hl ha => exact ⟨_, hp, .inr ⟨hl, ha⟩⟩
theorem Cv.inv_e {x : E} {a : AV} (h : Cv c (.e x) a) : x.upto c.ρ.length = true ∧ RD (x.den c.ρ) a ∧ a.one = true := by
  cases h with | e h1 h2 h3 => exact ⟨h1, h2, h3⟩
theorem Cv.inv_fz {x : E} {rs : List Nat} {a : AV} (h : Cv c (.fz x rs) a) : x.upto c.ρ.length = true ∧ RO c.Φ (c.okr rs) (x.den c.ρ) a ∧ a.one = true := by
  cases h with | fz h1 h2 h3 => exact ⟨h1, h2, h3⟩
theorem Cv.inv_agg {cs : List SV} {a : AV} (h : Cv c (.agg cs) a) : ∃ as, a = .agg as ∧ F2 (Cv c) cs as ∧ as.all AV.one = true := by
  cases h with | agg h h1 => exact ⟨_, rfl, h, h1⟩
theorem Cv.inv_tup {cs : List SV} {a : AV} (h : Cv c (.tup cs) a) : ∃ as, a = .tup as ∧ F2 (Cv c) cs as := by
  cases h with | tup h => exact ⟨_, rfl, h⟩
theorem Cv.inv_nil {a : AV} (h : Cv c .nil a) : a = .nilS := by
  cases h; rfl
theorem Cv.inv_fn {f : FuncId} {x y : List SV} {a : AV} (h : Cv c (.fn f x y) a) : ∃ as bs, a = .fn f as bs ∧ F2 (Cv c) x as ∧ F2 (Cv c) y bs := by
  cases h with | fn h h' => exact ⟨_, _, rfl, h, h'⟩
theorem Cv.inv_yld {k : Nat} {a : AV} (h : Cv c (.yld k) a) : ∃ id, a = .yld id ∧ c.κ[k]? = some id := by
  cases h with | yld h => exact ⟨_, rfl, h⟩
/-! Data in slots -/
/-- Data wherever it lies. -/
def Dt (c : Cx) (d : D) (a : AV) : Prop := RO c.Φ (fun _ => True) d a ∧ a.one = true
theorem dat_ok {v : SV} {a : AV} {x : E} (h : Cv c v a) (hx : dat v = some x) : x.upto c.ρ.length = true ∧ Dt c (x.den c.ρ) a := by
  cases h with
  | e h1 h2 h3 => cases hx; exact ⟨h1, .b h2, h3⟩
  | fz h1 h2 h3 => cases hx; exact ⟨h1, h2.mono (fun _ _ h => h) (fun _ _ => trivial), h3⟩
  | _ => cases hx
theorem Dt.int {k : IntKind} {n : Int} {a : AV} (h : Dt c (.int k n) a) : a = .int k n := by
  obtain ⟨h, -⟩ := h
  cases h with
  | b h => cases h; rfl
theorem Dt.bool {b : Bool} {a : AV} (h : Dt c (.bool b) a) : a = .bool b := by
  obtain ⟨h, -⟩ := h
  cases h with
  | b h => cases h; rfl
theorem datL_ok {senv : List SV} (h : F2 (Cv c) senv env) : ∀ {xs : List Arg} {es : List E}, datL senv xs = some es → uptoL c.ρ.length es = true ∧ F2 (Dt c) (denL c.ρ es) (xs.map (arg env))
  | [], es, he => by cases he; exact ⟨rfl, .nil⟩
  | x :: xs, es, he => by
    simp only [datL] at he
    split at he
    · rename_i a b h1 h2
      cases he
      obtain ⟨g1, g2⟩ := dat_ok (sarg_ok h x) h1
      obtain ⟨g3, g4⟩ := datL_ok h h2
      exact ⟨by simp [uptoL, g1, g3], .cons g2 g4⟩
    · cases he
theorem datC_ok : ∀ {vs : List SV} {as : List AV} {es : List E}, F2 (Cv c) vs as → datC vs = some es → uptoL c.ρ.length es = true ∧ F2 (Dt c) (denL c.ρ es) as
  | [], _, es, h, he => by cases he; cases h; exact ⟨rfl, .nil⟩
  | v :: vs, _, es, h, he => by
    obtain ⟨a, t, rfl, ha, ht⟩ := F2.inv_cons h
    simp only [datC] at he
    split at he
    · rename_i x y h1 h2
      cases he
      obtain ⟨g1, g2⟩ := dat_ok ha h1
      obtain ⟨g3, g4⟩ := datC_ok ht h2
      exact ⟨by simp [uptoL, g1, g3], .cons g2 g4⟩
    · cases he

/-! What is reckoned -/
def emR (Fs : FuncId → List D → Option D) (em : Em) (ρ ρ' : List D) : Prop :=
  match em with
  | .none => ρ' = ρ
  | .prim p as => ∃ d, D.den1 p (denL ρ as) = some d ∧ ρ' = ρ ++ [d]
  | .call f as sh pre fl so => (∀ x ∈ sh, (x.den ρ).shal 4 = true) ∧ (∀ x ∈ pre, (x.den ρ).flat = true) ∧ ∃ d, Fs f (denL ρ as) = some d ∧ ρ' = ρ ++ [d] ∧ (∀ x ∈ fl, (x.den ρ').flat = true) ∧ ∀ x ∈ so, (x.den ρ').shal 1 = true
  | .callD g as sh pre fl so => (∀ x ∈ sh, (x.den ρ).shal 4 = true) ∧ (∀ x ∈ pre, (x.den ρ).flat = true) ∧ ∃ f a b d, g.den ρ = .fn f a b ∧ Fs f (a ++ denL ρ as ++ b) = some d ∧ ρ' = ρ ++ [d] ∧ (∀ x ∈ fl, (x.den ρ').flat = true) ∧ ∀ x ∈ so, (x.den ρ').shal 1 = true
theorem constL_den {ρ : List D} : ∀ {as : List E} {ds : List D}, constL as = some ds → denL ρ as = ds
  | [], ds, h => by cases h; rfl
  | x :: as, ds, h => by
    simp only [constL] at h
    split at h
    · rename_i d ds' h1 h2
      cases h
      cases x <;> simp [constE] at h1
      subst h1
      simp [denL, E.den, constL_den h2]
    · cases h
theorem emP_ok {Fs : FuncId → List D → Option D} {p : Prim} {as : List E} {n : Nat} {ρ ρ' : List D} (hn : n = ρ.length) (hr : emR Fs (emP p as n).1 ρ ρ') :
    ∃ d, D.den1 p (denL ρ as) = some d ∧ (emP p as n).2.den ρ' = d ∧ (emP p as n).2.upto ρ'.length = true ∧ emN (emP p as n).1 n = ρ'.length ∧ (ρ' = ρ ∨ ρ' = ρ ++ [d]) := by
  unfold emP at hr ⊢
  split at hr
  · rename_i d h
    simp only [emR] at hr; subst hr
    refine ⟨d, ?_, rfl, rfl, hn, .inl rfl⟩
    split at h
    · rename_i ds h1; rw [constL_den h1]; exact h
    · cases h
  · obtain ⟨d, h1, h2⟩ := hr
    subst h2; subst hn
    exact ⟨d, h1, by simp [E.den], by simp [E.upto], by simp [emN], .inr rfl⟩
/-- The state behind what was reckoned. -/
theorem Rel.em {em : Em} {ρ' : List D} {d : D} (r : Rel c S env H K mk) (hn : emN em S.n = ρ'.length) (hρ : ρ' = c.ρ ∨ ρ' = c.ρ ++ [d]) : c.le { c with ρ := ρ' } ∧ Rel { c with ρ := ρ' } { S with n := emN em S.n } env H K mk := by
  rcases hρ with rfl | rfl
  · refine ⟨Cx.le.refl c, ?_⟩
    rw [hn, ← r.n]; exact r
  · obtain ⟨h1, h2⟩ := r.var d
    refine ⟨h1, ?_⟩
    rw [hn]
    have : S.n + 1 = (c.ρ ++ [d]).length := by simp [r.n]
    rw [← this]; exact h2
/-- What an operation does. -/
def OpD (TT : FuncId → Option IFn) (cb : Cb) (c : Cx) (S : SS) (env : List AV) (H : Heap) (K : List FC) (mk : List Nat) (io : PO) (f : Ef) (ρ' : List D) : Prop :=
  ∃ v rd wr nx c', evalOp TT cb env H H.nx io = some (.eff v rd wr nx) ∧ c.le c' ∧ c'.ρ = ρ' ∧ Rel c' { S with heap := f.heap, n := emN f.em S.n } env (wrH H wr nx) K mk ∧ Cv c' f.v v ∧
    (∀ x ∈ rd, c'.okr f.rd x) ∧ ∀ x ∈ wr.map (·.1), ¬ c.F0 x ∧ ∃ s p, c'.ψ s = some p ∧ p.idc = some x ∧ p.rt ∈ f.wr
variable {TT : FuncId → Option IFn} {cb : Cb} {Fs : FuncId → List D → Option D}
theorem wrH_nil (H : Heap) : wrH H [] H.nx = H := by cases H; simp [wrH, wrL]
theorem OpD.plain (r : Rel c S env H K mk) {io : PO} {v : SV} {a : AV} {rs rd : List Nat} {ρ' : List D} (hr : ρ' = c.ρ) (he : evalOp TT cb env H H.nx io = some (.eff a rd [] H.nx)) (hv : Cv c v a) (hrd : ∀ x ∈ rd, c.okr rs x) :
    OpD TT cb c S env H K mk io ⟨.none, v, rs, [], S.heap⟩ ρ' :=
  ⟨a, rd, [], H.nx, c, he, Cx.le.refl c, hr.symm, by rw [wrH_nil]; exact r, hv, hrd, by simp⟩
/-- What is reckoned of data. -/
theorem OpD.emd (r : Rel c S env H K mk) {io : PO} {p : Prim} {as : List E} {rs rd : List Nat} {w : E → SV} {ρ' : List D} (hr : emR Fs (emP p as S.n).1 c.ρ ρ')
    (he : ∀ d, D.den1 p (denL c.ρ as) = some d → ∃ a, evalOp TT cb env H H.nx io = some (.eff a rd [] H.nx) ∧ ∀ (c' : Cx) x, c.le c' → x.den c'.ρ = d → x.upto c'.ρ.length = true → Cv c' (w x) a) (hrd : ∀ x ∈ rd, c.okr rs x) :
    OpD TT cb c S env H K mk io ⟨(emP p as S.n).1, w (emP p as S.n).2, rs, [], S.heap⟩ ρ' := by
  obtain ⟨d, h1, h2, h3, h4, h5⟩ := emP_ok r.n hr
  obtain ⟨a, g1, g2⟩ := he d h1
  obtain ⟨le, r'⟩ := r.em h4 h5
  exact ⟨a, rd, [], H.nx, _, g1, le, rfl, by rw [wrH_nil]; exact r', g2 _ _ le h2 h3, fun x hx => le.okr (hrd x hx), by simp⟩
theorem binD_ok {op : BinOp} {k k' : IntKind} {a b : Int} {d : D} (h : binD op (.int k a) (.int k' b) = some d) : ∃ r, binA op (.int k a) (.int k' b) = some r ∧ RD d r ∧ r.one = true := by
  cases op <;> simp only [binD, binA] at h ⊢ <;> (try (cases h; done)) <;> (repeat' split at h) <;> (try (cases h; done)) <;> cases h <;> simp_all <;> first | exact ⟨.int, rfl⟩ | exact ⟨.bool, rfl⟩
theorem bin_ok {op : BinOp} {d1 d2 d : D} {a1 a2 : AV} (h : binD op d1 d2 = some d) (h1 : Dt c d1 a1) (h2 : Dt c d2 a2) : ∃ r, binA op a1 a2 = some r ∧ RD d r ∧ r.one = true := by
  cases d1 <;> try (simp [binD] at h; done)
  cases d2 <;> try (simp [binD] at h; done)
  rw [h1.int, h2.int]; exact binD_ok h
theorem un_ok {op : UnOp} {d1 d : D} {a1 : AV} (h : unD op d1 = some d) (h1 : Dt c d1 a1) : ∃ r, unA op a1 = some r ∧ RD d r ∧ r.one = true := by
  cases d1 <;> try (simp [unD] at h; done)
  · rw [h1.int]; cases op <;> simp only [unD, reduceCtorEq] at h <;> cases h <;> exact ⟨_, rfl, .int, rfl⟩
  · rw [h1.bool]; cases op <;> simp only [unD, reduceCtorEq] at h <;> cases h <;> exact ⟨_, rfl, .bool, rfl⟩
theorem mx1_ok {b : Bool} {d1 d2 d : D} {a1 a2 : AV} (h : mxD b d1 d2 = some d) (h1 : Dt c d1 a1) (h2 : Dt c d2 a2) : ∃ r, mxA b a1 a2 = some r ∧ Dt c d r := by
  cases d1 <;> try (simp [mxD] at h; done)
  cases d2 <;> try (simp [mxD] at h; done)
  rw [h1.int, h2.int]; simp only [mxD] at h; cases h; exact ⟨_, rfl, .b .int, rfl⟩
theorem mxL_ok {b : Bool} : ∀ {ds : List D} {as : List AV} {d1 d : D} {a1 : AV}, mxLD b d1 ds = some d → Dt c d1 a1 → F2 (Dt c) ds as → ∃ r, mxL b a1 as = some r ∧ Dt c d r
  | [], _, d1, d, a1, h, h1, hs => by cases hs; cases h; exact ⟨_, rfl, h1⟩
  | y :: ys, _, d1, d, a1, h, h1, hs => by
    obtain ⟨a2, t, rfl, g1, g2⟩ := F2.inv_cons hs
    simp only [mxLD] at h
    cases e : mxD b d1 y with
    | none => rw [e] at h; cases h
    | some z =>
      rw [e] at h
      obtain ⟨r, q1, q2⟩ := mx1_ok e h1 g1
      obtain ⟨r', q3, q4⟩ := mxL_ok (d1 := z) h q2 g2
      exact ⟨r', by simp [mxL, q1, q3], q4⟩
theorem Dt.ofRD {d : D} {a : AV} (h : RD d a) (h1 : a.one = true) : Dt c d a := ⟨.b h, h1⟩
theorem eq1_ok {k : Bool} {d1 d2 : D} {a1 a2 : AV} {b : Bool} (h : eqD1 k d1 d2 = some b) (h1 : Dt c d1 a1) (h2 : Dt c d2 a2) : eqA k a1 a2 = some b := by
  cases d1 <;> try (simp [eqD1] at h; done)
  all_goals cases d2 <;> try (simp [eqD1] at h; done)
  · rw [h1.int, h2.int]; exact h
  · rw [h1.bool, h2.bool]; exact h
theorem eq_ok : ∀ {ks : List Bool} {ds es : List D} {as bs : List AV} {b : Bool}, eqDL ks ds es = some b → F2 (Dt c) ds as → F2 (Dt c) es bs → eqL ks as bs = some b
  | [], [], [], _, _, b, h, h1, h2 => by cases h1; cases h2; exact h
  | k :: ks, d :: ds, e :: es, _, _, b, h, h1, h2 => by
    obtain ⟨a1, t1, rfl, g1, g2⟩ := F2.inv_cons h1
    obtain ⟨a2, t2, rfl, g3, g4⟩ := F2.inv_cons h2
    simp only [eqDL] at h
    simp only [eqL]
    split at h
    · rename_i e1; rw [eq1_ok e1 g1 g3]; exact eq_ok h g2 g4
    · rename_i e1; cases h; rw [eq1_ok e1 g1 g3]
    · cases h
  | [], _ :: _, _, _, _, b, h, _, _ => by simp [eqDL] at h
  | [], [], _ :: _, _, _, b, h, _, _ => by simp [eqDL] at h
  | _ :: _, [], _, _, _, b, h, _, _ => by simp [eqDL] at h
  | _ :: _, _ :: _, [], _, _, b, h, _, _ => by simp [eqDL] at h
theorem idx_ok {d : D} {a : AV} {n i : Nat} (h : d.idx n = some i) (h1 : Dt c d a) : idx a n = some i ∧ ∃ k m, d = .int k m ∧ 0 ≤ m ∧ m.toNat < n ∧ i = m.toNat := by
  cases d <;> try (simp [D.idx] at h; done)
  rename_i k m
  rw [h1.int]
  refine ⟨h, k, m, rfl, ?_⟩
  simp only [D.idx] at h
  split at h
  · rename_i hc; cases h; exact ⟨hc.1, by omega, rfl⟩
  · cases h
end Go.Q
/- One operation: parts, places, what is loaded and stored. -/
set_option linter.unusedVariables false
set_option linter.unusedSimpArgs false
namespace Go.Q
open Go.V
variable {c c' : Cx} {S : SS} {env : List AV} {H H' : Heap} {K : List FC} {mk : List Nat}
variable {TT : FuncId → Option IFn} {cb : Cb} {Fs : FuncId → List D → Option D} {ρ' : List D}

theorem all_take {α : Type} {p : α → Bool} {l : List α} (h : l.all p = true) (n : Nat) : (l.take n).all p = true := by
  rw [List.all_eq_true] at h ⊢; exact fun x hx => h x (List.mem_of_mem_take hx)
theorem all_drop {α : Type} {p : α → Bool} {l : List α} (h : l.all p = true) (n : Nat) : (l.drop n).all p = true := by
  rw [List.all_eq_true] at h ⊢; exact fun x hx => h x (List.mem_of_mem_drop hx)
theorem part_ok {cs : List SV} {as : List AV} {n : Option Nat} {j : Nat} {v : SV} (h : F2 (Cv c) cs as) (h1 : as.all AV.one = true) (hp : partS n cs j = some v) : ∃ b, V.part n as j = some b ∧ Cv c v b := by
  cases n with
  | none => obtain ⟨b, g1, g2⟩ := h.get hp; exact ⟨b, g1, g2⟩
  | some k =>
    simp only [partS, subs] at hp
    split at hp
    · rename_i hl
      cases hp
      rw [h.len] at hl
      exact ⟨.agg ((as.drop j).take k), by simp [V.part, hl], .agg ((h.drop j).take k) (all_take (all_drop h1 j) k)⟩
    · cases hp
theorem put_ok {cs xs cs' : List SV} {as bs : List AV} {j : Nat} (h : F2 (Cv c) cs as) (h1 : as.all AV.one = true) (h' : F2 (Cv c) xs bs) (h1' : bs.all AV.one = true) (hp : putS cs j xs = some cs') :
    ∃ as', V.put as j bs = some as' ∧ F2 (Cv c) cs' as' ∧ as'.all AV.one = true ∧ cs'.length = cs.length := by
  simp only [putS] at hp
  split at hp
  · rename_i hl
    cases hp
    rw [h.len, h'.len] at hl
    refine ⟨as.take j ++ bs ++ as.drop (j + bs.length), by simp [V.put, hl], ((h.take j).append h').append (by rw [h'.len]; exact h.drop _), ?_, ?_⟩
    · rw [List.all_append, List.all_append, all_take h1, h1', all_drop h1]; rfl
    · simp [h.len, h'.len]; omega
  · cases hp
theorem denL_get {ρ : List D} : ∀ (xs : List E) (i : Nat), (denL ρ xs)[i]? = (xs[i]?).map (E.den ρ)
  | [], i => by simp [denL]
  | x :: xs, 0 => by simp [denL]
  | x :: xs, i + 1 => by simp [denL, denL_get xs i]
theorem denL_len {ρ : List D} : ∀ (xs : List E), (denL ρ xs).length = xs.length
  | [] => rfl
  | x :: xs => by simp [denL, denL_len xs]
theorem mkCell_den (ρ : List D) (x : E) (j : Nat) : (mkCell x j).den ρ = (x.den ρ).cells.getD j D.unit := by
  unfold mkCell
  split
  · rename_i xs
    simp only [E.den, D.cells, List.getD_eq_getElem?_getD, denL_get]
    cases e : xs[j]? with
    | none => simp [E.den, D.cells, denL_get, e]
    | some y => rfl
  · simp [E.den]
theorem uptoL_get {n : Nat} : ∀ {xs : List E}, uptoL n xs = true → ∀ {i : Nat} {x : E}, xs[i]? = some x → x.upto n = true
  | [], _, i, x, h => by simp at h
  | y :: ys, h, 0, x, e => by simp only [uptoL, Bool.and_eq_true] at h; cases e; exact h.1
  | y :: ys, h, i + 1, x, e => by simp only [uptoL, Bool.and_eq_true] at h; exact uptoL_get h.2 (by simpa using e)
theorem mkCell_upto {n : Nat} {x : E} {j : Nat} (h : x.upto n = true) : (mkCell x j).upto n = true := by
  unfold mkCell
  split
  · rename_i xs
    rw [List.getD_eq_getElem?_getD]
    cases e : xs[j]? with
    | none => exact h
    | some y => exact uptoL_get (xs := xs) h e
  · exact h
/-- A cell of an element. -/
theorem elem1_ok {dp : Option (List Nat)} {d : D} {b : AV} {e : E} (hk : Rk c dp d b) (h1 : b.one = true) (hd : e.den c.ρ = d) (hu : e.upto c.ρ.length = true) : Cv c (elem1 dp e) b := by
  subst hd
  cases dp with
  | none => exact .e hu hk h1
  | some rs => exact .fz hu hk h1
theorem elem_ok {dp : Option (List Nat)} {xd : List D} {row : List AV} {n : Option Nat} {j : Nat} {d : D} (h : F2 (Rk c dp) xd row) (h1 : row.all AV.one = true) (hp : partD n xd j = some d) :
    ∃ b, V.part n row j = some b ∧ ∀ (c' : Cx) e, c.le c' → e.den c'.ρ = d → e.upto c'.ρ.length = true → Cv c' (elemV dp e n) b := by
  cases n with
  | none =>
    obtain ⟨b, g1, g2⟩ := h.get (show xd[j]? = some d from hp)
    exact ⟨b, g1, fun c' e le hd hu => elem1_ok (g2.mono le) (List.all_eq_true.1 h1 b (List.mem_of_getElem? g1)) hd hu⟩
  | some k =>
    simp only [partD] at hp
    split at hp
    · rename_i hl
      cases hp
      have hl' := hl
      rw [h.len] at hl'
      refine ⟨.agg ((row.drop j).take k), by simp [V.part, hl'], fun c' e le hd hu => ?_⟩
      refine .agg (F2.of_get (by simp; omega) fun i v b hv hb => ?_) (all_take (all_drop h1 j) k)
      simp only [List.getElem?_map] at hv
      rw [List.getElem?_range (by
        have := (List.getElem?_eq_some_iff.1 hb).1
        simp at this; omega)] at hv
      cases hv
      obtain ⟨d, q1, q2⟩ := ((h.drop j).take k).getr hb
      refine elem1_ok (q2.mono le) (List.all_eq_true.1 (all_take (all_drop h1 j) k) b (List.mem_of_getElem? hb)) ?_ (mkCell_upto hu)
      rw [mkCell_den, hd]
      simp only [D.cells, List.getD_eq_getElem?_getD, q1]; rfl
    · cases hp
/-- A block that one has: where it lies. -/
theorem okr_of {id x : Nat} {p : Pl} {rs : List Nat} (hp : c.ψ id = some p) (hx : p.idc = some x) (h : p.rt ∈ rs) : c.okr rs x := .inr ⟨id, p, hp, hx, h⟩
theorem Rel.notF0 (r : Rel c S env H K mk) {id x : Nat} {b : SB} {p : Pl} (hb : bget S.heap id = some b) (hp : c.ψ id = some p) (hx : p.idc = some x) : ¬ c.F0 x := fun h => by
  obtain ⟨p', g1, -, -, g4⟩ := r.blk hb
  rw [hp] at g1; cases g1
  exact r.f0 x h (g4 x hx)
theorem getElem?_sub {α : Type} {l : List α} {off len i : Nat} (h : i < len) : ((l.drop off).take len)[i]? = l[off + i]? := by
  rw [List.getElem?_take_of_lt h, List.getElem?_drop]
theorem elemD {xs : List (List D)} {j : Nat} {n : Option Nat} {k : IntKind} {m : Int} {d : D} (h : D.den1 (.elem j n) [.list xs, .int k m] = some d) : ∃ xd, xs[m.toNat]? = some xd ∧ partD n xd j = some d := by
  simp only [D.den1, D.idx] at h
  split at h
  · simp only [Option.bind_some] at h
    cases e : xs[m.toNat]? with
    | none => rw [e] at h; cases h
    | some xd => rw [e] at h; exact ⟨xd, rfl, h⟩
  · cases h

/-! A row with one element -/
theorem OpD.block (r : Rel c S env H K mk) {io : PO} {cs : List SV} {as : List AV} (hr : ρ' = c.ρ) (h : F2 (Cv c) cs as) (h1 : as.all AV.one = true) (he : evalOp TT cb env H H.nx io = some (.eff (.ptr H.nx 0 0) [] [(H.nx, some (.row as.length [as]))] (H.nx + 1))) :
    OpD TT cb c S env H K mk io ⟨.none, .ptr S.heap.length 0, [], [S.heap.length], hnew S.heap (.cells cs)⟩ ρ' := by
  have r1 := r.alloc (some (.row as.length [as]))
  let p : Pl := ⟨some H.nx, 0, 1, S.heap.length⟩
  have hnew : ∀ i q, c.ψ i = some q → q.idc ≠ some H.nx := fun i q h1 h2 => by have := r.bnd i q _ h1 h2; omega
  have hΦ : c.Φ H.nx = none := by
    cases e : c.Φ H.nx with
    | none => rfl
    | some y => have := (r.frz _ _ _ e).2; omega
  have r2 := r1.add p (.cells cs) (fun x hx => by
    cases hx
    exact ⟨by simp [wrH], hΦ, fun i q b' _ hq => hnew i q hq, fun i q hq hq' => absurd hq' (hnew i q hq)⟩)
    ⟨H.nx, as, rfl, by rw [hget_wr1, h.len]; simp, h, h1⟩
  refine ⟨_, _, _, _, _, he, r.le_add p, hr.symm, r2, .ptr (p := p) (by simp [Cx.add]) rfl, by simp, fun x hx => ?_⟩
  simp only [List.map_cons, List.map_nil, List.mem_singleton] at hx
  subst hx
  exact ⟨fun h => r.f0 _ h hΦ, S.heap.length, p, by simp [Cx.add], rfl, by simp [p]⟩

/-! Loads, stores -/
theorem load_ok (r : Rel c S env H K mk) {n : Option Nat} {x : Arg} {f : Ef} (h : doOp S (.load n x) = some f) (hr : emR Fs f.em c.ρ ρ') : OpD TT cb c S env H K mk (.load n x) f ρ' := by
  have hv := sarg_ok r.env x
  simp only [doOp] at h
  split at h
  · rename_i id j e1
    rw [e1] at hv
    split at h
    · rename_i cs e2
      cases e3 : partS n cs j with
      | none => rw [e3] at h; cases h
      | some v =>
        rw [e3] at h; cases h
        obtain ⟨p, z, hp, hx, ha⟩ := hv.inv_ptr
        obtain ⟨p', g1, g2, g3, g4⟩ := r.blk e2
        rw [hp] at g1; cases g1
        obtain ⟨y, as, q1, q2, q3, q4⟩ := g3
        rw [hx] at q1; cases q1
        obtain ⟨b, k1, k2⟩ := part_ok q3 q4 e3
        exact OpD.plain r (rd := [z]) hr (by simp [evalOp, ha, q2, k1]) k2 (fun w hw => by
          simp only [List.mem_singleton] at hw; subst hw
          exact okr_of hp hx (by simp [g2]))
    · cases h
  · rename_i id i j e1
    rw [e1] at hv
    split at h
    · rename_i s y dp e2
      cases h
      obtain ⟨p, w, k, m, hp, hx, hi, hn, h0, hl, ha⟩ := hv.inv_ptrO
      obtain ⟨p', g1, g2, g3, g4⟩ := r.blk e2
      rw [hp] at g1; cases g1
      obtain ⟨xs, q1, q2, q3, q4, q5⟩ := g3
      obtain ⟨rows, t1, t2, t3, t4⟩ := q5 _ hx
      refine OpD.emd r (w := fun x => elemV dp x n) (rd := [w]) hr (fun d hd => ?_) (fun z hz => ?_)
      · simp only [denL, q2, hn] at hd
        obtain ⟨xd, u1, u2⟩ := elemD hd
        obtain ⟨row, u3, u4⟩ := t4.get u1
        rw [getElem?_sub hl] at u3
        obtain ⟨b, u5, u6⟩ := elem_ok u4 (t3 row (List.mem_of_getElem? u3)).2 u2
        exact ⟨b, by simp [evalOp, ha, t1, u3, u5], fun c' e le he hu => u6 c' e le he hu⟩
      · simp only [List.mem_singleton] at hz; subst hz
        exact okr_of hp hx (by simp [g2])
    · cases h
  · rename_i y i j rs e1
    rw [e1] at hv
    cases h
    obtain ⟨hx, hi, xs, k, m, hd, hn, h0, hl, hh⟩ := hv.inv_ptrE
    rcases hh with ⟨sz, rows, hs, h, ha⟩ | ⟨r0, id, off, sz, rows, rfl, hΦ, hA, hl', hs, h, ha⟩
    · refine OpD.emd r (w := fun x => elemV rs x n) (rd := []) hr (fun d hd' => ?_) (by simp)
      simp only [denL, hd, hn] at hd'
      obtain ⟨xd, u1, u2⟩ := elemD hd'
      obtain ⟨row, u3, u4⟩ := h.get u1
      have u4' : F2 (Rk c rs) xd row := by
        cases rs with
        | none => exact u4
        | some rs => exact u4.mono fun _ _ h => .b h
      obtain ⟨b, u5, u6⟩ := elem_ok u4' (hs row (List.mem_of_getElem? u3)).2 u2
      exact ⟨b, by simp [evalOp, ha, u3, u5], fun c' e le he hu => u6 c' e le he hu⟩
    · have hg := (r.frz _ _ _ hΦ).1
      refine OpD.emd r (w := fun x => elemV (some r0) x n) (rd := [id]) hr (fun d hd' => ?_) (fun z hz => by simp only [List.mem_singleton] at hz; subst hz; exact hA)
      simp only [denL, hd, hn] at hd'
      obtain ⟨xd, u1, u2⟩ := elemD hd'
      obtain ⟨row, u3, u4⟩ := h.get u1
      rw [getElem?_sub hl] at u3
      obtain ⟨b, u5, u6⟩ := elem_ok (dp := some r0) u4 (hs row (List.mem_of_getElem? u3)).2 u2
      exact ⟨b, by simp [evalOp, ha, hg, u3, u5], fun c' e le he hu => u6 c' e le he hu⟩
  · cases h
theorem plainL_ok : ∀ {vs : List SV} {as : List AV} {es : List E}, F2 (Cv c) vs as → plainL vs = some es → uptoL c.ρ.length es = true ∧ F2 RD (denL c.ρ es) as
  | [], _, es, h, he => by cases he; cases h; exact ⟨rfl, .nil⟩
  | v :: vs, _, es, h, he => by
    obtain ⟨a, t, rfl, ha, ht⟩ := F2.inv_cons h
    simp only [plainL] at he
    split at he
    · rename_i x y h1 h2
      cases he
      obtain ⟨g3, g4⟩ := plainL_ok ht h2
      cases v <;> simp only [plain1, reduceCtorEq] at h1 <;> cases h1
      · obtain ⟨hx, hd, h1⟩ := ha.inv_e
        exact ⟨by simp [uptoL, hx, g3], .cons hd g4⟩
      · have := ha.inv_nil
        subst this
        exact ⟨by simp [uptoL, E.upto, g3], .cons .nilS g4⟩
    · cases he
theorem putD_ok {dp : Option (List Nat)} {xd cs xd' : List D} {row bs : List AV} {j : Nat} (h : F2 (Rk c dp) xd row) (h1 : row.all AV.one = true) (h' : F2 (Rk c dp) cs bs) (h1' : bs.all AV.one = true) (hp : putD xd j cs = some xd') :
    ∃ row', V.put row j bs = some row' ∧ F2 (Rk c dp) xd' row' ∧ row'.all AV.one = true ∧ row'.length = row.length := by
  simp only [putD] at hp
  split at hp
  · rename_i hl
    cases hp
    rw [h.len, h'.len] at hl
    refine ⟨row.take j ++ bs ++ row.drop (j + bs.length), by simp [V.put, hl], ((h.take j).append h').append (by rw [h'.len]; exact h.drop _), ?_, ?_⟩
    · rw [List.all_append, List.all_append, all_take h1, h1', all_drop h1]; rfl
    · simp; omega
  · cases hp
theorem Rk.ofRD {dp : Option (List Nat)} {d : D} {a : AV} (h : RD d a) : Rk c dp d a := by
  cases dp with
  | none => exact h
  | some rs => exact .b h
theorem sub_set {α : Type} {l : List α} {off len i : Nat} {a : α} (h : i < len) : ((l.set (off + i) a).drop off).take len = ((l.drop off).take len).set i a := by
  apply List.ext_getElem?
  intro j
  by_cases hj : j < len
  · rw [getElem?_sub hj, List.getElem?_set, List.getElem?_set, getElem?_sub hj]
    by_cases e : i = j
    · subst e
      simp only [if_true, List.length_take, List.length_drop]
      by_cases q : off + i < l.length
      · rw [if_pos q, if_pos (by omega)]
      · rw [if_neg q, if_neg (by omega)]
    · rw [if_neg (by omega), if_neg e]
  · rw [List.getElem?_eq_none (by simp; omega), List.getElem?_eq_none (by simp; omega)]
end Go.Q
