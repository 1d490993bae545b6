/- Soundness: functions and rounds. -/
import Derived.Test.YtemlkeknpjbcnaaVu
set_option linter.unusedVariables false
set_option linter.unusedSimpArgs false
namespace Go.V
open Go.RowKit
variable {P : Program} {T : FuncId → Option IFn}

theorem setPs_rep {w : World} {S : Nat → Prop} {φ : Phi} : ∀ {ps : List Nat} {env vs : List AV} {tmps : Array Value} {us : List Value}, vs.length = ps.length → Reps w S φ env tmps → Reps w S φ vs us.toArray →
    Reps w S φ (setPs env ps vs) ((ps.zip us).foldl (fun tmps (t, a) => tmps.setIfInBounds t a) tmps)
  | [], env, vs, tmps, us, hl, hr, hv => by
    have : setPs env [] vs = env := by cases vs <;> rfl
    rw [this]; simpa using hr
  | p :: ps, env, [], tmps, us, hl, hr, hv => by simp at hl
  | p :: ps, env, v :: vs, tmps, us, hl, hr, hv => by
    cases us with
    | nil => have := hv.1; simp at this
    | cons u us =>
      simp only [setPs, List.zip_cons_cons, List.foldl_cons]
      refine setPs_rep (by simpa using hl) ?_ ⟨by have := hv.1; simpa using this, fun i c x q1 q2 => hv.2 (i + 1) c x (by simpa using q1) (by simpa using q2)⟩
      exact reps_put (a := { tmps := tmps, defers := [] }) hr (hv.2 0 v u (by simp) (by simp)) (some p)
theorem marks_leave {F : Fence} {fn : Func} {tmps : Array Value} {R : Ending → World → Prop} {S : Nat → Prop} {φ : Phi} : ∀ {ids : List Nat} {ds : List Deferred} {H H' : Heap} {w : World}, Marks φ ids ds → takeMarks H ids = some H' → Sim P S φ (hget H) w →
    (∀ w', Adv S φ (hget H) w S φ (hget H') w' → Sim P S φ (hget H') w' → H.nx ≤ H'.nx → LeavesInM F 0 P fn tmps R [] .returning w') → LeavesInM F 0 P fn tmps R ds .returning w
  | [], [], H, H', w, hm, ht, hs, h => by cases ht; exact h w (Adv.refl _ _ _ _) hs (Nat.le_refl _)
  | id :: ids, d :: ds, H, H', w, hm, ht, hs, h => by
    obtain ⟨⟨loc, h1, rfl⟩, hm⟩ := hm
    simp only [takeMarks] at ht
    split at ht
    · rename_i hb
      obtain ⟨loc', g1, g2, -⟩ := hs.blk id _ hb
      rw [h1] at g1; cases g1
      have hrun := run_takeDeferred (P := P) (show w.heap[loc.blk]? = some (.deferred (some [])) from g2)
      obtain ⟨q1, q2⟩ := put_sim (P := P) (b' := none) (o := .deferred none) hs hb h1 (shape_deferred g2) (fun x hx => by cases hx)
      rw [← hget_wr1 H id none 0] at q1 q2
      refine ⟨by simp, .inl ⟨loc.blk, _, rfl, hrun, marks_leave hm ht q2 fun w' a1 a2 a3 => h w' (q1.trans a1) a2 (Nat.le_trans (Nat.le_max_left _ _) a3)⟩⟩
    · cases ht
  | [], _ :: _, _, _, _, hm, _, _, _ => hm.elim
  | _ :: _, [], _, _, _, hm, _, _, _ => hm.elim
theorem leave_fn {fn : IFn} {g : Func} {r : RSt} {v : AV} {H' : Heap} (hc : cRess P g.results.toList = some fn.res) (he : leaveF fn r = some (v, H')) {S S' : Nat → Prop} {φ φ' : Phi} {H : Heap} {w w' : World} {a' : Act} (hI : InvR P S' φ' w' r a') (hadv : Adv S φ (hget H) w S' φ' (hget r.st.H) w') (hnx : H.nx ≤ r.st.H.nx) :
    LeavesInM Fence.wide 0 P g a'.tmps (fun e w'' => ∃ vv, e = .returned vv ∧ Fin P S φ H w v H' vv w'') a'.defers .returning w' := by
  unfold leaveF at he
  split at he
  · rename_i H1 ht
    cases hl : resL ⟨r.st.env, H1⟩ fn.res with
    | none => simp [hl] at he
    | some vs =>
      simp [hl] at he
      obtain ⟨rfl, rfl⟩ := he
      refine marks_leave hI.mrk ht hI.inv.sim fun w'' a1 a2 a3 => ?_
      have hI2 : Inv P S' φ' w'' ⟨r.st.env, H1⟩ a' := ⟨a2, a1.reps hI.inv.sim hI.inv.env, fun k hk => hI.inv.top k (Nat.le_trans a3 hk)⟩
      obtain ⟨vv, q1, q2⟩ := results_run (P := P) hc hl hI2
      exact ⟨vv, q1, vv, rfl, S', φ', hadv.trans a1, a2, q2, hI2.top, Nat.le_trans hnx a3⟩
  · cases he
theorem callBody_ok (hT : TOK P T) (hm : P.follows .mixedOrders = true) {cb : Cb} (hcb : CbOK P cb) {m : Nat} {f : FuncId} {args : List AV} {H H' : Heap} {v : AV} (h : callBody T m cb f args H = some (v, H')) {S : Nat → Prop} {φ : Phi} {w : World} {vargs : Array Value} (hs : Sim P S φ (hget H) w) (htop : ∀ id, H.nx ≤ id → φ id = none) (hargs : Reps w S φ args vargs) :
    Calls P f vargs w fun e w' => ∃ vv, e = .returned vv ∧ Fin P S φ H w v H' vv w' := by
  unfold callBody at h
  split at h
  · cases h
  · rename_i fn hfn
    obtain ⟨g, c, g1, g2, g3, g4, g5, g6⟩ := cFn_spec (hT f fn hfn)
    have hI : InvR P S φ w ⟨⟨args ++ List.replicate (fn.ntmps - args.length) undefA, H⟩, []⟩ { tmps := vargs ++ Array.replicate (g.ntmps - vargs.size) undef, defers := [] } := by
      refine ⟨⟨hs, ?_, htop⟩, trivial⟩
      rw [g6, hargs.1]
      refine hargs.append ⟨by simp, fun i c v e1 e2 => ?_⟩
      have h1 : c = undefA := List.eq_of_mem_replicate (List.mem_of_getElem? e1)
      have h2 : v = undef := by
        rw [Array.getElem?_replicate] at e2
        split at e2
        · cases e2; rfl
        · cases e2
      rw [h1, h2]; exact undef_rep
    cases hrun : run T cb m none fn.body ⟨⟨args ++ List.replicate (fn.ntmps - args.length) undefA, H⟩, []⟩ with
    | none => rw [hrun] at h; cases h
    | some p =>
      obtain ⟨ex, r⟩ := p
      rw [hrun] at h
      refine (callsIn_wide (n := 0)).1 (callsIn_of_wp_marks g1 g3 trivial (run_sound hT hcb hm m none .wide c fn.body g4 _ ex r hrun S φ w _ rfl hI _ fun a' w' hR => ?_))
      obtain ⟨S', φ', k1, k2, k4⟩ := hR
      cases ex with
      | exit id => cases h
      | normal => exact leave_fn g5 h k1 k2 k4
      | ret => exact leave_fn g5 h k1 k2 k4
theorem callPure_ok (hT : TOK P T) (hm : P.follows .mixedOrders = true) {cb : Cb} (hcb : CbOK P cb) {m : Nat} {f : FuncId} {args : List AV} {H' : Heap} {t : AV} (h : pureR (callBody T m cb f args noH) = some (t, H')) : PuOK P f args t := by
  intro Sc w us hs hargs
  cases hb : callBody T m cb f args noH with
  | none => rw [hb] at h; cases h
  | some p =>
    obtain ⟨v, H1⟩ := p
    rw [hb] at h
    simp only [pureR] at h
    split at h
    · rename_i t' ids e1
      split at h
      · rename_i hnd
        cases h
        refine (callBody_ok hT hm hcb hb hs (fun _ _ => rfl) hargs).mono ?_
        rintro e w' ⟨vv, rfl, S', φ', adv, sim, rep, -, -⟩
        exact ⟨vv, rfl, v, H1, ids, S', φ', adv, sim, rep, e1, hnd⟩
      · cases h
    · cases h
theorem callRound_ok (hT : TOK P T) (hm : P.follows .mixedOrders = true) {cb : Cb} (hcb : CbOK P cb) {m : Nat} {id : Nat} {args : List AV} {H H' : Heap} {v : AV} (h : callRound T m cb id args H = some (v, H')) {S : Nat → Prop} {φ : Phi} {w : World} {vargs : Array Value} {loc : Loc} (hs : Sim P S φ (hget H) w) (htop : ∀ id, H.nx ≤ id → φ id = none) (hargs : Reps w S φ args vargs) (hφ : φ id = some loc) :
    ∃ fn tmps a b, (Instr.yield loc.blk vargs).run P w = .ok (.round loc.blk fn tmps a b) w ∧ RoundIn Fence.wide 0 P loc.blk fn tmps a b w fun e w' => ∃ vv, e = .returned vv ∧ Fin P S φ H w v H' vv w' := by
  unfold callRound at h
  split at h
  · rename_i env ps ia ib st pend d hb
    split at h
    · rename_i hlen
      obtain ⟨loc', g1, g2, -⟩ := hs.blk id _ hb
      rw [hφ] at g1; cases g1
      obtain ⟨r0, f1, f2, f3, f4, f5, f6, f7, ld, f8, f9⟩ := g2
      have hsz : vargs.size = r0.params.size := by rw [hargs.1, hlen, ← f3]; simp
      refine ⟨r0.fn, _, r0.assign, r0.body, run_yield f1 hsz, ?_⟩
      have henv : Reps w S φ (setPs env ps args) ((r0.params.zip vargs).foldl (fun tmps (t, a) => tmps.setIfInBounds t a) r0.tmps) := by
        have := setPs_rep (ps := ps) (us := vargs.toList) hlen f2 (by simpa using hargs)
        rw [← f3] at this ⊢
        have e : (r0.params.zip vargs).foldl (fun tmps (t, a) => tmps.setIfInBounds t a) r0.tmps = (r0.params.toList.zip vargs.toList).foldl (fun tmps (t, a) => tmps.setIfInBounds t a) r0.tmps := by
          rw [← Array.foldl_toList, Array.toList_zip]
        rw [e]; exact this
      split at h
      · rename_i r1 h1
        split at h
        · rename_i r2 h2
          split at h
          · rename_i ex r3 h3
            have hI : InvR P S φ w ⟨⟨setPs env ps args, H⟩, []⟩ { tmps := (r0.params.zip vargs).foldl (fun tmps (t, a) => tmps.setIfInBounds t a) r0.tmps, defers := [] } := ⟨⟨hs, henv, htop⟩, trivial⟩
            refine roundIn_of_wpIn trivial (run_sound hT hcb hm m (some id) _ r0.assign ia f4 _ _ _ h1 S φ w _ ⟨loc, hφ, rfl⟩ hI _ fun a1 w1 hR => ?_)
            obtain ⟨S1, φ1, k1, k2, k4⟩ := hR
            -- the round begins
            unfold enterR at h2
            split at h2
            · rename_i env' ps' a' b' pend' d' hb1
              cases h2
              have hφ1 := k2.phi _ _ hφ
              obtain ⟨loc', g1, g2, -⟩ := k1.inv.sim.blk id _ hb1
              rw [hφ1] at g1; cases g1
              obtain ⟨r01, e1, e2, e3, e4, e5, e6, e7, ld', e8, e9⟩ := g2
              have hbeg := run_beginRound (P := P) e1 e6
              obtain ⟨q1, q2⟩ := put_sim (P := P) (b' := some (.loop env' ps' a' b' .busy pend' d')) (o := .loop { r01 with state := .busy }) k1.inv.sim hb1 hφ1 (shape_loop e1) (fun x hx adv => by
                cases hx
                exact ⟨_, World.putObj_heap_same (k1.inv.sim.lt hb1 hφ1), adv.reps k1.inv.sim e2, e3, e4, e5, rfl, e7, ld', e8, e9⟩)
              rw [← hget_wr1 r1.st.H id _ 0] at q1 q2
              refine ⟨_, hbeg, ?_⟩
              have hI2 : InvR P S1 φ1 (w1.putObj loc.blk (.loop { r01 with state := .busy })) ⟨⟨r1.st.env, wrH r1.st.H [(id, some (.loop env' ps' a' b' .busy pend' d'))] 0⟩, r1.ds⟩ a1 :=
                ⟨⟨q2, q1.reps k1.inv.sim k1.inv.env, fun k hk => k1.inv.top k (Nat.le_trans (Nat.le_max_left _ _) hk)⟩, k1.mrk⟩
              refine run_sound hT hcb hm m (some id) _ r0.body ib f5 _ _ _ h3 S1 φ1 _ _ ⟨loc, hφ1, rfl⟩ hI2 _ fun a2 w2 hR2 => ?_
              obtain ⟨S2, φ2, l1, l2, l4⟩ := hR2
              have hφ2 := l2.phi _ _ hφ1
              have hall : Adv S φ (hget H) w S2 φ2 (hget r3.st.H) w2 := (k2.trans q1).trans l2
              have hnx : H.nx ≤ r3.st.H.nx := Nat.le_trans (Nat.le_trans k4 (Nat.le_max_left _ _)) l4
              unfold leaveR at h
              split at h
              · rename_i env3 ps3 a3 b3 pend3 d3 hb3
                obtain ⟨loc', g1, g2, -⟩ := l1.inv.sim.blk id _ hb3
                rw [hφ2] at g1; cases g1
                obtain ⟨r03, m1, m2, m3, m4, m5, m6, m7, ld3, m8, m9⟩ := g2
                have fin : ∀ (st' : LoopState) (pend' : Ex), Fin P S φ H w v (wrH r3.st.H [(id, some (.loop env3 ps3 a3 b3 st' pend' d3))] 0) (.bool (pend'.code.isNone)) (w2.putObj loc.blk (.loop { r03 with state := st', pending := pend'.code })) ∨ v ≠ .bool pend'.code.isNone := by
                  intro st' pend'
                  by_cases hv : v = .bool pend'.code.isNone
                  · subst hv
                    obtain ⟨q1, q2⟩ := put_sim (P := P) (b' := some (.loop env3 ps3 a3 b3 st' pend' d3)) (o := .loop { r03 with state := st', pending := pend'.code }) l1.inv.sim hb3 hφ2 (shape_loop m1) (fun x hx adv => by
                      cases hx
                      exact ⟨_, World.putObj_heap_same (l1.inv.sim.lt hb3 hφ2), adv.reps l1.inv.sim m2, m3, m4, m5, rfl, rfl, ld3, m8, m9⟩)
                    rw [← hget_wr1 r3.st.H id _ 0] at q1 q2
                    exact .inl ⟨S2, φ2, hall.trans q1, q2, .bool, fun k hk => l1.inv.top k (Nat.le_trans (Nat.le_max_left _ _) hk), Nat.le_trans hnx (Nat.le_max_left _ _)⟩
                  · exact .inr hv
                cases ex with
                | normal =>
                  cases h
                  exact ⟨_, _, run_endRound none m1, _, rfl, (fin .ready .normal).resolve_right (by simp [Ex.code])⟩
                | ret =>
                  cases h
                  exact ⟨_, _, run_endRound (some .ret) m1, _, rfl, (fin .done .ret).resolve_right (by simp [Ex.code])⟩
                | exit id' =>
                  cases h
                  exact ⟨_, _, run_endRound (some (.exit id')) m1, _, rfl, (fin .done (.exit id')).resolve_right (by simp [Ex.code])⟩
              · cases h
            · cases h2
          · cases h
        · cases h
      · cases h
    · cases h
  · cases h
/-! What is known of calls already -/
theorem eq0_eq {a b : AV} (h : eq0 a b = true) : a = b := by
  unfold eq0 at h
  split at h <;> simp at h <;> simp_all
theorem eqLs_eq {α : Type} {f : α → α → Bool} (hf : ∀ a b, f a b = true → a = b) : ∀ {as bs : List α}, eqLs f as bs = true → as = bs
  | [], [], _ => rfl
  | a :: as, b :: bs, h => by
    simp only [eqLs, Bool.and_eq_true] at h
    rw [hf a b h.1, eqLs_eq hf h.2]
  | [], _ :: _, h => by simp [eqLs] at h
  | _ :: _, [], h => by simp [eqLs] at h
theorem eqD_eq : ∀ {d : Nat} {a b : AV}, eqD d a b = true → a = b
  | 0, a, b, h => eq0_eq h
  | d + 1, a, b, h => by
    have ih : ∀ a b, eqD d a b = true → a = b := fun a b => eqD_eq
    simp only [eqD] at h
    split at h
    · rw [eqLs_eq ih h]
    · rw [eqLs_eq ih h]
    · simp only [Bool.and_eq_true, beq_iff_eq] at h
      rw [h.1, eqLs_eq (fun a b => eqLs_eq ih) h.2]
    · simp only [Bool.and_eq_true, beq_iff_eq] at h
      rw [h.1, eqLs_eq (fun a b => eqLs_eq ih) h.2]
    · simp only [Bool.and_eq_true, beq_iff_eq] at h
      rw [h.1.1, eqLs_eq ih h.1.2, eqLs_eq ih h.2]
    · exact eq0_eq h
def MemosOK (P : Program) (L : List Memo) : Prop := ∀ k ∈ L, PuOK P k.f k.args k.t
theorem findM_ok {f : FuncId} {args : List AV} {t : AV} : ∀ {L : List Memo}, MemosOK P L → findM f args L = some t → PuOK P f args t
  | [], _, h => by cases h
  | k :: ks, hL, h => by
    simp only [findM] at h
    split at h
    · rename_i hc
      cases h
      simp only [Bool.and_eq_true, beq_iff_eq] at hc
      have := hL k (by simp)
      rwa [hc.1, eqLs_eq (fun a b => eqD_eq) hc.2] at this
    · exact findM_ok (fun k hk => hL k (by simp [hk])) h
theorem callFn_ok (hT : TOK P T) (hm : P.follows .mixedOrders = true) (m : Nat) {L : List Memo} (hL : MemosOK P L) : ∀ n, CbOK P (callFn T m L n)
  | 0 => ⟨fun f args H v H' h => (by cases h), fun f args H v H' h => (by cases h), fun id args H v H' h => (by cases h)⟩
  | n + 1 => by
    have hcb := callFn_ok hT hm m hL n
    refine ⟨fun f args H v H' h S φ w vargs hs htop hargs => callBody_ok hT hm hcb h hs htop hargs, fun f args H t H' h => ?_, fun id args H v H' h S φ w vargs loc hs htop hargs hφ => callRound_ok hT hm hcb h hs htop hargs hφ⟩
    simp only [callFn] at h
    split at h
    · rename_i t' e1; cases h; exact findM_ok hL e1
    · exact callPure_ok hT hm hcb h
end Go.V
