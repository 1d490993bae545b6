/- Soundness: loops over functions; functions; rounds. -/
import Derived.Test.YtemlkeknpjbcnaaVt
import Derived.RangeFuncRecord
set_option linter.unusedVariables false
set_option linter.unusedSimpArgs false
namespace Go.V
open Go.RowKit
variable {P : Program}
/-! Loops over functions begin, and end -/
section
variable {T : FuncId → Option IFn} {cb : Cb}
theorem wrH_two (H : Heap) (i j : Nat) (b c : Option Blk) (nx : Nat) : hget (wrH H [(i, b), (j, c)] nx) = fun k => if k = j then c else if k = i then b else hget H k := by rw [hget_wrH]; rfl
theorem enter_sim {S : Nat → Prop} {φ : Phi} {H H1 : Heap} {w : World} {env : List AV} {tmps : Array Value} {ps : Array Tmp} {x y : Code} {ia ib : IC} {rd : Option Nat} {F : Fence} {id : Nat} {ds : List Nat}
    (hs : Sim P S φ (hget H) w) (htop : ∀ k, H.nx ≤ k → φ k = none) (hr : Reps w S φ env tmps) (hx : cCode P x = some ia) (hy : cCode P y = some ib) (hF : FR φ rd F) (he : enterH rd H env ps.toList ia ib = some (H1, id, ds)) (fn : FuncId) :
    ∃ mark w1 φ1 loc, (Instr.enterLoop fn tmps ps x y F.round).run P w = .ok (loc.blk, mark) w1 ∧ φ1 id = some loc ∧ Adv S φ (hget H) w S φ1 (hget H1) w1 ∧ Sim P S φ1 (hget H1) w1 ∧ (∀ k, H1.nx ≤ k → φ1 k = none) ∧ H.nx ≤ H1.nx ∧ Marks φ1 ds mark := by
  cases rd with
  | none =>
    cases hF
    simp only [enterH, Option.some.injEq, Prod.mk.injEq] at he
    obtain ⟨rfl, rfl, rfl⟩ := he
    obtain ⟨q1, q2⟩ := alloc_sim (P := P) (nx := H.nx) (b := .mark) (o := .deferred (some [])) hs (htop _ (Nat.le_refl _)) (fun _ => World.alloc_heap_new w _)
    have hn2 : (fun k => if k = H.nx then some (⟨w.heap.size, 0, 0⟩ : Loc) else φ k) (H.nx + 1) = none := by
      show (if H.nx + 1 = H.nx then _ else φ (H.nx + 1)) = none
      rw [if_neg (by omega)]; exact htop _ (by omega)
    obtain ⟨p1, p2⟩ := alloc_sim (P := P) (nx := H.nx + 1) (b := .loop env ps.toList ia ib .ready .normal H.nx) (o := .loop { state := .ready, pending := none, fn, tmps, params := ps, assign := x, body := y, defers := w.heap.size }) q2 hn2 (fun adv =>
      ⟨_, World.alloc_heap_new _ _, adv.reps q2 (q1.reps hs hr), rfl, hx, hy, rfl, rfl, ⟨w.heap.size, 0, 0⟩, by simp, rfl⟩)
    refine ⟨_, _, (fun k => if k = H.nx + 1 then some ⟨(w.alloc (.deferred (some []))).heap.size, 0, 0⟩ else if k = H.nx then some ⟨w.heap.size, 0, 0⟩ else φ k), ⟨w.heap.size + 1, 0, 0⟩, run_enterLoop_outer fn tmps ps x y, by simp, ?_, ?_, fun k hk => ?_, Nat.le_max_left _ _, ?_⟩
    · rw [wrH_two]; exact q1.trans p1
    · rw [wrH_two]; exact p2
    · have : max H.nx (H.nx + 2) ≤ k := hk
      simp only [show k ≠ H.nx + 1 by omega, show k ≠ H.nx by omega, if_false]
      exact htop k (by omega)
    · exact ⟨⟨⟨w.heap.size, 0, 0⟩, by simp, rfl⟩, trivial⟩
  | some l =>
    obtain ⟨loc0, e0, rfl⟩ := hF
    simp only [enterH] at he
    split at he
    · rename_i env0 ps0 a0 b0 st0 pend0 d0 hl
      simp only [Option.some.injEq, Prod.mk.injEq] at he
      obtain ⟨rfl, rfl, rfl⟩ := he
      obtain ⟨loc', g1, g2, -⟩ := hs.blk l _ hl
      rw [e0] at g1; cases g1
      obtain ⟨r0, f1, f2, f3, f4, f5, f6, f7, ld, f8, f9⟩ := g2
      obtain ⟨p1, p2⟩ := alloc_sim (P := P) (nx := H.nx) (b := .loop env ps.toList ia ib .ready .normal d0) (o := .loop { state := .ready, pending := none, fn, tmps, params := ps, assign := x, body := y, defers := r0.defers }) hs (htop _ (Nat.le_refl _)) (fun adv =>
        ⟨_, World.alloc_heap_new _ _, adv.reps hs hr, rfl, hx, hy, rfl, rfl, ld, adv.phi _ _ f8, f9⟩)
      have hrun : (Instr.enterLoop fn tmps ps x y (Fence.wide.inRound loc0.blk).round).run P w = .ok (w.heap.size, []) (w.alloc (.loop { state := .ready, pending := none, fn, tmps, params := ps, assign := x, body := y, defers := r0.defers })) := by
        show (Instr.enterLoop fn tmps ps x y (some loc0.blk)).run P w = _
        unfold Instr.enterLoop
        simp only [Sem.run_bind, run_getLoop f1, run_newObj_alloc, Result.andThen_ok, Sem.run_pure]
      refine ⟨_, _, (fun k => if k = H.nx then some ⟨w.heap.size, 0, 0⟩ else φ k), ⟨w.heap.size, 0, 0⟩, hrun, by simp, ?_, ?_, fun k hk => ?_, Nat.le_max_left _ _, trivial⟩
      · rw [hget_wr1]; exact p1
      · rw [hget_wr1]; exact p2
      · have : max H.nx (H.nx + 1) ≤ k := hk
        simp only [show k ≠ H.nx by omega, if_false]
        exact htop k (by omega)
    · cases he
theorem leave_sim {S : Nat → Prop} {φ : Phi} {H : Heap} {w : World} {env : List AV} {id : Nat} {ds : List Nat} {loc : Loc} {ex : Ex} {r : RSt} (hs : Sim P S φ (hget H) w) (hφ : φ id = some loc) (he : leaveH env H id ds = some (ex, r)) :
    ∃ w1, (Instr.endLoop loc.blk).run P w = .ok ex.code w1 ∧ r = ⟨⟨env, wrH H [(id, none)] 0⟩, ds⟩ ∧ Adv S φ (hget H) w S φ (hget (wrH H [(id, none)] 0)) w1 ∧ Sim P S φ (hget (wrH H [(id, none)] 0)) w1 := by
  have key : ∀ env0 ps0 a0 b0 st0 pend0 d0, hget H id = some (.loop env0 ps0 a0 b0 st0 pend0 d0) → st0 ≠ .busy →
      ∃ w1, (Instr.endLoop loc.blk).run P w = .ok pend0.code w1 ∧ Adv S φ (hget H) w S φ (hget (wrH H [(id, none)] 0)) w1 ∧ Sim P S φ (hget (wrH H [(id, none)] 0)) w1 := by
    intro env0 ps0 a0 b0 st0 pend0 d0 hl hne
    obtain ⟨loc', g1, g2, -⟩ := hs.blk id _ hl
    rw [hφ] at g1; cases g1
    obtain ⟨r0, f1, f2, f3, f4, f5, f6, f7, -⟩ := g2
    have hrun := run_endLoop (P := P) f1 (by rw [f6]; exact hne)
    obtain ⟨q1, q2⟩ := put_sim (P := P) (b' := none) (o := .loop { r0 with state := .exhausted }) hs hl hφ (shape_loop f1) (fun x hx => by cases hx)
    exact ⟨_, by rw [← f7]; exact hrun, by rw [hget_wr1]; exact q1, by rw [hget_wr1]; exact q2⟩
  unfold leaveH at he
  split at he
  · cases he
  · rename_i env0 ps0 a0 b0 st0 pend0 d0 hne hl
    cases he
    obtain ⟨w1, h1, h2, h3⟩ := key _ _ _ _ _ _ _ hl (fun e => by subst e; first | exact hne rfl | exact hne _ _ _ _ _ _ rfl | simp_all)
    exact ⟨w1, h1, rfl, h2, h3⟩
  · cases he
theorem iter_loop {F : Fence} {rd : Option Nat} {c : Code} {f : RSt → Option (Ex × RSt)} {r' : RSt} {ex : Ex}
    (hf : ∀ r ex r', f r = some (ex, r') → ∀ (S : Nat → Prop) (φ : Phi) (w : World) (a : Act), FR φ rd F → InvR P S φ w r a → ∀ Q : Exit → Act → World → Prop, (∀ a' w', ReachR P S φ w r r' a' w' → Q ex.to a' w') → c.wpIn F 0 P Q a w)
    {m : Nat} {r : RSt} (h : iter f m r = some (ex, r')) {S : Nat → Prop} {φ : Phi} {w : World} {a : Act} (hF : FR φ rd F) (hI : InvR P S φ w r a) {Q : Exit → Act → World → Prop} (hQ : ∀ a' w', ReachR P S φ w r r' a' w' → Q ex.to a' w') : (Code.loop c).wpIn F 0 P Q a w := by
  refine wpIn_rounds (fun k a w => ∃ r S φ, FR φ rd F ∧ InvR P S φ w r a ∧ iter f k r = some (ex, r') ∧ ∀ a' w', ReachR P S φ w r r' a' w' → Q ex.to a' w') (fun a w => ?_) (fun k a w => ?_) (m := m) ⟨r, S, φ, hF, hI, h, hQ⟩
  · rintro ⟨r, S, φ, -, -, h, -⟩; simp [iter] at h
  · rintro ⟨r, S, φ, hF, hI, h, hQ⟩
    simp only [iter] at h
    cases hr : f r with
    | none => rw [hr] at h; cases h
    | some p =>
      obtain ⟨e1, r1⟩ := p
      refine hf r e1 r1 hr S φ w a hF hI _ fun a' w' hR => ?_
      cases e1 with
      | normal =>
        rw [hr] at h
        obtain ⟨S', φ', k1, k2, k4⟩ := hR
        exact ⟨r1, S', φ', hF.mono k2.phi, k1, h, fun a'' w'' hR' => hQ a'' w'' (ReachR.step k2 k4 hR')⟩
      | exit id => rw [hr] at h; cases h; exact hQ a' w' hR
      | ret => rw [hr] at h; cases h; exact hQ a' w' hR
theorem range_sound (hT : TOK P T) (hcb : CbOK P cb) {g : Operand} {ag : Arg} {ps : Array Tmp} {x y : Code} {ia ib : IC} (hg : cOpd g = some ag) (hx : cCode P x = some ia) (hy : cCode P y = some ib) {m : Nat} {rd : Option Nat} {r r' : RSt} {ex : Ex} (hr : run T cb m rd (.rangeF ag ps.toList ia ib) r = some (ex, r'))
    {F : Fence} {S : Nat → Prop} {φ : Phi} {w : World} {a : Act} (hF : FR φ rd F) (hI : InvR P S φ w r a) {Q : Exit → Act → World → Prop} (hQ : ∀ a' w', ReachR P S φ w r r' a' w' → Q ex.to a' w') : (Code.rangeFunc g ps x y).wpIn F 0 P Q a w := by
  have hv := arg_rep hI.inv.env hg
  simp only [run] at hr
  split at hr
  · rename_i f first caps e1
    rw [e1] at hv
    split at hr
    · rename_i hTf
      split at hr
      · rename_i H1 id ds e2
        split at hr
        · rename_i v2 H2 e3
          obtain ⟨vf, vc, k1, k2, k3⟩ : ∃ vf vc, a.eval g = .func (.func f) vf vc ∧ Reps w S φ first vf ∧ Reps w S φ caps vc := by
            generalize a.eval g = q at hv
            cases hv with
            | fn hl h hl' h' => exact ⟨_, _, rfl, ⟨hl, h⟩, ⟨hl', h'⟩⟩
          obtain ⟨fn, hfn⟩ := Option.isSome_iff_exists.1 hTf
          obtain ⟨gg, c, g1, g2, g3, -⟩ := cFn_spec (hT f fn hfn)
          refine wpIn_rangeFunc fun fn' _ => ?_
          obtain ⟨mark, w1, φ1, loc, m1, m2, m3, m4, m5, m6, m7⟩ := enter_sim (P := P) (ps := ps) (x := x) (y := y) hI.inv.sim hI.inv.top hI.inv.env hx hy hF e2 fn'
          have hargs : Reps w1 S φ1 (first ++ [.yld id] ++ caps) (vf ++ #[.func (.yield loc.blk) #[] #[]] ++ vc) :=
            ((m3.reps hI.inv.sim k2).append (reps_one (.yld m2))).append (m3.reps hI.inv.sim k3)
          have hcall := hcb.fn f _ H1 v2 H2 e3 S φ1 w1 _ m4 m5 hargs
          have h5 : (resolve a.eval (rangeCall g loc.blk) 0).run P w1 = .ok { target := .fn (.func f) vc, args := vf ++ #[.func (.yield loc.blk) #[] #[]] } w1 := by
            simp only [resolve, rangeCall, k1]
            simp [Deferred.ofValue, Act.eval]
          have h6 : (invoke (.fn (.func f) vc) (vf ++ #[.func (.yield loc.blk) #[] #[]])).run P w1 = .ok (.enter f (vf ++ #[.func (.yield loc.blk) #[] #[]] ++ vc)) w1 := run_callFunc g1 g2 g3 _
          have h7 : F.depth.isSome = true → 1 ≤ 0 := fun hh => by rw [hF.wf.depth] at hh; cases hh
          refine ⟨loc.blk, mark, w1, _, w1, f, _, w1, m1, h5, fun f' _ => hF.wf.fn f', h6, h7, hF.wf.calls (hcall.mono ?_)⟩
          · rintro e w2 ⟨vv, rfl, S2, φ2, adv, sim, -, top, nx⟩
            obtain ⟨w3, n1, n2, n3, n4⟩ := leave_sim (P := P) sim (adv.phi _ _ m2) hr
            subst n2
            have hadv : Adv S φ (hget r.st.H) w S2 φ2 (hget (wrH H2 [(id, none)] 0)) w3 := (m3.trans adv).trans n3
            have hR : ReachR P S φ w r ⟨⟨r.st.env, wrH H2 [(id, none)] 0⟩, ds ++ r.ds⟩ { a with defers := mark ++ a.defers } w3 :=
              ⟨S2, φ2, ⟨⟨n4, hadv.reps hI.inv.sim hI.inv.env, fun k hk => top k (Nat.le_trans (Nat.le_max_left _ _) hk)⟩, (m7.mono adv.phi).append (hI.mrk.mono hadv.phi)⟩, hadv, Nat.le_trans (Nat.le_trans m6 nx) (Nat.le_max_left _ _)⟩
            have hq := hQ _ _ hR
            refine ⟨ex.code, w3, n1, ?_⟩
            cases ex with
            | normal => exact hq
            | exit id => exact wpIn_exit hq
            | ret => exact wpIn_ret hq
        · cases hr
      · cases hr
    · cases hr
  · cases hr
theorem run_sound (hT : TOK P T) (hcb : CbOK P cb) (hm : P.follows .mixedOrders = true) (m : Nat) (rd : Option Nat) (F : Fence) : ∀ (c : Code) (ic : IC), cCode P c = some ic → ∀ r ex r', run T cb m rd ic r = some (ex, r') → ∀ (S : Nat → Prop) (φ : Phi) (w : World) (a : Act), FR φ rd F → InvR P S φ w r a → ∀ Q : Exit → Act → World → Prop, (∀ a' w', ReachR P S φ w r r' a' w' → Q ex.to a' w') → c.wpIn F 0 P Q a w
  | .skip, ic, hc, r, ex, r', hr, S, φ, w, a, hF, hI, Q, hQ => by
    cases hc; cases hr
    exact wpIn_skip (hQ a w (ReachR.refl hI))
  | .label l, ic, hc, r, ex, r', hr, S, φ, w, a, hF, hI, Q, hQ => by
    cases hc; cases hr
    exact wpIn_label (hQ a w (ReachR.refl hI))
  | .region id ops draw, ic, hc, r, ex, r', hr, S, φ, w, a, hF, hI, Q, hQ => by
    simp only [cCode] at hc
    split at hc
    · rename_i os hos
      cases draw with
      | true =>
        simp only [if_true] at hc
        split at hc
        · rename_i hsl
          cases hc
          simp only [Bool.and_eq_true] at hsl
          simp only [run, if_true] at hr
          cases he : evalDraw T cb os 0 [] r.st with
          | none => simp [he] at hr
          | some st1 => simp [he] at hr; obtain ⟨rfl, rfl⟩ := hr; exact region_draw hT hcb hm hF.wf hos hsl.1 hsl.2 he hI.inv (fun a' w' hR => hQ a' w' (ReachR.of hI.mrk hR))
        · cases hc
      | false =>
        simp only [Bool.false_eq_true, if_false] at hc
        cases hc
        simp only [run, Bool.false_eq_true, if_false] at hr
        cases he : evalOps T cb os r.st with
        | none => simp [he] at hr
        | some st1 => simp [he] at hr; obtain ⟨rfl, rfl⟩ := hr; exact region_seq hT hcb hF.wf hos he hI.inv (fun a' w' hR => hQ a' w' (ReachR.of hI.mrk hR))
    · cases hc
  | .seq x y, ic, hc, r, ex, r', hr, S, φ, w, a, hF, hI, Q, hQ => by
    simp only [cCode] at hc
    split at hc
    · rename_i ia ib h1 h2
      cases hc
      simp only [run] at hr
      cases h3 : run T cb m rd ia r with
      | none => rw [h3] at hr; cases hr
      | some p =>
        obtain ⟨e1, r1⟩ := p
        rw [h3] at hr
        refine wpIn_seq (run_sound hT hcb hm m rd F x ia h1 r e1 r1 h3 S φ w a hF hI _ fun a' w' hR => ?_)
        cases e1 with
        | normal =>
          obtain ⟨S', φ', k1, k2, k4⟩ := hR
          exact run_sound hT hcb hm m rd F y ib h2 r1 ex r' hr S' φ' w' a' (hF.mono k2.phi) k1 Q fun a'' w'' hR' => hQ a'' w'' (ReachR.step k2 k4 hR')
        | exit id => cases hr; exact hQ a' w' hR
        | ret => cases hr; exact hQ a' w' hR
    · cases hc
  | .cond x y z, ic, hc, r, ex, r', hr, S, φ, w, a, hF, hI, Q, hQ => by
    simp only [cCode] at hc
    split at hc
    · rename_i ax iy iz h1 h2 h3
      cases hc
      simp only [run] at hr
      have hv := arg_rep hI.inv.env h1
      split at hr
      · rename_i e1
        rw [e1] at hv
        exact wpIn_cond (t := true) hv.inv_bool (run_sound hT hcb hm m rd F y iy h2 r ex r' hr S φ w a hF hI Q hQ)
      · rename_i e1
        rw [e1] at hv
        exact wpIn_cond (t := false) hv.inv_bool (run_sound hT hcb hm m rd F z iz h3 r ex r' hr S φ w a hF hI Q hQ)
      · cases hr
    · cases hc
  | .block id c, ic, hc, r, ex, r', hr, S, φ, w, a, hF, hI, Q, hQ => by
    simp only [cCode] at hc
    cases h1 : cCode P c with
    | none => simp [h1] at hc
    | some ib =>
      simp [h1] at hc; subst hc
      simp only [run] at hr
      cases h2 : run T cb m rd ib r with
      | none => rw [h2] at hr; cases hr
      | some p =>
        obtain ⟨e1, r1⟩ := p
        rw [h2] at hr
        refine wpIn_block (run_sound hT hcb hm m rd F c ib h1 r e1 r1 h2 S φ w a hF hI _ fun a' w' hR => ?_)
        cases e1 with
        | normal => cases hr; exact hQ a' w' hR
        | ret => cases hr; exact hQ a' w' hR
        | exit id' =>
          simp only at hr
          split at hr
          · rename_i hid; cases hr
            show (if id' = id then Q .normal a' w' else Q (.exit id') a' w')
            rw [if_pos hid]; exact hQ a' w' hR
          · rename_i hid; cases hr
            show (if id' = id then Q .normal a' w' else Q (.exit id') a' w')
            rw [if_neg hid]; exact hQ a' w' hR
  | .loop c, ic, hc, r, ex, r', hr, S, φ, w, a, hF, hI, Q, hQ => by
    simp only [cCode] at hc
    cases h1 : cCode P c with
    | none => simp [h1] at hc
    | some ib =>
      simp [h1] at hc; subst hc
      simp only [run] at hr
      exact iter_loop (run_sound hT hcb hm m rd F c ib h1) hr hF hI hQ
  | .scope c, ic, hc, r, ex, r', hr, S, φ, w, a, hF, hI, Q, hQ => by
    simp only [cCode] at hc
    cases h1 : cCode P c with
    | none => simp [h1] at hc
    | some ib =>
      simp [h1] at hc; subst hc
      simp only [run] at hr
      exact wpIn_scope (run_sound hT hcb hm m rd F c ib h1 r ex r' hr S φ w a hF hI _ fun a' w' hR => ⟨ex.to_goto, hQ a' w' hR⟩)
  | .exit id, ic, hc, r, ex, r', hr, S, φ, w, a, hF, hI, Q, hQ => by
    cases hc; cases hr
    exact wpIn_exit (hQ a w (ReachR.refl hI))
  | .ret, ic, hc, r, ex, r', hr, S, φ, w, a, hF, hI, Q, hQ => by
    cases hc; cases hr
    exact wpIn_ret (hQ a w (ReachR.refl hI))
  | .rangeFunc g ps x y, ic, hc, r, ex, r', hr, S, φ, w, a, hF, hI, Q, hQ => by
    simp only [cCode] at hc
    split at hc
    · rename_i ag ia ib h1 h2 h3
      cases hc
      exact range_sound hT hcb h1 h2 h3 hr hF hI hQ
    · cases hc
  | .goto _, ic, hc, _, _, _, _, _, _, _, _, _, _, _, _ => by cases hc
  | .refuse _, ic, hc, _, _, _, _, _, _, _, _, _, _, _, _ => by cases hc
end

/-! Results -/
def resOne (tmps : Array Value) (r : ResultVar) : Sem Value :=
  match r with
  | .tmp t => pure (tmps.getD t undef)
  | .cell x t => do loadVar t (← asAddr (tmps.getD x undef))
theorem results_eq (fn : Func) (tmps : Array Value) : results fn tmps = (do let vs ← fn.results.mapM (resOne tmps); pure (if h : vs.size = 1 then vs[0] else .tuple vs)) := rfl
theorem resV_run {r : ResultVar} {ir : IRes} (hc : cRes P r = some ir) {st : St} {v : AV} (hr : resV st ir = some v) {S : Nat → Prop} {φ : Phi} {w : World} {a : Act} (hI : Inv P S φ w st a) :
    ∃ vv, (resOne a.tmps r).run P w = .ok vv w ∧ Rep w S φ v vv := by
  cases r with
  | tmp t => cases hc; cases hr; exact ⟨_, rfl, hI.env.getD t⟩
  | cell x t =>
    simp only [cRes] at hc
    cases hk : partK P t with
    | none => simp [hk] at hc
    | some k =>
      simp [hk] at hc; subst hc
      simp only [resV] at hr
      have hv := hI.env.getD x
      split at hr
      · rename_i id i j e1
        split at hr
        · rename_i s xs e2
          rw [e1] at hv
          obtain ⟨loc, f1, f2⟩ := hv.inv_ptr
          obtain ⟨loc', g1, g2, g3⟩ := hI.sim.blk id _ e2
          rw [f1] at g1; cases g1
          cases e3 : xs[i]? with
          | none => simp [e3] at hr
          | some y =>
            simp [e3] at hr
            obtain ⟨vv, r1, r2⟩ := run_loadPart (P := P) hk (o := loc.base + i * loc.sz) (g2.cells e3) hr
            exact ⟨vv, by simp only [resOne, f2, asAddr, Sem.run_bind, Sem.run_pure, Result.andThen_ok]; exact r1, r2⟩
        · cases hr
      · cases hr
theorem resL_run : ∀ {rs : List ResultVar} {irs : List IRes}, cRess P rs = some irs → ∀ {st : St} {vs : List AV}, resL st irs = some vs → ∀ {S : Nat → Prop} {φ : Phi} {w : World} {a : Act}, Inv P S φ w st a →
    ∃ us : List Value, (rs.mapM (resOne a.tmps)).run P w = .ok us w ∧ Reps w S φ vs us.toArray
  | [], irs, hc, st, vs, hr, S, φ, w, a, hI => by
    cases hc; cases hr
    exact ⟨[], rfl, reps_nil⟩
  | r :: rs, irs, hc, st, vs, hr, S, φ, w, a, hI => by
    simp only [cRess] at hc
    split at hc
    · rename_i ir irs' h1 h2
      cases hc
      simp only [resL] at hr
      split at hr
      · rename_i v vs' h3 h4
        cases hr
        obtain ⟨u, q1, q2⟩ := resV_run (P := P) h1 h3 hI
        obtain ⟨us, q3, q4⟩ := resL_run h2 h4 hI
        refine ⟨u :: us, ?_, Reps.cons q2 q4⟩
        rw [List.mapM_cons, Sem.run_bind, q1]
        simp only [Result.andThen_ok, Sem.run_bind, q3, Sem.run_pure]
      · cases hr
    · cases hc
theorem results_run {fn : Func} {irs : List IRes} (hc : cRess P fn.results.toList = some irs) {st : St} {vs : List AV} (hr : resL st irs = some vs) {S : Nat → Prop} {φ : Phi} {w : World} {a : Act} (hI : Inv P S φ w st a) :
    ∃ vv, (results fn a.tmps).run P w = .ok vv w ∧ Rep w S φ (tupV vs) vv := by
  obtain ⟨us, h1, h2⟩ := resL_run (P := P) hc hr hI
  have h3 : (results fn a.tmps).run P w = .ok (if h : us.toArray.size = 1 then us.toArray[0] else .tuple us.toArray) w := by
    rw [results_eq, Array.mapM_eq_mapM_toList, Sem.run_bind, Sem.run_map, h1]
    rfl
  refine ⟨_, h3, ?_⟩
  cases us with
  | nil =>
    have : vs = [] := by have := h2.1; simpa using this.symm
    subst this
    simp only [List.size_toArray, List.length_nil]
    exact .tup rfl (by simp)
  | cons u us =>
    cases vs with
    | nil => have := h2.1; simp at this
    | cons v vs =>
      cases us with
      | nil =>
        have : vs = [] := by have := h2.1; simpa using this.symm
        subst this
        exact h2.2 0 v u (by simp) (by simp)
      | cons u' us =>
        cases vs with
        | nil => have := h2.1; simp at this
        | cons v' vs =>
          rw [dif_neg (by simp)]
          exact .tup h2.1 h2.2

end Go.V
