/- Soundness: equal. -/
import Derived.Test.YtemlkeknpjbcnaaVk
set_option linter.unusedVariables false
set_option linter.unusedSimpArgs false
namespace Go.V
open Go.RowKit
variable {P : Program}

/-- The first cells, and the others. -/
theorem eqL_split : ∀ {k1 k2 : List Bool} {a b : List AV} {r : Bool}, eqL (k1 ++ k2) a b = some r →
    ∃ r1, eqL k1 (a.take k1.length) (b.take k1.length) = some r1 ∧ ((r1 = true ∧ eqL k2 (a.drop k1.length) (b.drop k1.length) = some r) ∨ (r1 = false ∧ r = false))
  | [], k2, a, b, r, h => ⟨true, by simp [eqL], .inl ⟨rfl, by simpa using h⟩⟩
  | k :: k1, k2, [], b, r, h => by simp [eqL] at h
  | k :: k1, k2, x :: a, [], r, h => by simp [eqL] at h
  | k :: k1, k2, x :: a, y :: b, r, h => by
    simp only [List.cons_append, eqL] at h
    split at h
    · rename_i e
      obtain ⟨r1, h1, h2⟩ := eqL_split h
      exact ⟨r1, by simp [eqL, e, h1], by simpa using h2⟩
    · rename_i e; cases h; exact ⟨false, by simp [eqL, e], .inr ⟨rfl, rfl⟩⟩
    · cases h
section ops
variable {P : Program} {S : Nat → Prop} {φ : Phi} {h : Mem} {H : Heap} {w : World} {env : List AV} {a : Act} {o : Oper} {nx : Nat}
theorem Reps.sub {cs : List AV} {vs : Array Value} (hr : Reps w S φ cs vs) (o n : Nat) : Reps w S φ ((cs.drop o).take n) (vs.extract o (o + n)) := by
  refine ⟨by simp [hr.1]; omega, fun i c v e1 e2 => ?_⟩
  rw [List.getElem?_take] at e1
  split at e1
  · rw [List.getElem?_drop] at e1
    rw [Array.getElem?_extract] at e2
    split at e2
    · exact hr.2 _ c v e1 e2
    · cases e2
  · cases e1
/-- What is proved of a type. -/
def EqOK (P : Program) (w : World) (S : Nat → Prop) (φ : Phi) (D : Nat) (t : TypeId) (ks : List Bool) : Prop :=
  (aggK P t = true → ∀ cs ds vc vd b, Reps w S φ cs vc → Reps w S φ ds vd → eqL ks cs ds = some b → (Op.equalIn D t (.agg vc) (.agg vd)).run P w = .ok b w) ∧
  (aggK P t = false → ks.length = 1 ∧ ∀ c d v u b, Rep w S φ c v → Rep w S φ d u → eqL ks [c] [d] = some b → (Op.equalIn D t v u).run P w = .ok b w)
theorem eq_part {D : Nat} {t : TypeId} {ks : List Bool} {n : Nat} (hE : EqOK P w S φ D t ks) (hn : sizeK P t = some ks.length) (hu : (P.underlying t).isSome = true) {cs ds : List AV} {vc vd : Array Value} {b : Bool} {off : Nat} (h1 : Reps w S φ cs vc) (h2 : Reps w S φ ds vd) (he : eqL ks ((cs.drop off).take ks.length) ((ds.drop off).take ks.length) = some b) :
    ∃ v u, (Go.part t vc off).run P w = .ok v w ∧ (Go.part t vd off).run P w = .ok u w ∧ (Op.equalIn D t v u).run P w = .ok b w := by
  obtain ⟨d, hd⟩ := Option.isSome_iff_exists.1 hu
  cases hg : aggK P t with
  | true =>
    have hg' : isAggD d = true := by simpa [aggK, hd] using hg
    refine ⟨.agg (vc.extract off (off + ks.length)), .agg (vd.extract off (off + ks.length)), ?_, ?_, hE.1 hg _ _ _ _ b (h1.sub off ks.length) (h2.sub off ks.length) he⟩
    · simp only [Go.part, Sem.run_bind, run_isAgg hd, Result.andThen_ok, hg', if_true, run_sizeK hn]; rfl
    · simp only [Go.part, Sem.run_bind, run_isAgg hd, Result.andThen_ok, hg', if_true, run_sizeK hn]; rfl
  | false =>
    have hg' : isAggD d = false := by simpa [aggK, hd] using hg
    obtain ⟨hl, hone⟩ := hE.2 hg
    rw [hl] at he
    have key : ∀ (xs : List AV) (vs : Array Value), Reps w S φ xs vs → (∃ x v, (xs.drop off).take 1 = [x] ∧ vs[off]? = some v ∧ Rep w S φ x v) ∨ (xs.drop off).take 1 = [] := fun xs vs hr => by
      cases hx : xs[off]? with
      | none => right; simp at hx ⊢; omega
      | some x =>
        obtain ⟨v, r1, r2⟩ := hr.get hx
        left
        refine ⟨x, v, ?_, r1, r2⟩
        have hlt : off < xs.length := by
          rcases Nat.lt_or_ge off xs.length with h' | h'
          · exact h'
          · rw [List.getElem?_eq_none h'] at hx; cases hx
        rw [List.drop_eq_getElem_cons hlt]
        have : xs[off]? = some xs[off] := by simp [hlt]
        rw [this] at hx; cases hx; rfl
    obtain ⟨k, rfl⟩ : ∃ k, ks = [k] := by
      cases ks with
      | nil => simp at hl
      | cons k ks => cases ks with
        | nil => exact ⟨k, rfl⟩
        | cons _ _ => simp at hl
    rcases key cs vc h1 with ⟨x, v, e1, e2, e3⟩ | e1
    · rcases key ds vd h2 with ⟨y, u, f1, f2, f3⟩ | f1
      · rw [e1, f1] at he
        refine ⟨v, u, ?_, ?_, hone x y v u b e3 f3 he⟩
        · simp only [Go.part, Sem.run_bind, run_isAgg hd, Result.andThen_ok, hg', Bool.false_eq_true, if_false, e2, Sem.run_pure]
        · simp only [Go.part, Sem.run_bind, run_isAgg hd, Result.andThen_ok, hg', Bool.false_eq_true, if_false, f2, Sem.run_pure]
      · rw [e1, f1] at he; simp [eqL] at he
    · rw [e1] at he; simp [eqL] at he
theorem eqA_run {t : TypeId} {d : TypeDesc} {D : Nat} {k : Bool} {x y : AV} {vx vy : Value} {b : Bool} (hd : P.underlying t = some d) (hk : (k = true ∧ d = .bool) ∨ (k = false ∧ ∃ i, d = .int i)) (hx : Rep w S φ x vx) (hy : Rep w S φ y vy) (he : eqA k x y = some b) : (Op.equalIn (D + 1) t vx vy).run P w = .ok b w := by
  unfold eqA at he
  split at he
  · rename_i i m i' m'
    split at he
    · rename_i hc
      obtain ⟨rfl, rfl⟩ := hc
      cases he
      rcases hk with ⟨h0, -⟩ | ⟨-, q, rfl⟩
      · cases h0
      · rw [hx.inv_int, hy.inv_int]
        simp [Op.equalIn, run_underlying hd]
    · cases he
  · split at he
    · rename_i hc
      subst hc
      cases he
      rcases hk with ⟨-, rfl⟩ | ⟨h0, -⟩
      · rw [hx.inv_bool, hy.inv_bool]
        simp [Op.equalIn, run_underlying hd]
      · cases h0
    · cases he
  · cases he
theorem eqL_one {k : Bool} {x y : AV} {b : Bool} (he : eqL [k] [x] [y] = some b) : eqA k x y = some b := by
  simp only [eqL] at he
  cases e : eqA k x y with
  | none => simp [e] at he
  | some r => cases r <;> simpa [e] using he
theorem flatFs_pre {rec : TypeId → Option (List Bool)} : ∀ {fs : List Field} {acc ks : List Bool}, flatFs P rec fs acc = some ks → ∃ rest, ks = acc ++ rest
  | [], acc, ks, h => by cases h; exact ⟨[], by simp⟩
  | f :: fs, acc, ks, h => by
    simp only [flatFs] at h
    split at h
    · split at h
      · split at h
        · obtain ⟨r, rfl⟩ := flatFs_pre h; exact ⟨_, by rw [List.append_assoc]⟩
        · cases h
      · cases h
    · cases h
theorem flat_loop {d D : Nat} (hE : ∀ t ks, flatK P d t = some ks → EqOK P w S φ D t ks) (hU : ∀ t ks, flatK P d t = some ks → (P.underlying t).isSome = true) {cs ds : List AV} {vc vd : Array Value} (h1 : Reps w S φ cs vc) (h2 : Reps w S φ ds vd) :
    ∀ {fs : List Field} {acc rest : List Bool} {b : Bool}, flatFs P (flatK P d) fs acc = some (acc ++ rest) → eqL rest (cs.drop acc.length) (ds.drop acc.length) = some b →
      Sem.run P (forIn fs ((none, ()) : Option Bool × Unit) fun f __s =>
            if f.name ≠ "_" then do
              let __do_lift ← Go.part f.type vc f.offset
              let __do_lift_1 ← Go.part f.type vd f.offset
              let __do_lift ← Op.equalIn D f.type __do_lift __do_lift_1
              if (!__do_lift) = true then pure (ForInStep.done (some false, ())) else pure (ForInStep.yield (none, ()))
            else pure (ForInStep.yield (none, ()))) w = .ok (if b then none else some false, ()) w
  | [], acc, rest, b, hf, he => by
    have hr : rest = [] := by simp only [flatFs, Option.some.injEq] at hf; simpa using hf
    subst hr
    have hb : b = true := by
      cases hx : cs.drop acc.length with
      | nil => cases hy : ds.drop acc.length with
        | nil => rw [hx, hy] at he; cases he; rfl
        | cons _ _ => rw [hx, hy] at he; cases he
      | cons _ _ => rw [hx] at he; simp [eqL] at he
    subst hb
    rfl
  | f :: fs, acc, rest, b, hf, he => by
    simp only [flatFs] at hf
    split at hf
    · rename_i hc
      obtain ⟨hname, hoff⟩ := hc
      split at hf
      · rename_i ks hks
        split at hf
        · rename_i hsz
          obtain ⟨rest', e⟩ := flatFs_pre hf
          have hrest : rest = ks ++ rest' := by rw [List.append_assoc] at e; exact List.append_cancel_left e
          subst hrest
          rw [← List.append_assoc] at hf
          obtain ⟨r1, g1, g2⟩ := eqL_split he
          obtain ⟨v, u, q1, q2, q3⟩ := eq_part (n := 0) (hE _ _ hks) hsz (hU _ _ hks) h1 h2 g1
          rw [List.forIn_cons]
          simp only [hname, ne_eq, not_false_eq_true, if_true, Sem.run_bind, hoff, q1, q2, q3, Result.andThen_ok]
          rcases g2 with ⟨rfl, g2⟩ | ⟨rfl, rfl⟩
          · simp only [Bool.not_true, Bool.false_eq_true, if_false, Sem.run_pure, Result.andThen_ok]
            have hl : (acc ++ ks).length = acc.length + ks.length := by simp
            exact flat_loop hE hU h1 h2 (acc := acc ++ ks) (rest := rest') hf (by rw [hl, ← List.drop_drop, ← List.drop_drop]; exact g2)
          · simp
        · cases hf
      · cases hf
    · cases hf
theorem flat_under {d : Nat} {t : TypeId} {ks : List Bool} (h : flatK P d t = some ks) : (P.underlying t).isSome = true := by
  cases d with
  | zero => cases h
  | succ d =>
    simp only [flatK] at h
    split at h <;> first | (cases h; done) | (rename_i e; simp [e]) | (rename_i e _; simp [e])
theorem flat_eq : ∀ (d : Nat) (t : TypeId) (ks : List Bool), flatK P d t = some ks → ∀ D, d ≤ D → EqOK P w S φ D t ks
  | 0, t, ks, h, D, hD => by cases h
  | d + 1, t, ks, h, D, hD => by
    obtain ⟨D, rfl⟩ : ∃ D', D = D' + 1 := ⟨D - 1, by omega⟩
    simp only [flatK] at h
    split at h
    · rename_i hu
      cases h
      refine ⟨fun hg => by simp [aggK, hu, isAggD] at hg, fun _ => ⟨rfl, fun c d v u b h1 h2 he => eqA_run hu (.inl ⟨rfl, rfl⟩) h1 h2 (eqL_one he)⟩⟩
    · rename_i i hu
      cases h
      refine ⟨fun hg => by simp [aggK, hu, isAggD] at hg, fun _ => ⟨rfl, fun c d v u b h1 h2 he => eqA_run hu (.inr ⟨rfl, _, rfl⟩) h1 h2 (eqL_one he)⟩⟩
    · rename_i fs hu
      split at h
      · cases h
      · rename_i hsi
        have hsi' : P.stoodInHeld t = false := by simpa using hsi
        refine ⟨fun _ cs ds vc vd b h1 h2 he => ?_, fun hg => by simp [aggK, hu, isAggD] at hg⟩
        have hl := flat_loop (D := D) (fun t ks hh => flat_eq d t ks hh D (by omega)) (fun t ks hh => flat_under hh) h1 h2 (acc := []) (rest := ks) (by simpa using h) (by simpa using he)
        unfold Op.equalIn
        simp only [Sem.run_bind, run_underlying hu, Result.andThen_ok, run_program, hsi', Bool.false_eq_true, if_false]
        rw [← Array.forIn_toList, hl]
        cases b <;> rfl
    · cases h
theorem snd_eqv {neg : Bool} {t t' : TypeId} {x y : Operand} {ax ay : Arg} {io : PO} {v : AV} {rd : List Nat} {wr : Wr} {nx' : Nat} {T : FuncId → Option IFn} {cb : Cb} (ho : o.op = .binOp (if neg then .neq else .eql) t x y t') (hio : cEqv P neg t ax ay = some io) (hx : cOpd x = some ax) (hy : cOpd y = some ay) (hnt : isIntT P t = false)
    (he : evalOp T cb env H nx io = some (.eff v rd wr nx')) (hs : Sim P S φ h w) (hr : Reps w S φ env a.tmps) : OpOK P o a w (Ends P S φ h w v wr nx nx') := by
  have hv := arg_rep hr hx
  have hvy := arg_rep hr hy
  unfold cEqv at hio
  split at hio
  · rename_i ks hks
    split at hio
    · cases hio
    · rename_i hgt
      have hgt' : P.eqGuardType P.depth t = false := by simpa using hgt
      cases hio
      have hE := flat_eq (w := w) (S := S) (φ := φ) 20 t ks hks Op.maxDepth (by decide)
      have hex : execOp a.eval o = (do pure (.value (← (do eqGuard (if neg then .neq else .eql) t x y (a.eval x) (a.eval y); binOp (if neg then .neq else .eql) t (a.eval x) (a.eval y))))) := by unfold execOp; simp only [ho]
      have fin : ∀ b, (eqGuard (if neg then .neq else .eql) t x y (a.eval x) (a.eval y)).run P w = .ok () w → (binOp (if neg then .neq else .eql) t (a.eval x) (a.eval y)).run P w = .ok (.bool (if neg then !b else b)) w → OpOK P o a w (Ends P S φ h w (.bool (if neg then !b else b)) [] nx nx) := fun b e1 e2 =>
        opOK_value hex (by rw [Sem.run_bind, e1]; exact e2) (ends_pure hs .bool)
      cases hg : aggK P t with
      | true =>
        rw [hg] at he
        simp only [evalOp] at he
        split at he
        · rename_i cs ds e1 e2
          cases e3 : eqL ks cs ds with
          | none => simp [e3] at he
          | some b =>
            simp [e3] at he
            obtain ⟨rfl, rfl, rfl, rfl⟩ := he
            rw [e1] at hv; rw [e2] at hvy
            obtain ⟨vc, f1, f2⟩ := hv.inv_agg
            obtain ⟨vd, g1, g2⟩ := hvy.inv_agg
            have hrun := hE.1 hg _ _ _ _ b f2 g2 e3
            refine fin b ?_ ?_
            · rw [f1, g1]; cases neg <;> simp [eqGuard, hgt']
            · rw [f1, g1]; cases neg <;> simp [binOp, Op.equal, hrun]
        · cases he
      | false =>
        rw [hg] at he
        simp only [evalOp] at he
        cases e3 : eqL ks [arg env ax] [arg env ay] with
        | none => simp [e3] at he
        | some b =>
          simp [e3] at he
          obtain ⟨rfl, rfl, rfl, rfl⟩ := he
          obtain ⟨hl, hone⟩ := hE.2 hg
          have hrun := hone _ _ _ _ b hv hvy e3
          -- both are truths: numbers are compared elsewhere
          have hbb : ∃ p q, a.eval x = .bool p ∧ a.eval y = .bool q := by
            simp only [flatK] at hks
            split at hks
            · cases hks
              have := eqL_one e3
              unfold eqA at this
              split at this
              · simp at this
              · rename_i p q h1 h2; rw [h1] at hv; rw [h2] at hvy; exact ⟨p, q, hv.inv_bool, hvy.inv_bool⟩
              · cases this
            · rename_i hu; simp [isIntT, hu] at hnt
            · rename_i hu; simp [aggK, hu, isAggD] at hg
            · cases hks
          obtain ⟨p, q, f1, g1⟩ := hbb
          rw [f1, g1] at hrun
          refine fin b ?_ ?_
          · rw [f1, g1]; cases neg <;> simp [eqGuard]
          · rw [f1, g1]; cases neg <;> simp [binOp, Op.equal, hrun]
  · cases hio
theorem nilT_spec {t : TypeId} (h : nilT P t = true) : ∃ e, P.underlying t = some (.slice e) := by
  unfold nilT at h
  split at h
  · rename_i e he; exact ⟨e, he⟩
  · cases h
theorem isNilC_spec {y : Operand} (h : isNilC y = true) : y = .const (.slice none 0 0) := by
  unfold isNilC at h
  split at h
  · rfl
  · cases h
theorem snd_isNil {neg : Bool} {t t' : TypeId} {x y : Operand} {ax : Arg} {v : AV} {rd : List Nat} {wr : Wr} {nx' : Nat} {T : FuncId → Option IFn} {cb : Cb} (ho : o.op = .binOp (if neg then .neq else .eql) t x y t') (hn : nilT P t = true) (hy : isNilC y = true) (hx : cOpd x = some ax)
    (he : evalOp T cb env H nx (.isNil neg ax) = some (.eff v rd wr nx')) (hs : Sim P S φ h w) (hr : Reps w S φ env a.tmps) : OpOK P o a w (Ends P S φ h w v wr nx nx') := by
  have hv := arg_rep hr hx
  obtain ⟨e, hu⟩ := nilT_spec hn
  have hy' := isNilC_spec hy
  subst hy'
  have hex : execOp a.eval o = (do pure (.value (← (do eqGuard (if neg then .neq else .eql) t x (.const (.slice none 0 0)) (a.eval x) (.slice none 0 0); binOp (if neg then .neq else .eql) t (a.eval x) (.slice none 0 0))))) := by unfold execOp; simp only [ho]; rfl
  have key : ∀ base len cap, a.eval x = .slice base len cap → OpOK P o a w (Ends P S φ h w (.bool (if neg then base.isSome else base.isNone)) [] nx nx) := fun base len cap e1 => by
    refine opOK_value hex (w' := w) (vv := .bool (if neg then base.isSome else base.isNone)) ?_ (ends_pure hs .bool)
    rw [e1]
    have heq : ∀ d, (Op.equalIn (d + 1) t (.slice base len cap) (.slice none 0 0)).run P w = .ok base.isNone w := fun d => by
      unfold Op.equalIn
      rw [Sem.run_bind, run_underlying hu]
      cases base <;> rfl
    have h0 : (Op.equal t (.slice base len cap) (.slice none 0 0)).run P w = .ok base.isNone w := heq 9999
    have hg : ∀ op, (eqGuard op t x (.const (.slice none 0 0)) (.slice base len cap) (.slice none 0 0)).run P w = .ok () w := fun op => by
      unfold eqGuard; cases op <;> rfl
    cases neg
    · have hb : binOp .eql t (.slice base len cap) (.slice none 0 0) = (do pure (.bool (← Op.equal t (.slice base len cap) (.slice none 0 0)))) := rfl
      simp only [Bool.false_eq_true, if_false, hb, Sem.run_bind, hg, h0, Result.andThen_ok, Sem.run_pure]
    · have hb : binOp .neq t (.slice base len cap) (.slice none 0 0) = (do pure (.bool (!(← Op.equal t (.slice base len cap) (.slice none 0 0))))) := rfl
      simp only [if_true, hb, Sem.run_bind, hg, h0, Result.andThen_ok, Sem.run_pure]
      cases base <;> rfl
  simp only [evalOp] at he
  split at he
  · rename_i e2
    cases he
    rw [e2] at hv
    have := key none 0 0 (by generalize a.eval x = q at hv; cases hv; rfl)
    cases neg <;> simpa using this
  · rename_i id off len e2
    cases he
    rw [e2] at hv
    obtain ⟨loc, cap', e'', n', hφ, hsh, hn', hlc, hval⟩ := hv.inv_own
    have := key _ _ _ hval
    cases neg <;> simpa using this
  · rename_i z e2
    cases he
    rw [e2] at hv
    obtain ⟨aa, cap', hval, -⟩ := hv.inv_emp
    have := key _ _ _ hval
    cases neg <;> simpa using this
  · rename_i s q qs e2
    cases he
    rw [e2] at hv
    obtain ⟨aa, cap, f1, f0, f2⟩ := hv.inv_lst
    rcases f2 with f2 | ⟨b, base, rfl, f2⟩
    · cases f2
    · have := key _ _ _ f1
      cases neg <;> simpa using this
  · cases he
end ops
end Go.V
