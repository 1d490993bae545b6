/- Soundness: code, and functions. -/
import Derived.Test.YtiailejekbnkgaaGreatJG
import Derived.RangeFuncLeaves
import Derived.RangeFuncRecord
import Derived.RecoverIn
import Derived.Test.YtiailejekbnkgaaGreatJB
set_option linter.unusedVariables false
set_option linter.unusedSimpArgs false
namespace Go.V
open Go.RowKit
variable {P : Program}

theorem World.putObj_heap {w : World} {r k : Nat} {o : Obj} (h : r < w.heap.size) : (w.putObj r o).heap[k]? = if k = r then some o else w.heap[k]? := by
  by_cases hk : k = r
  · subst hk; rw [if_pos rfl]; exact World.putObj_heap_same h
  · rw [if_neg hk]; exact World.putObj_heap_other hk
def Ex.to : Ex → Exit
  | .normal => .normal
  | .exit id => .exit id
  | .ret => .ret
  | .pan v => .panic [{ v := v, recovered := false }]
theorem Ex.to_then {K : Act → World → Prop} {Q : Exit → Act → World → Prop} {e : Ex} (h : e ≠ .normal) (a : Act) (w : World) : Exit.then K Q e.to a w = Q e.to a w := by cases e <;> first | rfl | exact absurd rfl h

/-- A loop, by how often it goes round at most. -/
theorem wpIn_rounds {F : Fence} {n : Nat} {P : Program} {c : Code} {Q : Exit → Act → World → Prop} (J : Nat → Act → World → Prop) (h0 : ∀ a w, ¬ J 0 a w)
    (round : ∀ k a w, J (k + 1) a w → c.wpIn F n P (Exit.then (J k) Q) a w) {m : Nat} {a : Act} {w : World} (h : J m a w) : (Code.loop c).wpIn F n P Q a w := by
  intro b k cs hro hb hr
  have key : ∀ j a w, J j a w → ∃ e a' w', Q e a' w' ∧ ArrivesIn (Machine.fenced P F) P (lone (b.atR a (.code c :: .inLoop c :: k)) cs w) b k cs e a' w' := by
    intro j
    induction j with
    | zero => intro a w hJ; exact absurd hJ (h0 a w)
    | succ j ih =>
      intro a w hJ
      obtain ⟨e, a₁, w₁, hq, harr⟩ := round j a w hJ b (.inLoop c :: k) cs hro hb hr
      cases e with
      | normal =>
        obtain ⟨e₂, a₂, w₂, hq₂, harr₂⟩ := ih a₁ w₁ hq
        exact ⟨e₂, a₂, w₂, hq₂, .of_steps (StepsIn.trans harr (.one (fenced_calm hb hr rfl) stepR_inLoop)) harr₂⟩
      | exit id => exact ⟨_, a₁, w₁, hq, .pass (x := .inLoop c) rfl (fun _ _ => .inl (by simp)) harr⟩
      | goto l => exact ⟨_, a₁, w₁, hq, .pass (x := .inLoop c) rfl (fun _ _ => .inl (by simp)) harr⟩
      | ret => exact ⟨_, a₁, w₁, hq, .pass (x := .inLoop c) rfl (fun _ _ => .inl (by simp)) harr⟩
      | panic ch => exact ⟨_, a₁, w₁, hq, .pass (x := .inLoop c) rfl (fun _ _ => .inl (by simp)) harr⟩
      | outgrown => exact ⟨_, a₁, w₁, hq, .pass (x := .inLoop c) rfl (fun _ _ => .inl (by simp)) harr⟩
  obtain ⟨e, a', w', hq, harr⟩ := key _ a w h
  exact ⟨e, a', w', hq, .of_steps (.one (fenced_calm hb hr rfl) stepR_loop) harr⟩

/-! A scope that no jump goes through -/
section
variable {b : Frame} {a : Act} {k : List Item} {cs : List Frame} {w : World} {F : Fence} {n : Nat}
theorem stepR_scope {c : Code} : step P (lone (b.atR a (.code (.scope c) :: k)) cs w) = .next (lone (b.atR a (.code c :: .inScope c :: k)) cs w) :=
  step_lone_go (by simp [stepG, stepG.exec, Frame.atR])
theorem stepR_inScope {c : Code} : step P (lone (b.atR a (.inScope c :: k)) cs w) = .next (lone (b.atR a k) cs w) :=
  step_lone_go (by simp [stepG, stepG.exec, Frame.atR])
theorem wpIn_scope {c : Code} {Q : Exit → Act → World → Prop} (h : c.wpIn F n P (fun e a w => (∀ l, e ≠ .goto l) ∧ Q e a w) a w) : (Code.scope c).wpIn F n P Q a w := by
  intro b k cs hro hb hr
  have h0 : (lone (b.atR a (.code (.scope c) :: k)) cs w).fenced P F := fenced_calm hb hr rfl
  obtain ⟨e, a₁, w₁, ⟨hng, hq⟩, harr⟩ := h b (.inScope c :: k) cs hro hb hr
  cases e with
  | normal => exact ⟨.normal, a₁, w₁, hq, .head h0 stepR_scope (StepsIn.trans harr (.one (fenced_calm (fr := b.atR a₁ (.inScope c :: k)) hb hr rfl) stepR_inScope))⟩
  | exit id => exact ⟨.exit id, a₁, w₁, hq, .of_steps (.one h0 stepR_scope) ⟨fun k' hk => harr.1 k' (by simp [exitTo, hk]), fun hr hk => harr.2 hr (by simp [exitTo, hk])⟩⟩
  | goto l => exact absurd rfl (hng l)
  | ret => exact ⟨_, a₁, w₁, hq, .of_steps (.one h0 stepR_scope) harr⟩
  | panic ch => exact ⟨_, a₁, w₁, hq, .of_steps (.one h0 stepR_scope) harr⟩
  | outgrown => exact ⟨_, a₁, w₁, hq, .of_steps (.one h0 stepR_scope) harr⟩
end
theorem Ex.to_goto (e : Ex) (l : Nat) : e.to ≠ .goto l := by cases e <;> simp [Ex.to]

theorem shape_loop {w : World} {b : Nat} {r : Loop} (h : w.heap[b]? = some (.loop r)) : w.shape? b = none := by unfold World.shape?; rw [h]
theorem shape_deferred {w : World} {b : Nat} {d : Option (List Deferred)} (h : w.heap[b]? = some (.deferred d)) : w.shape? b = none := by unfold World.shape?; rw [h]
theorem hget_wr1 (H : Heap) (id : Nat) (b : Option Blk) (nx : Nat) : hget (wrH H [(id, b)] nx) = fun k => if k = id then b else hget H k := by rw [hget_wrH, updH_one]

/-! Marks; the frames of rounds -/
def DefOK (w : World) (S : Nat → Prop) (φ : Phi) : DE → Deferred → Prop
  | .mk id, d => ∃ loc, φ id = some loc ∧ d = { target := .collected loc.blk, args := #[] }
  | .fn f as, d => ∃ caps da, d = { target := .fn (.func f) caps, args := da } ∧ Reps w S φ as (da ++ caps)
def Marks (w : World) (S : Nat → Prop) (φ : Phi) : List DE → List Deferred → Prop
  | [], [] => True
  | e :: es, d :: ds => DefOK w S φ e d ∧ Marks w S φ es ds
  | _, _ => False
theorem DefOK.adv {S S' : Nat → Prop} {φ φ' : Phi} {h h' : Mem} {w w' : World} (p : Adv S φ h w S' φ' h' w') (hs : Sim P S φ h w) {e : DE} {d : Deferred} (hd : DefOK w S φ e d) : DefOK w' S' φ' e d := by
  cases e with
  | mk id => obtain ⟨loc, h1, h2⟩ := hd; exact ⟨loc, p.phi _ _ h1, h2⟩
  | fn f as => obtain ⟨caps, da, h1, h2⟩ := hd; exact ⟨caps, da, h1, p.reps hs h2⟩
theorem Marks.adv {S S' : Nat → Prop} {φ φ' : Phi} {h h' : Mem} {w w' : World} (p : Adv S φ h w S' φ' h' w') (hs : Sim P S φ h w) : ∀ {ids : List DE} {ds : List Deferred}, Marks w S φ ids ds → Marks w' S' φ' ids ds
  | [], [], _ => trivial
  | e :: es, d :: ds, hm => ⟨hm.1.adv p hs, Marks.adv p hs hm.2⟩
  | [], _ :: _, hm => hm
  | _ :: _, [], hm => hm
theorem Marks.append {w : World} {S : Nat → Prop} {φ : Phi} : ∀ {ids ids' : List DE} {ds ds' : List Deferred}, Marks w S φ ids ds → Marks w S φ ids' ds' → Marks w S φ (ids ++ ids') (ds ++ ds')
  | [], _, [], _, _, h => h
  | id :: ids, _, d :: ds, _, hm, h => ⟨hm.1, Marks.append hm.2 h⟩
  | [], _, _ :: _, _, hm, _ => hm.elim
  | _ :: _, _, [], _, hm, _ => hm.elim
def FR (φ : Phi) : Option Nat → Fence → Prop
  | none, F => F = Fence.wide
  | some id, F => ∃ loc, φ id = some loc ∧ F = Fence.wide.inRound loc.blk
theorem FR.wf {φ : Phi} {rd : Option Nat} {F : Fence} (h : FR φ rd F) : WF F := by
  cases rd with
  | none => cases h; exact .wide
  | some id => obtain ⟨loc, -, rfl⟩ := h; exact .rnd _
theorem FR.mono {φ φ' : Phi} (hφ : ∀ id loc, φ id = some loc → φ' id = some loc) {rd : Option Nat} {F : Fence} (h : FR φ rd F) : FR φ' rd F := by
  cases rd with
  | none => exact h
  | some id => obtain ⟨loc, h1, h2⟩ := h; exact ⟨loc, hφ _ _ h1, h2⟩
structure InvR (P : Program) (S : Nat → Prop) (φ : Phi) (w : World) (r : RSt) (a : Act) : Prop where
  inv : Inv P S φ w r.st a
  mrk : Marks w S φ r.ds a.defers
def ReachR (P : Program) (S : Nat → Prop) (φ : Phi) (w : World) (r : RSt) (r' : RSt) (a' : Act) (w' : World) : Prop :=
  ∃ S' φ', InvR P S' φ' w' r' a' ∧ Adv S φ (hget r.st.H) w S' φ' (hget r'.st.H) w' ∧ r.st.H.nx ≤ r'.st.H.nx
theorem ReachR.refl {S : Nat → Prop} {φ : Phi} {w : World} {r : RSt} {a : Act} (h : InvR P S φ w r a) : ReachR P S φ w r r a w := ⟨S, φ, h, Adv.refl _ _ _ _, Nat.le_refl _⟩
theorem ReachR.step {S S' : Nat → Prop} {φ φ' : Phi} {w w' w'' : World} {r r' r'' : RSt} {a'' : Act} (h2 : Adv S φ (hget r.st.H) w S' φ' (hget r'.st.H) w') (h4 : r.st.H.nx ≤ r'.st.H.nx) (k : ReachR P S' φ' w' r' r'' a'' w'') : ReachR P S φ w r r'' a'' w'' := by
  obtain ⟨S'', φ'', k1, k2, k4⟩ := k
  exact ⟨S'', φ'', k1, h2.trans k2, Nat.le_trans h4 k4⟩
theorem ReachR.of {S : Nat → Prop} {φ : Phi} {w w' : World} {st st' : St} {a a' : Act} {ds : List DE} (hs : Sim P S φ (hget st.H) w) (hm : Marks w S φ ds a.defers) (h : Reach P S φ w st a st' a' w') : ReachR P S φ w ⟨st, ds⟩ ⟨st', ds⟩ a' w' := by
  obtain ⟨S', φ', k1, k2, k3, k4⟩ := h
  exact ⟨S', φ', ⟨k1, by rw [k3]; exact hm.adv k2 hs⟩, k2, k4⟩

/-! What a function panics with -/
theorem clos_rep {w : World} {S : Nat → Prop} {φ : Phi} : ∀ {a : AV} {v u : Value}, closV a = some v → Rep w S φ a u → u = v
  | .int k n, _, _, h, hr => by cases h; exact hr.inv_int
  | .bool b, _, _, h, hr => by cases h; exact hr.inv_bool
  | .str s, _, _, h, hr => by cases h; exact hr.inv_str
  | .ifcN, _, _, h, hr => by cases h; exact hr.inv_ifcN
  | .agg [], _, _, h, hr => by
    cases h
    obtain ⟨us, rfl, q⟩ := hr.inv_agg
    have : us.size = 0 := q.1
    rw [Array.eq_empty_of_size_eq_zero this]
  | .ifc t a, _, _, h, hr => by
    simp only [closV, Option.map_eq_some_iff] at h
    obtain ⟨v', h1, rfl⟩ := h
    obtain ⟨u', rfl, q⟩ := hr.inv_ifc
    rw [clos_rep h1 q]
  | .agg (_ :: _), _, _, h, _ | .tup _, _, _, h, _ | .lst .., _, _, h, _ | .ptrL .., _, _, h, _ | .own .., _, _, h, _ | .ptr .., _, _, h, _ | .emp _, _, _, h, _ | .nilS, _, _, h, _ | .nilP, _, _, h, _ | .nilF, _, _, h, _ | .fn .., _, _, h, _ | .yld _, _, _, h, _
  | .fresh .., _, _, h, _ | .map _, _, _, h, _ | .mapN, _, _, h, _ | .mapL .., _, _, h, _ | .pan _, _, _, h, _ => by simp [closV] at h
section
variable {T : FuncId → Option IFn} {cb : Cb}
/-- A call that panics; a panic. -/
def PanOK (P : Program) (S : Nat → Prop) (φ : Phi) (H : Heap) (w : World) (p : Value) (H' : Heap) (a : Act) (o : Oper) : Prop :=
  ((execOp a.eval o).run P w = .halt (.panic p) w ∧ H' = H) ∨ ∃ f us, (execOp a.eval o).run P w = .ok (.enter f us) w ∧ Calls P f us w fun e w' => e = .panicked [{ v := p, recovered := false }] ∧ Left P S φ H w H' w'
theorem panCall_ok (hT : TOK P T) (hcb : CbOK P cb) {f : FuncId} {args : List AV} {us : Array Value} {H H' : Heap} {p : Value} {a : Act} {o : Oper} {S : Nat → Prop} {φ : Phi} {w : World}
    (hex : ∀ w, (execOp a.eval o).run P w = (callFunc f us).run P w) (hargs : Reps w S φ args us) (he : panCall T cb f args H = some (p, H')) (hs : Sim P S φ (hget H) w) (htop : ∀ id, H.nx ≤ id → φ id = none) : PanOK P S φ H w p H' a o := by
  unfold panCall at he
  split at he
  · rename_i fn hfn
    split at he
    · split at he
      · rename_i p' H1 hq
        cases he
        obtain ⟨g, c, g1, g2, g3, -⟩ := cFn_spec (hT f fn hfn)
        exact .inr ⟨f, us, by rw [hex]; exact run_callFunc g1 g2 g3 us, (hcb.fn f args H _ H' hq S φ w us hs htop hargs).mono fun e w' hf => hf.pan⟩
      · cases he
    · cases he
  · cases he
theorem panOp_ok (hT : TOK P T) (hcb : CbOK P cb) {op : Op} {io : PO} {H H' : Heap} {p : Value} {a : Act} {o : Oper} {env : List AV} {S : Nat → Prop} {φ : Phi} {w : World} (hc : cOp P op = some io) (ho : o.op = op) (he : panOp T cb env H io = some (p, H')) (hs : Sim P S φ (hget H) w) (hr : Reps w S φ env a.tmps) (htop : ∀ id, H.nx ≤ id → φ id = none) :
    PanOK P S φ H w p H' a o ∧ ∀ c, op ≠ .defer c := by
  have hcall : (∃ f as, io = .call f as) ∨ (∃ g as, io = .callv g as) ∨ ∃ x, io = .pnc x := by
    cases io <;> simp only [panOp] at he <;> first | (cases he; done) | exact .inl ⟨_, _, rfl⟩ | exact .inr (.inl ⟨_, _, rfl⟩) | exact .inr (.inr ⟨_, rfl⟩)
  have hnd : ∀ c, op ≠ .defer c := by
    rintro c rfl
    simp only [cOp] at hc
    split at hc
    · simp only [Option.map_eq_some_iff] at hc
      obtain ⟨_, _, rfl⟩ := hc
      rcases hcall with ⟨_, _, e⟩ | ⟨_, _, e⟩ | ⟨_, e⟩ <;> cases e
    · cases hc
  refine ⟨?_, hnd⟩
  by_cases hpn : ∃ x, op = .panic x
  · obtain ⟨x, rfl⟩ := hpn
    simp only [cOp, Option.map_eq_some_iff] at hc
    obtain ⟨ax, hx, rfl⟩ := hc
    simp only [panOp] at he
    split at he
    · rename_i t v e1
      simp only [Option.map_eq_some_iff] at he
      obtain ⟨p', h1, h2⟩ := he
      cases h2
      have hv := arg_rep hr hx
      rw [e1] at hv
      have hval := clos_rep h1 hv
      obtain ⟨u, k1, -⟩ := hv.inv_ifc
      refine .inl ⟨?_, rfl⟩
      rw [← hval, k1]
      unfold execOp
      simp only [ho, k1, Instr.panic]
      rfl
    · cases he
  · have hcl : io.isCall = true := by
      rcases hcall with ⟨f, as, rfl⟩ | ⟨g, as, rfl⟩ | ⟨x, rfl⟩
      · rfl
      · rfl
      · exact absurd (cOp_pnc hc rfl) hpn
    obtain ⟨c, rfl⟩ := cOp_call hc hcl
    simp only [cOp] at hc
    split at hc
    · exfalso
      unfold cBuiltin at hc
      repeat' (first | (cases hc; done) | split at hc)
      all_goals (first
        | (cases hc; cases hcl; done)
        | (simp only [Option.map_eq_some_iff] at hc; obtain ⟨_, _, rfl⟩ := hc; cases hcl; done))
    · rename_i f args hcal hargs
      cases hc
      exact panCall_ok (us := c.args.map a.eval) hT hcb (fun w => by rw [call_exec ho hcal]; simp [invoke]) (args_arr hargs hr) he hs htop
    · rename_i g args hng hcal hargs
      simp only [Option.map_eq_some_iff] at hc
      obtain ⟨ag, hg, rfl⟩ := hc
      simp only [panOp] at he
      split at he
      · rename_i f first caps e1
        have hv := arg_rep hr hg
        rw [e1] at hv
        obtain ⟨vf, vc, k1, k2, k3⟩ : ∃ vf vc, a.eval g = .func (.func f) vf vc ∧ Reps w S φ first vf ∧ Reps w S φ caps vc := by
          generalize a.eval g = q at hv
          cases hv with
          | fn hl h hl' h' => exact ⟨_, _, rfl, ⟨hl, h⟩, ⟨hl', h'⟩⟩
        exact panCall_ok hT hcb (callv_exec ho hcal k1) ((k2.append (args_arr hargs hr)).append k3) he hs htop
      · cases he
    · simp only [Option.map_eq_some_iff] at hc
      obtain ⟨_, _, rfl⟩ := hc
      cases he
    · cases hc
theorem dfrOp_ok {op : Op} {io : PO} {a : Act} {o : Oper} {env : List AV} {d : DE} {S : Nat → Prop} {φ : Phi} {w : World} (hc : cOp P op = some io) (ho : o.op = op) (he : dfrOp env io = some d) (hr : Reps w S φ env a.tmps) :
    ∃ dd, (execOp a.eval o).run P w = .ok (.defer dd) w ∧ DefOK w S φ d dd := by
  have hdf : ∃ c, op = .defer c := cOp_dfr hc (by cases io <;> first | rfl | (simp only [dfrOp] at he; cases he))
  obtain ⟨c, rfl⟩ := hdf
  simp only [cOp] at hc
  split at hc
  · rename_i g args hcal hargs
    simp only [Option.map_eq_some_iff] at hc
    obtain ⟨ag, hg, rfl⟩ := hc
    simp only [dfrOp] at he
    split at he
    · rename_i f first caps e1
      cases he
      have hv := arg_rep hr hg
      rw [e1] at hv
      obtain ⟨vf, vc, k1, k2, k3⟩ : ∃ vf vc, a.eval g = .func (.func f) vf vc ∧ Reps w S φ first vf ∧ Reps w S φ caps vc := by
        generalize a.eval g = q at hv
        cases hv with
        | fn hl h hl' h' => exact ⟨_, _, rfl, ⟨hl, h⟩, ⟨hl', h'⟩⟩
      refine ⟨{ target := .fn (.func f) vc, args := vf ++ c.args.map a.eval }, ?_, vc, _, rfl, (k2.append (args_arr hargs hr)).append k3⟩
      unfold execOp
      simp only [ho, resolve, hcal, k1, Deferred.ofValue, Sem.run_bind, Sem.run_pure, Result.andThen_ok]
    · cases he
  · cases hc
theorem ReachR.trans {S : Nat → Prop} {φ : Phi} {w w' w'' : World} {r r' r'' : RSt} {a' a'' : Act} (h : ReachR P S φ w r r' a' w') (k : ∀ S' φ', InvR P S' φ' w' r' a' → ReachR P S' φ' w' r' r'' a'' w'') : ReachR P S φ w r r'' a'' w'' := by
  obtain ⟨S', φ', h1, h2, h4⟩ := h
  exact ReachR.step h2 h4 (k S' φ' h1)
theorem put_tmps (a : Act) (ds : List Deferred) (dst : Option Nat) (v : Value) : (({ a with defers := ds } : Act).put dst v).tmps = (a.put dst v).tmps := by cases dst <;> rfl
theorem seqx_sound (hT : TOK P T) (hcb : CbOK P cb) {ops : Array Oper} {Q : Exit → Act → World → Prop} : ∀ (n k : Nat) (ios : List IOp) (r r' : RSt) (ex : Ex) (S : Nat → Prop) (φ : Phi) (w : World) (a : Act), k + n = ops.size → cOpers P ops (ops.toList.drop k) k = some ios → evalX T cb ios r = some (ex, r') → InvR P S φ w r a →
    (∀ a' w', ReachR P S φ w r r' a' w' → Q ex.to a' w') → wpOpsIn Fence.wide 0 P ops Q (List.range' k n) a w
  | 0, k, ios, r, r', ex, S, φ, w, a, hk, hc, he, hI, hQ => by
    have : ops.toList.drop k = [] := by simp; omega
    rw [this] at hc
    cases hc; cases he
    exact hQ a w (ReachR.refl hI)
  | n + 1, k, ios, r, r', ex, S, φ, w, a, hk, hc, he, hI, hQ => by
    have hlt : k < ops.size := by omega
    have hd : ops.toList.drop k = ops[k] :: ops.toList.drop (k + 1) := by rw [List.drop_eq_getElem_cons (by simpa using hlt)]; simp
    rw [hd] at hc
    simp only [cOpers] at hc
    have hF : WF Fence.wide := .wide
    split at hc
    · rename_i io ios' h1 h2
      cases hc
      obtain ⟨d1, d2, d3⟩ := cOper_op h1
      have ho : ops[k]? = some ops[k] := by simp [hlt]
      have hw := wanted_eq h1 hI.inv.env
      simp only [List.range'_succ, wpOpsIn, ho]
      simp only [evalX] at he
      split at he
      · rename_i hwant
        rw [hwant] at hw
        rw [if_pos hw.symm]
        cases hcop : cOp P ops[k].op with
        | none =>
          rw [hcop] at d2
          have d2 : io.op = .bad := d2
          simp only [d2, evalOp, dfrOp, panOp] at he
          cases he
        | some oo =>
          rw [hcop] at d2
          have d2 : io.op = oo := d2
          rw [d2] at he
          split at he
          · rename_i v rd wr nx e1
            refine wpIn_of hF (cOp_noDefer hcop e1) (op_eff hT hcb hcop rfl e1 (fun _ _ => rfl) hI.inv.sim hI.inv.env (fun id i1 _ => hI.inv.top id i1)) fun vv w' hE => ?_
            have hR := inv_eff hI.inv hE io.dst
            rw [d1] at hR he
            have hRR := ReachR.of hI.inv.sim hI.mrk hR
            obtain ⟨S', φ', r1, r2, r4⟩ := hRR
            exact seqx_sound hT hcb n (k + 1) ios' _ r' ex S' φ' w' _ (by omega) h2 he r1 fun a' w'' hR' => hQ a' w'' (ReachR.step r2 r4 hR')
          · rename_i v H' e1
            refine wpIn_ofW hF (cOp_noDefer hcop e1) (op_whole hT hcb hcop rfl e1 hI.inv.sim hI.inv.env hI.inv.top) fun vv w' hE => ?_
            obtain ⟨S', φ', r2, r1, r3, r4, r5⟩ := hE
            rw [d1] at he
            exact seqx_sound hT hcb n (k + 1) ios' _ r' ex S' φ' w' _ (by omega) h2 he ⟨⟨r1, reps_put (r2.reps hI.inv.sim hI.inv.env) r3 _, r4⟩, by rw [put_defers]; exact hI.mrk.adv r2 hI.inv.sim⟩ fun a' w'' hR' => hQ a' w'' (ReachR.step r2 r5 hR')
          · split at he
            · rename_i dd hdd
              obtain ⟨d', e1, e2⟩ := dfrOp_ok (w := w) hcop rfl hdd hI.inv.env
              refine ⟨fun f _ => hF.fn f, ?_⟩
              show ops[k].uponIn Fence.wide 0 P a _ Q ((ops[k].semAt none a.eval).run P w)
              rw [Oper.semAt_none, e1, Oper.uponIn_defer]
              rw [d1] at he
              refine seqx_sound hT hcb n (k + 1) ios' _ r' ex S φ w _ (by omega) h2 he ⟨⟨hI.inv.sim, ?_, hI.inv.top⟩, ?_⟩ fun a' w'' hR' => hQ a' w'' hR'
              · rw [put_tmps]; exact reps_put hI.inv.env undef_rep _
              · rw [put_defers]; exact ⟨e2, hI.mrk⟩
            · split at he
              · rename_i p H1 hp
                cases he
                obtain ⟨hpo, hnd⟩ := panOp_ok hT hcb hcop rfl hp hI.inv.sim hI.inv.env hI.inv.top
                refine ⟨fun f _ => hF.fn f, ?_⟩
                rw [Oper.semAt_eq _ _ _ hnd]
                rcases hpo with ⟨e1, rfl⟩ | ⟨f, us, e1, e2⟩
                · rw [e1]
                  exact hQ a w (ReachR.refl hI)
                · rw [e1]
                  refine ⟨(fun hh => by rw [hF.depth] at hh; cases hh), hF.calls (e2.mono ?_)⟩
                  rintro e w'' ⟨rfl, S', φ', adv, sim, top, nx⟩
                  exact hQ a w'' ⟨S', φ', ⟨⟨sim, adv.reps hI.inv.sim hI.inv.env, top⟩, hI.mrk.adv adv hI.inv.sim⟩, adv, nx⟩
              · cases he
      · rename_i hwant
        have hwant' : wantedA r.st.env io.guard = false := by simpa using hwant
        rw [hwant'] at hw
        rw [if_neg (by rw [← hw]; simp)]
        refine ⟨fun f _ => hF.fn f, ?_⟩
        rw [d1] at he
        have hRR := ReachR.of hI.inv.sim hI.mrk (inv_undef hI.inv ops[k].dst)
        obtain ⟨S', φ', r1, r2, r4⟩ := hRR
        exact seqx_sound hT hcb n (k + 1) ios' _ r' ex S' φ' w _ (by omega) h2 he r1 fun a' w'' hR' => hQ a' w'' (ReachR.step r2 r4 hR')
    · cases hc
theorem region_x (hT : TOK P T) (hcb : CbOK P cb) {id : Nat} {ops : Array Oper} {Q : Exit → Act → World → Prop} {ios : List IOp} {r r' : RSt} {ex : Ex} {S : Nat → Prop} {φ : Phi} {w : World} {a : Act} (hc : cOpers P ops ops.toList 0 = some ios) (he : evalX T cb ios r = some (ex, r')) (hI : InvR P S φ w r a)
    (hQ : ∀ a' w', ReachR P S φ w r r' a' w' → Q ex.to a' w') : (Code.region id ops false).wpIn Fence.wide 0 P Q a w :=
  wpIn_region (by rw [List.range_eq_range']; exact seqx_sound hT hcb ops.size 0 ios r r' ex S φ w a (by omega) (by simpa using hc) he hI hQ)
end
end Go.V
/- Soundness: loops over functions; functions; rounds. -/
set_option linter.unusedVariables false
set_option linter.unusedSimpArgs false
namespace Go.V
open Go.RowKit
variable {P : Program}
/-! Loops over functions begin, and end -/
section
variable {T : FuncId → Option IFn} {cb : Cb}
theorem wrH_two (H : Heap) (i j : Nat) (b c : Option Blk) (nx : Nat) : hget (wrH H [(i, b), (j, c)] nx) = fun k => if k = j then c else if k = i then b else hget H k := by rw [hget_wrH]; rfl
theorem enter_sim {S : Nat → Prop} {φ : Phi} {H H1 : Heap} {w : World} {env : List AV} {tmps : Array Value} {ps : Array Tmp} {x y : Code} {ia ib : IC} {rd : Option Nat} {F : Fence} {id : Nat} {ds : List DE}
    (hs : Sim P S φ (hget H) w) (htop : ∀ k, H.nx ≤ k → φ k = none) (hr : Reps w S φ env tmps) (hx : cCode P x = some ia) (hy : cCode P y = some ib) (hF : FR φ rd F) (he : enterH rd H env ps.toList ia ib = some (H1, id, ds)) (fn : FuncId) :
    ∃ mark w1 φ1 loc, (Instr.enterLoop fn tmps ps x y F.round).run P w = .ok (loc.blk, mark) w1 ∧ φ1 id = some loc ∧ Adv S φ (hget H) w S φ1 (hget H1) w1 ∧ Sim P S φ1 (hget H1) w1 ∧ (∀ k, H1.nx ≤ k → φ1 k = none) ∧ H.nx ≤ H1.nx ∧ Marks w1 S φ1 ds mark := by
  cases rd with
  | none =>
    cases hF
    simp only [enterH, Option.some.injEq, Prod.mk.injEq] at he
    obtain ⟨rfl, rfl, rfl⟩ := he
    obtain ⟨q1, q2⟩ := alloc_sim (P := P) (nx := H.nx) (b := .mark) (o := .deferred (some [])) hs (htop _ (Nat.le_refl _)) (fun _ => World.alloc_heap_new w _)
    have hn2 : (fun k => if k = H.nx then some (⟨w.heap.size, 0, 0⟩ : Loc) else φ k) (H.nx + 1) = none := by
      show (if H.nx + 1 = H.nx then _ else φ (H.nx + 1)) = none
      rw [if_neg (by omega)]; exact htop _ (by omega)
    obtain ⟨p1, p2⟩ := alloc_sim (P := P) (nx := H.nx + 1) (b := .loop env ps.toList ia ib .ready .normal H.nx) (o := .loop { state := .ready, pending := none, fn, tmps, params := ps, assign := x, body := y, defers := w.heap.size }) q2 hn2 (fun adv =>
      ⟨_, World.alloc_heap_new _ _, adv.reps q2 (q1.reps hs hr), rfl, hx, hy, rfl, rfl, ⟨w.heap.size, 0, 0⟩, by simp, rfl⟩)
    refine ⟨_, _, (fun k => if k = H.nx + 1 then some ⟨(w.alloc (.deferred (some []))).heap.size, 0, 0⟩ else if k = H.nx then some ⟨w.heap.size, 0, 0⟩ else φ k), ⟨w.heap.size + 1, 0, 0⟩, run_enterLoop_outer fn tmps ps x y, by simp, ?_, ?_, fun k hk => ?_, Nat.le_max_left _ _, ?_⟩
    · rw [wrH_two]; exact q1.trans p1
    · rw [wrH_two]; exact p2
    · have : max H.nx (H.nx + 2) ≤ k := hk
      simp only [show k ≠ H.nx + 1 by omega, show k ≠ H.nx by omega, if_false]
      exact htop k (by omega)
    · exact ⟨⟨⟨w.heap.size, 0, 0⟩, by simp, rfl⟩, trivial⟩
  | some l =>
    obtain ⟨loc0, e0, rfl⟩ := hF
    simp only [enterH] at he
    split at he
    · rename_i env0 ps0 a0 b0 st0 pend0 d0 hl
      simp only [Option.some.injEq, Prod.mk.injEq] at he
      obtain ⟨rfl, rfl, rfl⟩ := he
      obtain ⟨loc', g1, g2, -⟩ := hs.blk l _ hl
      rw [e0] at g1; cases g1
      obtain ⟨r0, f1, f2, f3, f4, f5, f6, f7, ld, f8, f9⟩ := g2
      obtain ⟨p1, p2⟩ := alloc_sim (P := P) (nx := H.nx) (b := .loop env ps.toList ia ib .ready .normal d0) (o := .loop { state := .ready, pending := none, fn, tmps, params := ps, assign := x, body := y, defers := r0.defers }) hs (htop _ (Nat.le_refl _)) (fun adv =>
        ⟨_, World.alloc_heap_new _ _, adv.reps hs hr, rfl, hx, hy, rfl, rfl, ld, adv.phi _ _ f8, f9⟩)
      have hrun : (Instr.enterLoop fn tmps ps x y (Fence.wide.inRound loc0.blk).round).run P w = .ok (w.heap.size, []) (w.alloc (.loop { state := .ready, pending := none, fn, tmps, params := ps, assign := x, body := y, defers := r0.defers })) := by
        show (Instr.enterLoop fn tmps ps x y (some loc0.blk)).run P w = _
        unfold Instr.enterLoop
        simp only [Sem.run_bind, run_getLoop f1, run_newObj_alloc, Result.andThen_ok, Sem.run_pure]
      refine ⟨_, _, (fun k => if k = H.nx then some ⟨w.heap.size, 0, 0⟩ else φ k), ⟨w.heap.size, 0, 0⟩, hrun, by simp, ?_, ?_, fun k hk => ?_, Nat.le_max_left _ _, trivial⟩
      · rw [hget_wr1]; exact p1
      · rw [hget_wr1]; exact p2
      · have : max H.nx (H.nx + 1) ≤ k := hk
        simp only [show k ≠ H.nx by omega, if_false]
        exact htop k (by omega)
    · cases he
theorem leave_sim {S : Nat → Prop} {φ : Phi} {H : Heap} {w : World} {env : List AV} {id : Nat} {ds : List DE} {loc : Loc} {ex : Ex} {r : RSt} (hs : Sim P S φ (hget H) w) (hφ : φ id = some loc) (he : leaveH env H id ds = some (ex, r)) :
    ∃ w1, (Instr.endLoop loc.blk).run P w = .ok ex.code w1 ∧ r = ⟨⟨env, wrH H [(id, none)] 0⟩, ds⟩ ∧ Adv S φ (hget H) w S φ (hget (wrH H [(id, none)] 0)) w1 ∧ Sim P S φ (hget (wrH H [(id, none)] 0)) w1 := by
  have key : ∀ env0 ps0 a0 b0 st0 pend0 d0, hget H id = some (.loop env0 ps0 a0 b0 st0 pend0 d0) → st0 ≠ .busy →
      ∃ w1, (Instr.endLoop loc.blk).run P w = .ok pend0.code w1 ∧ Adv S φ (hget H) w S φ (hget (wrH H [(id, none)] 0)) w1 ∧ Sim P S φ (hget (wrH H [(id, none)] 0)) w1 := by
    intro env0 ps0 a0 b0 st0 pend0 d0 hl hne
    obtain ⟨loc', g1, g2, -⟩ := hs.blk id _ hl
    rw [hφ] at g1; cases g1
    obtain ⟨r0, f1, f2, f3, f4, f5, f6, f7, -⟩ := g2
    have hrun := run_endLoop (P := P) f1 (by rw [f6]; exact hne)
    obtain ⟨q1, q2⟩ := put_sim (P := P) (b' := none) (o := .loop { r0 with state := .exhausted }) hs hl hφ (shape_loop f1) (fun x hx => by cases hx)
    exact ⟨_, by rw [← f7]; exact hrun, by rw [hget_wr1]; exact q1, by rw [hget_wr1]; exact q2⟩
  unfold leaveH at he
  split at he
  · cases he
  · cases he
  · rename_i env0 ps0 a0 b0 st0 pend0 d0 hne hne2 hl
    cases he
    obtain ⟨w1, h1, h2, h3⟩ := key _ _ _ _ _ _ _ hl (fun e => by subst e; first | exact hne rfl | exact hne _ _ _ _ _ _ rfl | simp_all)
    exact ⟨w1, h1, rfl, h2, h3⟩
  · cases he
theorem leaveH_noPan {env : List AV} {H : Heap} {id : Nat} {ds : List DE} {p : Value} {r : RSt} (he : leaveH env H id ds = some (.pan p, r)) : False := by
  unfold leaveH at he
  split at he
  · cases he
  · cases he
  · rename_i env0 ps0 a0 b0 st0 pend0 d0 hne hne2 hl
    cases he
    first | exact hne2 _ _ _ _ _ _ _ rfl | simp_all
  · cases he
theorem iter_loop {F : Fence} {rd : Option Nat} {c : Code} {f : RSt → Option (Ex × RSt)} {r' : RSt} {ex : Ex}
    (hf : ∀ r ex r', f r = some (ex, r') → ∀ (S : Nat → Prop) (φ : Phi) (w : World) (a : Act), FR φ rd F → InvR P S φ w r a → ∀ Q : Exit → Act → World → Prop, (∀ a' w', ReachR P S φ w r r' a' w' → Q ex.to a' w') → c.wpIn F 0 P Q a w)
    {m : Nat} {r : RSt} (h : iter f m r = some (ex, r')) {S : Nat → Prop} {φ : Phi} {w : World} {a : Act} (hF : FR φ rd F) (hI : InvR P S φ w r a) {Q : Exit → Act → World → Prop} (hQ : ∀ a' w', ReachR P S φ w r r' a' w' → Q ex.to a' w') : (Code.loop c).wpIn F 0 P Q a w := by
  refine wpIn_rounds (fun k a w => ∃ r S φ, FR φ rd F ∧ InvR P S φ w r a ∧ iter f k r = some (ex, r') ∧ ∀ a' w', ReachR P S φ w r r' a' w' → Q ex.to a' w') (fun a w => ?_) (fun k a w => ?_) (m := m) ⟨r, S, φ, hF, hI, h, hQ⟩
  · rintro ⟨r, S, φ, -, -, h, -⟩; simp [iter] at h
  · rintro ⟨r, S, φ, hF, hI, h, hQ⟩
    simp only [iter] at h
    cases hr : f r with
    | none => rw [hr] at h; cases h
    | some p =>
      obtain ⟨e1, r1⟩ := p
      refine hf r e1 r1 hr S φ w a hF hI _ fun a' w' hR => ?_
      cases e1 with
      | normal =>
        rw [hr] at h
        obtain ⟨S', φ', k1, k2, k4⟩ := hR
        exact ⟨r1, S', φ', hF.mono k2.phi, k1, h, fun a'' w'' hR' => hQ a'' w'' (ReachR.step k2 k4 hR')⟩
      | exit id => rw [hr] at h; cases h; exact hQ a' w' hR
      | ret => rw [hr] at h; cases h; exact hQ a' w' hR
      | pan p => rw [hr] at h; cases h; exact hQ a' w' hR
theorem range_sound (hT : TOK P T) (hcb : CbOK P cb) {g : Operand} {ag : Arg} {ps : Array Tmp} {x y : Code} {ia ib : IC} (hg : cOpd g = some ag) (hx : cCode P x = some ia) (hy : cCode P y = some ib) {m : Nat} {rd : Option Nat} {r r' : RSt} {ex : Ex} (hr : run T cb m rd (.rangeF ag ps.toList ia ib) r = some (ex, r'))
    {F : Fence} {S : Nat → Prop} {φ : Phi} {w : World} {a : Act} (hF : FR φ rd F) (hI : InvR P S φ w r a) {Q : Exit → Act → World → Prop} (hQ : ∀ a' w', ReachR P S φ w r r' a' w' → Q ex.to a' w') : (Code.rangeFunc g ps x y).wpIn F 0 P Q a w := by
  have hv := arg_rep hI.inv.env hg
  simp only [run] at hr
  split at hr
  · rename_i f first caps e1
    rw [e1] at hv
    split at hr
    · rename_i hTf
      split at hr
      · rename_i H1 id ds e2
        split at hr
        · rename_i v2 H2 e3
          split at hr
          · cases hr
          rename_i hv2
          obtain ⟨vf, vc, k1, k2, k3⟩ : ∃ vf vc, a.eval g = .func (.func f) vf vc ∧ Reps w S φ first vf ∧ Reps w S φ caps vc := by
            generalize a.eval g = q at hv
            cases hv with
            | fn hl h hl' h' => exact ⟨_, _, rfl, ⟨hl, h⟩, ⟨hl', h'⟩⟩
          obtain ⟨fn, hfn⟩ := Option.isSome_iff_exists.1 hTf
          obtain ⟨gg, c, g1, g2, g3, -⟩ := cFn_spec (hT f fn hfn)
          refine wpIn_rangeFunc fun fn' _ => ?_
          obtain ⟨mark, w1, φ1, loc, m1, m2, m3, m4, m5, m6, m7⟩ := enter_sim (P := P) (ps := ps) (x := x) (y := y) hI.inv.sim hI.inv.top hI.inv.env hx hy hF e2 fn'
          have hargs : Reps w1 S φ1 (first ++ [.yld id] ++ caps) (vf ++ #[.func (.yield loc.blk) #[] #[]] ++ vc) :=
            ((m3.reps hI.inv.sim k2).append (reps_one (.yld m2))).append (m3.reps hI.inv.sim k3)
          have hcall := hcb.ret e3 (by simpa using hv2) m4 m5 hargs
          have h5 : (resolve a.eval (rangeCall g loc.blk) 0).run P w1 = .ok { target := .fn (.func f) vc, args := vf ++ #[.func (.yield loc.blk) #[] #[]] } w1 := by
            simp only [resolve, rangeCall, k1]
            simp [Deferred.ofValue, Act.eval]
          have h6 : (invoke (.fn (.func f) vc) (vf ++ #[.func (.yield loc.blk) #[] #[]])).run P w1 = .ok (.enter f (vf ++ #[.func (.yield loc.blk) #[] #[]] ++ vc)) w1 := run_callFunc g1 g2 g3 _
          have h7 : F.depth.isSome = true → 1 ≤ 0 := fun hh => by rw [hF.wf.depth] at hh; cases hh
          refine ⟨loc.blk, mark, w1, _, w1, f, _, w1, m1, h5, fun f' _ => hF.wf.fn f', h6, h7, hF.wf.calls (hcall.mono ?_)⟩
          · rintro e w2 ⟨vv, rfl, S2, φ2, adv, sim, -, top, nx⟩
            obtain ⟨w3, n1, n2, n3, n4⟩ := leave_sim (P := P) sim (adv.phi _ _ m2) hr
            subst n2
            have hadv : Adv S φ (hget r.st.H) w S2 φ2 (hget (wrH H2 [(id, none)] 0)) w3 := (m3.trans adv).trans n3
            have hR : ReachR P S φ w r ⟨⟨r.st.env, wrH H2 [(id, none)] 0⟩, ds ++ r.ds⟩ { a with defers := mark ++ a.defers } w3 :=
              ⟨S2, φ2, ⟨⟨n4, hadv.reps hI.inv.sim hI.inv.env, fun k hk => top k (Nat.le_trans (Nat.le_max_left _ _) hk)⟩, (m7.adv (adv.trans n3) m4).append (hI.mrk.adv hadv hI.inv.sim)⟩, hadv, Nat.le_trans (Nat.le_trans m6 nx) (Nat.le_max_left _ _)⟩
            have hq := hQ _ _ hR
            refine ⟨ex.code, w3, n1, ?_⟩
            cases ex with
            | normal => exact hq
            | exit id => exact wpIn_exit hq
            | ret => exact wpIn_ret hq
            | pan p => exact (leaveH_noPan hr).elim
        · cases hr
      · cases hr
    · cases hr
  · cases hr
theorem run_sound (hT : TOK P T) (hcb : CbOK P cb) (hm : P.follows .mixedOrders = true) (m : Nat) (rd : Option Nat) (F : Fence) : ∀ (c : Code) (ic : IC), cCode P c = some ic → ∀ r ex r', run T cb m rd ic r = some (ex, r') → ∀ (S : Nat → Prop) (φ : Phi) (w : World) (a : Act), FR φ rd F → InvR P S φ w r a → ∀ Q : Exit → Act → World → Prop, (∀ a' w', ReachR P S φ w r r' a' w' → Q ex.to a' w') → c.wpIn F 0 P Q a w
  | .skip, ic, hc, r, ex, r', hr, S, φ, w, a, hF, hI, Q, hQ => by
    cases hc; cases hr
    exact wpIn_skip (hQ a w (ReachR.refl hI))
  | .label l, ic, hc, r, ex, r', hr, S, φ, w, a, hF, hI, Q, hQ => by
    cases hc; cases hr
    exact wpIn_label (hQ a w (ReachR.refl hI))
  | .region id ops draw, ic, hc, r, ex, r', hr, S, φ, w, a, hF, hI, Q, hQ => by
    simp only [cCode] at hc
    split at hc
    · rename_i os hos
      cases draw with
      | true =>
        simp only [if_true] at hc
        split at hc
        · rename_i hsl
          cases hc
          simp only [Bool.and_eq_true] at hsl
          simp only [run, if_true] at hr
          cases he : evalDraw T cb os 0 [] r.st with
          | none => simp [he] at hr
          | some st1 => simp [he] at hr; obtain ⟨rfl, rfl⟩ := hr; exact region_draw hT hcb hm hF.wf hos hsl.1 hsl.2 he hI.inv (fun a' w' hR => hQ a' w' (ReachR.of hI.inv.sim hI.mrk hR))
        · cases hc
      | false =>
        simp only [Bool.false_eq_true, if_false] at hc
        cases hc
        simp only [run, Bool.false_eq_true, if_false] at hr
        cases he : evalOps T cb os r.st with
        | none =>
          cases rd with
          | some l => simp [he] at hr
          | none =>
            simp [he] at hr
            cases hF
            exact region_x hT hcb hos hr hI hQ
        | some st1 => simp [he] at hr; obtain ⟨rfl, rfl⟩ := hr; exact region_seq hT hcb hF.wf hos he hI.inv (fun a' w' hR => hQ a' w' (ReachR.of hI.inv.sim hI.mrk hR))
    · cases hc
  | .seq x y, ic, hc, r, ex, r', hr, S, φ, w, a, hF, hI, Q, hQ => by
    simp only [cCode] at hc
    split at hc
    · rename_i ia ib h1 h2
      cases hc
      simp only [run] at hr
      cases h3 : run T cb m rd ia r with
      | none => rw [h3] at hr; cases hr
      | some p =>
        obtain ⟨e1, r1⟩ := p
        rw [h3] at hr
        refine wpIn_seq (run_sound hT hcb hm m rd F x ia h1 r e1 r1 h3 S φ w a hF hI _ fun a' w' hR => ?_)
        cases e1 with
        | normal =>
          obtain ⟨S', φ', k1, k2, k4⟩ := hR
          exact run_sound hT hcb hm m rd F y ib h2 r1 ex r' hr S' φ' w' a' (hF.mono k2.phi) k1 Q fun a'' w'' hR' => hQ a'' w'' (ReachR.step k2 k4 hR')
        | exit id => cases hr; exact hQ a' w' hR
        | ret => cases hr; exact hQ a' w' hR
        | pan p => cases hr; exact hQ a' w' hR
    · cases hc
  | .cond x y z, ic, hc, r, ex, r', hr, S, φ, w, a, hF, hI, Q, hQ => by
    simp only [cCode] at hc
    split at hc
    · rename_i ax iy iz h1 h2 h3
      cases hc
      simp only [run] at hr
      have hv := arg_rep hI.inv.env h1
      split at hr
      · rename_i e1
        rw [e1] at hv
        exact wpIn_cond (t := true) hv.inv_bool (run_sound hT hcb hm m rd F y iy h2 r ex r' hr S φ w a hF hI Q hQ)
      · rename_i e1
        rw [e1] at hv
        exact wpIn_cond (t := false) hv.inv_bool (run_sound hT hcb hm m rd F z iz h3 r ex r' hr S φ w a hF hI Q hQ)
      · cases hr
    · cases hc
  | .block id c, ic, hc, r, ex, r', hr, S, φ, w, a, hF, hI, Q, hQ => by
    simp only [cCode] at hc
    cases h1 : cCode P c with
    | none => simp [h1] at hc
    | some ib =>
      simp [h1] at hc; subst hc
      simp only [run] at hr
      cases h2 : run T cb m rd ib r with
      | none => rw [h2] at hr; cases hr
      | some p =>
        obtain ⟨e1, r1⟩ := p
        rw [h2] at hr
        refine wpIn_block (run_sound hT hcb hm m rd F c ib h1 r e1 r1 h2 S φ w a hF hI _ fun a' w' hR => ?_)
        cases e1 with
        | normal => cases hr; exact hQ a' w' hR
        | ret => cases hr; exact hQ a' w' hR
        | pan p => cases hr; exact hQ a' w' hR
        | exit id' =>
          simp only at hr
          split at hr
          · rename_i hid; cases hr
            show (if id' = id then Q .normal a' w' else Q (.exit id') a' w')
            rw [if_pos hid]; exact hQ a' w' hR
          · rename_i hid; cases hr
            show (if id' = id then Q .normal a' w' else Q (.exit id') a' w')
            rw [if_neg hid]; exact hQ a' w' hR
  | .loop c, ic, hc, r, ex, r', hr, S, φ, w, a, hF, hI, Q, hQ => by
    simp only [cCode] at hc
    cases h1 : cCode P c with
    | none => simp [h1] at hc
    | some ib =>
      simp [h1] at hc; subst hc
      simp only [run] at hr
      exact iter_loop (run_sound hT hcb hm m rd F c ib h1) hr hF hI hQ
  | .scope c, ic, hc, r, ex, r', hr, S, φ, w, a, hF, hI, Q, hQ => by
    simp only [cCode] at hc
    cases h1 : cCode P c with
    | none => simp [h1] at hc
    | some ib =>
      simp [h1] at hc; subst hc
      simp only [run] at hr
      exact wpIn_scope (run_sound hT hcb hm m rd F c ib h1 r ex r' hr S φ w a hF hI _ fun a' w' hR => ⟨ex.to_goto, hQ a' w' hR⟩)
  | .exit id, ic, hc, r, ex, r', hr, S, φ, w, a, hF, hI, Q, hQ => by
    cases hc; cases hr
    exact wpIn_exit (hQ a w (ReachR.refl hI))
  | .ret, ic, hc, r, ex, r', hr, S, φ, w, a, hF, hI, Q, hQ => by
    cases hc; cases hr
    exact wpIn_ret (hQ a w (ReachR.refl hI))
  | .rangeFunc g ps x y, ic, hc, r, ex, r', hr, S, φ, w, a, hF, hI, Q, hQ => by
    simp only [cCode] at hc
    split at hc
    · rename_i ag ia ib h1 h2 h3
      cases hc
      exact range_sound hT hcb h1 h2 h3 hr hF hI hQ
    · cases hc
  | .goto _, ic, hc, _, _, _, _, _, _, _, _, _, _, _, _ => by cases hc
  | .refuse _, ic, hc, _, _, _, _, _, _, _, _, _, _, _, _ => by cases hc
end

/-! Results -/
def resOne (tmps : Array Value) (r : ResultVar) : Sem Value :=
  match r with
  | .tmp t => pure (tmps.getD t undef)
  | .cell x t => do loadVar t (← asAddr (tmps.getD x undef))
theorem results_eq (fn : Func) (tmps : Array Value) : results fn tmps = (do let vs ← fn.results.mapM (resOne tmps); pure (if h : vs.size = 1 then vs[0] else .tuple vs)) := rfl
theorem resV_run {r : ResultVar} {ir : IRes} (hc : cRes P r = some ir) {st : St} {v : AV} (hr : resV st ir = some v) {S : Nat → Prop} {φ : Phi} {w : World} {a : Act} (hI : Inv P S φ w st a) :
    ∃ vv, (resOne a.tmps r).run P w = .ok vv w ∧ Rep w S φ v vv := by
  cases r with
  | tmp t => cases hc; cases hr; exact ⟨_, rfl, hI.env.getD t⟩
  | cell x t =>
    simp only [cRes] at hc
    cases hk : partK P t with
    | none => simp [hk] at hc
    | some k =>
      simp [hk] at hc; subst hc
      simp only [resV] at hr
      have hv := hI.env.getD x
      split at hr
      · rename_i id i j e1
        split at hr
        · rename_i s xs e2
          rw [e1] at hv
          obtain ⟨loc, f1, f2⟩ := hv.inv_ptr
          obtain ⟨loc', g1, g2, g3⟩ := hI.sim.blk id _ e2
          rw [f1] at g1; cases g1
          cases e3 : xs[i]? with
          | none => simp [e3] at hr
          | some y =>
            simp [e3] at hr
            obtain ⟨vv, r1, r2⟩ := run_loadPart (P := P) hk (o := loc.base + i * loc.sz) (g2.cells e3) hr
            exact ⟨vv, by simp only [resOne, f2, asAddr, Sem.run_bind, Sem.run_pure, Result.andThen_ok]; exact r1, r2⟩
        · cases hr
      · cases hr
theorem resL_run : ∀ {rs : List ResultVar} {irs : List IRes}, cRess P rs = some irs → ∀ {st : St} {vs : List AV}, resL st irs = some vs → ∀ {S : Nat → Prop} {φ : Phi} {w : World} {a : Act}, Inv P S φ w st a →
    ∃ us : List Value, (rs.mapM (resOne a.tmps)).run P w = .ok us w ∧ Reps w S φ vs us.toArray
  | [], irs, hc, st, vs, hr, S, φ, w, a, hI => by
    cases hc; cases hr
    exact ⟨[], rfl, reps_nil⟩
  | r :: rs, irs, hc, st, vs, hr, S, φ, w, a, hI => by
    simp only [cRess] at hc
    split at hc
    · rename_i ir irs' h1 h2
      cases hc
      simp only [resL] at hr
      split at hr
      · rename_i v vs' h3 h4
        cases hr
        obtain ⟨u, q1, q2⟩ := resV_run (P := P) h1 h3 hI
        obtain ⟨us, q3, q4⟩ := resL_run h2 h4 hI
        refine ⟨u :: us, ?_, Reps.cons q2 q4⟩
        rw [List.mapM_cons, Sem.run_bind, q1]
        simp only [Result.andThen_ok, Sem.run_bind, q3, Sem.run_pure]
      · cases hr
    · cases hc
theorem results_run {fn : Func} {irs : List IRes} (hc : cRess P fn.results.toList = some irs) {st : St} {vs : List AV} (hr : resL st irs = some vs) {S : Nat → Prop} {φ : Phi} {w : World} {a : Act} (hI : Inv P S φ w st a) :
    ∃ vv, (results fn a.tmps).run P w = .ok vv w ∧ Rep w S φ (tupV vs) vv := by
  obtain ⟨us, h1, h2⟩ := resL_run (P := P) hc hr hI
  have h3 : (results fn a.tmps).run P w = .ok (if h : us.toArray.size = 1 then us.toArray[0] else .tuple us.toArray) w := by
    rw [results_eq, Array.mapM_eq_mapM_toList, Sem.run_bind, Sem.run_map, h1]
    rfl
  refine ⟨_, h3, ?_⟩
  cases us with
  | nil =>
    have : vs = [] := by have := h2.1; simpa using this.symm
    subst this
    simp only [List.size_toArray, List.length_nil]
    exact .tup rfl (by simp)
  | cons u us =>
    cases vs with
    | nil => have := h2.1; simp at this
    | cons v vs =>
      cases us with
      | nil =>
        have : vs = [] := by have := h2.1; simpa using this.symm
        subst this
        exact h2.2 0 v u (by simp) (by simp)
      | cons u' us =>
        cases vs with
        | nil => have := h2.1; simp at this
        | cons v' vs =>
          rw [dif_neg (by simp)]
          exact .tup h2.1 h2.2

end Go.V
/- Soundness: functions and rounds. -/
set_option linter.unusedVariables false
set_option linter.unusedSimpArgs false
namespace Go.V
open Go.RowKit
variable {P : Program} {T : FuncId → Option IFn}

theorem setPs_rep {w : World} {S : Nat → Prop} {φ : Phi} : ∀ {ps : List Nat} {env vs : List AV} {tmps : Array Value} {us : List Value}, vs.length = ps.length → Reps w S φ env tmps → Reps w S φ vs us.toArray →
    Reps w S φ (setPs env ps vs) ((ps.zip us).foldl (fun tmps (t, a) => tmps.setIfInBounds t a) tmps)
  | [], env, vs, tmps, us, hl, hr, hv => by
    have : setPs env [] vs = env := by cases vs <;> rfl
    rw [this]; simpa using hr
  | p :: ps, env, [], tmps, us, hl, hr, hv => by simp at hl
  | p :: ps, env, v :: vs, tmps, us, hl, hr, hv => by
    cases us with
    | nil => have := hv.1; simp at this
    | cons u us =>
      simp only [setPs, List.zip_cons_cons, List.foldl_cons]
      refine setPs_rep (by simpa using hl) ?_ ⟨by have := hv.1; simpa using this, fun i c x q1 q2 => hv.2 (i + 1) c x (by simpa using q1) (by simpa using q2)⟩
      have := reps_put (a := { tmps := tmps, defers := [] }) hr (hv.2 0 v u (by simp) (by simp)) (some p)
      simpa only [setD, setK_eq, Act.put] using this
theorem marks_leave {F : Fence} {fn : Func} {tmps : Array Value} {R : Ending → World → Prop} {S : Nat → Prop} {φ : Phi} : ∀ {ids : List DE} {ds : List Deferred} {H H' : Heap} {w : World}, Marks w S φ ids ds → takeMarks H ids = some H' → Sim P S φ (hget H) w →
    (∀ w', Adv S φ (hget H) w S φ (hget H') w' → Sim P S φ (hget H') w' → H.nx ≤ H'.nx → LeavesInM F 0 P fn tmps R [] .returning w') → LeavesInM F 0 P fn tmps R ds .returning w
  | [], [], H, H', w, hm, ht, hs, h => by cases ht; exact h w (Adv.refl _ _ _ _) hs (Nat.le_refl _)
  | .fn _ _ :: _, _ :: _, H, H', w, hm, ht, hs, h => by simp [takeMarks] at ht
  | .mk id :: ids, d :: ds, H, H', w, hm, ht, hs, h => by
    obtain ⟨⟨loc, h1, rfl⟩, hm⟩ := hm
    simp only [takeMarks] at ht
    split at ht
    · rename_i hb
      obtain ⟨loc', g1, g2, -⟩ := hs.blk id _ hb
      rw [h1] at g1; cases g1
      have hrun := run_takeDeferred (P := P) (show w.heap[loc.blk]? = some (.deferred (some [])) from g2)
      obtain ⟨q1, q2⟩ := put_sim (P := P) (b' := none) (o := .deferred none) hs hb h1 (shape_deferred g2) (fun x hx => by cases hx)
      rw [← hget_wr1 H id none 0] at q1 q2
      refine ⟨by simp, .inl ⟨loc.blk, _, rfl, hrun, marks_leave (hm.adv q1 hs) ht q2 fun w' a1 a2 a3 => h w' (q1.trans a1) a2 (Nat.le_trans (Nat.le_max_left _ _) a3)⟩⟩
    · cases ht
  | [], _ :: _, _, _, _, hm, _, _, _ => hm.elim
  | _ :: _, [], _, _, _, hm, _, _, _ => hm.elim
theorem leave_fn {fn : IFn} {g : Func} {r : RSt} {v : AV} {H' : Heap} (hc : cRess P g.results.toList = some fn.res) (he : leaveF fn r = some (v, H')) {S S' : Nat → Prop} {φ φ' : Phi} {H : Heap} {w w' : World} {a' : Act} (hI : InvR P S' φ' w' r a') (hadv : Adv S φ (hget H) w S' φ' (hget r.st.H) w') (hnx : H.nx ≤ r.st.H.nx) :
    LeavesInM Fence.wide 0 P g a'.tmps (fun e w'' => ∃ vv, e = .returned vv ∧ Fin P S φ H w v H' vv w'') a'.defers .returning w' := by
  unfold leaveF at he
  split at he
  · rename_i H1 ht
    cases hl : resL ⟨r.st.env, H1⟩ fn.res with
    | none => simp [hl] at he
    | some vs =>
      simp [hl] at he
      obtain ⟨rfl, rfl⟩ := he
      refine marks_leave hI.mrk ht hI.inv.sim fun w'' a1 a2 a3 => ?_
      have hI2 : Inv P S' φ' w'' ⟨r.st.env, H1⟩ a' := ⟨a2, a1.reps hI.inv.sim hI.inv.env, fun k hk => hI.inv.top k (Nat.le_trans a3 hk)⟩
      obtain ⟨vv, q1, q2⟩ := results_run (P := P) hc hl hI2
      exact ⟨vv, q1, vv, rfl, S', φ', hadv.trans a1, a2, q2, hI2.top, Nat.le_trans hnx a3⟩
  · cases he
theorem settle_modeF (md : Option Value) : settle (modeF md) = modeF md := by cases md <;> rfl
theorem leaveX_ok {cb : Cb} (hcb : CbOK P cb) {fn : IFn} {g : Func} (hc : cRess P g.results.toList = some fn.res) {env : List AV} {tmps : Array Value} {S0 : Nat → Prop} {φ0 : Phi} {H0 : Heap} {w0 : World} {v : AV} {H' : Heap} :
    ∀ {ds : List DE} {dd : List Deferred} {md : Option Value} {H : Heap} {S : Nat → Prop} {φ : Phi} {w : World}, leaveX cb fn env md ds H = some (v, H') → Marks w S φ ds dd → Sim P S φ (hget H) w → Reps w S φ env tmps → (∀ id, H.nx ≤ id → φ id = none) →
      Adv S0 φ0 (hget H0) w0 S φ (hget H) w → H0.nx ≤ H.nx → LeavesInM Fence.wide 0 P g tmps (fun e w'' => FinE P S0 φ0 H0 w0 v H' e w'') dd (modeF md) w
  | [], [], md, H, S, φ, w, he, hm, hs, hr, ht, ha, hn => by
    cases md with
    | none =>
      simp only [leaveX, Option.map_eq_some_iff] at he
      obtain ⟨vs, h1, h2⟩ := he
      cases h2
      obtain ⟨vv, q1, q2⟩ := results_run (P := P) (a := { tmps := tmps, defers := [] }) hc h1 ⟨hs, hr, ht⟩
      exact ⟨vv, q1, .inl ⟨vv, rfl, S, φ, ha, hs, q2, ht, hn⟩⟩
    | some p =>
      simp only [leaveX] at he
      cases he
      exact .inr ⟨p, rfl, rfl, S, φ, ha, hs, ht, hn⟩
  | .mk id :: ds, d :: dd, md, H, S, φ, w, he, hm, hs, hr, ht, ha, hn => by
    have hne : modeF md ≠ .run := by cases md <;> simp [modeF]
    obtain ⟨⟨loc, h1, rfl⟩, hm⟩ := hm
    simp only [leaveX] at he
    split at he
    · rename_i hb
      obtain ⟨loc', g1, g2, -⟩ := hs.blk id _ hb
      rw [h1] at g1; cases g1
      have hrun := run_takeDeferred (P := P) (show w.heap[loc.blk]? = some (.deferred (some [])) from g2)
      obtain ⟨q1, q2⟩ := put_sim (P := P) (b' := none) (o := .deferred none) hs hb h1 (shape_deferred g2) (fun x hx => by cases hx)
      rw [← hget_wr1 H id none 0] at q1 q2
      exact ⟨hne, .inl ⟨loc.blk, _, rfl, hrun, leaveX_ok hcb hc he (hm.adv q1 hs) q2 (q1.reps hs hr) (fun k hk => ht k (Nat.le_trans (Nat.le_max_left _ _) hk)) (ha.trans q1) (Nat.le_trans hn (Nat.le_max_left _ _))⟩⟩
    · cases he
  | .fn f args :: ds, d :: dd, md, H, S, φ, w, he, hm, hs, hr, ht, ha, hn => by
    obtain ⟨⟨caps, da, rfl, hargs⟩, hm⟩ := hm
    have hne : modeF md ≠ .run := by cases md <;> simp [modeF]
    have key : ∀ (r : Bool) (H2 : Heap), cb (.df f md) args H = some (.bool r, H2) → leaveX cb fn env (if r then none else md) ds H2 = some (v, H') →
        LeavesInM Fence.wide 0 P g tmps (fun e w'' => FinE P S0 φ0 H0 w0 v H' e w'') ({ target := .fn (.func f) caps, args := da } :: dd) (modeF md) w := by
      intro r H2 e1 e2
      obtain ⟨k1, r', k2, k3⟩ := hcb.df f md args H _ H2 e1 S φ w _ hs ht hargs
      cases k2
      refine ⟨hne, .inr ⟨(fun hh => by cases hh), .func f, caps, f, da ++ caps, rfl, k1 _, fun g' _ => trivial, k3.mono ?_⟩⟩
      rintro e u' w' ⟨⟨vv, rfl⟩, h2, S2, φ2, adv, sim, top, nx⟩
      show LeavesInM Fence.wide 0 P g tmps _ dd (settle u') w'
      rw [h2]
      exact leaveX_ok hcb hc e2 (hm.adv adv hs) sim (adv.reps hs hr) top (ha.trans adv) (Nat.le_trans hn nx)
    simp only [leaveX] at he
    split at he
    · rename_i H2 e1; exact key true H2 e1 he
    · rename_i H2 e1; exact key false H2 e1 he
    · cases he
  | [], _ :: _, _, _, _, _, _, _, hm, _, _, _, _, _ => hm.elim
  | _ :: _, [], _, _, _, _, _, _, hm, _, _, _, _, _ => hm.elim
theorem LeavesInM.mono {F : Fence} {n : Nat} {fn : Func} {tmps : Array Value} {R R' : Ending → World → Prop} (hR : ∀ e w, R e w → R' e w) : ∀ {ds : List Deferred} {u : FrameMode} {w : World}, LeavesInM F n P fn tmps R ds u w → LeavesInM F n P fn tmps R' ds u w
  | [], u, w, h => by
    cases u with
    | run => exact h.elim
    | returning => obtain ⟨v, h1, h2⟩ := h; exact ⟨v, h1, hR _ _ h2⟩
    | panicking chain => exact hR _ _ h
  | d :: ds, u, w, ⟨hu, h⟩ => by
    refine ⟨hu, ?_⟩
    rcases h with ⟨r, w', h1, h2, h3⟩ | ⟨h1, fv, cap, f, args, h2, h3, h4, h5⟩
    · exact .inl ⟨r, w', h1, h2, LeavesInM.mono hR h3⟩
    · refine .inr ⟨h1, fv, cap, f, args, h2, h3, h4, h5.mono fun e u' w' hq => ?_⟩
      cases e with
      | returned v => exact LeavesInM.mono hR hq
      | panicked ch => exact LeavesInM.mono hR hq
      | outgrown => exact hR _ _ hq
theorem begin_inv {f : FuncId} {fn : IFn} {g : Func} {args : List AV} {H : Heap} {S : Nat → Prop} {φ : Phi} {w : World} {vargs : Array Value} (g6 : fn.ntmps = g.ntmps) (hs : Sim P S φ (hget H) w) (htop : ∀ id, H.nx ≤ id → φ id = none) (hargs : Reps w S φ args vargs) :
    InvR P S φ w ⟨⟨args ++ List.replicate (fn.ntmps - args.length) undefA, H⟩, []⟩ { tmps := vargs ++ Array.replicate (g.ntmps - vargs.size) undef, defers := [] } := by
  refine ⟨⟨hs, ?_, htop⟩, trivial⟩
  rw [g6, hargs.1]
  refine hargs.append ⟨by simp, fun i c v e1 e2 => ?_⟩
  have h1 : c = undefA := List.eq_of_mem_replicate (List.mem_of_getElem? e1)
  have h2 : v = undef := by
    rw [Array.getElem?_replicate] at e2
    split at e2
    · cases e2; rfl
    · cases e2
  rw [h1, h2]; exact undef_rep
theorem callBody_ok (hT : TOK P T) (hm : P.follows .mixedOrders = true) {cb : Cb} (hcb : CbOK P cb) {m : Nat} {f : FuncId} {args : List AV} {H H' : Heap} {v : AV} (h : callBody T m cb f args H = some (v, H')) {S : Nat → Prop} {φ : Phi} {w : World} {vargs : Array Value} (hs : Sim P S φ (hget H) w) (htop : ∀ id, H.nx ≤ id → φ id = none) (hargs : Reps w S φ args vargs) :
    Calls P f vargs w fun e w' => FinE P S φ H w v H' e w' := by
  unfold callBody at h
  split at h
  · cases h
  · rename_i fn hfn
    obtain ⟨g, c, g1, g2, g3, g4, g5, g6⟩ := cFn_spec (hT f fn hfn)
    have hI := begin_inv (f := f) (fn := fn) (g := g) g6 hs htop hargs
    cases hrun : run T cb m none fn.body ⟨⟨args ++ List.replicate (fn.ntmps - args.length) undefA, H⟩, []⟩ with
    | none => rw [hrun] at h; cases h
    | some p =>
      obtain ⟨ex, r⟩ := p
      rw [hrun] at h
      refine (callsIn_wide (n := 0)).1 (callsIn_of_wp_marks g1 g3 trivial (run_sound hT hcb hm m none .wide c fn.body g4 _ ex r hrun S φ w _ rfl hI _ fun a' w' hR => ?_))
      obtain ⟨S', φ', k1, k2, k4⟩ := hR
      have ret : (match leaveF fn r with
          | some q => some q
          | none => leaveX cb fn r.st.env none r.ds r.st.H) = some (v, H') → LeavesInM Fence.wide 0 P g a'.tmps (fun e w'' => FinE P S φ H w v H' e w'') a'.defers .returning w' := by
        intro he
        cases hl : leaveF fn r with
        | some q =>
          rw [hl] at he
          cases he
          have hlv := leave_fn (H := H) (w := w) (S := S) (φ := φ) g5 hl k1 k2 k4
          exact LeavesInM.mono (fun e w'' hq => .inl hq) hlv
        | none =>
          rw [hl] at he
          exact leaveX_ok hcb g5 he k1.mrk k1.inv.sim k1.inv.env k1.inv.top k2 k4
      cases ex with
      | exit id => cases h
      | normal => exact ret h
      | ret => exact ret h
      | pan p => exact leaveX_ok hcb g5 h k1.mrk k1.inv.sim k1.inv.env k1.inv.top k2 k4
/-! Deferred calls -/
def frM (md : Option Value) (r : Bool) : FrameMode :=
  match md with
  | none => .returning
  | some p => .panicking [{ v := p, recovered := r }]
theorem frM_settle (md : Option Value) (r : Bool) (hr : r = true → md.isSome = true) : settle (frM md r) = modeF (if r then none else md) := by
  cases md with
  | none => cases r with
    | false => rfl
    | true => exact absurd (hr rfl) (by simp)
  | some p => cases r <;> rfl
theorem ofPan_rep {w : World} {S : Nat → Prop} {φ : Phi} {p : Value} {a : AV} (h : ofPan p = some a) : Rep w S φ a p := by
  unfold ofPan at h
  split at h
  · simp only [Option.map_eq_some_iff] at h
    obtain ⟨b, h1, rfl⟩ := h
    exact .ifc (ofValue1_rep h1).1
  · cases h
theorem isMv_spec {io : PO} {x : Arg} (h : isMv io = some x) : io = .mv x := by
  unfold isMv at h
  split at h
  · cases h; rfl
  · cases h
theorem isRcv_spec {io : PO} (h : isRcv io = true) : io = .rcv := by
  unfold isRcv at h
  split at h
  · rfl
  · cases h
theorem reg_rec {ops : Array Oper} {md : Option Value} {c0 : Frame} {cs : List Frame} {Q : Exit → Act → List Frame → World → Prop} : ∀ (n k : Nat) (ios : List IOp) (r r' : Bool) (st st' : St) (S : Nat → Prop) (φ : Phi) (w : World) (a : Act), k + n = ops.size → cOpers P ops (ops.toList.drop k) k = some ios → evalR md ios r st = some (r', st') →
    Inv P S φ w st a → (r = true → md.isSome = true) → (∀ a' , (r' = true → md.isSome = true) → Inv P S φ w st' a' → a'.defers = a.defers → st'.H = st.H → Q .normal a' ({ c0 with mode := frM md r' } :: cs) w) → wpOpsSIn Fence.wide 0 P ops Q (List.range' k n) a ({ c0 with mode := frM md r } :: cs) w
  | 0, k, ios, r, r', st, st', S, φ, w, a, hk, hc, he, hI, hr, hQ => by
    have : ops.toList.drop k = [] := by simp; omega
    rw [this] at hc
    cases hc; cases he
    exact hQ a hr hI rfl rfl
  | n + 1, k, ios, r, r', st, st', S, φ, w, a, hk, hc, he, hI, hr, hQ => by
    have hlt : k < ops.size := by omega
    have hd : ops.toList.drop k = ops[k] :: ops.toList.drop (k + 1) := by rw [List.drop_eq_getElem_cons (by simpa using hlt)]; simp
    rw [hd] at hc
    simp only [cOpers] at hc
    split at hc
    · rename_i io ios' h1 h2
      cases hc
      obtain ⟨d1, d2, d3⟩ := cOper_op h1
      have ho : ops[k]? = some ops[k] := by simp [hlt]
      have hw := wanted_eq h1 hI.env
      simp only [List.range'_succ, wpOpsSIn, ho]
      refine ⟨fun f _ => trivial, ?_⟩
      simp only [evalR] at he
      split at he
      · rename_i hwant
        rw [hwant] at hw
        rw [if_pos hw.symm]
        cases hcop : cOp P ops[k].op with
        | none =>
          rw [hcop] at d2
          have d2 : io.op = .bad := d2
          simp [d2, isMv, isRcv] at he
        | some oo =>
          rw [hcop] at d2
          have d2 : io.op = oo := d2
          rw [d2] at he
          split at he
          · rename_i x hx
            have hx := isMv_spec hx
            subst hx
            have hex : ∃ y, execOp a.eval ops[k] = pure (.value (a.eval y)) ∧ cOpd y = some x := by
              obtain ⟨y, hy | hy⟩ := cOp_mv hcop rfl
              · refine ⟨y, by unfold execOp; simp only [hy], ?_⟩
                rw [hy] at hcop
                simpa [cOp] using hcop
              · refine ⟨y, by unfold execOp; simp only [hy], ?_⟩
                rw [hy] at hcop
                simpa [cOp] using hcop
            obtain ⟨y, e1, e2⟩ := hex
            rw [e1]
            rw [d1] at he
            refine reg_rec n (k + 1) ios' r r' _ st' S φ w _ (by omega) h2 he ⟨hI.sim, reps_put hI.env (arg_rep hI.env e2) _, hI.top⟩ hr fun a' q1 q2 q3 q4 => hQ a' q1 q2 (q3.trans (put_defers _ _ _)) q4
          · split at he
            · rename_i hrc
              have hx := isRcv_spec hrc
              subst hx
              have hex : (execOp a.eval ops[k]).run P w = .ok .recover w := by
                obtain ⟨c, hcl⟩ := cOp_rcv hcop rfl
                have hcb : c.callee = .builtin .recover := by
                  rw [hcl] at hcop
                  simp only [cOp] at hcop
                  split at hcop
                  · rename_i b args hcal hargs
                    unfold cBuiltin at hcop
                    repeat' (first | (cases hcop; done) | (exact hcal) | split at hcop)
                    all_goals (first
                      | (cases hcop; done)
                      | (simp only [Option.map_eq_some_iff] at hcop; obtain ⟨_, _, h3⟩ := hcop; cases h3; done))
                  · cases hcop
                  · simp only [Option.map_eq_some_iff] at hcop; obtain ⟨_, _, h3⟩ := hcop; cases h3
                  · simp only [Option.map_eq_some_iff] at hcop; obtain ⟨_, _, h3⟩ := hcop; cases h3
                  · cases hcop
                obtain ⟨consts, hx⟩ := builtin_exec (a := a) hcl hcb
                rw [hx]
                simp [invoke, builtin]
              rw [hex]
              rw [d1] at he
              split at he
              · rename_i p hp
                split at he
                · rename_i v hv
                  have hmd : md = some p ∧ r = false := by
                    cases r
                    · exact ⟨by simpa using hp, rfl⟩
                    · simp at hp
                  obtain ⟨rfl, rfl⟩ := hmd
                  show wpOpsSIn Fence.wide 0 P ops Q _ _ ({ c0 with mode := frM (some p) true } :: cs) w
                  exact reg_rec n (k + 1) ios' true r' _ st' S φ w _ (by omega) h2 he ⟨hI.sim, reps_put hI.env (ofPan_rep hv) _, hI.top⟩ (fun _ => rfl) fun a' q1 q2 q3 q4 => hQ a' q1 q2 (q3.trans (put_defers _ _ _)) q4
                · cases he
              · rename_i hp
                have hrec : recoverD ({ c0 with mode := frM md r } :: cs) = none := by
                  cases md with
                  | none => rfl
                  | some p => cases r with
                    | true => rfl
                    | false => simp at hp
                show (match recoverD ({ c0 with mode := frM md r } :: cs) with
                  | some (v, cs') => _
                  | none => _)
                rw [hrec]
                exact reg_rec n (k + 1) ios' r r' _ st' S φ w _ (by omega) h2 he ⟨hI.sim, reps_put hI.env .ifcN _, hI.top⟩ hr fun a' q1 q2 q3 q4 => hQ a' q1 q2 (q3.trans (put_defers _ _ _)) q4
            · cases he
      · rename_i hwant
        have hwant' : wantedA st.env io.guard = false := by simpa using hwant
        rw [hwant'] at hw
        rw [if_neg (by rw [← hw]; simp)]
        rw [d1] at he
        exact reg_rec n (k + 1) ios' r r' _ st' S φ w _ (by omega) h2 he ⟨hI.sim, reps_put hI.env undef_rep _, hI.top⟩ hr fun a' q1 q2 q3 q4 => hQ a' q1 q2 (q3.trans (put_defers _ _ _)) q4
    · cases hc
/-- Behind code of a deferred function. -/
def RchS (P : Program) (S : Nat → Prop) (φ : Phi) (w : World) (st st' : St) (a' : Act) (w' : World) : Prop :=
  ∃ S' φ', Inv P S' φ' w' st' a' ∧ Adv S φ (hget st.H) w S' φ' (hget st'.H) w' ∧ a'.defers = [] ∧ st.H.nx ≤ st'.H.nx
theorem via_run (hT : TOK P T) (hm : P.follows .mixedOrders = true) {cb : Cb} (hcb : CbOK P cb) {m : Nat} {md : Option Value} {c : Code} {ic : IC} (hc : cCode P c = some ic) {st : St} {ex : Ex} {q : RSt} (h : run T cb m none ic ⟨st, []⟩ = some (ex, q)) (hq : q.ds.isEmpty = true) {S : Nat → Prop} {φ : Phi} {w : World} {a : Act} (hI : Inv P S φ w st a) (ha : a.defers = [])
    {cs : List Frame} {Q : Exit → Act → List Frame → World → Prop} (hQ : ∀ a' w', RchS P S φ w st q.st a' w' → Q ex.to a' cs w') : c.wpSIn Fence.wide 0 P Q a cs w := by
  refine wpSIn_of_wpIn rfl (run_sound hT hcb hm m none .wide c ic hc _ ex q h S φ w a rfl ⟨hI, by show Marks w S φ [] a.defers; rw [ha]; trivial⟩ _ fun a' w' hR => ?_)
  obtain ⟨S', φ', k1, k2, k4⟩ := hR
  refine hQ a' w' ⟨S', φ', k1.inv, k2, ?_, k4⟩
  have := k1.mrk
  rw [List.isEmpty_iff.1 hq] at this
  cases hd : a'.defers with
  | nil => rfl
  | cons x xs => rw [hd] at this; exact this.elim
theorem runR_ok (hT : TOK P T) (hm : P.follows .mixedOrders = true) {cb : Cb} (hcb : CbOK P cb) {m : Nat} {md : Option Value} {c0 : Frame} {cs : List Frame} : ∀ (c : Code) (ic : IC), cCode P c = some ic → ∀ (r : Bool) (st : St) (ex : Ex) (r' : Bool) (st' : St), runR T cb m md ic r st = some (ex, r', st') →
    ∀ (S : Nat → Prop) (φ : Phi) (w : World) (a : Act), Inv P S φ w st a → a.defers = [] → (r = true → md.isSome = true) → ∀ Q : Exit → Act → List Frame → World → Prop, (∀ a' w', (r' = true → md.isSome = true) → RchS P S φ w st st' a' w' → Q ex.to a' ({ c0 with mode := frM md r' } :: cs) w') →
    c.wpSIn Fence.wide 0 P Q a ({ c0 with mode := frM md r } :: cs) w := by
  have other : ∀ (c : Code) (ic : IC), cCode P c = some ic → ∀ (r : Bool) (st : St) (ex : Ex) (r' : Bool) (st' : St), (match run T cb m none ic ⟨st, []⟩ with
      | some (ex, q) => if q.ds.isEmpty then some (ex, r, q.st) else none
      | none => none) = some (ex, r', st') →
      ∀ (S : Nat → Prop) (φ : Phi) (w : World) (a : Act), Inv P S φ w st a → a.defers = [] → (r = true → md.isSome = true) → ∀ Q : Exit → Act → List Frame → World → Prop, (∀ a' w', (r' = true → md.isSome = true) → RchS P S φ w st st' a' w' → Q ex.to a' ({ c0 with mode := frM md r' } :: cs) w') →
      c.wpSIn Fence.wide 0 P Q a ({ c0 with mode := frM md r } :: cs) w := by
    intro c ic hc r st ex r' st' h S φ w a hI ha hr Q hQ
    split at h
    · rename_i ex1 q e1
      split at h
      · rename_i hq
        cases h
        exact via_run (md := md) hT hm hcb hc e1 hq hI ha fun a' w' hR => hQ a' w' hr hR
      · cases h
    · cases h
  intro c
  induction c with
  | seq x y ihx ihy =>
    intro ic hc r st ex r' st' h S φ w a hI ha hr Q hQ
    simp only [cCode] at hc
    split at hc
    · rename_i ia ib h1 h2
      cases hc
      simp only [runR] at h
      cases e1 : runR T cb m md ia r st with
      | none => rw [e1] at h; cases h
      | some p =>
        obtain ⟨ex1, r1, st1⟩ := p
        rw [e1] at h
        refine wpSIn_seq (ihx ia h1 r st ex1 r1 st1 e1 S φ w a hI ha hr _ fun a' w' hr1 hR => ?_)
        cases ex1 with
        | normal =>
          obtain ⟨S', φ', k1, k2, k3, k4⟩ := hR
          refine ihy ib h2 r1 st1 ex r' st' h S' φ' w' a' k1 k3 hr1 Q fun a'' w'' hr2 hR2 => hQ a'' w'' hr2 ?_
          obtain ⟨S'', φ'', l1, l2, l3, l4⟩ := hR2
          exact ⟨S'', φ'', l1, k2.trans l2, l3, Nat.le_trans k4 l4⟩
        | exit id => cases h; exact hQ a' w' hr1 hR
        | ret => cases h; exact hQ a' w' hr1 hR
        | pan p => cases h; exact hQ a' w' hr1 hR
    · cases hc
  | region id ops draw =>
    intro ic hc r st ex r' st' h S φ w a hI ha hr Q hQ
    have hc0 := hc
    simp only [cCode] at hc
    split at hc
    · rename_i os hos
      cases draw with
      | true =>
        simp only [if_true] at hc
        split at hc
        · cases hc
          simp only [runR] at h
          split at h
          · simp at h
          · exact other _ _ hc0 r st ex r' st' h S φ w a hI ha hr Q hQ
        · cases hc
      | false =>
        simp only [Bool.false_eq_true, if_false] at hc
        cases hc
        simp only [runR] at h
        split at h
        · simp only [Bool.false_eq_true, if_false, Option.map_eq_some_iff] at h
          obtain ⟨p, e1, h2⟩ := h
          cases h2
          refine wpSIn_region ?_
          rw [List.range_eq_range']
          refine reg_rec ops.size 0 os r p.1 st p.2 S φ w a (by omega) (by simpa using hos) e1 hI hr fun a' q1 q2 q3 q4 => ?_

          exact hQ a' w q1 ⟨S, φ, q2, by rw [q4]; exact Adv.refl _ _ _ _, q3.trans ha, by rw [q4]; exact Nat.le_refl _⟩
        · exact other _ _ hc0 r st ex r' st' h S φ w a hI ha hr Q hQ
    · cases hc
  | _ =>
    intro ic hc r st ex r' st' h S φ w a hI ha hr Q hQ
    have hc0 := hc
    refine other _ _ hc0 r st ex r' st' ?_ S φ w a hI ha hr Q hQ
    simp only [cCode] at hc
    first
      | (cases hc; exact h)
      | (repeat' (first | (cases hc; done) | split at hc)
         all_goals (cases hc; exact h))
      | (simp only [Option.map_eq_some_iff] at hc; obtain ⟨_, _, rfl⟩ := hc; exact h)
theorem callDef_ok (hT : TOK P T) (hm : P.follows .mixedOrders = true) {cb : Cb} (hcb : CbOK P cb) {m : Nat} {f : FuncId} {md : Option Value} {args : List AV} {H H' : Heap} {v : AV} (h : callDef T m cb f md args H = some (v, H')) {S : Nat → Prop} {φ : Phi} {w : World} {vargs : Array Value} (hs : Sim P S φ (hget H) w) (htop : ∀ id, H.nx ≤ id → φ id = none) (hargs : Reps w S φ args vargs) :
    (∀ us, (callFunc f us).run P w = .ok (.enter f us) w) ∧ ∃ r, v = .bool r ∧ CallsDIn Fence.wide 0 P f vargs (modeF md) w fun e u' w' => (∃ vv, e = .returned vv) ∧ settle u' = modeF (if r then none else md) ∧ Left P S φ H w H' w' := by
  unfold callDef at h
  split at h
  · cases h
  · rename_i fn hfn
    obtain ⟨g, c, g1, g2, g3, g4, g5, g6⟩ := cFn_spec (hT f fn hfn)
    refine ⟨fun us => run_callFunc g1 g2 g3 us, ?_⟩
    have hI := begin_inv (f := f) (fn := fn) (g := g) g6 hs htop hargs
    have plain : ∀ (ex : Ex) (r : RSt), run T cb m none fn.body ⟨⟨args ++ List.replicate (fn.ntmps - args.length) undefA, H⟩, []⟩ = some (ex, r) → (ex = .normal ∨ ex = .ret) → r.ds.isEmpty = true → ∀ vs, resL r.st fn.res = some vs →
        CallsDIn Fence.wide 0 P f vargs (modeF md) w fun e u' w' => (∃ vv, e = .returned vv) ∧ settle u' = modeF md ∧ Left P S φ H w r.st.H w' := by
      intro ex r hrun hex hds vs hvs
      refine (callsDIn_of_wp (R := fun e w' => (∃ vv, e = .returned vv) ∧ Left P S φ H w r.st.H w') g1 g3 trivial (run_sound hT hcb hm m none .wide c fn.body g4 _ ex r hrun S φ w _ rfl hI _ fun a' w' hR => ?_)).mono ?_
      · obtain ⟨S', φ', k1, k2, k4⟩ := hR
        have hmk := k1.mrk
        rw [List.isEmpty_iff.1 hds] at hmk
        have hd : a'.defers = [] := by
          cases hd : a'.defers with
          | nil => rfl
          | cons x xs => rw [hd] at hmk; exact hmk.elim
        obtain ⟨vv, q1, q2⟩ := results_run (P := P) g5 hvs k1.inv
        have : bodyPost P g (fun e w' => (∃ vv, e = .returned vv) ∧ Left P S φ H w r.st.H w') .ret a' w' := ⟨hd, vv, q1, ⟨vv, rfl⟩, S', φ', k2, k1.inv.sim, k1.inv.top, k4⟩
        rcases hex with rfl | rfl
        · exact this
        · exact this
      · rintro e u' w' ⟨rfl, h1, h2⟩
        exact ⟨h1, settle_modeF md, h2⟩
    split at h
    · rename_i r hrun
      split at h
      · rename_i hds
        simp only [Option.map_eq_some_iff] at h
        obtain ⟨vs, h1, h2⟩ := h
        cases h2
        exact ⟨false, rfl, plain _ r hrun (.inl rfl) hds vs h1⟩
      · cases h
    · rename_i r hrun
      split at h
      · rename_i hds
        simp only [Option.map_eq_some_iff] at h
        obtain ⟨vs, h1, h2⟩ := h
        cases h2
        exact ⟨false, rfl, plain _ r hrun (.inr rfl) hds vs h1⟩
      · cases h
    · cases h
    · have recv : ∀ (ex : Ex) (r : Bool) (st : St), runR T cb m md fn.body false ⟨args ++ List.replicate (fn.ntmps - args.length) undefA, H⟩ = some (ex, r, st) → (ex = .normal ∨ ex = .ret) → ∀ vs, resL st fn.res = some vs →
          CallsDIn Fence.wide 0 P f vargs (modeF md) w fun e u' w' => (∃ vv, e = .returned vv) ∧ settle u' = modeF (if r then none else md) ∧ Left P S φ H w st.H w' := by
        intro ex r st hrun hex vs hvs
        refine callsDIn_of_wpSIn g1 g3 trivial fun c0 cs hu => ?_
        have hc0 : ({ c0 with mode := frM md false } : Frame) = c0 := by
          have : frM md false = modeF md := by cases md <;> rfl
          rw [this, ← hu]
        have hw := runR_ok (c0 := c0) (cs := cs) hT hm hcb c fn.body g4 false _ ex r st hrun S φ w _ hI.inv rfl (fun hh => by cases hh) (bodyPostS P g c0 cs fun e u' w' => (∃ vv, e = .returned vv) ∧ settle u' = modeF (if r then none else md) ∧ Left P S φ H w st.H w') (fun a' w' hr hR => by
          obtain ⟨S', φ', k1, k2, k3, k4⟩ := hR
          obtain ⟨vv, q1, q2⟩ := results_run (P := P) g5 hvs k1
          have : bodyPostS P g c0 cs (fun e u' w' => (∃ vv, e = .returned vv) ∧ settle u' = modeF (if r then none else md) ∧ Left P S φ H w st.H w') .ret a' ({ c0 with mode := frM md r } :: cs) w' :=
            ⟨k3, frM md r, rfl, vv, q1, ⟨vv, rfl⟩, frM_settle md r hr, S', φ', k2, k1.sim, k1.top, k4⟩
          rcases hex with rfl | rfl
          · exact this
          · exact this)
        rw [hc0] at hw
        exact hw
      split at h
      · rename_i r st hrun
        simp only [Option.map_eq_some_iff] at h
        obtain ⟨vs, h1, h2⟩ := h
        cases h2
        exact ⟨r, rfl, recv _ r st hrun (.inl rfl) vs h1⟩
      · rename_i r st hrun
        simp only [Option.map_eq_some_iff] at h
        obtain ⟨vs, h1, h2⟩ := h
        cases h2
        exact ⟨r, rfl, recv _ r st hrun (.inr rfl) vs h1⟩
      · cases h
theorem detachC_noId {H : Heap} {v : AV} (h : v.noId = true) : detachC H v = some (v, []) := by
  unfold detachC
  split
  · cases h
  · cases h
  · simp [h]
theorem detachL_noId {H : Heap} : ∀ {vs : List AV}, vs.all AV.noId = true → detachL H vs = some (vs, [])
  | [], _ => rfl
  | v :: vs, h => by
    simp only [List.all_cons, Bool.and_eq_true] at h
    simp [detachL, detachC_noId h.1, detachL_noId h.2]
theorem detach1_noId {H : Heap} {v : AV} (h : v.noId1 = true) : detach1 H v = some (v, []) := by
  unfold AV.noId1 at h
  split at h
  · simp [detach1, detachL_noId h]
  · rename_i hne
    have : detach1 H v = detachC H v := by cases v <;> first | rfl | exact absurd rfl (hne _)
    rw [this, detachC_noId h]
theorem detachM_noId {H : Heap} : ∀ {vs : List AV}, vs.all AV.noId1 = true → detachM H vs = some (vs, [])
  | [], _ => rfl
  | v :: vs, h => by
    simp only [List.all_cons, Bool.and_eq_true] at h
    simp [detachM, detach1_noId h.1, detachM_noId h.2]
theorem detach_noId {H : Heap} {v : AV} (h : v.noIdT = true) : detach H v = some (v, []) := by
  unfold AV.noIdT at h
  split at h
  · simp [detach, detachM_noId h]
  · rename_i hne
    have : detach H v = detach1 H v := by cases v <;> first | rfl | exact absurd rfl (hne _)
    rw [this, detach1_noId h]
theorem reifyT_rep {S Sc : Nat → Prop} {φ : Phi} {h : Mem} {H : Heap} {w : World} {v a : AV} {rd : List Nat} {u : Value} (he : reifyT H v = some (a, rd)) (hrd : ∀ id ∈ rd, h id = hget H id) (hs : Sim P S φ h w) (hv : Rep w S φ v u) (h1 : ∀ b, S b → Sc b) (h2 : rd ≠ [] → ∀ b, Own φ h b → Sc b) : Rep w Sc (fun _ => none) a u := by
  unfold reifyT at he
  split at he
  · rename_i cs
    cases e1 : reifyArgs H cs with
    | none => simp [e1] at he
    | some p =>
      obtain ⟨as, r⟩ := p
      simp [e1] at he
      obtain ⟨rfl, rfl⟩ := he
      obtain ⟨us, rfl, f2⟩ := hv.inv_tup
      have := reifyArgs_rep (us := us.toList) e1 hrd hs (by simpa using f2) h1 h2
      exact .tup (by simpa using this.1) (by simpa using this.2)
  · exact reify_rep he hrd hs hv h1 h2
theorem pureZ_ok {Sc : Nat → Prop} {w w' : World} {v t : AV} {H H' : Heap} {vv : Value} {S' : Nat → Prop} {φ' : Phi} (h : pureZ (some (v, H)) = some (t, H')) (adv : Adv Sc (fun _ => none) (hget noH) w S' φ' (hget H) w') (sim : Sim P S' φ' (hget H) w') (rep : Rep w' S' φ' v vv) : Pure P Sc w t vv w' := by
  simp only [pureZ] at h
  split at h
  · rename_i t' rd e1
    split at h
    · rename_i hno
      cases h
      have hnone : ∀ b, ¬ Own (fun _ => none) (hget noH) b := by rintro b ⟨id, x, loc, q1, q2, q3⟩; cases q2
      have hlt : ∀ b, Own φ' (hget H) b → b < w'.heap.size := by
        rintro b ⟨id, x, loc, q1, q2, rfl⟩
        obtain ⟨l', p1, p2, -⟩ := sim.blk id x q1
        rw [q2] at p1; cases p1
        exact p2.lt
      refine ⟨t, noH, [], fun b => S' b ∨ Own φ' (hget H) b, fun _ => none, ⟨fun id loc e => (by cases e), fun b hb => Or.inl (adv.up b hb), fun b hb => ?_, adv.os, adv.tape, adv.output, adv.size, fun b hb _ => adv.keep b hb (hnone b), ?_, adv.shape⟩, ⟨fun id b hb => (by simp [hget, noH] at hb), fun id id' b b' l l' hb => (by simp [hget, noH] at hb), fun b hb => ?_⟩, reifyT_rep e1 (fun _ _ => rfl) sim rep (fun b hb => .inl hb) (fun _ b hb => .inr hb), detach_noId hno, List.nodup_nil⟩
      · rcases hb with hb | hb
        · exact adv.new b hb
        · rcases adv.own b hb with h | h
          · exact absurd h (hnone b)
          · exact .inr h
      · rintro b ⟨id, x, loc, q1, q2, q3⟩; cases q2
      · rcases hb with hb | hb
        · exact sim.bd b hb
        · exact hlt b hb
    · cases h
  · cases h
theorem callPure_ok (hT : TOK P T) (hm : P.follows .mixedOrders = true) {cb : Cb} (hcb : CbOK P cb) {m : Nat} {f : FuncId} {args : List AV} {H' : Heap} {t : AV} (h : pureR (callBody T m cb f args noH) = some (t, H') ∨ pureZ (callBody T m cb f args noH) = some (t, H')) : PuOK P f args t := by
  intro Sc w us hs hargs
  cases hb : callBody T m cb f args noH with
  | none => rw [hb] at h; rcases h with h | h <;> cases h
  | some p =>
    obtain ⟨v, H1⟩ := p
    rw [hb] at h
    have h' : (∃ ids, detach H1 v = some (t, ids) ∧ ids.Nodup) ∨ pureZ (some (v, H1)) = some (t, H') := by
      rcases h with h | h
      · simp only [pureR] at h
        split at h
        · rename_i t' ids e1
          split at h
          · rename_i hnd
            cases h
            exact .inl ⟨ids, e1, hnd⟩
          · cases h
        · exact .inr h
      · exact .inr h
    refine (callBody_ok hT hm hcb hb hs (fun _ _ => rfl) hargs).mono ?_
    rintro e w' (⟨vv, rfl, S', φ', adv, sim, rep, -, -⟩ | ⟨p, rfl, -⟩)
    · rcases h' with ⟨ids, e1, hnd⟩ | h'
      · exact ⟨vv, rfl, v, H1, ids, S', φ', adv, sim, rep, e1, hnd⟩
      · exact ⟨vv, rfl, pureZ_ok h' adv sim rep⟩
    · rcases h' with ⟨ids, e1, hnd⟩ | h'
      · simp [detach, detach1, detachC, AV.noId] at e1
      · simp [pureZ, reifyT, reify, reifyC, reifyD, AV.noId] at h'
theorem callRound_ok (hT : TOK P T) (hm : P.follows .mixedOrders = true) {cb : Cb} (hcb : CbOK P cb) {m : Nat} {id : Nat} {args : List AV} {H H' : Heap} {v : AV} (h : callRound T m cb id args H = some (v, H')) {S : Nat → Prop} {φ : Phi} {w : World} {vargs : Array Value} {loc : Loc} (hs : Sim P S φ (hget H) w) (htop : ∀ id, H.nx ≤ id → φ id = none) (hargs : Reps w S φ args vargs) (hφ : φ id = some loc) :
    ∃ fn tmps a b, (Instr.yield loc.blk vargs).run P w = .ok (.round loc.blk fn tmps a b) w ∧ RoundIn Fence.wide 0 P loc.blk fn tmps a b w fun e w' => ∃ vv, e = .returned vv ∧ Fin P S φ H w v H' vv w' := by
  unfold callRound at h
  split at h
  · rename_i env ps ia ib st pend d hb
    split at h
    · rename_i hlen
      obtain ⟨loc', g1, g2, -⟩ := hs.blk id _ hb
      rw [hφ] at g1; cases g1
      obtain ⟨r0, f1, f2, f3, f4, f5, f6, f7, ld, f8, f9⟩ := g2
      have hsz : vargs.size = r0.params.size := by rw [hargs.1, hlen, ← f3]; simp
      refine ⟨r0.fn, _, r0.assign, r0.body, run_yield f1 hsz, ?_⟩
      have henv : Reps w S φ (setPs env ps args) ((r0.params.zip vargs).foldl (fun tmps (t, a) => tmps.setIfInBounds t a) r0.tmps) := by
        have := setPs_rep (ps := ps) (us := vargs.toList) hlen f2 (by simpa using hargs)
        rw [← f3] at this ⊢
        have e : (r0.params.zip vargs).foldl (fun tmps (t, a) => tmps.setIfInBounds t a) r0.tmps = (r0.params.toList.zip vargs.toList).foldl (fun tmps (t, a) => tmps.setIfInBounds t a) r0.tmps := by
          rw [← Array.foldl_toList, Array.toList_zip]
        rw [e]; exact this
      split at h
      · rename_i r1 h1
        split at h
        · rename_i r2 h2
          split at h
          · rename_i ex r3 h3
            have hI : InvR P S φ w ⟨⟨setPs env ps args, H⟩, []⟩ { tmps := (r0.params.zip vargs).foldl (fun tmps (t, a) => tmps.setIfInBounds t a) r0.tmps, defers := [] } := ⟨⟨hs, henv, htop⟩, trivial⟩
            refine roundIn_of_wpIn trivial (run_sound hT hcb hm m (some id) _ r0.assign ia f4 _ _ _ h1 S φ w _ ⟨loc, hφ, rfl⟩ hI _ fun a1 w1 hR => ?_)
            obtain ⟨S1, φ1, k1, k2, k4⟩ := hR
            -- the round begins
            unfold enterR at h2
            split at h2
            · rename_i env' ps' a' b' pend' d' hb1
              cases h2
              have hφ1 := k2.phi _ _ hφ
              obtain ⟨loc', g1, g2, -⟩ := k1.inv.sim.blk id _ hb1
              rw [hφ1] at g1; cases g1
              obtain ⟨r01, e1, e2, e3, e4, e5, e6, e7, ld', e8, e9⟩ := g2
              have hbeg := run_beginRound (P := P) e1 e6
              obtain ⟨q1, q2⟩ := put_sim (P := P) (b' := some (.loop env' ps' a' b' .busy pend' d')) (o := .loop { r01 with state := .busy }) k1.inv.sim hb1 hφ1 (shape_loop e1) (fun x hx adv => by
                cases hx
                exact ⟨_, World.putObj_heap_same (k1.inv.sim.lt hb1 hφ1), adv.reps k1.inv.sim e2, e3, e4, e5, rfl, e7, ld', e8, e9⟩)
              rw [← hget_wr1 r1.st.H id _ 0] at q1 q2
              refine ⟨_, hbeg, ?_⟩
              have hI2 : InvR P S1 φ1 (w1.putObj loc.blk (.loop { r01 with state := .busy })) ⟨⟨r1.st.env, wrH r1.st.H [(id, some (.loop env' ps' a' b' .busy pend' d'))] 0⟩, r1.ds⟩ a1 :=
                ⟨⟨q2, q1.reps k1.inv.sim k1.inv.env, fun k hk => k1.inv.top k (Nat.le_trans (Nat.le_max_left _ _) hk)⟩, k1.mrk.adv q1 k1.inv.sim⟩
              refine run_sound hT hcb hm m (some id) _ r0.body ib f5 _ _ _ h3 S1 φ1 _ _ ⟨loc, hφ1, rfl⟩ hI2 _ fun a2 w2 hR2 => ?_
              obtain ⟨S2, φ2, l1, l2, l4⟩ := hR2
              have hφ2 := l2.phi _ _ hφ1
              have hall : Adv S φ (hget H) w S2 φ2 (hget r3.st.H) w2 := (k2.trans q1).trans l2
              have hnx : H.nx ≤ r3.st.H.nx := Nat.le_trans (Nat.le_trans k4 (Nat.le_max_left _ _)) l4
              unfold leaveR at h
              split at h
              · rename_i env3 ps3 a3 b3 pend3 d3 hb3
                obtain ⟨loc', g1, g2, -⟩ := l1.inv.sim.blk id _ hb3
                rw [hφ2] at g1; cases g1
                obtain ⟨r03, m1, m2, m3, m4, m5, m6, m7, ld3, m8, m9⟩ := g2
                have fin : ∀ (st' : LoopState) (pend' : Ex), Fin P S φ H w v (wrH r3.st.H [(id, some (.loop env3 ps3 a3 b3 st' pend' d3))] 0) (.bool (pend'.code.isNone)) (w2.putObj loc.blk (.loop { r03 with state := st', pending := pend'.code })) ∨ v ≠ .bool pend'.code.isNone := by
                  intro st' pend'
                  by_cases hv : v = .bool pend'.code.isNone
                  · subst hv
                    obtain ⟨q1, q2⟩ := put_sim (P := P) (b' := some (.loop env3 ps3 a3 b3 st' pend' d3)) (o := .loop { r03 with state := st', pending := pend'.code }) l1.inv.sim hb3 hφ2 (shape_loop m1) (fun x hx adv => by
                      cases hx
                      exact ⟨_, World.putObj_heap_same (l1.inv.sim.lt hb3 hφ2), adv.reps l1.inv.sim m2, m3, m4, m5, rfl, rfl, ld3, m8, m9⟩)
                    rw [← hget_wr1 r3.st.H id _ 0] at q1 q2
                    exact .inl ⟨S2, φ2, hall.trans q1, q2, .bool, fun k hk => l1.inv.top k (Nat.le_trans (Nat.le_max_left _ _) hk), Nat.le_trans hnx (Nat.le_max_left _ _)⟩
                  · exact .inr hv
                cases ex with
                | normal =>
                  cases h
                  exact ⟨_, _, run_endRound none m1, _, rfl, (fin .ready .normal).resolve_right (by simp [Ex.code])⟩
                | pan p => cases h
                | ret =>
                  cases h
                  exact ⟨_, _, run_endRound (some .ret) m1, _, rfl, (fin .done .ret).resolve_right (by simp [Ex.code])⟩
                | exit id' =>
                  cases h
                  exact ⟨_, _, run_endRound (some (.exit id')) m1, _, rfl, (fin .done (.exit id')).resolve_right (by simp [Ex.code])⟩
              · cases h
            · cases h2
          · cases h
        · cases h
      · cases h
    · cases h
  · cases h
/-! What is known of calls already -/
/-- A call on a memory that is known. -/
def FnOK (P : Program) (k : MemoF) : Prop := ∀ S φ w vargs, Sim P S φ (hget k.H) w → (∀ id, k.H.nx ≤ id → φ id = none) → Reps w S φ k.args vargs → Calls P k.f vargs w fun e w' => FinE P S φ k.H w k.v k.H' e w'
theorem sameM_eq {a b : Option Blk} (h : sameM a b = true) : a = b := by
  unfold sameM at h
  split at h
  · rfl
  · exact sameB_eq h
theorem eqHp_eq {H K : Heap} (h : eqHp H K = true) : H = K := by
  obtain ⟨l, n⟩ := H
  obtain ⟨l', n'⟩ := K
  simp only [eqHp, Bool.and_eq_true] at h
  rw [eqLs_eq (fun a b => sameM_eq) h.2, Nat.eq_of_beq_eq_true h.1]
theorem eqVal_eq : ∀ {d : Nat} {p q : Value}, eqVal d p q = true → p = q
  | 0, _, _, h => by simp [eqVal] at h
  | d + 1, p, q, h => by
    unfold eqVal at h
    split at h
    · cases h
    · rename_i e; cases e
      simp only [Bool.and_eq_true, beq_iff_eq] at h
      rw [h.1, eqVal_eq h.2]
    · simp only [Bool.and_eq_true, beq_iff_eq] at h
      rw [h.1, h.2]
    · rfl
    · cases h
theorem eqP_eq {a b : AV} (h : eqP a b = true) : a = b := by
  unfold eqP at h
  split at h
  · rw [eqVal_eq h]
  · exact eqD_eq h
def MemosOK (P : Program) : MemT → Prop
  | .nil => True
  | .one k r => PuOK P k.f k.args k.t ∧ MemosOK P r
  | .oneF k r => FnOK P k ∧ MemosOK P r
  | .node _ l r => MemosOK P l ∧ MemosOK P r
theorem findT_ok {f : FuncId} {args : List AV} {key : Nat} {t : AV} : ∀ {L : MemT}, MemosOK P L → findT f args key L = some t → PuOK P f args t
  | .nil, _, h => by cases h
  | .one k r, hL, h => by
    simp only [findT, cond_eq_ite] at h
    split at h
    · rename_i hc
      cases h
      simp only [Bool.and_eq_true] at hc
      have := hL.1
      rwa [Nat.eq_of_beq_eq_true hc.1, List.reverse_inj.1 (eqLs_eq (fun a b => eqD_eq) hc.2)] at this
    · exact findT_ok hL.2 h
  | .oneF k r, hL, h => by
    simp only [findT] at h
    exact findT_ok hL.2 h
  | .node n l r, hL, h => by
    simp only [findT, cond_eq_ite] at h
    split at h
    · exact findT_ok hL.1 h
    · exact findT_ok hL.2 h
theorem findM_ok {f : FuncId} {args : List AV} {t : AV} {L : MemT} (hL : MemosOK P L) (h : findM f args L = some t) : PuOK P f args t := findT_ok hL h
theorem findTF_ok {f : FuncId} {args : List AV} {H H' : Heap} {key : Nat} {v : AV} : ∀ {L : MemT}, MemosOK P L → findTF f args H key L = some (v, H') → FnOK P ⟨f, args, H, v, H'⟩
  | .nil, _, h => by cases h
  | .one k r, hL, h => by
    simp only [findTF] at h
    exact findTF_ok hL.2 h
  | .oneF k r, hL, h => by
    simp only [findTF, cond_eq_ite] at h
    split at h
    · rename_i hc
      cases h
      simp only [Bool.and_eq_true] at hc
      have h1 := Nat.eq_of_beq_eq_true hc.1
      have h2 := List.reverse_inj.1 (eqLs_eq (fun a b => eqD_eq) hc.2.1)
      have h3 := eqHp_eq hc.2.2
      have := hL.1
      obtain ⟨kf, ka, kH, kv, kH'⟩ := k
      dsimp only at h1 h2 h3 this ⊢
      subst h1 h2 h3
      exact this
    · exact findTF_ok hL.2 h
  | .node n l r, hL, h => by
    simp only [findTF, cond_eq_ite] at h
    split at h
    · exact findTF_ok hL.1 h
    · exact findTF_ok hL.2 h
theorem callFn_ok (hT : TOK P T) (hm : P.follows .mixedOrders = true) (m : Nat) {L : MemT} (hL : MemosOK P L) : ∀ n, CbOK P (callFn T m L n)
  | 0 => ⟨fun f args H v H' h => (by cases h), fun f md args H v H' h => (by cases h), fun f args H v H' h => (by cases h), fun id args H v H' h => (by cases h)⟩
  | n + 1 => by
    have hcb := callFn_ok hT hm m hL n
    refine ⟨fun f args H v H' h S φ w vargs hs htop hargs => ?_, fun f md args H v H' h S φ w vargs hs htop hargs => callDef_ok hT hm hcb h hs htop hargs, fun f args H t H' h => ?_, fun id args H v H' h S φ w vargs loc hs htop hargs hφ => callRound_ok hT hm hcb h hs htop hargs hφ⟩
    · simp only [callFn] at h
      split at h
      · rename_i q e1; cases h; exact findTF_ok hL e1 S φ w vargs hs htop hargs
      · exact callBody_ok hT hm hcb h hs htop hargs
    simp only [callFn] at h
    split at h
    · rename_i t' e1; cases h; exact findM_ok hL e1
    · exact callPure_ok hT hm hcb (.inl h)
end Go.V
/- What data and known values stand for among the evaluator's values. -/
set_option linter.unusedVariables false
set_option linter.unusedSimpArgs false
namespace Go.Q
open Go.V

/-! Pointwise -/
inductive F2 {α β : Type} (R : α → β → Prop) : List α → List β → Prop
  | nil : F2 R [] []
  | cons {a : α} {b : β} {as : List α} {bs : List β} : R a b → F2 R as bs → F2 R (a :: as) (b :: bs)
section
variable {α β : Type} {R S : α → β → Prop}
theorem F2.len : ∀ {as : List α} {bs : List β}, F2 R as bs → as.length = bs.length
  | _, _, .nil => rfl
  | _, _, .cons _ h => by simp [h.len]
theorem F2.get : ∀ {as : List α} {bs : List β}, F2 R as bs → ∀ {i : Nat} {a : α}, as[i]? = some a → ∃ b, bs[i]? = some b ∧ R a b
  | _, _, .cons h t, 0, a, e => by cases e; exact ⟨_, rfl, h⟩
  | _, _, .cons h t, i + 1, a, e => by simpa using t.get (i := i) (by simpa using e)
theorem F2.getr : ∀ {as : List α} {bs : List β}, F2 R as bs → ∀ {i : Nat} {b : β}, bs[i]? = some b → ∃ a, as[i]? = some a ∧ R a b
  | _, _, .cons h t, 0, a, e => by cases e; exact ⟨_, rfl, h⟩
  | _, _, .cons h t, i + 1, a, e => by simpa using t.getr (i := i) (by simpa using e)
theorem F2.of_get : ∀ {as : List α} {bs : List β}, as.length = bs.length → (∀ (i : Nat) a b, as[i]? = some a → bs[i]? = some b → R a b) → F2 R as bs
  | [], [], _, _ => .nil
  | a :: as, b :: bs, hl, h => .cons (h 0 a b rfl rfl) (F2.of_get (by simpa using hl) fun i a b h1 h2 => h (i + 1) a b (by simpa using h1) (by simpa using h2))
theorem F2.mono (hRS : ∀ a b, R a b → S a b) : ∀ {as : List α} {bs : List β}, F2 R as bs → F2 S as bs
  | _, _, .nil => .nil
  | _, _, .cons h t => .cons (hRS _ _ h) (t.mono hRS)
theorem F2.monoMem : ∀ {as : List α} {bs : List β}, (∀ a ∈ as, ∀ b ∈ bs, R a b → S a b) → F2 R as bs → F2 S as bs
  | _, _, _, .nil => .nil
  | _, _, hRS, .cons h t => .cons (hRS _ (by simp) _ (by simp) h) (t.monoMem fun a ha b hb => hRS a (by simp [ha]) b (by simp [hb]))
theorem F2.append : ∀ {as cs : List α} {bs ds : List β}, F2 R as bs → F2 R cs ds → F2 R (as ++ cs) (bs ++ ds)
  | _, _, _, _, .nil, h => h
  | _, _, _, _, .cons h t, h' => .cons h (t.append h')
theorem F2.take : ∀ {as : List α} {bs : List β} (n : Nat), F2 R as bs → F2 R (as.take n) (bs.take n)
  | _, _, _, .nil => by simpa using F2.nil
  | _, _, 0, .cons h t => .nil
  | _, _, n + 1, .cons h t => .cons h (t.take n)
theorem F2.drop : ∀ {as : List α} {bs : List β} (n : Nat), F2 R as bs → F2 R (as.drop n) (bs.drop n)
  | _, _, _, .nil => by simpa using F2.nil
  | _, _, 0, .cons h t => .cons h t
  | _, _, n + 1, .cons h t => by simpa using t.drop n
theorem F2.set {a : α} {b : β} (hab : R a b) : ∀ {as : List α} {bs : List β} (n : Nat), F2 R as bs → F2 R (as.set n a) (bs.set n b)
  | _, _, _, .nil => by simpa using F2.nil
  | _, _, 0, .cons h t => .cons hab t
  | _, _, n + 1, .cons h t => .cons h (t.set hab n)
theorem F2.replicate {a : α} {b : β} (hab : R a b) : ∀ n, F2 R (List.replicate n a) (List.replicate n b)
  | 0 => .nil
  | n + 1 => .cons hab (F2.replicate hab n)
theorem F2.single {a : α} {b : β} (h : R a b) : F2 R [a] [b] := .cons h .nil
theorem F2.map {γ δ : Type} {Q : γ → δ → Prop} {f : α → γ} {g : β → δ} (h : ∀ a b, R a b → Q (f a) (g b)) : ∀ {as : List α} {bs : List β}, F2 R as bs → F2 Q (as.map f) (bs.map g)
  | _, _, .nil => .nil
  | _, _, .cons x t => .cons (h _ _ x) (t.map h)
theorem F2.inv_nil {bs : List β} (h : F2 R [] bs) : bs = [] := by cases h; rfl
theorem F2.inv_cons {a : α} {as : List α} {bs : List β} (h : F2 R (a :: as) bs) : ∃ b t, bs = b :: t ∧ R a b ∧ F2 R as t := by cases h with | cons h t => exact ⟨_, _, rfl, h, t⟩
theorem F2.inv_app : ∀ {as cs : List α} {bs : List β}, F2 R (as ++ cs) bs → ∃ x y, bs = x ++ y ∧ F2 R as x ∧ F2 R cs y
  | [], _, bs, h => ⟨[], bs, rfl, .nil, h⟩
  | a :: as, cs, bs, h => by
    obtain ⟨b, t, rfl, h1, h2⟩ := F2.inv_cons h
    obtain ⟨x, y, rfl, h3, h4⟩ := F2.inv_app h2
    exact ⟨b :: x, y, rfl, .cons h1 h3, h4⟩
end

/-! Data -/
/-- Data, as values that lie in no memory of one's own. -/
inductive RD : D → AV → Prop
  | int {k : IntKind} {n : Int} : RD (.int k n) (.int k n)
  | bool {b : Bool} : RD (.bool b) (.bool b)
  | str {s : ByteArray} : RD (.str s) (.str s)
  | nilP : RD .nilP .nilP
  | nilF : RD .nilF .nilF
  | node {ds : List D} {as : List AV} (h : F2 RD ds as) : RD (.node ds) (.agg as)
  | nilS : RD (.list []) .nilS
  | emp {z : Bool} : RD (.list []) (.emp z)
  | lst {sz : Nat} {xs : List (List D)} {as : List (List AV)} (hne : xs ≠ []) (hs : ∀ y ∈ as, y.length = sz ∧ y.all AV.one = true) (h : F2 (F2 RD) xs as) : RD (.list xs) (.lst sz as)
  | fn {f : FuncId} {a b : List D} {as bs : List AV} (h : F2 RD a as) (h' : F2 RD b bs) (hf : as.all AV.flat = true ∧ bs.all AV.flat = true) : RD (.fn f a b) (.fn f as bs)
abbrev Frz := Nat → Option (Nat × List (List AV))
/-- Data, parts of which lie in memory that nobody writes any more. -/
inductive RO (Φ : Frz) (A : Nat → Prop) : D → AV → Prop
  | b {d : D} {a : AV} (h : RD d a) : RO Φ A d a
  | own {id off sz : Nat} {rows : List (List AV)} {xs : List (List D)} (hΦ : Φ id = some (sz, rows)) (hA : A id) (hl : off + xs.length ≤ rows.length) (hs : ∀ y ∈ rows, y.length = sz ∧ y.all AV.one = true)
      (h : F2 (F2 (RO Φ A)) xs ((rows.drop off).take xs.length)) : RO Φ A (.list xs) (.own id off xs.length)
/-- Where a block lies: its place (none: nowhere, as it is empty), from which element on, how many elements; its root. -/
structure Pl where
  idc : Option Nat
  off : Nat
  len : Nat
  rt : Nat
structure Cx where
  Φ : Frz
  F0 : Nat → Prop
  ψ : Nat → Option Pl
  κ : List Nat
  ρ : List D
def Cx.okr (c : Cx) (rs : List Nat) (id : Nat) : Prop := c.F0 id ∨ ∃ s p, c.ψ s = some p ∧ p.idc = some id ∧ p.rt ∈ rs
/-- What a known value stands for. -/
inductive Cv (c : Cx) : SV → AV → Prop
  | e {x : E} {a : AV} (hx : x.upto c.ρ.length = true) (h : RD (x.den c.ρ) a) (h1 : a.one = true) : Cv c (.e x) a
  | fz {x : E} {rs : List Nat} {a : AV} (hx : x.upto c.ρ.length = true) (h : RO c.Φ (c.okr rs) (x.den c.ρ) a) (h1 : a.one = true) : Cv c (.fz x rs) a
  | agg {cs : List SV} {as : List AV} (h : F2 (Cv c) cs as) (h1 : as.all AV.one = true) : Cv c (.agg cs) (.agg as)
  | tup {cs : List SV} {as : List AV} (h : F2 (Cv c) cs as) : Cv c (.tup cs) (.tup as)
  | own {id x : Nat} {p : Pl} (hp : c.ψ id = some p) (hx : p.idc = some x) : Cv c (.own id) (.own x p.off p.len)
  | ownE {id : Nat} {p : Pl} {a : AV} (hp : c.ψ id = some p) (hl : p.len = 0) (ha : a = .nilS ∨ a = .emp true) : Cv c (.own id) a
  | nil : Cv c .nil .nilS
  | ptr {id j x : Nat} {p : Pl} (hp : c.ψ id = some p) (hx : p.idc = some x) : Cv c (.ptr id j) (.ptr x 0 j)
  | ptrO {id j x : Nat} {p : Pl} {i : E} {k : IntKind} {n : Int} (hp : c.ψ id = some p) (hx : p.idc = some x) (hi : i.upto c.ρ.length = true) (hn : i.den c.ρ = .int k n) (h0 : 0 ≤ n) (hl : n.toNat < p.len) :
      Cv c (.ptrO id i j) (.ptr x (p.off + n.toNat) j)
  | sufO {id : Nat} {lo : E} {p : Pl} {k : IntKind} {n : Int} {a : AV} (hp : c.ψ id = some p) (hi : lo.upto c.ρ.length = true) (hn : lo.den c.ρ = .int k n) (h0 : 0 ≤ n) (hl : n.toNat ≤ p.len)
      (ha : (∃ x, p.idc = some x ∧ a = .own x (p.off + n.toNat) (p.len - n.toNat)) ∨ (n.toNat = p.len ∧ (a = .nilS ∨ ∃ z, a = .emp z))) : Cv c (.sufO id lo) a
  | ptrE {x i : E} {j sz : Nat} {rs : Option (List Nat)} {xs : List (List D)} {rows : List (List AV)} {k : IntKind} {n : Int} (hx : x.upto c.ρ.length = true) (hi : i.upto c.ρ.length = true) (hd : x.den c.ρ = .list xs)
      (hn : i.den c.ρ = .int k n) (h0 : 0 ≤ n) (hl : n.toNat < xs.length) (hs : ∀ y ∈ rows, y.length = sz ∧ y.all AV.one = true) (h : F2 (F2 RD) xs rows) : Cv c (.ptrE x i j rs) (.ptrL sz rows n.toNat j)
  | ptrF {x i : E} {j sz id off : Nat} {rs : List Nat} {xs : List (List D)} {rows : List (List AV)} {k : IntKind} {n : Int} (hx : x.upto c.ρ.length = true) (hi : i.upto c.ρ.length = true) (hd : x.den c.ρ = .list xs)
      (hn : i.den c.ρ = .int k n) (h0 : 0 ≤ n) (hl : n.toNat < xs.length) (hΦ : c.Φ id = some (sz, rows)) (hA : c.okr rs id) (hl' : off + xs.length ≤ rows.length) (hs : ∀ y ∈ rows, y.length = sz ∧ y.all AV.one = true)
      (h : F2 (F2 (RO c.Φ (c.okr rs))) xs ((rows.drop off).take xs.length)) : Cv c (.ptrE x i j (some rs)) (.ptr id (off + n.toNat) j)
  | fn {f : FuncId} {a b : List SV} {as bs : List AV} (h : F2 (Cv c) a as) (h' : F2 (Cv c) b bs) : Cv c (.fn f a b) (.fn f as bs)
  | yld {k id : Nat} (h : c.κ[k]? = some id) : Cv c (.yld k) (.yld id)
  | km {ks vs : List AV} : Cv c (.km ks vs) (.mapL ks vs)
  | unk {a : AV} : Cv c .unk a

theorem one_noPan {a : AV} (h : a.one = true) : a.isPan = false := by cases a <;> first | rfl | (simp [AV.one] at h)
theorem Cv.noPan {c : Cx} {v : SV} {a : AV} (h : Cv c v a) (hv : v ≠ .unk) : a.isPan = false := by
  cases h with
  | e _ _ h1 => exact one_noPan h1
  | fz _ _ h1 => exact one_noPan h1
  | ownE _ _ ha => rcases ha with rfl | rfl <;> rfl
  | sufO _ _ _ _ _ ha => rcases ha with ⟨x, _, rfl⟩ | ⟨_, rfl | ⟨z, rfl⟩⟩ <;> rfl
  | unk => exact absurd rfl hv
  | _ => rfl

/-! More is known -/
mutual
theorem E.den_app {n : Nat} {ρ e : List D} (hn : n ≤ ρ.length) : ∀ {x : E}, x.upto n = true → x.den (ρ ++ e) = x.den ρ
  | .v k, h => by
    have : k < ρ.length := by have := of_decide_eq_true h; omega
    simp [E.den, List.getD_eq_getElem?_getD, List.getElem?_append_left this]
  | .c d, _ => rfl
  | .cell x j, h => by simp [E.den, E.den_app hn (x := x) h]
  | .node xs, h => by simp [E.den, denL_app hn (xs := xs) h]
  | .fn f a b, h => by
    simp only [E.upto, Bool.and_eq_true] at h
    simp [E.den, denL_app hn (xs := a) h.1, denL_app hn (xs := b) h.2]
theorem denL_app {n : Nat} {ρ e : List D} (hn : n ≤ ρ.length) : ∀ {xs : List E}, uptoL n xs = true → denL (ρ ++ e) xs = denL ρ xs
  | [], _ => rfl
  | x :: xs, h => by
    simp only [uptoL, Bool.and_eq_true] at h
    simp [denL, E.den_app hn (x := x) h.1, denL_app hn (xs := xs) h.2]
end
mutual
theorem E.upto_mono {n m : Nat} (hn : n ≤ m) : ∀ {x : E}, x.upto n = true → x.upto m = true
  | .v k, h => by have := of_decide_eq_true h; exact decide_eq_true (by omega)
  | .c d, _ => rfl
  | .cell x j, h => E.upto_mono hn (x := x) h
  | .node xs, h => uptoL_mono hn (xs := xs) h
  | .fn f a b, h => by
    simp only [E.upto, Bool.and_eq_true] at h ⊢
    exact ⟨uptoL_mono hn (xs := a) h.1, uptoL_mono hn (xs := b) h.2⟩
theorem uptoL_mono {n m : Nat} (hn : n ≤ m) : ∀ {xs : List E}, uptoL n xs = true → uptoL m xs = true
  | [], _ => rfl
  | x :: xs, h => by
    simp only [uptoL, Bool.and_eq_true] at h ⊢
    exact ⟨E.upto_mono hn (x := x) h.1, uptoL_mono hn (xs := xs) h.2⟩
end
structure Cx.le (c c' : Cx) : Prop where
  Φ : ∀ id x, c.Φ id = some x → c'.Φ id = some x
  F0 : c'.F0 = c.F0
  ψ : ∀ id p, c.ψ id = some p → c'.ψ id = some p
  κ : c'.κ = c.κ
  ρ : ∃ e, c'.ρ = c.ρ ++ e
theorem Cx.le.refl (c : Cx) : c.le c := ⟨fun _ _ h => h, rfl, fun _ _ h => h, rfl, [], by simp⟩
theorem Cx.le.trans {a b c : Cx} (h : a.le b) (h' : b.le c) : a.le c :=
  ⟨fun i x e => h'.Φ i x (h.Φ i x e), h'.F0.trans h.F0, fun i x e => h'.ψ i x (h.ψ i x e), h'.κ.trans h.κ, by
    obtain ⟨e, h1⟩ := h.ρ; obtain ⟨e', h2⟩ := h'.ρ; exact ⟨e ++ e', by rw [h2, h1, List.append_assoc]⟩⟩
theorem Cx.le.len {c c' : Cx} (h : c.le c') : c.ρ.length ≤ c'.ρ.length := by obtain ⟨e, h1⟩ := h.ρ; rw [h1]; simp
theorem Cx.le.den {c c' : Cx} (h : c.le c') {x : E} (hx : x.upto c.ρ.length = true) : x.den c'.ρ = x.den c.ρ := by
  obtain ⟨e, h1⟩ := h.ρ; rw [h1]; exact E.den_app (Nat.le_refl _) hx
theorem Cx.le.denL {c c' : Cx} (h : c.le c') {xs : List E} (hx : uptoL c.ρ.length xs = true) : Go.Q.denL c'.ρ xs = Go.Q.denL c.ρ xs := by
  obtain ⟨e, h1⟩ := h.ρ; rw [h1]; exact denL_app (Nat.le_refl _) hx
theorem Cx.le.upto {c c' : Cx} (h : c.le c') {x : E} (hx : x.upto c.ρ.length = true) : x.upto c'.ρ.length = true := E.upto_mono h.len hx
theorem Cx.le.okr {c c' : Cx} (h : c.le c') {rs : List Nat} {id : Nat} (hx : c.okr rs id) : c'.okr rs id := by
  rcases hx with h1 | ⟨s, p, h1, h2, h3⟩
  · exact .inl (by rw [h.F0]; exact h1)
  · exact .inr ⟨s, p, h.ψ _ _ h1, h2, h3⟩
mutual
theorem RO.mono {Φ Φ' : Frz} {A A' : Nat → Prop} (hΦ : ∀ id x, Φ id = some x → Φ' id = some x) (hA : ∀ id, A id → A' id) : ∀ {d : D} {a : AV}, RO Φ A d a → RO Φ' A' d a
  | _, _, .b h => .b h
  | _, _, .own h1 h2 h3 h4 h5 => .own (hΦ _ _ h1) (hA _ h2) h3 h4 (RO.monoLL hΦ hA h5)
theorem RO.monoL {Φ Φ' : Frz} {A A' : Nat → Prop} (hΦ : ∀ id x, Φ id = some x → Φ' id = some x) (hA : ∀ id, A id → A' id) : ∀ {d : List D} {a : List AV}, F2 (RO Φ A) d a → F2 (RO Φ' A') d a
  | _, _, .nil => .nil
  | _, _, .cons h t => .cons (RO.mono hΦ hA h) (RO.monoL hΦ hA t)
theorem RO.monoLL {Φ Φ' : Frz} {A A' : Nat → Prop} (hΦ : ∀ id x, Φ id = some x → Φ' id = some x) (hA : ∀ id, A id → A' id) : ∀ {d : List (List D)} {a : List (List AV)}, F2 (F2 (RO Φ A)) d a → F2 (F2 (RO Φ' A')) d a
  | _, _, .nil => .nil
  | _, _, .cons h t => .cons (RO.monoL hΦ hA h) (RO.monoLL hΦ hA t)
end
mutual
theorem Cv.mono {c c' : Cx} (h : c.le c') : ∀ {v : SV} {a : AV}, Cv c v a → Cv c' v a
  | _, _, .e hx h1 h2 => .e (h.upto hx) (by rw [h.den hx]; exact h1) h2
  | _, _, .fz hx h1 h2 => .fz (h.upto hx) (by rw [h.den hx]; exact h1.mono h.Φ fun id => h.okr) h2
  | _, _, .agg h1 h2 => .agg (Cv.monoL h h1) h2
  | _, _, .tup h1 => .tup (Cv.monoL h h1)
  | _, _, .own h1 h2 => .own (h.ψ _ _ h1) h2
  | _, _, .ownE h1 h2 h3 => .ownE (h.ψ _ _ h1) h2 h3
  | _, _, .nil => .nil
  | _, _, .ptr h1 h2 => .ptr (h.ψ _ _ h1) h2
  | _, _, .ptrO h1 h2 hi h3 h4 h5 => .ptrO (h.ψ _ _ h1) h2 (h.upto hi) (by rw [h.den hi]; exact h3) h4 h5
  | _, _, .sufO h1 hi h3 h4 h5 ha => .sufO (h.ψ _ _ h1) (h.upto hi) (by rw [h.den hi]; exact h3) h4 h5 ha
  | _, _, .ptrE hx hi h1 h2 h3 h4 h5 h6 => .ptrE (h.upto hx) (h.upto hi) (by rw [h.den hx]; exact h1) (by rw [h.den hi]; exact h2) h3 h4 h5 h6
  | _, _, .ptrF hx hi h1 h2 h3 h4 h5 h6 h7 h8 h9 => .ptrF (h.upto hx) (h.upto hi) (by rw [h.den hx]; exact h1) (by rw [h.den hi]; exact h2) h3 h4 (h.Φ _ _ h5) (h.okr h6) h7 h8 (RO.monoLL h.Φ (fun id => h.okr) h9)
  | _, _, .fn h1 h2 => .fn (Cv.monoL h h1) (Cv.monoL h h2)
  | _, _, .yld h1 => .yld (by rw [h.κ]; exact h1)
  | _, _, .km => .km
  | _, _, .unk => .unk
theorem Cv.monoL {c c' : Cx} (h : c.le c') : ∀ {v : List SV} {a : List AV}, F2 (Cv c) v a → F2 (Cv c') v a
  | _, _, .nil => .nil
  | _, _, .cons h1 t => .cons (Cv.mono h h1) (Cv.monoL h t)
end
end Go.Q
