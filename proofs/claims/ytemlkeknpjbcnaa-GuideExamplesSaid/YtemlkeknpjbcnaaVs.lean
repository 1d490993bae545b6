/- Soundness: regions that draw their order: the theorem. -/
import Derived.Test.YtemlkeknpjbcnaaVr
set_option linter.unusedVariables false
set_option linter.unusedSimpArgs false
namespace Go.V
open Go.RowKit
variable {P : Program}

section
variable {P : Program} {T : FuncId → Option IFn} {cb : Cb}
instance : Inhabited Tr := ⟨⟨⟨[], noH⟩, undefA, [], [], 0⟩⟩
/-- All that is known of a drawing region's evaluation. -/
structure Drawn (P : Program) (T : FuncId → Option IFn) (cb : Cb) (ops : Array Oper) (ios : List IOp) (st st' : St) (ts : List Tr) : Prop where
  comp : ∀ (i : Nat) o io, ops[i]? = some o → ios[i]? = some io → cOper P ops ((Region.before ops).getD i 0) o = some io
  len : ios.length = ops.size
  tlen : ts.length = ops.size
  slots : ∀ (i j : Nat) oi oj, i < j → ops[i]? = some oi → ops[j]? = some oj → ((Region.before ops).getD j 0).testBit i = true ∨ oi.apart ops oj = true
  edges : ∀ (i : Nat) o, ops[i]? = some o → ∀ e ∈ o.after, Region.binds .any e = true → e.on < i
  uses : ∀ (i : Nat) o io, ops[i]? = some o → ios[i]? = some io → ∀ n, Arg.t n ∈ io.op.args → n ∈ o.looksAt ops
  step : ∀ (i : Nat) io t, ios[i]? = some io → ts[i]? = some t → StepT T cb io t ∧ ((ts[i + 1]?).map (·.st)).getD st' = t.next io ∧ ∀ (j : Nat) u, j < i → ts[j]? = some u → (io.bef.testBit j = true ∨ clash u.foot t.foot = false)
  start : ((ts[0]?).map (·.st)).getD st' = st
variable {ops : Array Oper} {ios : List IOp} {st st' : St} {ts : List Tr}
def dstF (ios : List IOp) (j : Nat) : Option Nat := ((ios[j]?).map (·.dst)).getD none
def valF (ts : List Tr) (j : Nat) : AV := ((ts[j]?).map (·.v)).getD undefA
def wrF (ts : List Tr) (j : Nat) : Wr := ((ts[j]?).map (·.wr)).getD []
def stF (ts : List Tr) (st' : St) (j : Nat) : St := ((ts[j]?).map (·.st)).getD st'
theorem Drawn.ios_at (D : Drawn P T cb ops ios st st' ts) {i : Nat} (hi : i < ops.size) : ∃ o io t, ops[i]? = some o ∧ ios[i]? = some io ∧ ts[i]? = some t :=
  ⟨ops[i], ios[i]'(by rw [D.len]; exact hi), ts[i]'(by rw [D.tlen]; exact hi), by simp [hi], by simp [D.len, hi], by simp [D.tlen, hi]⟩
theorem Drawn.at_ (D : Drawn P T cb ops ios st st' ts) : ∀ i, i ≤ ops.size → (stF ts st' i).env = envL st.env (dstF ios) (valF ts) (fun _ => true) i ∧ hget (stF ts st' i).H = memL (hget st.H) (wrF ts) (fun _ => true) i ∧ st.H.nx ≤ (stF ts st' i).H.nx
  | 0, _ => by
    have := D.start
    unfold stF
    rw [this]; exact ⟨rfl, rfl, Nat.le_refl _⟩
  | i + 1, hi => by
    obtain ⟨h1, h2, h3⟩ := D.at_ i (by omega)
    obtain ⟨o, io, t, e1, e2, e3⟩ := D.ios_at (i := i) (by omega)
    obtain ⟨-, g2, -⟩ := D.step i io t e2 e3
    have hst : stF ts st' (i + 1) = t.next io := g2
    have hti : stF ts st' i = t.st := by simp [stF, e3]
    rw [hst]
    rw [hti] at h1 h2 h3
    have hd : dstF ios i = io.dst := by simp [dstF, e2]
    have hv : valF ts i = t.v := by simp [valF, e3]
    have hw : wrF ts i = t.wr := by simp [wrF, e3]
    refine ⟨?_, ?_, ?_⟩
    · simp only [envL, if_true, hd, hv, ← h1, Tr.next]
    · simp only [memL, if_true, hw, ← h2, Tr.next, hget_wrH]
    · exact Nat.le_trans h3 (Nat.le_max_left _ _)
/-- Numbers of places rise. -/
theorem Drawn.nx_mono (D : Drawn P T cb ops ios st st' ts) : ∀ {i j : Nat}, i ≤ j → j ≤ ops.size → (stF ts st' i).H.nx ≤ (stF ts st' j).H.nx := by
  intro i j hij
  induction j with
  | zero => intro _; have : i = 0 := by omega
            subst this; exact Nat.le_refl _
  | succ j ih =>
    intro hj
    by_cases h : i = j + 1
    · subst h; exact Nat.le_refl _
    · refine Nat.le_trans (ih (by omega) (by omega)) ?_
      obtain ⟨o, io, t, e1, e2, e3⟩ := D.ios_at (i := j) (by omega)
      obtain ⟨-, g2, -⟩ := D.step j io t e2 e3
      have hst : stF ts st' (j + 1) = t.next io := g2
      have hti : stF ts st' j = t.st := by simp [stF, e3]
      rw [hst, hti]
      exact Nat.le_max_left _ _
/-- Behind a set of the operations. -/
structure Good (P : Program) (ops : Array Oper) (ios : List IOp) (ts : List Tr) (st st' : St) (S0 : Nat → Prop) (φ0 : Phi) (w0 : World) (a0 : Act) (listed : Array Bool) (a : Act) (w : World) : Prop where
  size : listed.size = ops.size
  closed : ∀ i o, listed.getD i false = true → ops[i]? = some o → ∀ e ∈ o.after, Region.binds .any e = true → listed.getD e.on false = true
  defers : a.defers = a0.defers
  ex : ∃ S φ, Sim P S φ (memL (hget st.H) (wrF ts) (fun j => listed.getD j false) ops.size) w ∧ Reps w S φ (envL st.env (dstF ios) (valF ts) (fun j => listed.getD j false) ops.size) a.tmps ∧
    Adv S0 φ0 (hget st.H) w0 S φ (memL (hget st.H) (wrF ts) (fun j => listed.getD j false) ops.size) w ∧
    ∀ id, st.H.nx ≤ id → (∀ j, j < ops.size → listed.getD j false = true → (stF ts st' j).H.nx ≤ id → (stF ts st' (j + 1)).H.nx ≤ id) → φ id = none
theorem envL_true (st : List AV) (dst : Nat → Option Nat) (v : Nat → AV) (i : Nat) : ∀ n, i ≤ n → envL st dst v (fun j => decide (j < i)) n = envL st dst v (fun _ => true) i := by
  have base : ∀ m, m ≤ i → envL st dst v (fun j => decide (j < i)) m = envL st dst v (fun _ => true) m := fun m hm => by
    induction m with
    | zero => rfl
    | succ m ih => simp only [envL, ih (by omega), show m < i by omega, decide_true, if_true]
  intro n hn
  induction n with
  | zero => have : i = 0 := by omega
            subst this; rfl
  | succ n ih =>
    by_cases h : i = n + 1
    · subst h; exact base _ (Nat.le_refl _)
    · simp only [envL, show ¬ n < i by omega, decide_false, Bool.false_eq_true, if_false]
      exact ih (by omega)
theorem memL_true (h : Mem) (wr : Nat → Wr) (i : Nat) : ∀ n, i ≤ n → memL h wr (fun j => decide (j < i)) n = memL h wr (fun _ => true) i := by
  have base : ∀ m, m ≤ i → memL h wr (fun j => decide (j < i)) m = memL h wr (fun _ => true) m := fun m hm => by
    induction m with
    | zero => rfl
    | succ m ih => simp only [memL, ih (by omega), show m < i by omega, decide_true, if_true]
  intro n hn
  induction n with
  | zero => have : i = 0 := by omega
            subst this; rfl
  | succ n ih =>
    by_cases h : i = n + 1
    · subst h; exact base _ (Nat.le_refl _)
    · simp only [memL, show ¬ n < i by omega, decide_false, Bool.false_eq_true, if_false]
      exact ih (by omega)
theorem memL_none (h : Mem) (wr : Nat → Wr) : ∀ n, memL h wr (fun _ => false) n = h
  | 0 => rfl
  | n + 1 => by simp only [memL, Bool.false_eq_true, if_false]; exact memL_none h wr n
theorem envL_none (st : List AV) (dst : Nat → Option Nat) (v : Nat → AV) : ∀ n, envL st dst v (fun _ => false) n = st
  | 0 => rfl
  | n + 1 => by simp only [envL, Bool.false_eq_true, if_false]; exact envL_none st dst v n
theorem listed_lt {listed : Array Bool} {n j : Nat} (hs : listed.size = n) (h : listed.getD j false = true) : j < n := by
  rcases Nat.lt_or_ge j listed.size with h' | h'
  · omega
  · simp only [Array.getD_eq_getD_getElem?] at h
    rw [Array.getElem?_eq_none h'] at h; simp at h
theorem getD_same {listed : Array Bool} {n i : Nat} (hs : listed.size = n) (hi : i < n) (h : listed.getD i true = false) : listed.getD i false = false := by
  have hlt : i < listed.size := by omega
  simp only [Array.getD_eq_getD_getElem?] at h ⊢
  have : listed[i]? = some listed[i] := by simp [hlt]
  rw [this] at h ⊢; simpa using h
theorem set_listed {listed : Array Bool} {i : Nat} (hi : i < listed.size) : (fun j => (listed.setIfInBounds i true).getD j false) = fun j => if j = i then true else listed.getD j false := by
  funext j
  by_cases h : j = i
  · subst h
    simp only [Array.getD_eq_getD_getElem?, if_true]
    rw [Array.getElem?_setIfInBounds_self_of_lt hi]; rfl
  · simp only [Array.getD_eq_getD_getElem?, h, if_false]
    rw [Array.getElem?_setIfInBounds_ne (Ne.symm h)]
theorem draw_any (hT : TOK P T) (hcb : CbOK P cb) {F : Fence} (hF : WF F) (D : Drawn P T cb ops ios st st' ts) {S0 : Nat → Prop} {φ0 : Phi} {w0 : World} {a0 : Act} {Q : Exit → Act → World → Prop}
    (hQ : ∀ a w, (∃ S φ, Sim P S φ (hget st'.H) w ∧ Reps w S φ st'.env a.tmps ∧ Adv S0 φ0 (hget st.H) w0 S φ (hget st'.H) w ∧ (∀ id, st'.H.nx ≤ id → φ id = none)) → a.defers = a0.defers → Q .normal a w) :
    ∀ (fuel : Nat) (listed : Array Bool) (a : Act) (w : World), leftN ops.size listed = fuel → Good P ops ios ts st st' S0 φ0 w0 a0 listed a w → wpAnyIn F 0 P .any ops Q fuel listed a w := by
  -- when none is ready all are listed
  have hend : ∀ (listed : Array Bool) (a : Act) (w : World), Good P ops ios ts st st' S0 φ0 w0 a0 listed a w → Region.ready .any ops listed = [] → Q .normal a w := by
    intro listed a w G hr
    have hall : ∀ i, i < ops.size → listed.getD i false = true := by
      intro i
      induction i using Nat.strongRecOn with
      | _ i ih =>
        intro hi
        cases hl : listed.getD i true with
        | true =>
          simp only [Array.getD_eq_getD_getElem?] at hl ⊢
          have hlt : i < listed.size := by rw [G.size]; exact hi
          have : listed[i]? = some listed[i] := by simp [hlt]
          rw [this] at hl ⊢; simpa using hl
        | false =>
          have : i ∈ Region.ready .any ops listed := by
            rw [mem_ready]
            refine ⟨hl, ops[i], by simp [hi], fun e he hb => ?_⟩
            have hlt := D.edges i ops[i] (by simp [hi]) e he hb
            exact ih e.on hlt (by omega)
          rw [hr] at this; cases this
    obtain ⟨S, φ, h1, h2, h3, h4⟩ := G.ex
    obtain ⟨f1, f2, f3⟩ := D.at_ ops.size (Nat.le_refl _)
    have hfin : stF ts st' ops.size = st' := by
      unfold stF
      rw [List.getElem?_eq_none (by rw [D.tlen]; exact Nat.le_refl _)]; rfl
    rw [hfin] at f1 f2 f3
    have em : memL (hget st.H) (wrF ts) (fun j => listed.getD j false) ops.size = hget st'.H := by
      rw [f2]; funext id
      exact memL_congr _ fun j hj _ => hall j hj
    have ee : envL st.env (dstF ios) (valF ts) (fun j => listed.getD j false) ops.size = st'.env := by
      rw [f1]; apply List.ext_getElem?; intro t
      exact envL_congr _ fun j hj _ => hall j hj
    rw [em] at h1 h3
    rw [ee] at h2
    refine hQ a w ⟨S, φ, h1, h2, h3, fun id hid => h4 id (by omega) fun j hj _ _ => ?_⟩ G.defers
    have := D.nx_mono (i := j + 1) (j := ops.size) (by omega) (Nat.le_refl _)
    rw [hfin] at this; omega
  intro fuel
  induction fuel with
  | zero =>
    intro listed a w hl G
    have hr : Region.ready .any ops listed = [] := by
      cases hr : Region.ready .any ops listed with
      | nil => rfl
      | cons i l =>
        have hi : i ∈ Region.ready .any ops listed := by rw [hr]; simp
        rw [mem_ready] at hi
        obtain ⟨h0, o, ho, -⟩ := hi
        have hlt : i < ops.size := (Array.getElem?_eq_some_iff.1 ho).1
        have := leftN_set hlt G.size h0
        omega
    exact ⟨hr, hend listed a w G hr⟩
  | succ fuel ih =>
    intro listed a w hl G
    refine ⟨hend listed a w G, fun i hi => ?_⟩
    rw [mem_ready] at hi
    obtain ⟨h0, o, ho, hall⟩ := hi
    have hlt : i < ops.size := (Array.getElem?_eq_some_iff.1 ho).1
    have hleft := leftN_set hlt G.size h0
    obtain ⟨o', io, t, e1, e2, e3⟩ := D.ios_at hlt
    rw [ho] at e1; cases e1
    obtain ⟨hst, hnext, hfoot⟩ := D.step i io t e2 e3
    have hcomp := D.comp i o io ho e2
    obtain ⟨d1, d2, d3⟩ := cOper_op hcomp
    have hp : listed.getD i false = false := getD_same G.size hlt h0
    have hbef := closed_before (listed := listed) (fun i o h1 h2 => G.closed i o h1 h2) i o ho hall
    have hti : stF ts st' i = t.st := by simp [stF, e3]
    obtain ⟨c1, c2, c3⟩ := D.at_ i (by omega)
    rw [hti] at c1 c2 c3
    have hdst : dstF ios i = io.dst := by simp [dstF, e2]
    have hval : valF ts i = t.v := by simp [valF, e3]
    have hwr : wrF ts i = t.wr := by simp [wrF, e3]
    -- those behind that are listed do not hang on it
    have later : ∀ j oj ioj, i < j → ops[j]? = some oj → ios[j]? = some ioj → listed.getD j false = true → ((Region.before ops).getD j 0).testBit i = false := fun j oj ioj hij hoj hioj hlj => by
      cases hb : ((Region.before ops).getD j 0).testBit i with
      | false => rfl
      | true =>
        have := closed_before (listed := listed) (fun i o h1 h2 => G.closed i o h1 h2) j oj hoj (G.closed j oj hlj hoj) i hb
        rw [hp] at this; cases this
    -- the slots that it looks at
    have slot : ∀ s, (s ∈ o.looksAt ops ∨ o.dst = some s) → ∀ j, j < ops.size → dstF ios j = some s → j ≠ i → listed.getD j false = decide (j < i) := by
      intro s hs j hj hdj hji
      obtain ⟨oj, ioj, tj, q1, q2, q3⟩ := D.ios_at hj
      have hoj := (cOper_op (D.comp j oj ioj q1 q2)).1
      have hdj' : oj.dst = some s := by rw [← hoj]; simpa [dstF, q2] using hdj
      rcases Nat.lt_or_gt_of_ne hji with hlt2 | hlt2
      · simp only [hlt2, decide_true]
        rcases D.slots j i oj o hlt2 q1 ho with h1 | h1
        · exact hbef j h1
        · exfalso
          obtain ⟨r1, r2, r3⟩ := apart_dst h1
          rcases hs with hs | hs
          · exact r1 s hdj' hs
          · exact r2 s hdj' hs
      · simp only [show ¬ j < i by omega, decide_false]
        cases hlj : listed.getD j false with
        | false => rfl
        | true =>
          exfalso
          have hb := later j oj ioj hlt2 q1 q2 hlj
          rcases D.slots i j o oj hlt2 ho q1 with h1 | h1
          · rw [hb] at h1; cases h1
          · obtain ⟨r1, r2, r3⟩ := apart_dst h1
            rcases hs with hs | hs
            · exact r3 s hdj' hs
            · exact r2 s hs hdj'
    obtain ⟨S, φ, s1, s2, s3, s4⟩ := G.ex
    have looks : ∀ s, s ∈ o.looksAt ops → (envL st.env (dstF ios) (valF ts) (fun j => listed.getD j false) ops.size).getD s undefA = t.st.env.getD s undefA := by
      intro s hs
      have : (envL st.env (dstF ios) (valF ts) (fun j => listed.getD j false) ops.size)[s]? = t.st.env[s]? := by
        rw [c1, ← envL_true st.env (dstF ios) (valF ts) i ops.size (by omega)]
        refine envL_congr _ fun j hj hdj => ?_
        by_cases hji : j = i
        · subst hji; rw [hp]; simp
        · exact slot s (.inl hs) j hj hdj hji
      simp only [List.getD_eq_getElem?_getD, this]
    have hwant : wantedA (envL st.env (dstF ios) (valF ts) (fun j => listed.getD j false) ops.size) io.guard = wantedA t.st.env io.guard := by
      unfold cOper at hcomp
      split at hcomp
      · cases hcomp; rfl
      · rename_i j want hg
        split at hcomp
        · rename_i tt ht
          cases hcomp
          have hin : tt ∈ o.looksAt ops := by unfold Oper.looksAt; simp only [hg, ht]; simp
          simp only [wantedA, looks tt hin]
        · cases hcomp
    have hwant2 := wanted_eq hcomp s2
    rw [hwant] at hwant2
    -- what comes behind it
    have after : ∀ (S' : Nat → Prop) (φ' : Phi) (vv : Value) (w' : World), Sim P S' φ' (updH (memL (hget st.H) (wrF ts) (fun j => listed.getD j false) ops.size) t.wr) w' → Adv S φ (memL (hget st.H) (wrF ts) (fun j => listed.getD j false) ops.size) w S' φ' (updH (memL (hget st.H) (wrF ts) (fun j => listed.getD j false) ops.size) t.wr) w' →
        Rep w' S' φ' t.v vv → (∀ id, (id < t.st.H.nx ∨ t.nx ≤ id) → φ' id = φ id) → Good P ops ios ts st st' S0 φ0 w0 a0 (listed.setIfInBounds i true) (a.put o.dst vv) w' := by
      intro S' φ' vv w' k1 k2 k3 k4
      have hsz : i < listed.size := by rw [G.size]; exact hlt
      have hset := set_listed (listed := listed) hsz
      have emem : memL (hget st.H) (wrF ts) (fun j => (listed.setIfInBounds i true).getD j false) ops.size = updH (memL (hget st.H) (wrF ts) (fun j => listed.getD j false) ops.size) t.wr := by
        rw [hset, memL_add hp ops.size fun j hij hj hlj id hid hidj => ?_, if_pos hlt, hwr]
        obtain ⟨oj, ioj, tj, q1, q2, q3⟩ := D.ios_at hj
        have hb := later j oj ioj hij q1 q2 hlj
        obtain ⟨-, -, f3⟩ := D.step j ioj tj q2 q3
        have hbj := (cOper_op (D.comp j oj ioj q1 q2)).2.2
        rcases f3 i t hij e3 with h1 | h1
        · rw [hbj, hb] at h1; cases h1
        · have := (clash_false h1).1 id (by simpa [Tr.foot, wrF, e3] using hid)
          exact this.2 (by simpa [Tr.foot, wrF, q3] using hidj)
      have eenv : envL st.env (dstF ios) (valF ts) (fun j => (listed.setIfInBounds i true).getD j false) ops.size = setD (envL st.env (dstF ios) (valF ts) (fun j => listed.getD j false) ops.size) o.dst t.v := by
        rw [hset, envL_add hp ops.size fun j hij hj hlj s hs hsj => ?_, if_pos hlt, hval, hdst, d1]
        have := slot s (.inr (by rw [← d1, ← hdst]; exact hs)) j hj hsj (by omega)
        rw [hlj] at this; simp at this; omega
      refine ⟨by simp [G.size], fun j oj hlj hoj e he hb => ?_, by rw [put_defers]; exact G.defers, S', φ', by rw [emem]; exact k1, ?_, by rw [emem]; exact s3.trans k2, fun id hid hj => ?_⟩
      · have := congrFun hset j
        rw [this] at hlj
        by_cases hji : j = i
        · subst hji; rw [ho] at hoj; cases hoj
          exact getD_set_true (hall e he hb)
        · simp only [hji, if_false] at hlj
          exact getD_set_true (G.closed j oj hlj hoj e he hb)
      · rw [eenv]; exact reps_put (k2.reps s1 s2) k3 o.dst
      · have hi' := hj i hlt (by have := congrFun hset i; rw [this]; simp)
        rw [hti] at hi'
        have hn1 : (stF ts st' (i + 1)).H.nx = max t.st.H.nx t.nx := by
          have : stF ts st' (i + 1) = t.next io := hnext
          rw [this]; rfl
        rw [hn1] at hi'
        rw [k4 id (by omega)]
        refine s4 id hid fun j hjs hlj => hj j hjs ?_
        have := congrFun hset j
        rw [this, hlj]; simp
    unfold wpOpIn
    rw [ho]
    simp only
    rcases hst.run with ⟨r1, r2⟩ | ⟨r1, r2, r3, r4, r5⟩
    · rw [r1] at hwant2
      rw [if_pos hwant2.symm]
      rw [d2] at r2
      cases hcop : cOp P o.op with
      | none => rw [hcop] at r2; cases r2
      | some oo =>
        rw [hcop] at r2
        have huse := D.uses i o io ho e2
        rw [d2, hcop] at huse
        have hev : evalOp T cb (envL st.env (dstF ios) (valF ts) (fun j => listed.getD j false) ops.size) t.st.H t.st.H.nx oo = some (.eff t.v t.rd t.wr t.nx) := by
          rw [← r2]
          refine evalOp_congr fun x hx => ?_
          cases x with
          | c v => rfl
          | t n => exact looks n (huse n hx)
        refine wpIn_of hF (cOp_noDefer hcop) (op_eff hT hcb hcop rfl hev (fun id hid => ?_) s1 s2 (fun id i1 i2 => ?_)) fun vv w' hE => ?_
        · -- what it reads is as it was
          rw [c2, ← memL_true (hget st.H) (wrF ts) i ops.size (by omega)]
          refine memL_congr _ fun j hj hidj => ?_
          obtain ⟨oj, ioj, tj, q1, q2, q3⟩ := D.ios_at hj
          by_cases hji : j = i
          · subst hji; rw [hp]; simp
          · rcases Nat.lt_or_gt_of_ne hji with hlt2 | hlt2
            · simp only [hlt2, decide_true]
              rcases hfoot j tj hlt2 q3 with h1 | h1
              · rw [d3] at h1; exact hbef j h1
              · exact absurd hid ((clash_false h1).1 id (by simpa [Tr.foot, wrF, q3] using hidj)).1
            · simp only [show ¬ j < i by omega, decide_false]
              cases hlj : listed.getD j false with
              | false => rfl
              | true =>
                have hb := later j oj ioj hlt2 q1 q2 hlj
                obtain ⟨-, -, f3⟩ := D.step j ioj tj q2 q3
                have hbj := (cOper_op (D.comp j oj ioj q1 q2)).2.2
                rcases f3 i t hlt2 e3 with h1 | h1
                · rw [hbj, hb] at h1; cases h1
                · exact absurd hid ((clash_false h1).2 id (by simpa [Tr.foot, wrF, q3] using hidj))
        · -- its new places are new
          refine s4 id (by omega) fun j hj hlj hle => ?_
          by_cases hji : j = i
          · subst hji; rw [hp] at hlj; cases hlj
          · rcases Nat.lt_or_gt_of_ne hji with hlt2 | hlt2
            · have := D.nx_mono (i := j + 1) (j := i) (by omega) (by omega)
              rw [hti] at this; omega
            · have h1 := D.nx_mono (i := i + 1) (j := j) (by omega) (by omega)
              have hn1 : (stF ts st' (i + 1)).H.nx = max t.st.H.nx t.nx := by
                have : stF ts st' (i + 1) = t.next io := hnext
                rw [this]; rfl
              rw [hn1] at h1; omega
        · obtain ⟨S', φ', hD⟩ := hE
          exact ih _ _ _ (by omega) (after S' φ' vv w' hD.sim hD.adv hD.rep hD.only)
    · rw [r1] at hwant2
      rw [if_neg (by rw [← hwant2]; simp)]
      refine ⟨fun f _ => hF.fn f, ih _ _ _ (by omega) (after S φ undef w ?_ ?_ ?_ (fun _ _ => rfl))⟩
      · rw [r4]; exact s1
      · rw [r4]; exact Adv.refl _ _ _ _
      · rw [r2]; exact undef_rep
theorem region_draw (hT : TOK P T) (hcb : CbOK P cb) (hm : P.follows .mixedOrders = true) {F : Fence} (hF : WF F) {id : Nat} {Q : Exit → Act → World → Prop} {S : Nat → Prop} {φ : Phi} {w : World} {a : Act} (hc : cOpers P ops ops.toList 0 = some ios) (hs : slotsOK ops = true) (hu : usesOK ops ops.toList ios = true) (he : evalDraw T cb ios 0 [] st = some st') (hI : Inv P S φ w st a)
    (hQ : ∀ a' w', Reach P S φ w st a st' a' w' → Q .normal a' w') : (Code.region id ops true).wpIn F 0 P Q a w := by
  obtain ⟨ts, h1, h2, h3⟩ := trace he
  obtain ⟨c1, c2⟩ := cOpers_get hc
  obtain ⟨sl1, sl2⟩ := slots_spec hs
  have cc : ∀ (i : Nat) o io, ops[i]? = some o → ios[i]? = some io → cOper P ops ((Region.before ops).getD i 0) o = some io := fun i o io ho hio => by
    have := c2 i o io (by simpa using ho) hio
    simpa using this
  have D : Drawn P T cb ops ios st st' ts := ⟨cc, by simpa using c1, by rw [h1]; simpa using c1, sl1, sl2, fun i o io ho hio => uses_spec hu i o io (by simpa using ho) hio,
    fun i io t hio ht => by
      obtain ⟨g1, g2, -, g4⟩ := h2 i io t hio ht
      exact ⟨g1, g2, fun j u hj hu => by simpa using g4 j u hj hu⟩, h3⟩
  refine wpIn_region_any hm ?_
  have hfin : stF ts st' ops.size = st' := by
    unfold stF
    rw [List.getElem?_eq_none (by rw [D.tlen]; exact Nat.le_refl _)]; rfl
  have hle := (D.at_ ops.size (Nat.le_refl _)).2.2
  rw [hfin] at hle
  refine draw_any hT hcb hF D (S0 := S) (φ0 := φ) (w0 := w) (a0 := a) (fun a' w' hex hd => ?_) ops.size (Array.replicate ops.size false) a w.drew ?_ ?_
  · obtain ⟨S', φ', k1, k2, k3, k4⟩ := hex
    exact hQ a' w' ⟨S', φ', ⟨k1, k2, k4⟩, k3, hd, hle⟩
  · have hall : ∀ i ∈ List.range ops.size, (!(Array.replicate ops.size false).getD i true) = true := fun i hi => by
      have hi' : i < ops.size := by simpa using hi
      simp [hi']
    unfold leftN
    rw [List.filter_eq_self.2 hall]; simp
  · have hno : ∀ j, (Array.replicate ops.size false).getD j false = false := fun j => by
      by_cases hj : j < ops.size
      · simp [hj]
      · simp only [Array.getD_eq_getD_getElem?]; rw [Array.getElem?_eq_none (by simpa using hj)]; rfl
    have hp : (fun j => (Array.replicate ops.size false).getD j false) = fun _ => false := funext hno
    have em : memL (hget st.H) (wrF ts) (fun j => (Array.replicate ops.size false).getD j false) ops.size = hget st.H := by rw [hp]; exact memL_none _ _ _
    have ee : envL st.env (dstF ios) (valF ts) (fun j => (Array.replicate ops.size false).getD j false) ops.size = st.env := by rw [hp]; exact envL_none _ _ _ _
    exact ⟨by simp, (fun i o hl => by rw [hno] at hl; cases hl), rfl, S, φ, by rw [em]; exact hI.drewR.sim, by rw [ee]; exact hI.drewR.env, by rw [em]; exact Adv.drewR _ _ _ _, fun id hid _ => hI.top id hid⟩
end
end Go.V
