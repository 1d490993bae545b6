/- Soundness: regions that draw their order: the theorem. -/
import Derived.Test.YtpammdlgoeoeaaaJD
import Derived.RangeFuncLeaves
import Derived.RangeFuncRecord
import Derived.Test.YtpammdlgoeoeaaaJB
set_option linter.unusedVariables false
set_option linter.unusedSimpArgs false
namespace Go.V
open Go.RowKit
variable {P : Program}

section
variable {P : Program} {T : FuncId → Option IFn} {cb : Cb}
instance : Inhabited Tr := ⟨⟨⟨[], noH⟩, undefA, [], [], 0⟩⟩
/-- All that is known of a drawing region's evaluation. -/
structure Drawn (P : Program) (T : FuncId → Option IFn) (cb : Cb) (ops : Array Oper) (ios : List IOp) (st st' : St) (ts : List Tr) : Prop where
  comp : ∀ (i : Nat) o io, ops[i]? = some o → ios[i]? = some io → cOper P ops ((Region.before ops).getD i 0) o = some io
  len : ios.length = ops.size
  tlen : ts.length = ops.size
  slots : ∀ (i j : Nat) oi oj, i < j → ops[i]? = some oi → ops[j]? = some oj → ((Region.before ops).getD j 0).testBit i = true ∨ oi.apart ops oj = true
  edges : ∀ (i : Nat) o, ops[i]? = some o → ∀ e ∈ o.after, Region.binds .any e = true → e.on < i
  uses : ∀ (i : Nat) o io, ops[i]? = some o → ios[i]? = some io → ∀ n, Arg.t n ∈ io.op.args → n ∈ o.looksAt ops
  step : ∀ (i : Nat) io t, ios[i]? = some io → ts[i]? = some t → StepT T cb io t ∧ ((ts[i + 1]?).map (·.st)).getD st' = t.next io ∧ ∀ (j : Nat) u, j < i → ts[j]? = some u → (io.bef.testBit j = true ∨ clash u.foot t.foot = false)
  start : ((ts[0]?).map (·.st)).getD st' = st
variable {ops : Array Oper} {ios : List IOp} {st st' : St} {ts : List Tr}
def dstF (ios : List IOp) (j : Nat) : Option Nat := ((ios[j]?).map (·.dst)).getD none
def valF (ts : List Tr) (j : Nat) : AV := ((ts[j]?).map (·.v)).getD undefA
def wrF (ts : List Tr) (j : Nat) : Wr := ((ts[j]?).map (·.wr)).getD []
def stF (ts : List Tr) (st' : St) (j : Nat) : St := ((ts[j]?).map (·.st)).getD st'
theorem Drawn.ios_at (D : Drawn P T cb ops ios st st' ts) {i : Nat} (hi : i < ops.size) : ∃ o io t, ops[i]? = some o ∧ ios[i]? = some io ∧ ts[i]? = some t :=
  ⟨ops[i], ios[i]'(by rw [D.len]; exact hi), ts[i]'(by rw [D.tlen]; exact hi), by simp [hi], by simp [D.len, hi], by simp [D.tlen, hi]⟩
theorem Drawn.at_ (D : Drawn P T cb ops ios st st' ts) : ∀ i, i ≤ ops.size → (stF ts st' i).env = envL st.env (dstF ios) (valF ts) (fun _ => true) i ∧ hget (stF ts st' i).H = memL (hget st.H) (wrF ts) (fun _ => true) i ∧ st.H.nx ≤ (stF ts st' i).H.nx
  | 0, _ => by
    have := D.start
    unfold stF
    rw [this]; exact ⟨rfl, rfl, Nat.le_refl _⟩
  | i + 1, hi => by
    obtain ⟨h1, h2, h3⟩ := D.at_ i (by omega)
    obtain ⟨o, io, t, e1, e2, e3⟩ := D.ios_at (i := i) (by omega)
    obtain ⟨-, g2, -⟩ := D.step i io t e2 e3
    have hst : stF ts st' (i + 1) = t.next io := g2
    have hti : stF ts st' i = t.st := by simp [stF, e3]
    rw [hst]
    rw [hti] at h1 h2 h3
    have hd : dstF ios i = io.dst := by simp [dstF, e2]
    have hv : valF ts i = t.v := by simp [valF, e3]
    have hw : wrF ts i = t.wr := by simp [wrF, e3]
    refine ⟨?_, ?_, ?_⟩
    · simp only [envL, if_true, hd, hv, ← h1, Tr.next]
    · simp only [memL, if_true, hw, ← h2, Tr.next, hget_wrH]
    · exact Nat.le_trans h3 (Nat.le_max_left _ _)
/-- Numbers of places rise. -/
theorem Drawn.nx_mono (D : Drawn P T cb ops ios st st' ts) : ∀ {i j : Nat}, i ≤ j → j ≤ ops.size → (stF ts st' i).H.nx ≤ (stF ts st' j).H.nx := by
  intro i j hij
  induction j with
  | zero => intro _; have : i = 0 := by omega
            subst this; exact Nat.le_refl _
  | succ j ih =>
    intro hj
    by_cases h : i = j + 1
    · subst h; exact Nat.le_refl _
    · refine Nat.le_trans (ih (by omega) (by omega)) ?_
      obtain ⟨o, io, t, e1, e2, e3⟩ := D.ios_at (i := j) (by omega)
      obtain ⟨-, g2, -⟩ := D.step j io t e2 e3
      have hst : stF ts st' (j + 1) = t.next io := g2
      have hti : stF ts st' j = t.st := by simp [stF, e3]
      rw [hst, hti]
      exact Nat.le_max_left _ _
/-- Behind a set of the operations. -/
structure Good (P : Program) (ops : Array Oper) (ios : List IOp) (ts : List Tr) (st st' : St) (S0 : Nat → Prop) (φ0 : Phi) (w0 : World) (a0 : Act) (listed : Array Bool) (a : Act) (w : World) : Prop where
  size : listed.size = ops.size
  closed : ∀ i o, listed.getD i false = true → ops[i]? = some o → ∀ e ∈ o.after, Region.binds .any e = true → listed.getD e.on false = true
  defers : a.defers = a0.defers
  ex : ∃ S φ, Sim P S φ (memL (hget st.H) (wrF ts) (fun j => listed.getD j false) ops.size) w ∧ Reps w S φ (envL st.env (dstF ios) (valF ts) (fun j => listed.getD j false) ops.size) a.tmps ∧
    Adv S0 φ0 (hget st.H) w0 S φ (memL (hget st.H) (wrF ts) (fun j => listed.getD j false) ops.size) w ∧
    ∀ id, st.H.nx ≤ id → (∀ j, j < ops.size → listed.getD j false = true → (stF ts st' j).H.nx ≤ id → (stF ts st' (j + 1)).H.nx ≤ id) → φ id = none
theorem envL_true (st : List AV) (dst : Nat → Option Nat) (v : Nat → AV) (i : Nat) : ∀ n, i ≤ n → envL st dst v (fun j => decide (j < i)) n = envL st dst v (fun _ => true) i := by
  have base : ∀ m, m ≤ i → envL st dst v (fun j => decide (j < i)) m = envL st dst v (fun _ => true) m := fun m hm => by
    induction m with
    | zero => rfl
    | succ m ih => simp only [envL, ih (by omega), show m < i by omega, decide_true, if_true]
  intro n hn
  induction n with
  | zero => have : i = 0 := by omega
            subst this; rfl
  | succ n ih =>
    by_cases h : i = n + 1
    · subst h; exact base _ (Nat.le_refl _)
    · simp only [envL, show ¬ n < i by omega, decide_false, Bool.false_eq_true, if_false]
      exact ih (by omega)
theorem memL_true (h : Mem) (wr : Nat → Wr) (i : Nat) : ∀ n, i ≤ n → memL h wr (fun j => decide (j < i)) n = memL h wr (fun _ => true) i := by
  have base : ∀ m, m ≤ i → memL h wr (fun j => decide (j < i)) m = memL h wr (fun _ => true) m := fun m hm => by
    induction m with
    | zero => rfl
    | succ m ih => simp only [memL, ih (by omega), show m < i by omega, decide_true, if_true]
  intro n hn
  induction n with
  | zero => have : i = 0 := by omega
            subst this; rfl
  | succ n ih =>
    by_cases h : i = n + 1
    · subst h; exact base _ (Nat.le_refl _)
    · simp only [memL, show ¬ n < i by omega, decide_false, Bool.false_eq_true, if_false]
      exact ih (by omega)
theorem memL_none (h : Mem) (wr : Nat → Wr) : ∀ n, memL h wr (fun _ => false) n = h
  | 0 => rfl
  | n + 1 => by simp only [memL, Bool.false_eq_true, if_false]; exact memL_none h wr n
theorem envL_none (st : List AV) (dst : Nat → Option Nat) (v : Nat → AV) : ∀ n, envL st dst v (fun _ => false) n = st
  | 0 => rfl
  | n + 1 => by simp only [envL, Bool.false_eq_true, if_false]; exact envL_none st dst v n
theorem listed_lt {listed : Array Bool} {n j : Nat} (hs : listed.size = n) (h : listed.getD j false = true) : j < n := by
  rcases Nat.lt_or_ge j listed.size with h' | h'
  · omega
  · simp only [Array.getD_eq_getD_getElem?] at h
    rw [Array.getElem?_eq_none h'] at h; simp at h
theorem getD_same {listed : Array Bool} {n i : Nat} (hs : listed.size = n) (hi : i < n) (h : listed.getD i true = false) : listed.getD i false = false := by
  have hlt : i < listed.size := by omega
  simp only [Array.getD_eq_getD_getElem?] at h ⊢
  have : listed[i]? = some listed[i] := by simp [hlt]
  rw [this] at h ⊢; simpa using h
theorem set_listed {listed : Array Bool} {i : Nat} (hi : i < listed.size) : (fun j => (listed.setIfInBounds i true).getD j false) = fun j => if j = i then true else listed.getD j false := by
  funext j
  by_cases h : j = i
  · subst h
    simp only [Array.getD_eq_getD_getElem?, if_true]
    rw [Array.getElem?_setIfInBounds_self_of_lt hi]; rfl
  · simp only [Array.getD_eq_getD_getElem?, h, if_false]
    rw [Array.getElem?_setIfInBounds_ne (Ne.symm h)]
theorem draw_any (hT : TOK P T) (hcb : CbOK P cb) {F : Fence} (hF : WF F) (D : Drawn P T cb ops ios st st' ts) {S0 : Nat → Prop} {φ0 : Phi} {w0 : World} {a0 : Act} {Q : Exit → Act → World → Prop}
    (hQ : ∀ a w, (∃ S φ, Sim P S φ (hget st'.H) w ∧ Reps w S φ st'.env a.tmps ∧ Adv S0 φ0 (hget st.H) w0 S φ (hget st'.H) w ∧ (∀ id, st'.H.nx ≤ id → φ id = none)) → a.defers = a0.defers → Q .normal a w) :
    ∀ (fuel : Nat) (listed : Array Bool) (a : Act) (w : World), leftN ops.size listed = fuel → Good P ops ios ts st st' S0 φ0 w0 a0 listed a w → wpAnyIn F 0 P .any ops Q fuel listed a w := by
  -- when none is ready all are listed
  have hend : ∀ (listed : Array Bool) (a : Act) (w : World), Good P ops ios ts st st' S0 φ0 w0 a0 listed a w → Region.ready .any ops listed = [] → Q .normal a w := by
    intro listed a w G hr
    have hall : ∀ i, i < ops.size → listed.getD i false = true := by
      intro i
      induction i using Nat.strongRecOn with
      | _ i ih =>
        intro hi
        cases hl : listed.getD i true with
        | true =>
          simp only [Array.getD_eq_getD_getElem?] at hl ⊢
          have hlt : i < listed.size := by rw [G.size]; exact hi
          have : listed[i]? = some listed[i] := by simp [hlt]
          rw [this] at hl ⊢; simpa using hl
        | false =>
          have : i ∈ Region.ready .any ops listed := by
            rw [mem_ready]
            refine ⟨hl, ops[i], by simp [hi], fun e he hb => ?_⟩
            have hlt := D.edges i ops[i] (by simp [hi]) e he hb
            exact ih e.on hlt (by omega)
          rw [hr] at this; cases this
    obtain ⟨S, φ, h1, h2, h3, h4⟩ := G.ex
    obtain ⟨f1, f2, f3⟩ := D.at_ ops.size (Nat.le_refl _)
    have hfin : stF ts st' ops.size = st' := by
      unfold stF
      rw [List.getElem?_eq_none (by rw [D.tlen]; exact Nat.le_refl _)]; rfl
    rw [hfin] at f1 f2 f3
    have em : memL (hget st.H) (wrF ts) (fun j => listed.getD j false) ops.size = hget st'.H := by
      rw [f2]; funext id
      exact memL_congr _ fun j hj _ => hall j hj
    have ee : envL st.env (dstF ios) (valF ts) (fun j => listed.getD j false) ops.size = st'.env := by
      rw [f1]; apply List.ext_getElem?; intro t
      exact envL_congr _ fun j hj _ => hall j hj
    rw [em] at h1 h3
    rw [ee] at h2
    refine hQ a w ⟨S, φ, h1, h2, h3, fun id hid => h4 id (by omega) fun j hj _ _ => ?_⟩ G.defers
    have := D.nx_mono (i := j + 1) (j := ops.size) (by omega) (Nat.le_refl _)
    rw [hfin] at this; omega
  intro fuel
  induction fuel with
  | zero =>
    intro listed a w hl G
    have hr : Region.ready .any ops listed = [] := by
      cases hr : Region.ready .any ops listed with
      | nil => rfl
      | cons i l =>
        have hi : i ∈ Region.ready .any ops listed := by rw [hr]; simp
        rw [mem_ready] at hi
        obtain ⟨h0, o, ho, -⟩ := hi
        have hlt : i < ops.size := (Array.getElem?_eq_some_iff.1 ho).1
        have := leftN_set hlt G.size h0
        omega
    exact ⟨hr, hend listed a w G hr⟩
  | succ fuel ih =>
    intro listed a w hl G
    refine ⟨hend listed a w G, fun i hi => ?_⟩
    rw [mem_ready] at hi
    obtain ⟨h0, o, ho, hall⟩ := hi
    have hlt : i < ops.size := (Array.getElem?_eq_some_iff.1 ho).1
    have hleft := leftN_set hlt G.size h0
    obtain ⟨o', io, t, e1, e2, e3⟩ := D.ios_at hlt
    rw [ho] at e1; cases e1
    obtain ⟨hst, hnext, hfoot⟩ := D.step i io t e2 e3
    have hcomp := D.comp i o io ho e2
    obtain ⟨d1, d2, d3⟩ := cOper_op hcomp
    have hp : listed.getD i false = false := getD_same G.size hlt h0
    have hbef := closed_before (listed := listed) (fun i o h1 h2 => G.closed i o h1 h2) i o ho hall
    have hti : stF ts st' i = t.st := by simp [stF, e3]
    obtain ⟨c1, c2, c3⟩ := D.at_ i (by omega)
    rw [hti] at c1 c2 c3
    have hdst : dstF ios i = io.dst := by simp [dstF, e2]
    have hval : valF ts i = t.v := by simp [valF, e3]
    have hwr : wrF ts i = t.wr := by simp [wrF, e3]
    -- those behind that are listed do not hang on it
    have later : ∀ j oj ioj, i < j → ops[j]? = some oj → ios[j]? = some ioj → listed.getD j false = true → ((Region.before ops).getD j 0).testBit i = false := fun j oj ioj hij hoj hioj hlj => by
      cases hb : ((Region.before ops).getD j 0).testBit i with
      | false => rfl
      | true =>
        have := closed_before (listed := listed) (fun i o h1 h2 => G.closed i o h1 h2) j oj hoj (G.closed j oj hlj hoj) i hb
        rw [hp] at this; cases this
    -- the slots that it looks at
    have slot : ∀ s, (s ∈ o.looksAt ops ∨ o.dst = some s) → ∀ j, j < ops.size → dstF ios j = some s → j ≠ i → listed.getD j false = decide (j < i) := by
      intro s hs j hj hdj hji
      obtain ⟨oj, ioj, tj, q1, q2, q3⟩ := D.ios_at hj
      have hoj := (cOper_op (D.comp j oj ioj q1 q2)).1
      have hdj' : oj.dst = some s := by rw [← hoj]; simpa [dstF, q2] using hdj
      rcases Nat.lt_or_gt_of_ne hji with hlt2 | hlt2
      · simp only [hlt2, decide_true]
        rcases D.slots j i oj o hlt2 q1 ho with h1 | h1
        · exact hbef j h1
        · exfalso
          obtain ⟨r1, r2, r3⟩ := apart_dst h1
          rcases hs with hs | hs
          · exact r1 s hdj' hs
          · exact r2 s hdj' hs
      · simp only [show ¬ j < i by omega, decide_false]
        cases hlj : listed.getD j false with
        | false => rfl
        | true =>
          exfalso
          have hb := later j oj ioj hlt2 q1 q2 hlj
          rcases D.slots i j o oj hlt2 ho q1 with h1 | h1
          · rw [hb] at h1; cases h1
          · obtain ⟨r1, r2, r3⟩ := apart_dst h1
            rcases hs with hs | hs
            · exact r3 s hdj' hs
            · exact r2 s hs hdj'
    obtain ⟨S, φ, s1, s2, s3, s4⟩ := G.ex
    have looks : ∀ s, s ∈ o.looksAt ops → (envL st.env (dstF ios) (valF ts) (fun j => listed.getD j false) ops.size).getD s undefA = t.st.env.getD s undefA := by
      intro s hs
      have : (envL st.env (dstF ios) (valF ts) (fun j => listed.getD j false) ops.size)[s]? = t.st.env[s]? := by
        rw [c1, ← envL_true st.env (dstF ios) (valF ts) i ops.size (by omega)]
        refine envL_congr _ fun j hj hdj => ?_
        by_cases hji : j = i
        · subst hji; rw [hp]; simp
        · exact slot s (.inl hs) j hj hdj hji
      simp only [List.getD_eq_getElem?_getD, this]
    have hwant : wantedA (envL st.env (dstF ios) (valF ts) (fun j => listed.getD j false) ops.size) io.guard = wantedA t.st.env io.guard := by
      unfold cOper at hcomp
      split at hcomp
      · cases hcomp; rfl
      · rename_i j want hg
        split at hcomp
        · rename_i tt ht
          cases hcomp
          have hin : tt ∈ o.looksAt ops := by unfold Oper.looksAt; simp only [hg, ht]; simp
          simp only [wantedA, looks tt hin]
        · cases hcomp
    have hwant2 := wanted_eq hcomp s2
    rw [hwant] at hwant2
    -- what comes behind it
    have after : ∀ (S' : Nat → Prop) (φ' : Phi) (vv : Value) (w' : World), Sim P S' φ' (updH (memL (hget st.H) (wrF ts) (fun j => listed.getD j false) ops.size) t.wr) w' → Adv S φ (memL (hget st.H) (wrF ts) (fun j => listed.getD j false) ops.size) w S' φ' (updH (memL (hget st.H) (wrF ts) (fun j => listed.getD j false) ops.size) t.wr) w' →
        Rep w' S' φ' t.v vv → (∀ id, (id < t.st.H.nx ∨ t.nx ≤ id) → φ' id = φ id) → Good P ops ios ts st st' S0 φ0 w0 a0 (listed.setIfInBounds i true) (a.put o.dst vv) w' := by
      intro S' φ' vv w' k1 k2 k3 k4
      have hsz : i < listed.size := by rw [G.size]; exact hlt
      have hset := set_listed (listed := listed) hsz
      have emem : memL (hget st.H) (wrF ts) (fun j => (listed.setIfInBounds i true).getD j false) ops.size = updH (memL (hget st.H) (wrF ts) (fun j => listed.getD j false) ops.size) t.wr := by
        rw [hset, memL_add hp ops.size fun j hij hj hlj id hid hidj => ?_, if_pos hlt, hwr]
        obtain ⟨oj, ioj, tj, q1, q2, q3⟩ := D.ios_at hj
        have hb := later j oj ioj hij q1 q2 hlj
        obtain ⟨-, -, f3⟩ := D.step j ioj tj q2 q3
        have hbj := (cOper_op (D.comp j oj ioj q1 q2)).2.2
        rcases f3 i t hij e3 with h1 | h1
        · rw [hbj, hb] at h1; cases h1
        · have := (clash_false h1).1 id (by simpa [Tr.foot, wrF, e3] using hid)
          exact this.2 (by simpa [Tr.foot, wrF, q3] using hidj)
      have eenv : envL st.env (dstF ios) (valF ts) (fun j => (listed.setIfInBounds i true).getD j false) ops.size = setD (envL st.env (dstF ios) (valF ts) (fun j => listed.getD j false) ops.size) o.dst t.v := by
        rw [hset, envL_add hp ops.size fun j hij hj hlj s hs hsj => ?_, if_pos hlt, hval, hdst, d1]
        have := slot s (.inr (by rw [← d1, ← hdst]; exact hs)) j hj hsj (by omega)
        rw [hlj] at this; simp at this; omega
      refine ⟨by simp [G.size], fun j oj hlj hoj e he hb => ?_, by rw [put_defers]; exact G.defers, S', φ', by rw [emem]; exact k1, ?_, by rw [emem]; exact s3.trans k2, fun id hid hj => ?_⟩
      · have := congrFun hset j
        rw [this] at hlj
        by_cases hji : j = i
        · subst hji; rw [ho] at hoj; cases hoj
          exact getD_set_true (hall e he hb)
        · simp only [hji, if_false] at hlj
          exact getD_set_true (G.closed j oj hlj hoj e he hb)
      · rw [eenv]; exact reps_put (k2.reps s1 s2) k3 o.dst
      · have hi' := hj i hlt (by have := congrFun hset i; rw [this]; simp)
        rw [hti] at hi'
        have hn1 : (stF ts st' (i + 1)).H.nx = max t.st.H.nx t.nx := by
          have : stF ts st' (i + 1) = t.next io := hnext
          rw [this]; rfl
        rw [hn1] at hi'
        rw [k4 id (by omega)]
        refine s4 id hid fun j hjs hlj => hj j hjs ?_
        have := congrFun hset j
        rw [this, hlj]; simp
    unfold wpOpIn
    rw [ho]
    simp only
    rcases hst.run with ⟨r1, r2⟩ | ⟨r1, r2, r3, r4, r5⟩
    · rw [r1] at hwant2
      rw [if_pos hwant2.symm]
      rw [d2] at r2
      cases hcop : cOp P o.op with
      | none => rw [hcop] at r2; cases r2
      | some oo =>
        rw [hcop] at r2
        have huse := D.uses i o io ho e2
        rw [d2, hcop] at huse
        have hev : evalOp T cb (envL st.env (dstF ios) (valF ts) (fun j => listed.getD j false) ops.size) t.st.H t.st.H.nx oo = some (.eff t.v t.rd t.wr t.nx) := by
          rw [← r2]
          refine evalOp_congr fun x hx => ?_
          cases x with
          | c v => rfl
          | t n => exact looks n (huse n hx)
        refine wpIn_of hF (cOp_noDefer hcop) (op_eff hT hcb hcop rfl hev (fun id hid => ?_) s1 s2 (fun id i1 i2 => ?_)) fun vv w' hE => ?_
        · -- what it reads is as it was
          rw [c2, ← memL_true (hget st.H) (wrF ts) i ops.size (by omega)]
          refine memL_congr _ fun j hj hidj => ?_
          obtain ⟨oj, ioj, tj, q1, q2, q3⟩ := D.ios_at hj
          by_cases hji : j = i
          · subst hji; rw [hp]; simp
          · rcases Nat.lt_or_gt_of_ne hji with hlt2 | hlt2
            · simp only [hlt2, decide_true]
              rcases hfoot j tj hlt2 q3 with h1 | h1
              · rw [d3] at h1; exact hbef j h1
              · exact absurd hid ((clash_false h1).1 id (by simpa [Tr.foot, wrF, q3] using hidj)).1
            · simp only [show ¬ j < i by omega, decide_false]
              cases hlj : listed.getD j false with
              | false => rfl
              | true =>
                have hb := later j oj ioj hlt2 q1 q2 hlj
                obtain ⟨-, -, f3⟩ := D.step j ioj tj q2 q3
                have hbj := (cOper_op (D.comp j oj ioj q1 q2)).2.2
                rcases f3 i t hlt2 e3 with h1 | h1
                · rw [hbj, hb] at h1; cases h1
                · exact absurd hid ((clash_false h1).2 id (by simpa [Tr.foot, wrF, q3] using hidj))
        · -- its new places are new
          refine s4 id (by omega) fun j hj hlj hle => ?_
          by_cases hji : j = i
          · subst hji; rw [hp] at hlj; cases hlj
          · rcases Nat.lt_or_gt_of_ne hji with hlt2 | hlt2
            · have := D.nx_mono (i := j + 1) (j := i) (by omega) (by omega)
              rw [hti] at this; omega
            · have h1 := D.nx_mono (i := i + 1) (j := j) (by omega) (by omega)
              have hn1 : (stF ts st' (i + 1)).H.nx = max t.st.H.nx t.nx := by
                have : stF ts st' (i + 1) = t.next io := hnext
                rw [this]; rfl
              rw [hn1] at h1; omega
        · obtain ⟨S', φ', hD⟩ := hE
          exact ih _ _ _ (by omega) (after S' φ' vv w' hD.sim hD.adv hD.rep hD.only)
    · rw [r1] at hwant2
      rw [if_neg (by rw [← hwant2]; simp)]
      refine ⟨fun f _ => hF.fn f, ih _ _ _ (by omega) (after S φ undef w ?_ ?_ ?_ (fun _ _ => rfl))⟩
      · rw [r4]; exact s1
      · rw [r4]; exact Adv.refl _ _ _ _
      · rw [r2]; exact undef_rep
theorem region_draw (hT : TOK P T) (hcb : CbOK P cb) (hm : P.follows .mixedOrders = true) {F : Fence} (hF : WF F) {id : Nat} {Q : Exit → Act → World → Prop} {S : Nat → Prop} {φ : Phi} {w : World} {a : Act} (hc : cOpers P ops ops.toList 0 = some ios) (hs : slotsOK ops = true) (hu : usesOK ops ops.toList ios = true) (he : evalDraw T cb ios 0 [] st = some st') (hI : Inv P S φ w st a)
    (hQ : ∀ a' w', Reach P S φ w st a st' a' w' → Q .normal a' w') : (Code.region id ops true).wpIn F 0 P Q a w := by
  obtain ⟨ts, h1, h2, h3⟩ := trace he
  obtain ⟨c1, c2⟩ := cOpers_get hc
  obtain ⟨sl1, sl2⟩ := slots_spec hs
  have cc : ∀ (i : Nat) o io, ops[i]? = some o → ios[i]? = some io → cOper P ops ((Region.before ops).getD i 0) o = some io := fun i o io ho hio => by
    have := c2 i o io (by simpa using ho) hio
    simpa using this
  have D : Drawn P T cb ops ios st st' ts := ⟨cc, by simpa using c1, by rw [h1]; simpa using c1, sl1, sl2, fun i o io ho hio => uses_spec hu i o io (by simpa using ho) hio,
    fun i io t hio ht => by
      obtain ⟨g1, g2, -, g4⟩ := h2 i io t hio ht
      exact ⟨g1, g2, fun j u hj hu => by simpa using g4 j u hj hu⟩, h3⟩
  refine wpIn_region_any hm ?_
  have hfin : stF ts st' ops.size = st' := by
    unfold stF
    rw [List.getElem?_eq_none (by rw [D.tlen]; exact Nat.le_refl _)]; rfl
  have hle := (D.at_ ops.size (Nat.le_refl _)).2.2
  rw [hfin] at hle
  refine draw_any hT hcb hF D (S0 := S) (φ0 := φ) (w0 := w) (a0 := a) (fun a' w' hex hd => ?_) ops.size (Array.replicate ops.size false) a w.drew ?_ ?_
  · obtain ⟨S', φ', k1, k2, k3, k4⟩ := hex
    exact hQ a' w' ⟨S', φ', ⟨k1, k2, k4⟩, k3, hd, hle⟩
  · have hall : ∀ i ∈ List.range ops.size, (!(Array.replicate ops.size false).getD i true) = true := fun i hi => by
      have hi' : i < ops.size := by simpa using hi
      simp [hi']
    unfold leftN
    rw [List.filter_eq_self.2 hall]; simp
  · have hno : ∀ j, (Array.replicate ops.size false).getD j false = false := fun j => by
      by_cases hj : j < ops.size
      · simp [hj]
      · simp only [Array.getD_eq_getD_getElem?]; rw [Array.getElem?_eq_none (by simpa using hj)]; rfl
    have hp : (fun j => (Array.replicate ops.size false).getD j false) = fun _ => false := funext hno
    have em : memL (hget st.H) (wrF ts) (fun j => (Array.replicate ops.size false).getD j false) ops.size = hget st.H := by rw [hp]; exact memL_none _ _ _
    have ee : envL st.env (dstF ios) (valF ts) (fun j => (Array.replicate ops.size false).getD j false) ops.size = st.env := by rw [hp]; exact envL_none _ _ _ _
    exact ⟨by simp, (fun i o hl => by rw [hno] at hl; cases hl), rfl, S, φ, by rw [em]; exact hI.drewR.sim, by rw [ee]; exact hI.drewR.env, by rw [em]; exact Adv.drewR _ _ _ _, fun id hid _ => hI.top id hid⟩
end
end Go.V
/- Soundness: code, and functions. -/
set_option linter.unusedVariables false
set_option linter.unusedSimpArgs false
namespace Go.V
open Go.RowKit
variable {P : Program}

theorem World.putObj_heap {w : World} {r k : Nat} {o : Obj} (h : r < w.heap.size) : (w.putObj r o).heap[k]? = if k = r then some o else w.heap[k]? := by
  by_cases hk : k = r
  · subst hk; rw [if_pos rfl]; exact World.putObj_heap_same h
  · rw [if_neg hk]; exact World.putObj_heap_other hk
def Ex.to : Ex → Exit
  | .normal => .normal
  | .exit id => .exit id
  | .ret => .ret
theorem Ex.to_then {K : Act → World → Prop} {Q : Exit → Act → World → Prop} {e : Ex} (h : e ≠ .normal) (a : Act) (w : World) : Exit.then K Q e.to a w = Q e.to a w := by cases e <;> first | rfl | exact absurd rfl h

/-- A loop, by how often it goes round at most. -/
theorem wpIn_rounds {F : Fence} {n : Nat} {P : Program} {c : Code} {Q : Exit → Act → World → Prop} (J : Nat → Act → World → Prop) (h0 : ∀ a w, ¬ J 0 a w)
    (round : ∀ k a w, J (k + 1) a w → c.wpIn F n P (Exit.then (J k) Q) a w) {m : Nat} {a : Act} {w : World} (h : J m a w) : (Code.loop c).wpIn F n P Q a w := by
  intro b k cs hro hb hr
  have key : ∀ j a w, J j a w → ∃ e a' w', Q e a' w' ∧ ArrivesIn (Machine.fenced P F) P (lone (b.atR a (.code c :: .inLoop c :: k)) cs w) b k cs e a' w' := by
    intro j
    induction j with
    | zero => intro a w hJ; exact absurd hJ (h0 a w)
    | succ j ih =>
      intro a w hJ
      obtain ⟨e, a₁, w₁, hq, harr⟩ := round j a w hJ b (.inLoop c :: k) cs hro hb hr
      cases e with
      | normal =>
        obtain ⟨e₂, a₂, w₂, hq₂, harr₂⟩ := ih a₁ w₁ hq
        exact ⟨e₂, a₂, w₂, hq₂, .of_steps (StepsIn.trans harr (.one (fenced_calm hb hr rfl) stepR_inLoop)) harr₂⟩
      | exit id => exact ⟨_, a₁, w₁, hq, .pass (x := .inLoop c) rfl (fun _ _ => .inl (by simp)) harr⟩
      | goto l => exact ⟨_, a₁, w₁, hq, .pass (x := .inLoop c) rfl (fun _ _ => .inl (by simp)) harr⟩
      | ret => exact ⟨_, a₁, w₁, hq, .pass (x := .inLoop c) rfl (fun _ _ => .inl (by simp)) harr⟩
      | panic ch => exact ⟨_, a₁, w₁, hq, .pass (x := .inLoop c) rfl (fun _ _ => .inl (by simp)) harr⟩
      | outgrown => exact ⟨_, a₁, w₁, hq, .pass (x := .inLoop c) rfl (fun _ _ => .inl (by simp)) harr⟩
  obtain ⟨e, a', w', hq, harr⟩ := key _ a w h
  exact ⟨e, a', w', hq, .of_steps (.one (fenced_calm hb hr rfl) stepR_loop) harr⟩

/-! A scope that no jump goes through -/
section
variable {b : Frame} {a : Act} {k : List Item} {cs : List Frame} {w : World} {F : Fence} {n : Nat}
theorem stepR_scope {c : Code} : step P (lone (b.atR a (.code (.scope c) :: k)) cs w) = .next (lone (b.atR a (.code c :: .inScope c :: k)) cs w) :=
  step_lone_go (by simp [stepG, stepG.exec, Frame.atR])
theorem stepR_inScope {c : Code} : step P (lone (b.atR a (.inScope c :: k)) cs w) = .next (lone (b.atR a k) cs w) :=
  step_lone_go (by simp [stepG, stepG.exec, Frame.atR])
theorem wpIn_scope {c : Code} {Q : Exit → Act → World → Prop} (h : c.wpIn F n P (fun e a w => (∀ l, e ≠ .goto l) ∧ Q e a w) a w) : (Code.scope c).wpIn F n P Q a w := by
  intro b k cs hro hb hr
  have h0 : (lone (b.atR a (.code (.scope c) :: k)) cs w).fenced P F := fenced_calm hb hr rfl
  obtain ⟨e, a₁, w₁, ⟨hng, hq⟩, harr⟩ := h b (.inScope c :: k) cs hro hb hr
  cases e with
  | normal => exact ⟨.normal, a₁, w₁, hq, .head h0 stepR_scope (StepsIn.trans harr (.one (fenced_calm (fr := b.atR a₁ (.inScope c :: k)) hb hr rfl) stepR_inScope))⟩
  | exit id => exact ⟨.exit id, a₁, w₁, hq, .of_steps (.one h0 stepR_scope) ⟨fun k' hk => harr.1 k' (by simp [exitTo, hk]), fun hr hk => harr.2 hr (by simp [exitTo, hk])⟩⟩
  | goto l => exact absurd rfl (hng l)
  | ret => exact ⟨_, a₁, w₁, hq, .of_steps (.one h0 stepR_scope) harr⟩
  | panic ch => exact ⟨_, a₁, w₁, hq, .of_steps (.one h0 stepR_scope) harr⟩
  | outgrown => exact ⟨_, a₁, w₁, hq, .of_steps (.one h0 stepR_scope) harr⟩
end
theorem Ex.to_goto (e : Ex) (l : Nat) : e.to ≠ .goto l := by cases e <;> simp [Ex.to]

/-! New objects, and objects put in the place of others -/
theorem alloc_sim {S : Nat → Prop} {φ : Phi} {h : Mem} {w : World} {nx : Nat} {b : Blk} {o : Obj} (hs : Sim P S φ h w) (hn : φ nx = none)
    (hb : Adv S φ h w S (fun id => if id = nx then some ⟨w.heap.size, 0, 0⟩ else φ id) (fun id => if id = nx then some b else h id) (w.alloc o) → SimBlk P (w.alloc o) S (fun id => if id = nx then some ⟨w.heap.size, 0, 0⟩ else φ id) ⟨w.heap.size, 0, 0⟩ b) :
    Adv S φ h w S (fun id => if id = nx then some ⟨w.heap.size, 0, 0⟩ else φ id) (fun id => if id = nx then some b else h id) (w.alloc o) ∧ Sim P S (fun id => if id = nx then some ⟨w.heap.size, 0, 0⟩ else φ id) (fun id => if id = nx then some b else h id) (w.alloc o) := by
  have hadv : Adv S φ h w S (fun id => if id = nx then some ⟨w.heap.size, 0, 0⟩ else φ id) (fun id => if id = nx then some b else h id) (w.alloc o) := by
    refine ⟨fun id loc e1 => ?_, fun _ e => e, fun _ e => .inl e, rfl, rfl, rfl, by simp, fun b hb _ => Below.heap_alloc w _ b hb, ?_, fun b e n hb => shape_alloc hb⟩
    · have : id ≠ nx := by rintro rfl; rw [hn] at e1; cases e1
      simp [this, e1]
    · rintro b ⟨id, x, loc, e1, e2, e3⟩
      by_cases hid : id = nx
      · subst hid; simp at e2; subst e2; right; simp at e3; omega
      · simp [hid] at e1 e2; exact .inl ⟨id, x, loc, e1, e2, e3⟩
  refine ⟨hadv, ?_, ?_, fun b hb => Nat.lt_of_lt_of_le (hs.bd b hb) (by simp)⟩
  · intro id b' hb'
    by_cases hid : id = nx
    · subst hid
      simp at hb'; subst hb'
      exact ⟨⟨w.heap.size, 0, 0⟩, by simp, hb hadv, fun hS => absurd (hs.bd _ hS) (by simp)⟩
    · simp [hid] at hb'
      obtain ⟨loc, e1, e2, e3⟩ := hs.blk id b' hb'
      exact ⟨loc, by simp [hid, e1], e2.adv hadv hs (Below.heap_alloc w _ _ e2.lt), e3⟩
  · intro id id' b b' loc loc' a1 a2 a3 a4 a5
    by_cases hid : id = nx <;> by_cases hid' : id' = nx
    · rw [hid, hid']
    · subst hid
      simp at a3; subst a3
      simp [hid'] at a2 a4
      have := hs.lt a2 a4
      simp at a5; omega
    · subst hid'
      simp at a4; subst a4
      simp [hid] at a1 a3
      have := hs.lt a1 a3
      simp at a5; omega
    · simp [hid] at a1 a3; simp [hid'] at a2 a4
      exact hs.inj id id' b b' loc loc' a1 a2 a3 a4 a5
theorem put_sim {S : Nat → Prop} {φ : Phi} {h : Mem} {w : World} {id : Nat} {b : Blk} {b' : Option Blk} {loc : Loc} {o : Obj} (hs : Sim P S φ h w) (hb : h id = some b) (hφ : φ id = some loc) (hno : w.shape? loc.blk = none)
    (hnew : ∀ x, b' = some x → Adv S φ h w S φ (fun k => if k = id then b' else h k) (w.putObj loc.blk o) → SimBlk P (w.putObj loc.blk o) S φ loc x) :
    Adv S φ h w S φ (fun k => if k = id then b' else h k) (w.putObj loc.blk o) ∧ Sim P S φ (fun k => if k = id then b' else h k) (w.putObj loc.blk o) := by
  have hlt := hs.lt hb hφ
  have hown : Own φ h loc.blk := ⟨id, _, loc, hb, hφ, rfl⟩
  have hadv : Adv S φ h w S φ (fun k => if k = id then b' else h k) (w.putObj loc.blk o) := by
    refine ⟨fun _ _ e => e, fun _ e => e, fun _ e => .inl e, rfl, rfl, rfl, by simp, fun b _ hn => World.putObj_heap_other (fun e => hn (e ▸ hown)), ?_, fun b e n hbs => ?_⟩
    · rintro b ⟨k, y, l, e1, e2, e3⟩
      by_cases hk : k = id
      · subst hk; rw [hφ] at e2; cases e2; exact .inl (e3 ▸ hown)
      · exact .inl ⟨k, y, l, by simpa [hk] using e1, e2, e3⟩
    · have hne : b ≠ loc.blk := by rintro rfl; rw [hno] at hbs; cases hbs
      unfold World.shape? at *
      rw [World.putObj_heap_other hne]; exact hbs
  obtain ⟨loc', q1, q2, q3⟩ := hs.blk id _ hb
  rw [hφ] at q1; cases q1
  refine ⟨hadv, ?_, ?_, fun b hb => by simpa using hs.bd b hb⟩
  · intro k x hk
    by_cases hid : k = id
    · subst hid
      exact ⟨loc, hφ, hnew x (by simpa using hk) hadv, q3⟩
    · have hk' : h k = some x := by simpa [hid] using hk
      obtain ⟨l, p1, p2, p3⟩ := hs.blk k x hk'
      have hne : l.blk ≠ loc.blk := fun e => hid (hs.inj k id x _ l loc hk' hb p1 hφ e)
      exact ⟨l, p1, p2.adv hadv hs (World.putObj_heap_other hne), p3⟩
  · intro k k' c c' l l' a1 a2 a3 a4 a5
    have key : ∀ k c, (if k = id then b' else h k) = some c → ∃ c, h k = some c := fun k c hk => by
      by_cases hid : k = id
      · exact ⟨_, hid ▸ hb⟩
      · exact ⟨c, by simpa [hid] using hk⟩
    obtain ⟨d, a1'⟩ := key k c a1
    obtain ⟨d', a2'⟩ := key k' c' a2
    exact hs.inj k k' d d' l l' a1' a2' a3 a4 a5
theorem shape_loop {w : World} {b : Nat} {r : Loop} (h : w.heap[b]? = some (.loop r)) : w.shape? b = none := by unfold World.shape?; rw [h]
theorem shape_deferred {w : World} {b : Nat} {d : Option (List Deferred)} (h : w.heap[b]? = some (.deferred d)) : w.shape? b = none := by unfold World.shape?; rw [h]
theorem hget_wr1 (H : Heap) (id : Nat) (b : Option Blk) (nx : Nat) : hget (wrH H [(id, b)] nx) = fun k => if k = id then b else hget H k := by rw [hget_wrH, updH_one]

/-! Marks; the frames of rounds -/
def Marks (φ : Phi) : List Nat → List Deferred → Prop
  | [], [] => True
  | id :: ids, d :: ds => (∃ loc, φ id = some loc ∧ d = { target := .collected loc.blk, args := #[] }) ∧ Marks φ ids ds
  | _, _ => False
theorem Marks.mono {φ φ' : Phi} (h : ∀ id loc, φ id = some loc → φ' id = some loc) : ∀ {ids : List Nat} {ds : List Deferred}, Marks φ ids ds → Marks φ' ids ds
  | [], [], _ => trivial
  | id :: ids, d :: ds, hm => ⟨by obtain ⟨loc, h1, h2⟩ := hm.1; exact ⟨loc, h _ _ h1, h2⟩, Marks.mono h hm.2⟩
  | [], _ :: _, hm => hm
  | _ :: _, [], hm => hm
theorem Marks.append {φ : Phi} : ∀ {ids ids' : List Nat} {ds ds' : List Deferred}, Marks φ ids ds → Marks φ ids' ds' → Marks φ (ids ++ ids') (ds ++ ds')
  | [], _, [], _, _, h => h
  | id :: ids, _, d :: ds, _, hm, h => ⟨hm.1, Marks.append hm.2 h⟩
  | [], _, _ :: _, _, hm, _ => hm.elim
  | _ :: _, _, [], _, hm, _ => hm.elim
def FR (φ : Phi) : Option Nat → Fence → Prop
  | none, F => F = Fence.wide
  | some id, F => ∃ loc, φ id = some loc ∧ F = Fence.wide.inRound loc.blk
theorem FR.wf {φ : Phi} {rd : Option Nat} {F : Fence} (h : FR φ rd F) : WF F := by
  cases rd with
  | none => cases h; exact .wide
  | some id => obtain ⟨loc, -, rfl⟩ := h; exact .rnd _
theorem FR.mono {φ φ' : Phi} (hφ : ∀ id loc, φ id = some loc → φ' id = some loc) {rd : Option Nat} {F : Fence} (h : FR φ rd F) : FR φ' rd F := by
  cases rd with
  | none => exact h
  | some id => obtain ⟨loc, h1, h2⟩ := h; exact ⟨loc, hφ _ _ h1, h2⟩
structure InvR (P : Program) (S : Nat → Prop) (φ : Phi) (w : World) (r : RSt) (a : Act) : Prop where
  inv : Inv P S φ w r.st a
  mrk : Marks φ r.ds a.defers
def ReachR (P : Program) (S : Nat → Prop) (φ : Phi) (w : World) (r : RSt) (r' : RSt) (a' : Act) (w' : World) : Prop :=
  ∃ S' φ', InvR P S' φ' w' r' a' ∧ Adv S φ (hget r.st.H) w S' φ' (hget r'.st.H) w' ∧ r.st.H.nx ≤ r'.st.H.nx
theorem ReachR.refl {S : Nat → Prop} {φ : Phi} {w : World} {r : RSt} {a : Act} (h : InvR P S φ w r a) : ReachR P S φ w r r a w := ⟨S, φ, h, Adv.refl _ _ _ _, Nat.le_refl _⟩
theorem ReachR.step {S S' : Nat → Prop} {φ φ' : Phi} {w w' w'' : World} {r r' r'' : RSt} {a'' : Act} (h2 : Adv S φ (hget r.st.H) w S' φ' (hget r'.st.H) w') (h4 : r.st.H.nx ≤ r'.st.H.nx) (k : ReachR P S' φ' w' r' r'' a'' w'') : ReachR P S φ w r r'' a'' w'' := by
  obtain ⟨S'', φ'', k1, k2, k4⟩ := k
  exact ⟨S'', φ'', k1, h2.trans k2, Nat.le_trans h4 k4⟩
theorem ReachR.of {S : Nat → Prop} {φ : Phi} {w w' : World} {st st' : St} {a a' : Act} {ds : List Nat} (hm : Marks φ ds a.defers) (h : Reach P S φ w st a st' a' w') : ReachR P S φ w ⟨st, ds⟩ ⟨st', ds⟩ a' w' := by
  obtain ⟨S', φ', k1, k2, k3, k4⟩ := h
  exact ⟨S', φ', ⟨k1, by rw [k3]; exact hm.mono k2.phi⟩, k2, k4⟩
end Go.V
/- Soundness: loops over functions; functions; rounds. -/
set_option linter.unusedVariables false
set_option linter.unusedSimpArgs false
namespace Go.V
open Go.RowKit
variable {P : Program}
/-! Loops over functions begin, and end -/
section
variable {T : FuncId → Option IFn} {cb : Cb}
theorem wrH_two (H : Heap) (i j : Nat) (b c : Option Blk) (nx : Nat) : hget (wrH H [(i, b), (j, c)] nx) = fun k => if k = j then c else if k = i then b else hget H k := by rw [hget_wrH]; rfl
theorem enter_sim {S : Nat → Prop} {φ : Phi} {H H1 : Heap} {w : World} {env : List AV} {tmps : Array Value} {ps : Array Tmp} {x y : Code} {ia ib : IC} {rd : Option Nat} {F : Fence} {id : Nat} {ds : List Nat}
    (hs : Sim P S φ (hget H) w) (htop : ∀ k, H.nx ≤ k → φ k = none) (hr : Reps w S φ env tmps) (hx : cCode P x = some ia) (hy : cCode P y = some ib) (hF : FR φ rd F) (he : enterH rd H env ps.toList ia ib = some (H1, id, ds)) (fn : FuncId) :
    ∃ mark w1 φ1 loc, (Instr.enterLoop fn tmps ps x y F.round).run P w = .ok (loc.blk, mark) w1 ∧ φ1 id = some loc ∧ Adv S φ (hget H) w S φ1 (hget H1) w1 ∧ Sim P S φ1 (hget H1) w1 ∧ (∀ k, H1.nx ≤ k → φ1 k = none) ∧ H.nx ≤ H1.nx ∧ Marks φ1 ds mark := by
  cases rd with
  | none =>
    cases hF
    simp only [enterH, Option.some.injEq, Prod.mk.injEq] at he
    obtain ⟨rfl, rfl, rfl⟩ := he
    obtain ⟨q1, q2⟩ := alloc_sim (P := P) (nx := H.nx) (b := .mark) (o := .deferred (some [])) hs (htop _ (Nat.le_refl _)) (fun _ => World.alloc_heap_new w _)
    have hn2 : (fun k => if k = H.nx then some (⟨w.heap.size, 0, 0⟩ : Loc) else φ k) (H.nx + 1) = none := by
      show (if H.nx + 1 = H.nx then _ else φ (H.nx + 1)) = none
      rw [if_neg (by omega)]; exact htop _ (by omega)
    obtain ⟨p1, p2⟩ := alloc_sim (P := P) (nx := H.nx + 1) (b := .loop env ps.toList ia ib .ready .normal H.nx) (o := .loop { state := .ready, pending := none, fn, tmps, params := ps, assign := x, body := y, defers := w.heap.size }) q2 hn2 (fun adv =>
      ⟨_, World.alloc_heap_new _ _, adv.reps q2 (q1.reps hs hr), rfl, hx, hy, rfl, rfl, ⟨w.heap.size, 0, 0⟩, by simp, rfl⟩)
    refine ⟨_, _, (fun k => if k = H.nx + 1 then some ⟨(w.alloc (.deferred (some []))).heap.size, 0, 0⟩ else if k = H.nx then some ⟨w.heap.size, 0, 0⟩ else φ k), ⟨w.heap.size + 1, 0, 0⟩, run_enterLoop_outer fn tmps ps x y, by simp, ?_, ?_, fun k hk => ?_, Nat.le_max_left _ _, ?_⟩
    · rw [wrH_two]; exact q1.trans p1
    · rw [wrH_two]; exact p2
    · have : max H.nx (H.nx + 2) ≤ k := hk
      simp only [show k ≠ H.nx + 1 by omega, show k ≠ H.nx by omega, if_false]
      exact htop k (by omega)
    · exact ⟨⟨⟨w.heap.size, 0, 0⟩, by simp, rfl⟩, trivial⟩
  | some l =>
    obtain ⟨loc0, e0, rfl⟩ := hF
    simp only [enterH] at he
    split at he
    · rename_i env0 ps0 a0 b0 st0 pend0 d0 hl
      simp only [Option.some.injEq, Prod.mk.injEq] at he
      obtain ⟨rfl, rfl, rfl⟩ := he
      obtain ⟨loc', g1, g2, -⟩ := hs.blk l _ hl
      rw [e0] at g1; cases g1
      obtain ⟨r0, f1, f2, f3, f4, f5, f6, f7, ld, f8, f9⟩ := g2
      obtain ⟨p1, p2⟩ := alloc_sim (P := P) (nx := H.nx) (b := .loop env ps.toList ia ib .ready .normal d0) (o := .loop { state := .ready, pending := none, fn, tmps, params := ps, assign := x, body := y, defers := r0.defers }) hs (htop _ (Nat.le_refl _)) (fun adv =>
        ⟨_, World.alloc_heap_new _ _, adv.reps hs hr, rfl, hx, hy, rfl, rfl, ld, adv.phi _ _ f8, f9⟩)
      have hrun : (Instr.enterLoop fn tmps ps x y (Fence.wide.inRound loc0.blk).round).run P w = .ok (w.heap.size, []) (w.alloc (.loop { state := .ready, pending := none, fn, tmps, params := ps, assign := x, body := y, defers := r0.defers })) := by
        show (Instr.enterLoop fn tmps ps x y (some loc0.blk)).run P w = _
        unfold Instr.enterLoop
        simp only [Sem.run_bind, run_getLoop f1, run_newObj_alloc, Result.andThen_ok, Sem.run_pure]
      refine ⟨_, _, (fun k => if k = H.nx then some ⟨w.heap.size, 0, 0⟩ else φ k), ⟨w.heap.size, 0, 0⟩, hrun, by simp, ?_, ?_, fun k hk => ?_, Nat.le_max_left _ _, trivial⟩
      · rw [hget_wr1]; exact p1
      · rw [hget_wr1]; exact p2
      · have : max H.nx (H.nx + 1) ≤ k := hk
        simp only [show k ≠ H.nx by omega, if_false]
        exact htop k (by omega)
    · cases he
theorem leave_sim {S : Nat → Prop} {φ : Phi} {H : Heap} {w : World} {env : List AV} {id : Nat} {ds : List Nat} {loc : Loc} {ex : Ex} {r : RSt} (hs : Sim P S φ (hget H) w) (hφ : φ id = some loc) (he : leaveH env H id ds = some (ex, r)) :
    ∃ w1, (Instr.endLoop loc.blk).run P w = .ok ex.code w1 ∧ r = ⟨⟨env, wrH H [(id, none)] 0⟩, ds⟩ ∧ Adv S φ (hget H) w S φ (hget (wrH H [(id, none)] 0)) w1 ∧ Sim P S φ (hget (wrH H [(id, none)] 0)) w1 := by
  have key : ∀ env0 ps0 a0 b0 st0 pend0 d0, hget H id = some (.loop env0 ps0 a0 b0 st0 pend0 d0) → st0 ≠ .busy →
      ∃ w1, (Instr.endLoop loc.blk).run P w = .ok pend0.code w1 ∧ Adv S φ (hget H) w S φ (hget (wrH H [(id, none)] 0)) w1 ∧ Sim P S φ (hget (wrH H [(id, none)] 0)) w1 := by
    intro env0 ps0 a0 b0 st0 pend0 d0 hl hne
    obtain ⟨loc', g1, g2, -⟩ := hs.blk id _ hl
    rw [hφ] at g1; cases g1
    obtain ⟨r0, f1, f2, f3, f4, f5, f6, f7, -⟩ := g2
    have hrun := run_endLoop (P := P) f1 (by rw [f6]; exact hne)
    obtain ⟨q1, q2⟩ := put_sim (P := P) (b' := none) (o := .loop { r0 with state := .exhausted }) hs hl hφ (shape_loop f1) (fun x hx => by cases hx)
    exact ⟨_, by rw [← f7]; exact hrun, by rw [hget_wr1]; exact q1, by rw [hget_wr1]; exact q2⟩
  unfold leaveH at he
  split at he
  · cases he
  · rename_i env0 ps0 a0 b0 st0 pend0 d0 hne hl
    cases he
    obtain ⟨w1, h1, h2, h3⟩ := key _ _ _ _ _ _ _ hl (fun e => by subst e; first | exact hne rfl | exact hne _ _ _ _ _ _ rfl | simp_all)
    exact ⟨w1, h1, rfl, h2, h3⟩
  · cases he
theorem iter_loop {F : Fence} {rd : Option Nat} {c : Code} {f : RSt → Option (Ex × RSt)} {r' : RSt} {ex : Ex}
    (hf : ∀ r ex r', f r = some (ex, r') → ∀ (S : Nat → Prop) (φ : Phi) (w : World) (a : Act), FR φ rd F → InvR P S φ w r a → ∀ Q : Exit → Act → World → Prop, (∀ a' w', ReachR P S φ w r r' a' w' → Q ex.to a' w') → c.wpIn F 0 P Q a w)
    {m : Nat} {r : RSt} (h : iter f m r = some (ex, r')) {S : Nat → Prop} {φ : Phi} {w : World} {a : Act} (hF : FR φ rd F) (hI : InvR P S φ w r a) {Q : Exit → Act → World → Prop} (hQ : ∀ a' w', ReachR P S φ w r r' a' w' → Q ex.to a' w') : (Code.loop c).wpIn F 0 P Q a w := by
  refine wpIn_rounds (fun k a w => ∃ r S φ, FR φ rd F ∧ InvR P S φ w r a ∧ iter f k r = some (ex, r') ∧ ∀ a' w', ReachR P S φ w r r' a' w' → Q ex.to a' w') (fun a w => ?_) (fun k a w => ?_) (m := m) ⟨r, S, φ, hF, hI, h, hQ⟩
  · rintro ⟨r, S, φ, -, -, h, -⟩; simp [iter] at h
  · rintro ⟨r, S, φ, hF, hI, h, hQ⟩
    simp only [iter] at h
    cases hr : f r with
    | none => rw [hr] at h; cases h
    | some p =>
      obtain ⟨e1, r1⟩ := p
      refine hf r e1 r1 hr S φ w a hF hI _ fun a' w' hR => ?_
      cases e1 with
      | normal =>
        rw [hr] at h
        obtain ⟨S', φ', k1, k2, k4⟩ := hR
        exact ⟨r1, S', φ', hF.mono k2.phi, k1, h, fun a'' w'' hR' => hQ a'' w'' (ReachR.step k2 k4 hR')⟩
      | exit id => rw [hr] at h; cases h; exact hQ a' w' hR
      | ret => rw [hr] at h; cases h; exact hQ a' w' hR
theorem range_sound (hT : TOK P T) (hcb : CbOK P cb) {g : Operand} {ag : Arg} {ps : Array Tmp} {x y : Code} {ia ib : IC} (hg : cOpd g = some ag) (hx : cCode P x = some ia) (hy : cCode P y = some ib) {m : Nat} {rd : Option Nat} {r r' : RSt} {ex : Ex} (hr : run T cb m rd (.rangeF ag ps.toList ia ib) r = some (ex, r'))
    {F : Fence} {S : Nat → Prop} {φ : Phi} {w : World} {a : Act} (hF : FR φ rd F) (hI : InvR P S φ w r a) {Q : Exit → Act → World → Prop} (hQ : ∀ a' w', ReachR P S φ w r r' a' w' → Q ex.to a' w') : (Code.rangeFunc g ps x y).wpIn F 0 P Q a w := by
  have hv := arg_rep hI.inv.env hg
  simp only [run] at hr
  split at hr
  · rename_i f first caps e1
    rw [e1] at hv
    split at hr
    · rename_i hTf
      split at hr
      · rename_i H1 id ds e2
        split at hr
        · rename_i v2 H2 e3
          obtain ⟨vf, vc, k1, k2, k3⟩ : ∃ vf vc, a.eval g = .func (.func f) vf vc ∧ Reps w S φ first vf ∧ Reps w S φ caps vc := by
            generalize a.eval g = q at hv
            cases hv with
            | fn hl h hl' h' => exact ⟨_, _, rfl, ⟨hl, h⟩, ⟨hl', h'⟩⟩
          obtain ⟨fn, hfn⟩ := Option.isSome_iff_exists.1 hTf
          obtain ⟨gg, c, g1, g2, g3, -⟩ := cFn_spec (hT f fn hfn)
          refine wpIn_rangeFunc fun fn' _ => ?_
          obtain ⟨mark, w1, φ1, loc, m1, m2, m3, m4, m5, m6, m7⟩ := enter_sim (P := P) (ps := ps) (x := x) (y := y) hI.inv.sim hI.inv.top hI.inv.env hx hy hF e2 fn'
          have hargs : Reps w1 S φ1 (first ++ [.yld id] ++ caps) (vf ++ #[.func (.yield loc.blk) #[] #[]] ++ vc) :=
            ((m3.reps hI.inv.sim k2).append (reps_one (.yld m2))).append (m3.reps hI.inv.sim k3)
          have hcall := hcb.fn f _ H1 v2 H2 e3 S φ1 w1 _ m4 m5 hargs
          have h5 : (resolve a.eval (rangeCall g loc.blk) 0).run P w1 = .ok { target := .fn (.func f) vc, args := vf ++ #[.func (.yield loc.blk) #[] #[]] } w1 := by
            simp only [resolve, rangeCall, k1]
            simp [Deferred.ofValue, Act.eval]
          have h6 : (invoke (.fn (.func f) vc) (vf ++ #[.func (.yield loc.blk) #[] #[]])).run P w1 = .ok (.enter f (vf ++ #[.func (.yield loc.blk) #[] #[]] ++ vc)) w1 := run_callFunc g1 g2 g3 _
          have h7 : F.depth.isSome = true → 1 ≤ 0 := fun hh => by rw [hF.wf.depth] at hh; cases hh
          refine ⟨loc.blk, mark, w1, _, w1, f, _, w1, m1, h5, fun f' _ => hF.wf.fn f', h6, h7, hF.wf.calls (hcall.mono ?_)⟩
          · rintro e w2 ⟨vv, rfl, S2, φ2, adv, sim, -, top, nx⟩
            obtain ⟨w3, n1, n2, n3, n4⟩ := leave_sim (P := P) sim (adv.phi _ _ m2) hr
            subst n2
            have hadv : Adv S φ (hget r.st.H) w S2 φ2 (hget (wrH H2 [(id, none)] 0)) w3 := (m3.trans adv).trans n3
            have hR : ReachR P S φ w r ⟨⟨r.st.env, wrH H2 [(id, none)] 0⟩, ds ++ r.ds⟩ { a with defers := mark ++ a.defers } w3 :=
              ⟨S2, φ2, ⟨⟨n4, hadv.reps hI.inv.sim hI.inv.env, fun k hk => top k (Nat.le_trans (Nat.le_max_left _ _) hk)⟩, (m7.mono adv.phi).append (hI.mrk.mono hadv.phi)⟩, hadv, Nat.le_trans (Nat.le_trans m6 nx) (Nat.le_max_left _ _)⟩
            have hq := hQ _ _ hR
            refine ⟨ex.code, w3, n1, ?_⟩
            cases ex with
            | normal => exact hq
            | exit id => exact wpIn_exit hq
            | ret => exact wpIn_ret hq
        · cases hr
      · cases hr
    · cases hr
  · cases hr
theorem run_sound (hT : TOK P T) (hcb : CbOK P cb) (hm : P.follows .mixedOrders = true) (m : Nat) (rd : Option Nat) (F : Fence) : ∀ (c : Code) (ic : IC), cCode P c = some ic → ∀ r ex r', run T cb m rd ic r = some (ex, r') → ∀ (S : Nat → Prop) (φ : Phi) (w : World) (a : Act), FR φ rd F → InvR P S φ w r a → ∀ Q : Exit → Act → World → Prop, (∀ a' w', ReachR P S φ w r r' a' w' → Q ex.to a' w') → c.wpIn F 0 P Q a w
  | .skip, ic, hc, r, ex, r', hr, S, φ, w, a, hF, hI, Q, hQ => by
    cases hc; cases hr
    exact wpIn_skip (hQ a w (ReachR.refl hI))
  | .label l, ic, hc, r, ex, r', hr, S, φ, w, a, hF, hI, Q, hQ => by
    cases hc; cases hr
    exact wpIn_label (hQ a w (ReachR.refl hI))
  | .region id ops draw, ic, hc, r, ex, r', hr, S, φ, w, a, hF, hI, Q, hQ => by
    simp only [cCode] at hc
    split at hc
    · rename_i os hos
      cases draw with
      | true =>
        simp only [if_true] at hc
        split at hc
        · rename_i hsl
          cases hc
          simp only [Bool.and_eq_true] at hsl
          simp only [run, if_true] at hr
          cases he : evalDraw T cb os 0 [] r.st with
          | none => simp [he] at hr
          | some st1 => simp [he] at hr; obtain ⟨rfl, rfl⟩ := hr; exact region_draw hT hcb hm hF.wf hos hsl.1 hsl.2 he hI.inv (fun a' w' hR => hQ a' w' (ReachR.of hI.mrk hR))
        · cases hc
      | false =>
        simp only [Bool.false_eq_true, if_false] at hc
        cases hc
        simp only [run, Bool.false_eq_true, if_false] at hr
        cases he : evalOps T cb os r.st with
        | none => simp [he] at hr
        | some st1 => simp [he] at hr; obtain ⟨rfl, rfl⟩ := hr; exact region_seq hT hcb hF.wf hos he hI.inv (fun a' w' hR => hQ a' w' (ReachR.of hI.mrk hR))
    · cases hc
  | .seq x y, ic, hc, r, ex, r', hr, S, φ, w, a, hF, hI, Q, hQ => by
    simp only [cCode] at hc
    split at hc
    · rename_i ia ib h1 h2
      cases hc
      simp only [run] at hr
      cases h3 : run T cb m rd ia r with
      | none => rw [h3] at hr; cases hr
      | some p =>
        obtain ⟨e1, r1⟩ := p
        rw [h3] at hr
        refine wpIn_seq (run_sound hT hcb hm m rd F x ia h1 r e1 r1 h3 S φ w a hF hI _ fun a' w' hR => ?_)
        cases e1 with
        | normal =>
          obtain ⟨S', φ', k1, k2, k4⟩ := hR
          exact run_sound hT hcb hm m rd F y ib h2 r1 ex r' hr S' φ' w' a' (hF.mono k2.phi) k1 Q fun a'' w'' hR' => hQ a'' w'' (ReachR.step k2 k4 hR')
        | exit id => cases hr; exact hQ a' w' hR
        | ret => cases hr; exact hQ a' w' hR
    · cases hc
  | .cond x y z, ic, hc, r, ex, r', hr, S, φ, w, a, hF, hI, Q, hQ => by
    simp only [cCode] at hc
    split at hc
    · rename_i ax iy iz h1 h2 h3
      cases hc
      simp only [run] at hr
      have hv := arg_rep hI.inv.env h1
      split at hr
      · rename_i e1
        rw [e1] at hv
        exact wpIn_cond (t := true) hv.inv_bool (run_sound hT hcb hm m rd F y iy h2 r ex r' hr S φ w a hF hI Q hQ)
      · rename_i e1
        rw [e1] at hv
        exact wpIn_cond (t := false) hv.inv_bool (run_sound hT hcb hm m rd F z iz h3 r ex r' hr S φ w a hF hI Q hQ)
      · cases hr
    · cases hc
  | .block id c, ic, hc, r, ex, r', hr, S, φ, w, a, hF, hI, Q, hQ => by
    simp only [cCode] at hc
    cases h1 : cCode P c with
    | none => simp [h1] at hc
    | some ib =>
      simp [h1] at hc; subst hc
      simp only [run] at hr
      cases h2 : run T cb m rd ib r with
      | none => rw [h2] at hr; cases hr
      | some p =>
        obtain ⟨e1, r1⟩ := p
        rw [h2] at hr
        refine wpIn_block (run_sound hT hcb hm m rd F c ib h1 r e1 r1 h2 S φ w a hF hI _ fun a' w' hR => ?_)
        cases e1 with
        | normal => cases hr; exact hQ a' w' hR
        | ret => cases hr; exact hQ a' w' hR
        | exit id' =>
          simp only at hr
          split at hr
          · rename_i hid; cases hr
            show (if id' = id then Q .normal a' w' else Q (.exit id') a' w')
            rw [if_pos hid]; exact hQ a' w' hR
          · rename_i hid; cases hr
            show (if id' = id then Q .normal a' w' else Q (.exit id') a' w')
            rw [if_neg hid]; exact hQ a' w' hR
  | .loop c, ic, hc, r, ex, r', hr, S, φ, w, a, hF, hI, Q, hQ => by
    simp only [cCode] at hc
    cases h1 : cCode P c with
    | none => simp [h1] at hc
    | some ib =>
      simp [h1] at hc; subst hc
      simp only [run] at hr
      exact iter_loop (run_sound hT hcb hm m rd F c ib h1) hr hF hI hQ
  | .scope c, ic, hc, r, ex, r', hr, S, φ, w, a, hF, hI, Q, hQ => by
    simp only [cCode] at hc
    cases h1 : cCode P c with
    | none => simp [h1] at hc
    | some ib =>
      simp [h1] at hc; subst hc
      simp only [run] at hr
      exact wpIn_scope (run_sound hT hcb hm m rd F c ib h1 r ex r' hr S φ w a hF hI _ fun a' w' hR => ⟨ex.to_goto, hQ a' w' hR⟩)
  | .exit id, ic, hc, r, ex, r', hr, S, φ, w, a, hF, hI, Q, hQ => by
    cases hc; cases hr
    exact wpIn_exit (hQ a w (ReachR.refl hI))
  | .ret, ic, hc, r, ex, r', hr, S, φ, w, a, hF, hI, Q, hQ => by
    cases hc; cases hr
    exact wpIn_ret (hQ a w (ReachR.refl hI))
  | .rangeFunc g ps x y, ic, hc, r, ex, r', hr, S, φ, w, a, hF, hI, Q, hQ => by
    simp only [cCode] at hc
    split at hc
    · rename_i ag ia ib h1 h2 h3
      cases hc
      exact range_sound hT hcb h1 h2 h3 hr hF hI hQ
    · cases hc
  | .goto _, ic, hc, _, _, _, _, _, _, _, _, _, _, _, _ => by cases hc
  | .refuse _, ic, hc, _, _, _, _, _, _, _, _, _, _, _, _ => by cases hc
end

/-! Results -/
def resOne (tmps : Array Value) (r : ResultVar) : Sem Value :=
  match r with
  | .tmp t => pure (tmps.getD t undef)
  | .cell x t => do loadVar t (← asAddr (tmps.getD x undef))
theorem results_eq (fn : Func) (tmps : Array Value) : results fn tmps = (do let vs ← fn.results.mapM (resOne tmps); pure (if h : vs.size = 1 then vs[0] else .tuple vs)) := rfl
theorem resV_run {r : ResultVar} {ir : IRes} (hc : cRes P r = some ir) {st : St} {v : AV} (hr : resV st ir = some v) {S : Nat → Prop} {φ : Phi} {w : World} {a : Act} (hI : Inv P S φ w st a) :
    ∃ vv, (resOne a.tmps r).run P w = .ok vv w ∧ Rep w S φ v vv := by
  cases r with
  | tmp t => cases hc; cases hr; exact ⟨_, rfl, hI.env.getD t⟩
  | cell x t =>
    simp only [cRes] at hc
    cases hk : partK P t with
    | none => simp [hk] at hc
    | some k =>
      simp [hk] at hc; subst hc
      simp only [resV] at hr
      have hv := hI.env.getD x
      split at hr
      · rename_i id i j e1
        split at hr
        · rename_i s xs e2
          rw [e1] at hv
          obtain ⟨loc, f1, f2⟩ := hv.inv_ptr
          obtain ⟨loc', g1, g2, g3⟩ := hI.sim.blk id _ e2
          rw [f1] at g1; cases g1
          cases e3 : xs[i]? with
          | none => simp [e3] at hr
          | some y =>
            simp [e3] at hr
            obtain ⟨vv, r1, r2⟩ := run_loadPart (P := P) hk (o := loc.base + i * loc.sz) (g2.cells e3) hr
            exact ⟨vv, by simp only [resOne, f2, asAddr, Sem.run_bind, Sem.run_pure, Result.andThen_ok]; exact r1, r2⟩
        · cases hr
      · cases hr
theorem resL_run : ∀ {rs : List ResultVar} {irs : List IRes}, cRess P rs = some irs → ∀ {st : St} {vs : List AV}, resL st irs = some vs → ∀ {S : Nat → Prop} {φ : Phi} {w : World} {a : Act}, Inv P S φ w st a →
    ∃ us : List Value, (rs.mapM (resOne a.tmps)).run P w = .ok us w ∧ Reps w S φ vs us.toArray
  | [], irs, hc, st, vs, hr, S, φ, w, a, hI => by
    cases hc; cases hr
    exact ⟨[], rfl, reps_nil⟩
  | r :: rs, irs, hc, st, vs, hr, S, φ, w, a, hI => by
    simp only [cRess] at hc
    split at hc
    · rename_i ir irs' h1 h2
      cases hc
      simp only [resL] at hr
      split at hr
      · rename_i v vs' h3 h4
        cases hr
        obtain ⟨u, q1, q2⟩ := resV_run (P := P) h1 h3 hI
        obtain ⟨us, q3, q4⟩ := resL_run h2 h4 hI
        refine ⟨u :: us, ?_, Reps.cons q2 q4⟩
        rw [List.mapM_cons, Sem.run_bind, q1]
        simp only [Result.andThen_ok, Sem.run_bind, q3, Sem.run_pure]
      · cases hr
    · cases hc
theorem results_run {fn : Func} {irs : List IRes} (hc : cRess P fn.results.toList = some irs) {st : St} {vs : List AV} (hr : resL st irs = some vs) {S : Nat → Prop} {φ : Phi} {w : World} {a : Act} (hI : Inv P S φ w st a) :
    ∃ vv, (results fn a.tmps).run P w = .ok vv w ∧ Rep w S φ (tupV vs) vv := by
  obtain ⟨us, h1, h2⟩ := resL_run (P := P) hc hr hI
  have h3 : (results fn a.tmps).run P w = .ok (if h : us.toArray.size = 1 then us.toArray[0] else .tuple us.toArray) w := by
    rw [results_eq, Array.mapM_eq_mapM_toList, Sem.run_bind, Sem.run_map, h1]
    rfl
  refine ⟨_, h3, ?_⟩
  cases us with
  | nil =>
    have : vs = [] := by have := h2.1; simpa using this.symm
    subst this
    simp only [List.size_toArray, List.length_nil]
    exact .tup rfl (by simp)
  | cons u us =>
    cases vs with
    | nil => have := h2.1; simp at this
    | cons v vs =>
      cases us with
      | nil =>
        have : vs = [] := by have := h2.1; simpa using this.symm
        subst this
        exact h2.2 0 v u (by simp) (by simp)
      | cons u' us =>
        cases vs with
        | nil => have := h2.1; simp at this
        | cons v' vs =>
          rw [dif_neg (by simp)]
          exact .tup h2.1 h2.2

end Go.V
/- Soundness: functions and rounds. -/
set_option linter.unusedVariables false
set_option linter.unusedSimpArgs false
namespace Go.V
open Go.RowKit
variable {P : Program} {T : FuncId → Option IFn}

theorem setPs_rep {w : World} {S : Nat → Prop} {φ : Phi} : ∀ {ps : List Nat} {env vs : List AV} {tmps : Array Value} {us : List Value}, vs.length = ps.length → Reps w S φ env tmps → Reps w S φ vs us.toArray →
    Reps w S φ (setPs env ps vs) ((ps.zip us).foldl (fun tmps (t, a) => tmps.setIfInBounds t a) tmps)
  | [], env, vs, tmps, us, hl, hr, hv => by
    have : setPs env [] vs = env := by cases vs <;> rfl
    rw [this]; simpa using hr
  | p :: ps, env, [], tmps, us, hl, hr, hv => by simp at hl
  | p :: ps, env, v :: vs, tmps, us, hl, hr, hv => by
    cases us with
    | nil => have := hv.1; simp at this
    | cons u us =>
      simp only [setPs, List.zip_cons_cons, List.foldl_cons]
      refine setPs_rep (by simpa using hl) ?_ ⟨by have := hv.1; simpa using this, fun i c x q1 q2 => hv.2 (i + 1) c x (by simpa using q1) (by simpa using q2)⟩
      exact reps_put (a := { tmps := tmps, defers := [] }) hr (hv.2 0 v u (by simp) (by simp)) (some p)
theorem marks_leave {F : Fence} {fn : Func} {tmps : Array Value} {R : Ending → World → Prop} {S : Nat → Prop} {φ : Phi} : ∀ {ids : List Nat} {ds : List Deferred} {H H' : Heap} {w : World}, Marks φ ids ds → takeMarks H ids = some H' → Sim P S φ (hget H) w →
    (∀ w', Adv S φ (hget H) w S φ (hget H') w' → Sim P S φ (hget H') w' → H.nx ≤ H'.nx → LeavesInM F 0 P fn tmps R [] .returning w') → LeavesInM F 0 P fn tmps R ds .returning w
  | [], [], H, H', w, hm, ht, hs, h => by cases ht; exact h w (Adv.refl _ _ _ _) hs (Nat.le_refl _)
  | id :: ids, d :: ds, H, H', w, hm, ht, hs, h => by
    obtain ⟨⟨loc, h1, rfl⟩, hm⟩ := hm
    simp only [takeMarks] at ht
    split at ht
    · rename_i hb
      obtain ⟨loc', g1, g2, -⟩ := hs.blk id _ hb
      rw [h1] at g1; cases g1
      have hrun := run_takeDeferred (P := P) (show w.heap[loc.blk]? = some (.deferred (some [])) from g2)
      obtain ⟨q1, q2⟩ := put_sim (P := P) (b' := none) (o := .deferred none) hs hb h1 (shape_deferred g2) (fun x hx => by cases hx)
      rw [← hget_wr1 H id none 0] at q1 q2
      refine ⟨by simp, .inl ⟨loc.blk, _, rfl, hrun, marks_leave hm ht q2 fun w' a1 a2 a3 => h w' (q1.trans a1) a2 (Nat.le_trans (Nat.le_max_left _ _) a3)⟩⟩
    · cases ht
  | [], _ :: _, _, _, _, hm, _, _, _ => hm.elim
  | _ :: _, [], _, _, _, hm, _, _, _ => hm.elim
theorem leave_fn {fn : IFn} {g : Func} {r : RSt} {v : AV} {H' : Heap} (hc : cRess P g.results.toList = some fn.res) (he : leaveF fn r = some (v, H')) {S S' : Nat → Prop} {φ φ' : Phi} {H : Heap} {w w' : World} {a' : Act} (hI : InvR P S' φ' w' r a') (hadv : Adv S φ (hget H) w S' φ' (hget r.st.H) w') (hnx : H.nx ≤ r.st.H.nx) :
    LeavesInM Fence.wide 0 P g a'.tmps (fun e w'' => ∃ vv, e = .returned vv ∧ Fin P S φ H w v H' vv w'') a'.defers .returning w' := by
  unfold leaveF at he
  split at he
  · rename_i H1 ht
    cases hl : resL ⟨r.st.env, H1⟩ fn.res with
    | none => simp [hl] at he
    | some vs =>
      simp [hl] at he
      obtain ⟨rfl, rfl⟩ := he
      refine marks_leave hI.mrk ht hI.inv.sim fun w'' a1 a2 a3 => ?_
      have hI2 : Inv P S' φ' w'' ⟨r.st.env, H1⟩ a' := ⟨a2, a1.reps hI.inv.sim hI.inv.env, fun k hk => hI.inv.top k (Nat.le_trans a3 hk)⟩
      obtain ⟨vv, q1, q2⟩ := results_run (P := P) hc hl hI2
      exact ⟨vv, q1, vv, rfl, S', φ', hadv.trans a1, a2, q2, hI2.top, Nat.le_trans hnx a3⟩
  · cases he
theorem callBody_ok (hT : TOK P T) (hm : P.follows .mixedOrders = true) {cb : Cb} (hcb : CbOK P cb) {m : Nat} {f : FuncId} {args : List AV} {H H' : Heap} {v : AV} (h : callBody T m cb f args H = some (v, H')) {S : Nat → Prop} {φ : Phi} {w : World} {vargs : Array Value} (hs : Sim P S φ (hget H) w) (htop : ∀ id, H.nx ≤ id → φ id = none) (hargs : Reps w S φ args vargs) :
    Calls P f vargs w fun e w' => ∃ vv, e = .returned vv ∧ Fin P S φ H w v H' vv w' := by
  unfold callBody at h
  split at h
  · cases h
  · rename_i fn hfn
    obtain ⟨g, c, g1, g2, g3, g4, g5, g6⟩ := cFn_spec (hT f fn hfn)
    have hI : InvR P S φ w ⟨⟨args ++ List.replicate (fn.ntmps - args.length) undefA, H⟩, []⟩ { tmps := vargs ++ Array.replicate (g.ntmps - vargs.size) undef, defers := [] } := by
      refine ⟨⟨hs, ?_, htop⟩, trivial⟩
      rw [g6, hargs.1]
      refine hargs.append ⟨by simp, fun i c v e1 e2 => ?_⟩
      have h1 : c = undefA := List.eq_of_mem_replicate (List.mem_of_getElem? e1)
      have h2 : v = undef := by
        rw [Array.getElem?_replicate] at e2
        split at e2
        · cases e2; rfl
        · cases e2
      rw [h1, h2]; exact undef_rep
    cases hrun : run T cb m none fn.body ⟨⟨args ++ List.replicate (fn.ntmps - args.length) undefA, H⟩, []⟩ with
    | none => rw [hrun] at h; cases h
    | some p =>
      obtain ⟨ex, r⟩ := p
      rw [hrun] at h
      refine (callsIn_wide (n := 0)).1 (callsIn_of_wp_marks g1 g3 trivial (run_sound hT hcb hm m none .wide c fn.body g4 _ ex r hrun S φ w _ rfl hI _ fun a' w' hR => ?_))
      obtain ⟨S', φ', k1, k2, k4⟩ := hR
      cases ex with
      | exit id => cases h
      | normal => exact leave_fn g5 h k1 k2 k4
      | ret => exact leave_fn g5 h k1 k2 k4
theorem callPure_ok (hT : TOK P T) (hm : P.follows .mixedOrders = true) {cb : Cb} (hcb : CbOK P cb) {m : Nat} {f : FuncId} {args : List AV} {H' : Heap} {t : AV} (h : pureR (callBody T m cb f args noH) = some (t, H')) : PuOK P f args t := by
  intro Sc w us hs hargs
  cases hb : callBody T m cb f args noH with
  | none => rw [hb] at h; cases h
  | some p =>
    obtain ⟨v, H1⟩ := p
    rw [hb] at h
    simp only [pureR] at h
    split at h
    · rename_i t' ids e1
      split at h
      · rename_i hnd
        cases h
        refine (callBody_ok hT hm hcb hb hs (fun _ _ => rfl) hargs).mono ?_
        rintro e w' ⟨vv, rfl, S', φ', adv, sim, rep, -, -⟩
        exact ⟨vv, rfl, v, H1, ids, S', φ', adv, sim, rep, e1, hnd⟩
      · cases h
    · cases h
theorem callRound_ok (hT : TOK P T) (hm : P.follows .mixedOrders = true) {cb : Cb} (hcb : CbOK P cb) {m : Nat} {id : Nat} {args : List AV} {H H' : Heap} {v : AV} (h : callRound T m cb id args H = some (v, H')) {S : Nat → Prop} {φ : Phi} {w : World} {vargs : Array Value} {loc : Loc} (hs : Sim P S φ (hget H) w) (htop : ∀ id, H.nx ≤ id → φ id = none) (hargs : Reps w S φ args vargs) (hφ : φ id = some loc) :
    ∃ fn tmps a b, (Instr.yield loc.blk vargs).run P w = .ok (.round loc.blk fn tmps a b) w ∧ RoundIn Fence.wide 0 P loc.blk fn tmps a b w fun e w' => ∃ vv, e = .returned vv ∧ Fin P S φ H w v H' vv w' := by
  unfold callRound at h
  split at h
  · rename_i env ps ia ib st pend d hb
    split at h
    · rename_i hlen
      obtain ⟨loc', g1, g2, -⟩ := hs.blk id _ hb
      rw [hφ] at g1; cases g1
      obtain ⟨r0, f1, f2, f3, f4, f5, f6, f7, ld, f8, f9⟩ := g2
      have hsz : vargs.size = r0.params.size := by rw [hargs.1, hlen, ← f3]; simp
      refine ⟨r0.fn, _, r0.assign, r0.body, run_yield f1 hsz, ?_⟩
      have henv : Reps w S φ (setPs env ps args) ((r0.params.zip vargs).foldl (fun tmps (t, a) => tmps.setIfInBounds t a) r0.tmps) := by
        have := setPs_rep (ps := ps) (us := vargs.toList) hlen f2 (by simpa using hargs)
        rw [← f3] at this ⊢
        have e : (r0.params.zip vargs).foldl (fun tmps (t, a) => tmps.setIfInBounds t a) r0.tmps = (r0.params.toList.zip vargs.toList).foldl (fun tmps (t, a) => tmps.setIfInBounds t a) r0.tmps := by
          rw [← Array.foldl_toList, Array.toList_zip]
        rw [e]; exact this
      split at h
      · rename_i r1 h1
        split at h
        · rename_i r2 h2
          split at h
          · rename_i ex r3 h3
            have hI : InvR P S φ w ⟨⟨setPs env ps args, H⟩, []⟩ { tmps := (r0.params.zip vargs).foldl (fun tmps (t, a) => tmps.setIfInBounds t a) r0.tmps, defers := [] } := ⟨⟨hs, henv, htop⟩, trivial⟩
            refine roundIn_of_wpIn trivial (run_sound hT hcb hm m (some id) _ r0.assign ia f4 _ _ _ h1 S φ w _ ⟨loc, hφ, rfl⟩ hI _ fun a1 w1 hR => ?_)
            obtain ⟨S1, φ1, k1, k2, k4⟩ := hR
            -- the round begins
            unfold enterR at h2
            split at h2
            · rename_i env' ps' a' b' pend' d' hb1
              cases h2
              have hφ1 := k2.phi _ _ hφ
              obtain ⟨loc', g1, g2, -⟩ := k1.inv.sim.blk id _ hb1
              rw [hφ1] at g1; cases g1
              obtain ⟨r01, e1, e2, e3, e4, e5, e6, e7, ld', e8, e9⟩ := g2
              have hbeg := run_beginRound (P := P) e1 e6
              obtain ⟨q1, q2⟩ := put_sim (P := P) (b' := some (.loop env' ps' a' b' .busy pend' d')) (o := .loop { r01 with state := .busy }) k1.inv.sim hb1 hφ1 (shape_loop e1) (fun x hx adv => by
                cases hx
                exact ⟨_, World.putObj_heap_same (k1.inv.sim.lt hb1 hφ1), adv.reps k1.inv.sim e2, e3, e4, e5, rfl, e7, ld', e8, e9⟩)
              rw [← hget_wr1 r1.st.H id _ 0] at q1 q2
              refine ⟨_, hbeg, ?_⟩
              have hI2 : InvR P S1 φ1 (w1.putObj loc.blk (.loop { r01 with state := .busy })) ⟨⟨r1.st.env, wrH r1.st.H [(id, some (.loop env' ps' a' b' .busy pend' d'))] 0⟩, r1.ds⟩ a1 :=
                ⟨⟨q2, q1.reps k1.inv.sim k1.inv.env, fun k hk => k1.inv.top k (Nat.le_trans (Nat.le_max_left _ _) hk)⟩, k1.mrk⟩
              refine run_sound hT hcb hm m (some id) _ r0.body ib f5 _ _ _ h3 S1 φ1 _ _ ⟨loc, hφ1, rfl⟩ hI2 _ fun a2 w2 hR2 => ?_
              obtain ⟨S2, φ2, l1, l2, l4⟩ := hR2
              have hφ2 := l2.phi _ _ hφ1
              have hall : Adv S φ (hget H) w S2 φ2 (hget r3.st.H) w2 := (k2.trans q1).trans l2
              have hnx : H.nx ≤ r3.st.H.nx := Nat.le_trans (Nat.le_trans k4 (Nat.le_max_left _ _)) l4
              unfold leaveR at h
              split at h
              · rename_i env3 ps3 a3 b3 pend3 d3 hb3
                obtain ⟨loc', g1, g2, -⟩ := l1.inv.sim.blk id _ hb3
                rw [hφ2] at g1; cases g1
                obtain ⟨r03, m1, m2, m3, m4, m5, m6, m7, ld3, m8, m9⟩ := g2
                have fin : ∀ (st' : LoopState) (pend' : Ex), Fin P S φ H w v (wrH r3.st.H [(id, some (.loop env3 ps3 a3 b3 st' pend' d3))] 0) (.bool (pend'.code.isNone)) (w2.putObj loc.blk (.loop { r03 with state := st', pending := pend'.code })) ∨ v ≠ .bool pend'.code.isNone := by
                  intro st' pend'
                  by_cases hv : v = .bool pend'.code.isNone
                  · subst hv
                    obtain ⟨q1, q2⟩ := put_sim (P := P) (b' := some (.loop env3 ps3 a3 b3 st' pend' d3)) (o := .loop { r03 with state := st', pending := pend'.code }) l1.inv.sim hb3 hφ2 (shape_loop m1) (fun x hx adv => by
                      cases hx
                      exact ⟨_, World.putObj_heap_same (l1.inv.sim.lt hb3 hφ2), adv.reps l1.inv.sim m2, m3, m4, m5, rfl, rfl, ld3, m8, m9⟩)
                    rw [← hget_wr1 r3.st.H id _ 0] at q1 q2
                    exact .inl ⟨S2, φ2, hall.trans q1, q2, .bool, fun k hk => l1.inv.top k (Nat.le_trans (Nat.le_max_left _ _) hk), Nat.le_trans hnx (Nat.le_max_left _ _)⟩
                  · exact .inr hv
                cases ex with
                | normal =>
                  cases h
                  exact ⟨_, _, run_endRound none m1, _, rfl, (fin .ready .normal).resolve_right (by simp [Ex.code])⟩
                | ret =>
                  cases h
                  exact ⟨_, _, run_endRound (some .ret) m1, _, rfl, (fin .done .ret).resolve_right (by simp [Ex.code])⟩
                | exit id' =>
                  cases h
                  exact ⟨_, _, run_endRound (some (.exit id')) m1, _, rfl, (fin .done (.exit id')).resolve_right (by simp [Ex.code])⟩
              · cases h
            · cases h2
          · cases h
        · cases h
      · cases h
    · cases h
  · cases h
/-! What is known of calls already -/
theorem eq0_eq {a b : AV} (h : eq0 a b = true) : a = b := by
  unfold eq0 at h
  split at h <;> simp at h <;> simp_all
theorem eqLs_eq {α : Type} {f : α → α → Bool} (hf : ∀ a b, f a b = true → a = b) : ∀ {as bs : List α}, eqLs f as bs = true → as = bs
  | [], [], _ => rfl
  | a :: as, b :: bs, h => by
    simp only [eqLs, Bool.and_eq_true] at h
    rw [hf a b h.1, eqLs_eq hf h.2]
  | [], _ :: _, h => by simp [eqLs] at h
  | _ :: _, [], h => by simp [eqLs] at h
theorem eqD_eq : ∀ {d : Nat} {a b : AV}, eqD d a b = true → a = b
  | 0, a, b, h => eq0_eq h
  | d + 1, a, b, h => by
    have ih : ∀ a b, eqD d a b = true → a = b := fun a b => eqD_eq
    simp only [eqD] at h
    split at h
    · rw [eqLs_eq ih h]
    · rw [eqLs_eq ih h]
    · simp only [Bool.and_eq_true, beq_iff_eq] at h
      rw [h.1, eqLs_eq (fun a b => eqLs_eq ih) h.2]
    · simp only [Bool.and_eq_true, beq_iff_eq] at h
      rw [h.1, eqLs_eq (fun a b => eqLs_eq ih) h.2]
    · simp only [Bool.and_eq_true, beq_iff_eq] at h
      rw [h.1.1, eqLs_eq ih h.1.2, eqLs_eq ih h.2]
    · exact eq0_eq h
def MemosOK (P : Program) (L : List Memo) : Prop := ∀ k ∈ L, PuOK P k.f k.args k.t
theorem findM_ok {f : FuncId} {args : List AV} {t : AV} : ∀ {L : List Memo}, MemosOK P L → findM f args L = some t → PuOK P f args t
  | [], _, h => by cases h
  | k :: ks, hL, h => by
    simp only [findM] at h
    split at h
    · rename_i hc
      cases h
      simp only [Bool.and_eq_true, beq_iff_eq] at hc
      have := hL k (by simp)
      rwa [hc.1, eqLs_eq (fun a b => eqD_eq) hc.2] at this
    · exact findM_ok (fun k hk => hL k (by simp [hk])) h
theorem callFn_ok (hT : TOK P T) (hm : P.follows .mixedOrders = true) (m : Nat) {L : List Memo} (hL : MemosOK P L) : ∀ n, CbOK P (callFn T m L n)
  | 0 => ⟨fun f args H v H' h => (by cases h), fun f args H v H' h => (by cases h), fun id args H v H' h => (by cases h)⟩
  | n + 1 => by
    have hcb := callFn_ok hT hm m hL n
    refine ⟨fun f args H v H' h S φ w vargs hs htop hargs => callBody_ok hT hm hcb h hs htop hargs, fun f args H t H' h => ?_, fun id args H v H' h S φ w vargs loc hs htop hargs hφ => callRound_ok hT hm hcb h hs htop hargs hφ⟩
    simp only [callFn] at h
    split at h
    · rename_i t' e1; cases h; exact findM_ok hL e1
    · exact callPure_ok hT hm hcb h
end Go.V
/- What data and known values stand for among the evaluator's values. -/
set_option linter.unusedVariables false
set_option linter.unusedSimpArgs false
namespace Go.Q
open Go.V

/-! Pointwise -/
inductive F2 {α β : Type} (R : α → β → Prop) : List α → List β → Prop
  | nil : F2 R [] []
  | cons {a : α} {b : β} {as : List α} {bs : List β} : R a b → F2 R as bs → F2 R (a :: as) (b :: bs)
section
variable {α β : Type} {R S : α → β → Prop}
theorem F2.len : ∀ {as : List α} {bs : List β}, F2 R as bs → as.length = bs.length
  | _, _, .nil => rfl
  | _, _, .cons _ h => by simp [h.len]
theorem F2.get : ∀ {as : List α} {bs : List β}, F2 R as bs → ∀ {i : Nat} {a : α}, as[i]? = some a → ∃ b, bs[i]? = some b ∧ R a b
  | _, _, .cons h t, 0, a, e => by cases e; exact ⟨_, rfl, h⟩
  | _, _, .cons h t, i + 1, a, e => by simpa using t.get (i := i) (by simpa using e)
theorem F2.getr : ∀ {as : List α} {bs : List β}, F2 R as bs → ∀ {i : Nat} {b : β}, bs[i]? = some b → ∃ a, as[i]? = some a ∧ R a b
  | _, _, .cons h t, 0, a, e => by cases e; exact ⟨_, rfl, h⟩
  | _, _, .cons h t, i + 1, a, e => by simpa using t.getr (i := i) (by simpa using e)
theorem F2.of_get : ∀ {as : List α} {bs : List β}, as.length = bs.length → (∀ (i : Nat) a b, as[i]? = some a → bs[i]? = some b → R a b) → F2 R as bs
  | [], [], _, _ => .nil
  | a :: as, b :: bs, hl, h => .cons (h 0 a b rfl rfl) (F2.of_get (by simpa using hl) fun i a b h1 h2 => h (i + 1) a b (by simpa using h1) (by simpa using h2))
theorem F2.mono (hRS : ∀ a b, R a b → S a b) : ∀ {as : List α} {bs : List β}, F2 R as bs → F2 S as bs
  | _, _, .nil => .nil
  | _, _, .cons h t => .cons (hRS _ _ h) (t.mono hRS)
theorem F2.monoMem : ∀ {as : List α} {bs : List β}, (∀ a ∈ as, ∀ b ∈ bs, R a b → S a b) → F2 R as bs → F2 S as bs
  | _, _, _, .nil => .nil
  | _, _, hRS, .cons h t => .cons (hRS _ (by simp) _ (by simp) h) (t.monoMem fun a ha b hb => hRS a (by simp [ha]) b (by simp [hb]))
theorem F2.append : ∀ {as cs : List α} {bs ds : List β}, F2 R as bs → F2 R cs ds → F2 R (as ++ cs) (bs ++ ds)
  | _, _, _, _, .nil, h => h
  | _, _, _, _, .cons h t, h' => .cons h (t.append h')
theorem F2.take : ∀ {as : List α} {bs : List β} (n : Nat), F2 R as bs → F2 R (as.take n) (bs.take n)
  | _, _, _, .nil => by simpa using F2.nil
  | _, _, 0, .cons h t => .nil
  | _, _, n + 1, .cons h t => .cons h (t.take n)
theorem F2.drop : ∀ {as : List α} {bs : List β} (n : Nat), F2 R as bs → F2 R (as.drop n) (bs.drop n)
  | _, _, _, .nil => by simpa using F2.nil
  | _, _, 0, .cons h t => .cons h t
  | _, _, n + 1, .cons h t => by simpa using t.drop n
theorem F2.set {a : α} {b : β} (hab : R a b) : ∀ {as : List α} {bs : List β} (n : Nat), F2 R as bs → F2 R (as.set n a) (bs.set n b)
  | _, _, _, .nil => by simpa using F2.nil
  | _, _, 0, .cons h t => .cons hab t
  | _, _, n + 1, .cons h t => .cons h (t.set hab n)
theorem F2.replicate {a : α} {b : β} (hab : R a b) : ∀ n, F2 R (List.replicate n a) (List.replicate n b)
  | 0 => .nil
  | n + 1 => .cons hab (F2.replicate hab n)
theorem F2.single {a : α} {b : β} (h : R a b) : F2 R [a] [b] := .cons h .nil
theorem F2.map {γ δ : Type} {Q : γ → δ → Prop} {f : α → γ} {g : β → δ} (h : ∀ a b, R a b → Q (f a) (g b)) : ∀ {as : List α} {bs : List β}, F2 R as bs → F2 Q (as.map f) (bs.map g)
  | _, _, .nil => .nil
  | _, _, .cons x t => .cons (h _ _ x) (t.map h)
theorem F2.inv_nil {bs : List β} (h : F2 R [] bs) : bs = [] := by cases h; rfl
theorem F2.inv_cons {a : α} {as : List α} {bs : List β} (h : F2 R (a :: as) bs) : ∃ b t, bs = b :: t ∧ R a b ∧ F2 R as t := by cases h with | cons h t => exact ⟨_, _, rfl, h, t⟩
theorem F2.inv_app : ∀ {as cs : List α} {bs : List β}, F2 R (as ++ cs) bs → ∃ x y, bs = x ++ y ∧ F2 R as x ∧ F2 R cs y
  | [], _, bs, h => ⟨[], bs, rfl, .nil, h⟩
  | a :: as, cs, bs, h => by
    obtain ⟨b, t, rfl, h1, h2⟩ := F2.inv_cons h
    obtain ⟨x, y, rfl, h3, h4⟩ := F2.inv_app h2
    exact ⟨b :: x, y, rfl, .cons h1 h3, h4⟩
end

/-! Data -/
/-- Data, as values that lie in no memory of one's own. -/
inductive RD : D → AV → Prop
  | int {k : IntKind} {n : Int} : RD (.int k n) (.int k n)
  | bool {b : Bool} : RD (.bool b) (.bool b)
  | str {s : ByteArray} : RD (.str s) (.str s)
  | nilP : RD .nilP .nilP
  | nilF : RD .nilF .nilF
  | node {ds : List D} {as : List AV} (h : F2 RD ds as) : RD (.node ds) (.agg as)
  | nilS : RD (.list []) .nilS
  | emp {z : Bool} : RD (.list []) (.emp z)
  | lst {sz : Nat} {xs : List (List D)} {as : List (List AV)} (hne : xs ≠ []) (hs : ∀ y ∈ as, y.length = sz ∧ y.all AV.one = true) (h : F2 (F2 RD) xs as) : RD (.list xs) (.lst sz as)
  | fn {f : FuncId} {a b : List D} {as bs : List AV} (h : F2 RD a as) (h' : F2 RD b bs) (hf : as.all AV.flat = true ∧ bs.all AV.flat = true) : RD (.fn f a b) (.fn f as bs)
abbrev Frz := Nat → Option (Nat × List (List AV))
/-- Data, parts of which lie in memory that nobody writes any more. -/
inductive RO (Φ : Frz) (A : Nat → Prop) : D → AV → Prop
  | b {d : D} {a : AV} (h : RD d a) : RO Φ A d a
  | own {id off sz : Nat} {rows : List (List AV)} {xs : List (List D)} (hΦ : Φ id = some (sz, rows)) (hA : A id) (hl : off + xs.length ≤ rows.length) (hs : ∀ y ∈ rows, y.length = sz ∧ y.all AV.one = true)
      (h : F2 (F2 (RO Φ A)) xs ((rows.drop off).take xs.length)) : RO Φ A (.list xs) (.own id off xs.length)
/-- Where a block lies: its place (none: nowhere, as it is empty), from which element on, how many elements; its root. -/
structure Pl where
  idc : Option Nat
  off : Nat
  len : Nat
  rt : Nat
structure Cx where
  Φ : Frz
  F0 : Nat → Prop
  ψ : Nat → Option Pl
  κ : List Nat
  ρ : List D
def Cx.okr (c : Cx) (rs : List Nat) (id : Nat) : Prop := c.F0 id ∨ ∃ s p, c.ψ s = some p ∧ p.idc = some id ∧ p.rt ∈ rs
/-- What a known value stands for. -/
inductive Cv (c : Cx) : SV → AV → Prop
  | e {x : E} {a : AV} (hx : x.upto c.ρ.length = true) (h : RD (x.den c.ρ) a) (h1 : a.one = true) : Cv c (.e x) a
  | fz {x : E} {rs : List Nat} {a : AV} (hx : x.upto c.ρ.length = true) (h : RO c.Φ (c.okr rs) (x.den c.ρ) a) (h1 : a.one = true) : Cv c (.fz x rs) a
  | agg {cs : List SV} {as : List AV} (h : F2 (Cv c) cs as) (h1 : as.all AV.one = true) : Cv c (.agg cs) (.agg as)
  | tup {cs : List SV} {as : List AV} (h : F2 (Cv c) cs as) : Cv c (.tup cs) (.tup as)
  | own {id x : Nat} {p : Pl} (hp : c.ψ id = some p) (hx : p.idc = some x) : Cv c (.own id) (.own x p.off p.len)
  | ownE {id : Nat} {p : Pl} {a : AV} (hp : c.ψ id = some p) (hl : p.len = 0) (ha : a = .nilS ∨ a = .emp true) : Cv c (.own id) a
  | nil : Cv c .nil .nilS
  | ptr {id j x : Nat} {p : Pl} (hp : c.ψ id = some p) (hx : p.idc = some x) : Cv c (.ptr id j) (.ptr x 0 j)
  | ptrO {id j x : Nat} {p : Pl} {i : E} {k : IntKind} {n : Int} (hp : c.ψ id = some p) (hx : p.idc = some x) (hi : i.upto c.ρ.length = true) (hn : i.den c.ρ = .int k n) (h0 : 0 ≤ n) (hl : n.toNat < p.len) :
      Cv c (.ptrO id i j) (.ptr x (p.off + n.toNat) j)
  | sufO {id : Nat} {lo : E} {p : Pl} {k : IntKind} {n : Int} {a : AV} (hp : c.ψ id = some p) (hi : lo.upto c.ρ.length = true) (hn : lo.den c.ρ = .int k n) (h0 : 0 ≤ n) (hl : n.toNat ≤ p.len)
      (ha : (∃ x, p.idc = some x ∧ a = .own x (p.off + n.toNat) (p.len - n.toNat)) ∨ (n.toNat = p.len ∧ (a = .nilS ∨ ∃ z, a = .emp z))) : Cv c (.sufO id lo) a
  | ptrE {x i : E} {j sz : Nat} {rs : Option (List Nat)} {xs : List (List D)} {rows : List (List AV)} {k : IntKind} {n : Int} (hx : x.upto c.ρ.length = true) (hi : i.upto c.ρ.length = true) (hd : x.den c.ρ = .list xs)
      (hn : i.den c.ρ = .int k n) (h0 : 0 ≤ n) (hl : n.toNat < xs.length) (hs : ∀ y ∈ rows, y.length = sz ∧ y.all AV.one = true) (h : F2 (F2 RD) xs rows) : Cv c (.ptrE x i j rs) (.ptrL sz rows n.toNat j)
  | ptrF {x i : E} {j sz id off : Nat} {rs : List Nat} {xs : List (List D)} {rows : List (List AV)} {k : IntKind} {n : Int} (hx : x.upto c.ρ.length = true) (hi : i.upto c.ρ.length = true) (hd : x.den c.ρ = .list xs)
      (hn : i.den c.ρ = .int k n) (h0 : 0 ≤ n) (hl : n.toNat < xs.length) (hΦ : c.Φ id = some (sz, rows)) (hA : c.okr rs id) (hl' : off + xs.length ≤ rows.length) (hs : ∀ y ∈ rows, y.length = sz ∧ y.all AV.one = true)
      (h : F2 (F2 (RO c.Φ (c.okr rs))) xs ((rows.drop off).take xs.length)) : Cv c (.ptrE x i j (some rs)) (.ptr id (off + n.toNat) j)
  | fn {f : FuncId} {a b : List SV} {as bs : List AV} (h : F2 (Cv c) a as) (h' : F2 (Cv c) b bs) : Cv c (.fn f a b) (.fn f as bs)
  | yld {k id : Nat} (h : c.κ[k]? = some id) : Cv c (.yld k) (.yld id)
  | unk {a : AV} : Cv c .unk a

/-! More is known -/
mutual
theorem E.den_app {n : Nat} {ρ e : List D} (hn : n ≤ ρ.length) : ∀ {x : E}, x.upto n = true → x.den (ρ ++ e) = x.den ρ
  | .v k, h => by
    have : k < ρ.length := by have := of_decide_eq_true h; omega
    simp [E.den, List.getD_eq_getElem?_getD, List.getElem?_append_left this]
  | .c d, _ => rfl
  | .cell x j, h => by simp [E.den, E.den_app hn (x := x) h]
  | .node xs, h => by simp [E.den, denL_app hn (xs := xs) h]
  | .fn f a b, h => by
    simp only [E.upto, Bool.and_eq_true] at h
    simp [E.den, denL_app hn (xs := a) h.1, denL_app hn (xs := b) h.2]
theorem denL_app {n : Nat} {ρ e : List D} (hn : n ≤ ρ.length) : ∀ {xs : List E}, uptoL n xs = true → denL (ρ ++ e) xs = denL ρ xs
  | [], _ => rfl
  | x :: xs, h => by
    simp only [uptoL, Bool.and_eq_true] at h
    simp [denL, E.den_app hn (x := x) h.1, denL_app hn (xs := xs) h.2]
end
mutual
theorem E.upto_mono {n m : Nat} (hn : n ≤ m) : ∀ {x : E}, x.upto n = true → x.upto m = true
  | .v k, h => by have := of_decide_eq_true h; exact decide_eq_true (by omega)
  | .c d, _ => rfl
  | .cell x j, h => E.upto_mono hn (x := x) h
  | .node xs, h => uptoL_mono hn (xs := xs) h
  | .fn f a b, h => by
    simp only [E.upto, Bool.and_eq_true] at h ⊢
    exact ⟨uptoL_mono hn (xs := a) h.1, uptoL_mono hn (xs := b) h.2⟩
theorem uptoL_mono {n m : Nat} (hn : n ≤ m) : ∀ {xs : List E}, uptoL n xs = true → uptoL m xs = true
  | [], _ => rfl
  | x :: xs, h => by
    simp only [uptoL, Bool.and_eq_true] at h ⊢
    exact ⟨E.upto_mono hn (x := x) h.1, uptoL_mono hn (xs := xs) h.2⟩
end
structure Cx.le (c c' : Cx) : Prop where
  Φ : ∀ id x, c.Φ id = some x → c'.Φ id = some x
  F0 : c'.F0 = c.F0
  ψ : ∀ id p, c.ψ id = some p → c'.ψ id = some p
  κ : c'.κ = c.κ
  ρ : ∃ e, c'.ρ = c.ρ ++ e
theorem Cx.le.refl (c : Cx) : c.le c := ⟨fun _ _ h => h, rfl, fun _ _ h => h, rfl, [], by simp⟩
theorem Cx.le.trans {a b c : Cx} (h : a.le b) (h' : b.le c) : a.le c :=
  ⟨fun i x e => h'.Φ i x (h.Φ i x e), h'.F0.trans h.F0, fun i x e => h'.ψ i x (h.ψ i x e), h'.κ.trans h.κ, by
    obtain ⟨e, h1⟩ := h.ρ; obtain ⟨e', h2⟩ := h'.ρ; exact ⟨e ++ e', by rw [h2, h1, List.append_assoc]⟩⟩
theorem Cx.le.len {c c' : Cx} (h : c.le c') : c.ρ.length ≤ c'.ρ.length := by obtain ⟨e, h1⟩ := h.ρ; rw [h1]; simp
theorem Cx.le.den {c c' : Cx} (h : c.le c') {x : E} (hx : x.upto c.ρ.length = true) : x.den c'.ρ = x.den c.ρ := by
  obtain ⟨e, h1⟩ := h.ρ; rw [h1]; exact E.den_app (Nat.le_refl _) hx
theorem Cx.le.denL {c c' : Cx} (h : c.le c') {xs : List E} (hx : uptoL c.ρ.length xs = true) : Go.Q.denL c'.ρ xs = Go.Q.denL c.ρ xs := by
  obtain ⟨e, h1⟩ := h.ρ; rw [h1]; exact denL_app (Nat.le_refl _) hx
theorem Cx.le.upto {c c' : Cx} (h : c.le c') {x : E} (hx : x.upto c.ρ.length = true) : x.upto c'.ρ.length = true := E.upto_mono h.len hx
theorem Cx.le.okr {c c' : Cx} (h : c.le c') {rs : List Nat} {id : Nat} (hx : c.okr rs id) : c'.okr rs id := by
  rcases hx with h1 | ⟨s, p, h1, h2, h3⟩
  · exact .inl (by rw [h.F0]; exact h1)
  · exact .inr ⟨s, p, h.ψ _ _ h1, h2, h3⟩
mutual
theorem RO.mono {Φ Φ' : Frz} {A A' : Nat → Prop} (hΦ : ∀ id x, Φ id = some x → Φ' id = some x) (hA : ∀ id, A id → A' id) : ∀ {d : D} {a : AV}, RO Φ A d a → RO Φ' A' d a
  | _, _, .b h => .b h
  | _, _, .own h1 h2 h3 h4 h5 => .own (hΦ _ _ h1) (hA _ h2) h3 h4 (RO.monoLL hΦ hA h5)
theorem RO.monoL {Φ Φ' : Frz} {A A' : Nat → Prop} (hΦ : ∀ id x, Φ id = some x → Φ' id = some x) (hA : ∀ id, A id → A' id) : ∀ {d : List D} {a : List AV}, F2 (RO Φ A) d a → F2 (RO Φ' A') d a
  | _, _, .nil => .nil
  | _, _, .cons h t => .cons (RO.mono hΦ hA h) (RO.monoL hΦ hA t)
theorem RO.monoLL {Φ Φ' : Frz} {A A' : Nat → Prop} (hΦ : ∀ id x, Φ id = some x → Φ' id = some x) (hA : ∀ id, A id → A' id) : ∀ {d : List (List D)} {a : List (List AV)}, F2 (F2 (RO Φ A)) d a → F2 (F2 (RO Φ' A')) d a
  | _, _, .nil => .nil
  | _, _, .cons h t => .cons (RO.monoL hΦ hA h) (RO.monoLL hΦ hA t)
end
mutual
theorem Cv.mono {c c' : Cx} (h : c.le c') : ∀ {v : SV} {a : AV}, Cv c v a → Cv c' v a
  | _, _, .e hx h1 h2 => .e (h.upto hx) (by rw [h.den hx]; exact h1) h2
  | _, _, .fz hx h1 h2 => .fz (h.upto hx) (by rw [h.den hx]; exact h1.mono h.Φ fun id => h.okr) h2
  | _, _, .agg h1 h2 => .agg (Cv.monoL h h1) h2
  | _, _, .tup h1 => .tup (Cv.monoL h h1)
  | _, _, .own h1 h2 => .own (h.ψ _ _ h1) h2
  | _, _, .ownE h1 h2 h3 => .ownE (h.ψ _ _ h1) h2 h3
  | _, _, .nil => .nil
  | _, _, .ptr h1 h2 => .ptr (h.ψ _ _ h1) h2
  | _, _, .ptrO h1 h2 hi h3 h4 h5 => .ptrO (h.ψ _ _ h1) h2 (h.upto hi) (by rw [h.den hi]; exact h3) h4 h5
  | _, _, .sufO h1 hi h3 h4 h5 ha => .sufO (h.ψ _ _ h1) (h.upto hi) (by rw [h.den hi]; exact h3) h4 h5 ha
  | _, _, .ptrE hx hi h1 h2 h3 h4 h5 h6 => .ptrE (h.upto hx) (h.upto hi) (by rw [h.den hx]; exact h1) (by rw [h.den hi]; exact h2) h3 h4 h5 h6
  | _, _, .ptrF hx hi h1 h2 h3 h4 h5 h6 h7 h8 h9 => .ptrF (h.upto hx) (h.upto hi) (by rw [h.den hx]; exact h1) (by rw [h.den hi]; exact h2) h3 h4 (h.Φ _ _ h5) (h.okr h6) h7 h8 (RO.monoLL h.Φ (fun id => h.okr) h9)
  | _, _, .fn h1 h2 => .fn (Cv.monoL h h1) (Cv.monoL h h2)
  | _, _, .yld h1 => .yld (by rw [h.κ]; exact h1)
  | _, _, .unk => .unk
theorem Cv.monoL {c c' : Cx} (h : c.le c') : ∀ {v : List SV} {a : List AV}, F2 (Cv c) v a → F2 (Cv c') v a
  | _, _, .nil => .nil
  | _, _, .cons h1 t => .cons (Cv.mono h h1) (Cv.monoL h t)
end
end Go.Q
/- How a state that is known in part stands to the evaluator's state. -/
set_option linter.unusedVariables false
set_option linter.unusedSimpArgs false
namespace Go.Q
open Go.V

/-- What waits, in the evaluator's terms: the slots of a caller; the record of a loop over a function. -/
inductive FC where
  | call (as : List AV)
  | rng (id : Nat) (as : List AV) (ps : List Nat) (a b : IC) (d : Nat)
def RF (c : Cx) (H : Heap) (fr : Fr) : FC → Prop
  | .call as => F2 (Cv c) fr.env as
  | .rng id as ps a b d => hget H id = some (.loop as ps a b fr.st fr.pend d) ∧ F2 (Cv c) fr.env as
/-- Cells of a list. -/
def Rk (c : Cx) : Option (List Nat) → D → AV → Prop
  | none => RD
  | some rs => RO c.Φ (c.okr rs)
def BOK (c : Cx) (H : Heap) (p : Pl) : SB → Prop
  | .cells cs => ∃ x as, p.idc = some x ∧ hget H x = some (.row cs.length [as]) ∧ F2 (Cv c) cs as ∧ as.all AV.one = true
  | .list sz x dp => ∃ xs, x.upto c.ρ.length = true ∧ x.den c.ρ = .list xs ∧ xs.length = p.len ∧ (p.idc = none → p.len = 0) ∧
      ∀ y, p.idc = some y → ∃ rows, hget H y = some (.row sz rows) ∧ p.off + p.len ≤ rows.length ∧ (∀ r ∈ rows, r.length = sz ∧ r.all AV.one = true) ∧ F2 (F2 (Rk c dp)) xs ((rows.drop p.off).take p.len)
def rngIds : List FC → List Nat
  | [] => []
  | .call _ :: K => rngIds K
  | .rng id _ _ _ _ _ :: K => id :: rngIds K
structure Rel (c : Cx) (S : SS) (env : List AV) (H : Heap) (K : List FC) (mk : List Nat) : Prop where
  n : S.n = c.ρ.length
  env : F2 (Cv c) S.env env
  stk : F2 (RF c H) S.stk K
  hlen : ∀ id p, c.ψ id = some p → id < S.heap.length
  heap : ∀ id h, S.heap[id]? = some h → ∃ p, c.ψ id = some p ∧ p.rt = h.rt ∧ ∀ b, h.b = some b → BOK c H p b ∧ ∀ x, p.idc = some x → c.Φ x = none
  inj : ∀ i i' p p' x b b', bget S.heap i = some b → bget S.heap i' = some b' → c.ψ i = some p → c.ψ i' = some p' → p.idc = some x → p'.idc = some x → i = i'
  rt : ∀ i i' p p' x, c.ψ i = some p → c.ψ i' = some p' → p.idc = some x → p'.idc = some x → p.rt = p'.rt
  bnd : ∀ i p x, c.ψ i = some p → p.idc = some x → x < H.nx
  frz : ∀ x sz rows, c.Φ x = some (sz, rows) → hget H x = some (.row sz rows) ∧ x < H.nx
  f0 : ∀ x, c.F0 x → c.Φ x ≠ none
  rngs : (rngIds K).Nodup ∧ ∀ id ∈ rngIds K, id < H.nx
  mks : mk.Nodup ∧ ∀ d ∈ mk, hget H d = some .mark ∧ d < H.nx

variable {c c' : Cx} {S : SS} {env : List AV} {H H' : Heap} {K : List FC} {mk : List Nat}
theorem Rk.mono (h : c.le c') {dp : Option (List Nat)} {d : D} {a : AV} (hk : Rk c dp d a) : Rk c' dp d a := by
  cases dp with
  | none => exact hk
  | some rs => exact RO.mono h.Φ (fun _ => h.okr) hk
theorem BOK.mono (h : c.le c') {p : Pl} {b : SB} (hb : BOK c H p b) : BOK c' H p b := by
  cases b with
  | cells cs => obtain ⟨x, as, h1, h2, h3, h4⟩ := hb; exact ⟨x, as, h1, h2, Cv.monoL h h3, h4⟩
  | list sz x dp =>
    obtain ⟨xs, h1, h2, h3, h4, h5⟩ := hb
    refine ⟨xs, h.upto h1, by rw [h.den h1]; exact h2, h3, h4, fun y hy => ?_⟩
    obtain ⟨rows, g1, g2, g3, g4⟩ := h5 y hy
    exact ⟨rows, g1, g2, g3, g4.mono fun _ _ => F2.mono fun _ _ => Rk.mono h⟩
theorem BOK.mem {p : Pl} {b : SB} (hb : BOK c H p b) (hk : ∀ x, p.idc = some x → hget H' x = hget H x) : BOK c H' p b := by
  cases b with
  | cells cs => obtain ⟨x, as, h1, h2, h3, h4⟩ := hb; exact ⟨x, as, h1, by rw [hk x h1]; exact h2, h3, h4⟩
  | list sz x dp =>
    obtain ⟨xs, h1, h2, h3, h4, h5⟩ := hb
    refine ⟨xs, h1, h2, h3, h4, fun y hy => ?_⟩
    obtain ⟨rows, g1, g2⟩ := h5 y hy
    exact ⟨rows, by rw [hk y hy]; exact g1, g2⟩
theorem BOK.row {p : Pl} {b : SB} (hb : BOK c H p b) {x : Nat} (hx : p.idc = some x) : ∃ s rows, hget H x = some (.row s rows) := by
  cases b with
  | cells cs => obtain ⟨y, as, h1, h2, h3, h4⟩ := hb; rw [hx] at h1; cases h1; exact ⟨_, _, h2⟩
  | list sz x dp => obtain ⟨xs, h1, h2, h3, h4, h5⟩ := hb; obtain ⟨rows, g1, -⟩ := h5 _ hx; exact ⟨_, _, g1⟩
theorem RF.mono (h : c.le c') {fr : Fr} {k : FC} (hf : RF c H fr k) : RF c' H fr k := by
  cases k with
  | call as => exact Cv.monoL h hf
  | rng id as ps a b d => exact ⟨hf.1, Cv.monoL h hf.2⟩
theorem RF.memL : ∀ {frs : List Fr} {K : List FC}, (∀ id ∈ rngIds K, hget H' id = hget H id) → F2 (RF c H) frs K → F2 (RF c H') frs K
  | _, _, _, .nil => .nil
  | _, .call as :: K, hk, .cons h t => .cons h (RF.memL (K := K) (fun id hid => hk id (by simpa [rngIds] using hid)) t)
  | _, .rng id as ps a b d :: K, hk, .cons h t => .cons ⟨by rw [hk id (by simp [rngIds])]; exact h.1, h.2⟩ (RF.memL (K := K) (fun id hid => hk id (by simp [rngIds, hid])) t)
theorem rng_at : ∀ {frs : List Fr} {K : List FC}, F2 (RF c H) frs K → ∀ id ∈ rngIds K, ∃ as ps a b st pd d, hget H id = some (.loop as ps a b st pd d)
  | _, _, .nil, _, h => by cases h
  | _, .call as :: K, .cons h t, id, hid => rng_at t id (by simpa [rngIds] using hid)
  | _, .rng i as ps a b d :: K, .cons h t, id, hid => by
    simp only [rngIds, List.mem_cons] at hid
    rcases hid with rfl | hid
    · exact ⟨_, _, _, _, _, _, _, h.1⟩
    · exact rng_at t id hid
theorem bget_some {heap : List HB} {i : Nat} {b : SB} : bget heap i = some b ↔ ∃ h, heap[i]? = some h ∧ h.b = some b := by
  unfold bget
  constructor
  · intro h
    split at h
    · rename_i r b' e; cases h; exact ⟨_, e, rfl⟩
    · cases h
  · rintro ⟨⟨r, b'⟩, h1, h2⟩
    simp only at h2; subst h2; rw [h1]
theorem Rel.blk (r : Rel c S env H K mk) {i : Nat} {b : SB} (hb : bget S.heap i = some b) : ∃ p, c.ψ i = some p ∧ p.rt = rtOf S.heap i ∧ BOK c H p b ∧ ∀ x, p.idc = some x → c.Φ x = none := by
  obtain ⟨h, h1, h2⟩ := bget_some.1 hb
  obtain ⟨p, g1, g2, g3⟩ := r.heap i h h1
  exact ⟨p, g1, by simp [rtOf, h1, g2], (g3 b h2).1, (g3 b h2).2⟩
/-- Memory changes where nothing is known of it, or at blocks that are told anew. -/
theorem Rel.mem {heap' : List HB} (r : Rel c S env H K mk) (hle : c.le c') (hρ : c'.ρ = c.ρ) (W : Nat → Prop)
    (hW : ∀ x, W x → ∃ i p b, bget S.heap i = some b ∧ c.ψ i = some p ∧ p.idc = some x)
    (hk : ∀ x, x < H.nx → ¬ W x → hget H' x = hget H x) (hnx : H.nx ≤ H'.nx)
    (hlen : ∀ id p, c'.ψ id = some p → id < heap'.length)
    (heap : ∀ id h, heap'[id]? = some h → ∃ p, c'.ψ id = some p ∧ p.rt = h.rt ∧ ∀ b, h.b = some b → BOK c' H' p b ∧ ∀ x, p.idc = some x → c'.Φ x = none)
    (inj : ∀ i i' p p' x b b', bget heap' i = some b → bget heap' i' = some b' → c'.ψ i = some p → c'.ψ i' = some p' → p.idc = some x → p'.idc = some x → i = i')
    (rt : ∀ i i' p p' x, c'.ψ i = some p → c'.ψ i' = some p' → p.idc = some x → p'.idc = some x → p.rt = p'.rt)
    (bnd : ∀ i p x, c'.ψ i = some p → p.idc = some x → x < H'.nx)
    (frz : ∀ x sz rows, c'.Φ x = some (sz, rows) → c.Φ x = none → hget H' x = some (.row sz rows) ∧ x < H'.nx) :
    Rel c' { S with heap := heap' } env H' K mk := by
  have hrow : ∀ x, W x → ∃ s rows, hget H x = some (.row s rows) := fun x hx => by
    obtain ⟨i, p, b, h1, h2, h3⟩ := hW x hx
    obtain ⟨p', g1, g2, g3, g4⟩ := r.blk h1
    rw [h2] at g1; cases g1
    exact g3.row h3
  have hrng : ∀ id ∈ rngIds K, hget H' id = hget H id := fun id hid => hk id (r.rngs.2 id hid) fun hw => by
    obtain ⟨s, rows, e⟩ := hrow id hw
    obtain ⟨as, ps, a, b, st, pd, d, e'⟩ := rng_at r.stk id hid
    rw [e] at e'; cases e'
  refine ⟨by rw [hρ]; exact r.n, Cv.monoL hle r.env, RF.memL hrng (r.stk.mono fun _ _ => RF.mono hle), hlen, heap, inj, rt, bnd, fun x sz rows hx => ?_, fun x hx => ?_, ⟨r.rngs.1, fun id hid => Nat.lt_of_lt_of_le (r.rngs.2 id hid) hnx⟩, r.mks.1, fun d hd => ?_⟩
  · cases e : c.Φ x with
    | none => exact frz x sz rows hx e
    | some y =>
      have := hle.Φ x y e
      rw [hx] at this; cases this
      obtain ⟨g1, g2⟩ := r.frz x sz rows e
      refine ⟨?_, Nat.lt_of_lt_of_le g2 hnx⟩
      rw [hk x g2 fun hw => by
        obtain ⟨i, p, b, h1, h2, h3⟩ := hW x hw
        obtain ⟨p', q1, q2, q3, q4⟩ := r.blk h1
        rw [h2] at q1; cases q1
        rw [q4 x h3] at e; cases e]
      exact g1
  · rw [hle.F0] at hx
    have := r.f0 x hx
    cases e : c.Φ x with
    | none => exact absurd e this
    | some y => rw [hle.Φ x y e]; simp
  · obtain ⟨g1, g2⟩ := r.mks.2 d hd
    refine ⟨?_, Nat.lt_of_lt_of_le g2 hnx⟩
    rw [hk d g2 fun hw => by
      obtain ⟨s, rows, e⟩ := hrow d hw
      rw [e] at g1; cases g1]
    exact g1
/-- A new block of memory, of which nothing is told yet. -/
theorem Rel.alloc (r : Rel c S env H K mk) (b : Option Blk) : Rel c S env (wrH H [(H.nx, b)] (H.nx + 1)) K mk := by
  have hg : ∀ x, x < H.nx → hget (wrH H [(H.nx, b)] (H.nx + 1)) x = hget H x := fun x hx => by
    rw [hget_wr1]; simp only; rw [if_neg (by omega)]
  have hn : H.nx ≤ (wrH H [(H.nx, b)] (H.nx + 1)).nx := by simp [wrH]
  have := r.mem (c' := c) (heap' := S.heap) (H' := wrH H [(H.nx, b)] (H.nx + 1)) (Cx.le.refl c) rfl (fun _ => False) (fun _ h => h.elim) (fun x hx _ => hg x hx) hn r.hlen
    (fun id h hh => by
      obtain ⟨p, g1, g2, g3⟩ := r.heap id h hh
      exact ⟨p, g1, g2, fun b hb => ⟨(g3 b hb).1.mem fun x hx => hg x (r.bnd _ _ _ g1 hx), (g3 b hb).2⟩⟩)
    r.inj r.rt (fun i p x h1 h2 => Nat.lt_of_lt_of_le (r.bnd i p x h1 h2) hn) (fun x sz rows h1 h2 => by rw [h1] at h2; cases h2)
  exact this
def Cx.add (c : Cx) (i : Nat) (p : Pl) : Cx := { c with ψ := fun k => if k = i then some p else c.ψ k }
theorem Rel.le_add (r : Rel c S env H K mk) (p : Pl) : c.le (c.add S.heap.length p) :=
  ⟨fun _ _ h => h, rfl, fun id q h => by
    have := r.hlen id q h
    simp only [Cx.add]; rw [if_neg (by omega)]; exact h, rfl, [], by simp [Cx.add]⟩
theorem getElem?_snoc {α : Type} {l : List α} {a : α} {i : Nat} {b : α} (h : (l ++ [a])[i]? = some b) : l[i]? = some b ∨ (i = l.length ∧ b = a) := by
  rcases Nat.lt_trichotomy i l.length with h1 | h1 | h1
  · rw [List.getElem?_append_left h1] at h; exact .inl h
  · subst h1; simp at h; exact .inr ⟨rfl, h.symm⟩
  · rw [List.getElem?_append_right (by omega), List.getElem?_eq_none (by simp; omega)] at h; cases h
/-- A block that is told. -/
theorem Rel.add (r : Rel c S env H K mk) (p : Pl) (b : SB)
    (hx : ∀ x, p.idc = some x → x < H.nx ∧ c.Φ x = none ∧ (∀ i q b', bget S.heap i = some b' → c.ψ i = some q → q.idc ≠ some x) ∧ (∀ i q, c.ψ i = some q → q.idc = some x → q.rt = p.rt))
    (hb : BOK c H p b) : Rel (c.add S.heap.length p) { S with heap := S.heap ++ [⟨p.rt, some b⟩] } env H K mk := by
  have hle := r.le_add p
  have hψ : ∀ i q, (c.add S.heap.length p).ψ i = some q → (c.ψ i = some q ∧ i < S.heap.length) ∨ (i = S.heap.length ∧ q = p) := fun i q h => by
    simp only [Cx.add] at h
    split at h
    · rename_i e; cases h; exact .inr ⟨e, rfl⟩
    · exact .inl ⟨h, r.hlen _ _ h⟩
  have hbg : ∀ i b', bget (S.heap ++ [⟨p.rt, some b⟩]) i = some b' → bget S.heap i = some b' ∨ i = S.heap.length := fun i b' h => by
    obtain ⟨h', g1, g2⟩ := bget_some.1 h
    rcases getElem?_snoc g1 with g1 | ⟨g1, -⟩
    · exact .inl (bget_some.2 ⟨h', g1, g2⟩)
    · exact .inr g1
  refine r.mem hle rfl (fun _ => False) (fun _ h => h.elim) (fun _ _ _ => rfl) (Nat.le_refl _) ?_ ?_ ?_ ?_ ?_ ?_
  · intro i q h
    rcases hψ i q h with ⟨-, h1⟩ | ⟨h1, -⟩ <;> simp <;> omega
  · intro i h hh
    rcases getElem?_snoc hh with hh | ⟨rfl, rfl⟩
    · obtain ⟨q, g1, g2, g3⟩ := r.heap i h hh
      exact ⟨q, hle.ψ _ _ g1, g2, fun b hb => ⟨(g3 b hb).1.mono hle, (g3 b hb).2⟩⟩
    · exact ⟨p, by simp [Cx.add], rfl, fun b' e => by cases e; exact ⟨hb.mono hle, fun x h1 => (hx x h1).2.1⟩⟩
  · intro i i' q q' x b1 b2 h1 h2 h3 h4 h5 h6
    rcases hbg _ _ h1 with g1 | g1 <;> rcases hbg _ _ h2 with g2 | g2
    · rcases hψ _ _ h3 with ⟨e3, e3'⟩ | ⟨e3, e3'⟩
      · rcases hψ _ _ h4 with ⟨e4, e4'⟩ | ⟨e4, e4'⟩
        · exact r.inj _ _ _ _ _ _ _ g1 g2 e3 e4 h5 h6
        · subst e4; obtain ⟨h, k1, -⟩ := bget_some.1 g2; simp at k1
      · subst e3; obtain ⟨h, k1, -⟩ := bget_some.1 g1; simp at k1
    · subst g2
      rcases hψ _ _ h3 with ⟨e3, e3'⟩ | ⟨e3, e3'⟩
      · rcases hψ _ _ h4 with ⟨e4, e4'⟩ | ⟨e4, e4'⟩
        · omega
        · subst e4'; exact absurd h5 ((hx x h6).2.2.1 _ _ _ g1 e3)
      · exact e3
    · subst g1
      rcases hψ _ _ h4 with ⟨e4, e4'⟩ | ⟨e4, e4'⟩
      · rcases hψ _ _ h3 with ⟨e3, e3'⟩ | ⟨e3, e3'⟩
        · omega
        · subst e3'; exact absurd h6 ((hx x h5).2.2.1 _ _ _ g2 e4)
      · exact e4.symm
    · rw [g1, g2]
  · intro i i' q q' x h3 h4 h5 h6
    rcases hψ _ _ h3 with ⟨e3, e3'⟩ | ⟨e3, e3'⟩ <;> rcases hψ _ _ h4 with ⟨e4, e4'⟩ | ⟨e4, e4'⟩
    · exact r.rt _ _ _ _ _ e3 e4 h5 h6
    · subst e4'; exact (hx x h6).2.2.2 _ _ e3 h5
    · subst e3'; exact ((hx x h5).2.2.2 _ _ e4 h6).symm
    · rw [e3', e4']
  · intro i q x h1 h2
    rcases hψ _ _ h1 with ⟨e3, e3'⟩ | ⟨e3, e3'⟩
    · exact r.bnd _ _ _ e3 h2
    · subst e3'; exact (hx x h2).1
  · intro x sz rows h1 h2; rw [show (c.add S.heap.length p).Φ = c.Φ from rfl] at h1; rw [h1] at h2; cases h2
theorem hput_at {heap : List HB} {id : Nat} {b : Option SB} {i : Nat} {h : HB} (hh : (hput heap id b)[i]? = some h) : (i ≠ id ∧ heap[i]? = some h) ∨ (i = id ∧ h = ⟨rtOf heap id, b⟩ ∧ id < heap.length) := by
  unfold hput at hh
  by_cases e : i = id
  · subst e
    by_cases hl : i < heap.length
    · rw [List.getElem?_set_self hl] at hh; cases hh; exact .inr ⟨rfl, rfl, hl⟩
    · rw [List.getElem?_eq_none (by simp; omega)] at hh; cases hh
  · rw [List.getElem?_set_ne (fun h => e h.symm)] at hh; exact .inl ⟨e, hh⟩
theorem hput_len {heap : List HB} {id : Nat} {b : Option SB} : (hput heap id b).length = heap.length := by simp [hput]
theorem bget_put {heap : List HB} {id : Nat} {b : Option SB} {i : Nat} {b' : SB} (h : bget (hput heap id b) i = some b') : (i ≠ id ∧ bget heap i = some b') ∨ (i = id ∧ b = some b') := by
  obtain ⟨h', g1, g2⟩ := bget_some.1 h
  rcases hput_at g1 with ⟨e, g⟩ | ⟨e, rfl, -⟩
  · exact .inl ⟨e, bget_some.2 ⟨h', g, g2⟩⟩
  · exact .inr ⟨e, g2⟩
/-- A block of which nothing is told any more. -/
theorem Rel.drop (r : Rel c S env H K mk) (id : Nat) : Rel c { S with heap := hput S.heap id none } env H K mk := by
  refine r.mem (Cx.le.refl c) rfl (fun _ => False) (fun _ h => h.elim) (fun _ _ _ => rfl) (Nat.le_refl _) (fun i p h => by rw [hput_len]; exact r.hlen i p h) ?_ ?_ r.rt r.bnd (fun x sz rows h1 h2 => by rw [h1] at h2; cases h2)
  · intro i h hh
    rcases hput_at hh with ⟨e, g⟩ | ⟨rfl, rfl, hl⟩
    · exact r.heap i h g
    · obtain ⟨p, g1, g2, g3⟩ := r.heap i _ (List.getElem?_eq_getElem hl)
      exact ⟨p, g1, by rw [g2]; simp [rtOf, List.getElem?_eq_getElem hl], fun b e => by cases e⟩
  · intro i i' p p' x b b' h1 h2 h3 h4 h5 h6
    rcases bget_put h1 with ⟨-, g1⟩ | ⟨-, e⟩
    · rcases bget_put h2 with ⟨-, g2⟩ | ⟨-, e⟩
      · exact r.inj _ _ _ _ _ _ _ g1 g2 h3 h4 h5 h6
      · cases e
    · cases e
/-- A block is told anew, its memory written. -/
theorem Rel.put (r : Rel c S env H K mk) {id : Nat} {b : SB} {p : Pl} {x : Nat} (hb : bget S.heap id = some b) (hp : c.ψ id = some p) (hx : p.idc = some x) (b' : SB) (o : Option Blk) (hb' : BOK c (wrH H [(x, o)] H.nx) p b') :
    Rel c { S with heap := hput S.heap id (some b') } env (wrH H [(x, o)] H.nx) K mk := by
  have hg : ∀ y, y ≠ x → hget (wrH H [(x, o)] H.nx) y = hget H y := fun y hy => by rw [hget_wr1]; simp only; rw [if_neg hy]
  have hn : (wrH H [(x, o)] H.nx).nx = H.nx := by simp [wrH]
  obtain ⟨p', q1, q2, q3, q4⟩ := r.blk hb
  rw [hp] at q1; cases q1
  refine r.mem (Cx.le.refl c) rfl (fun y => y = x) (fun y h => ⟨id, p, b, hb, hp, by rw [h]; exact hx⟩) (fun y _ hy => hg y hy) (by rw [hn]; exact Nat.le_refl _) (fun i p h => by rw [hput_len]; exact r.hlen i p h) ?_ ?_ r.rt (by rw [hn]; exact r.bnd) (fun x sz rows h1 h2 => by rw [h1] at h2; cases h2)
  · intro i h hh
    rcases hput_at hh with ⟨e, g⟩ | ⟨rfl, rfl, hl⟩
    · obtain ⟨q, g1, g2, g3⟩ := r.heap i h g
      refine ⟨q, g1, g2, fun b1 hb1 => ⟨(g3 b1 hb1).1.mem fun y hy => hg y ?_, (g3 b1 hb1).2⟩⟩
      rintro rfl
      exact e (r.inj _ _ _ _ _ _ _ (bget_some.2 ⟨h, g, hb1⟩) hb g1 hp hy hx)
    · exact ⟨p, hp, q2, fun b1 e => by cases e; exact ⟨hb', q4⟩⟩
  · intro i i' q q' y b1 b2 h1 h2 h3 h4 h5 h6
    have k1 : ∃ b, bget S.heap i = some b := by
      rcases bget_put h1 with ⟨-, g1⟩ | ⟨rfl, e⟩
      · exact ⟨_, g1⟩
      · exact ⟨_, hb⟩
    have k2 : ∃ b, bget S.heap i' = some b := by
      rcases bget_put h2 with ⟨-, g1⟩ | ⟨rfl, e⟩
      · exact ⟨_, g1⟩
      · exact ⟨_, hb⟩
    obtain ⟨_, k1⟩ := k1; obtain ⟨_, k2⟩ := k2
    exact r.inj _ _ _ _ _ _ _ k1 k2 h3 h4 h5 h6
/-- A block is told anew, memory stays. -/
theorem Rel.swap (r : Rel c S env H K mk) {id : Nat} {b : SB} {p : Pl} (hb : bget S.heap id = some b) (hp : c.ψ id = some p) (b' : SB) (hb' : BOK c H p b') : Rel c { S with heap := hput S.heap id (some b') } env H K mk := by
  obtain ⟨p', q1, q2, q3, q4⟩ := r.blk hb
  rw [hp] at q1; cases q1
  refine r.mem (Cx.le.refl c) rfl (fun _ => False) (fun _ h => h.elim) (fun _ _ _ => rfl) (Nat.le_refl _) (fun i p h => by rw [hput_len]; exact r.hlen i p h) ?_ ?_ r.rt r.bnd (fun x sz rows h1 h2 => by rw [h1] at h2; cases h2)
  · intro i h hh
    rcases hput_at hh with ⟨e, g⟩ | ⟨rfl, rfl, hl⟩
    · exact r.heap i h g
    · exact ⟨p, hp, q2, fun b1 e => by cases e; exact ⟨hb', q4⟩⟩
  · intro i i' q q' y b1 b2 h1 h2 h3 h4 h5 h6
    have k1 : ∃ b, bget S.heap i = some b := by
      rcases bget_put h1 with ⟨-, g1⟩ | ⟨rfl, e⟩
      · exact ⟨_, g1⟩
      · exact ⟨_, hb⟩
    have k2 : ∃ b, bget S.heap i' = some b := by
      rcases bget_put h2 with ⟨-, g1⟩ | ⟨rfl, e⟩
      · exact ⟨_, g1⟩
      · exact ⟨_, hb⟩
    obtain ⟨_, k1⟩ := k1; obtain ⟨_, k2⟩ := k2
    exact r.inj _ _ _ _ _ _ _ k1 k2 h3 h4 h5 h6
def Cx.frz (c : Cx) (x : Nat) (o : Nat × List (List AV)) : Cx := { c with Φ := fun k => if k = x then some o else c.Φ k }
/-- A list that is written no more. -/
theorem Rel.freeze (r : Rel c S env H K mk) {id : Nat} {b : SB} {p : Pl} {x : Nat} (hb : bget S.heap id = some b) (hp : c.ψ id = some p) (hx : p.idc = some x) {sz : Nat} {rows : List (List AV)} (hr : hget H x = some (.row sz rows)) :
    c.le (c.frz x (sz, rows)) ∧ Rel (c.frz x (sz, rows)) { S with heap := hput S.heap id none } env H K mk := by
  obtain ⟨p', q1, q2, q3, q4⟩ := r.blk hb
  rw [hp] at q1; cases q1
  have hle : c.le (c.frz x (sz, rows)) := ⟨fun i y h => by
    simp only [Cx.frz]; split
    · rename_i e; subst e; rw [q4 _ hx] at h; cases h
    · exact h, rfl, fun _ _ h => h, rfl, [], by simp [Cx.frz]⟩
  refine ⟨hle, r.mem hle rfl (fun _ => False) (fun _ h => h.elim) (fun _ _ _ => rfl) (Nat.le_refl _) (fun i p h => by rw [hput_len]; exact r.hlen i p h) ?_ ?_ r.rt r.bnd (fun y sz' rows' h1 h2 => ?_)⟩
  · intro i h hh
    rcases hput_at hh with ⟨e, g⟩ | ⟨rfl, rfl, hl⟩
    · obtain ⟨q, g1, g2, g3⟩ := r.heap i h g
      refine ⟨q, g1, g2, fun b1 hb1 => ⟨(g3 b1 hb1).1.mono hle, fun y hy => ?_⟩⟩
      simp only [Cx.frz]
      split
      · rename_i e'; subst e'
        exact absurd (r.inj _ _ _ _ _ _ _ (bget_some.2 ⟨h, g, hb1⟩) hb g1 hp hy hx) e
      · exact (g3 b1 hb1).2 y hy
    · obtain ⟨p, g1, g2, g3⟩ := r.heap i _ (List.getElem?_eq_getElem hl)
      exact ⟨p, g1, by rw [g2]; simp [rtOf, List.getElem?_eq_getElem hl], fun b e => by cases e⟩
  · intro i i' p p' x b b' h1 h2 h3 h4 h5 h6
    rcases bget_put h1 with ⟨-, g1⟩ | ⟨-, e⟩
    · rcases bget_put h2 with ⟨-, g2⟩ | ⟨-, e⟩
      · exact r.inj _ _ _ _ _ _ _ g1 g2 h3 h4 h5 h6
      · cases e
    · cases e
  · simp only [Cx.frz] at h1
    split at h1
    · rename_i e; subst e; cases h1; exact ⟨hr, r.bnd _ _ _ hp hx⟩
    · rw [h1] at h2; cases h2
/-- More variables. -/
theorem Rel.var (r : Rel c S env H K mk) (d : D) : c.le { c with ρ := c.ρ ++ [d] } ∧ Rel { c with ρ := c.ρ ++ [d] } { S with n := S.n + 1 } env H K mk := by
  have hle : c.le { c with ρ := c.ρ ++ [d] } := ⟨fun _ _ h => h, rfl, fun _ _ h => h, rfl, [d], rfl⟩
  refine ⟨hle, by simp [r.n], Cv.monoL hle r.env, r.stk.mono fun _ _ => RF.mono hle, r.hlen, fun id h hh => ?_, r.inj, r.rt, r.bnd, r.frz, r.f0, r.rngs, r.mks⟩
  obtain ⟨p, g1, g2, g3⟩ := r.heap id h hh
  exact ⟨p, g1, g2, fun b hb => ⟨(g3 b hb).1.mono hle, (g3 b hb).2⟩⟩
/-- Other slots. -/
theorem Rel.slots (r : Rel c S env H K mk) {env' : List AV} {senv : List SV} (h : F2 (Cv c) senv env') : Rel c { S with env := senv } env' H K mk :=
  ⟨r.n, h, r.stk, r.hlen, r.heap, r.inj, r.rt, r.bnd, r.frz, r.f0, r.rngs, r.mks⟩
theorem Rel.set (r : Rel c S env H K mk) {dst : Option Nat} {v : SV} {a : AV} (h : Cv c v a) : Rel c { S with env := setS S.env dst v } (setD env dst a) H K mk := by
  refine r.slots ?_
  cases dst with
  | none => exact r.env
  | some d => exact r.env.set h d
end Go.Q
