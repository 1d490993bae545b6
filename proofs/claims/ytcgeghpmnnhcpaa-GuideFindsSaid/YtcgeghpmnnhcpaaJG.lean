/- Soundness: regions that draw their order. First: plain facts. -/
import Derived.Test.YtcgeghpmnnhcpaaJF
import Derived.RangeFuncLeaves
import Derived.RangeFuncRecord
set_option linter.unusedVariables false
set_option linter.unusedSimpArgs false
namespace Go.V
open Go.RowKit
variable {P : Program}

/-! An operation looks at its arguments alone -/
theorem fillA_congr {env env' : List AV} : ∀ {ps : List (Nat × Nat × Arg)} {zs : List AV}, (∀ x ∈ ps.map (·.2.2), arg env x = arg env' x) → fillA env ps zs = fillA env' ps zs
  | [], zs, h => rfl
  | (o, s, x) :: ps, zs, h => by
    have h1 : arg env x = arg env' x := h x (by simp)
    have ih : ∀ zs, fillA env ps zs = fillA env' ps zs := fun zs => fillA_congr fun y hy => h y (by simp at hy ⊢; exact .inr hy)
    simp only [fillA, h1]
    have : fillA env ps = fillA env' ps := funext ih
    rw [this]
theorem fillS_congr {env env' : List AV} {sz : Nat} : ∀ {ps : List (Nat × Arg)} {xs : List (List AV)}, (∀ x ∈ ps.map (·.2), arg env x = arg env' x) → fillS env sz ps xs = fillS env' sz ps xs
  | [], xs, h => rfl
  | (i, x) :: ps, xs, h => by
    have h1 : arg env x = arg env' x := h x (by simp)
    have ih : ∀ zs, fillS env sz ps zs = fillS env' sz ps zs := fun zs => fillS_congr fun y hy => h y (by simp at hy ⊢; exact .inr hy)
    simp only [fillS, h1, ih]
theorem bnd_congr {env env' : List AV} {d m : Nat} {x : Option Arg} (h : ∀ y ∈ optArgs x, arg env y = arg env' y) : bnd env d m x = bnd env' d m x := by
  cases x with
  | none => rfl
  | some y => simp only [bnd, h y (by simp [optArgs])]
theorem evalOp_congr {T : FuncId → Option IFn} {cb : Cb} {env env' : List AV} {H : Heap} {nx : Nat} {io : PO} (h : ∀ x ∈ io.args, arg env x = arg env' x) : evalOp T cb env H nx io = evalOp T cb env' H nx io := by
  have map_congr : ∀ l : List Arg, (∀ x ∈ l, arg env x = arg env' x) → l.map (arg env) = l.map (arg env') := fun l hl => List.map_congr_left hl
  cases io with
  | build z ps => simp only [evalOp, fillA_congr (env := env) (env' := env') (ps := ps) h]
  | buildS s n z ps => simp only [evalOp, fillS_congr (env := env) (env' := env') (ps := ps) h]
  | sl s x lo hi =>
    have h1 := h x (by simp [PO.args])
    have h2 : ∀ d m, bnd env d m lo = bnd env' d m lo := fun d m => bnd_congr fun y hy => h y (by simp [PO.args, hy])
    have h3 : ∀ d m, bnd env d m hi = bnd env' d m hi := fun d m => bnd_congr fun y hy => h y (by simp [PO.args, hy])
    simp only [evalOp, h1, h2, h3]
  | mkF f a b => simp only [evalOp, map_congr a fun x hx => h x (by simp [PO.args, hx]), map_congr b fun x hx => h x (by simp [PO.args, hx])]
  | call f as => simp only [evalOp, map_congr as h]
  | callv g as => simp only [evalOp, map_congr as fun x hx => h x (by simp [PO.args, hx]), h g (by simp [PO.args])]
  | mx m xs =>
    cases xs with
    | nil => rfl
    | cons x xs => simp only [evalOp, h x (by simp [PO.args]), map_congr xs fun y hy => h y (by simp [PO.args, hy])]
  | pick c a b => simp only [evalOp, h c (by simp [PO.args]), h a (by simp [PO.args]), h b (by simp [PO.args])]
  | new _ => rfl
  | mkM => rfl
  | nck x => simp only [evalOp, h x (by simp [PO.args])]
  | cpy _ x y => simp only [evalOp, h x (by simp [PO.args]), h y (by simp [PO.args])]
  | strX x y => simp only [evalOp, h x (by simp [PO.args]), h y (by simp [PO.args])]
  | slA s n x hi =>
    have h1 := h x (by simp [PO.args])
    have h3 : ∀ d m, bnd env d m hi = bnd env' d m hi := fun d m => bnd_congr fun y hy => h y (by simp [PO.args, hy])
    simp only [evalOp, h1, h3]
  | rcv => rfl
  | dfr _ _ => rfl
  | pnc _ => rfl
  | look _ _ _ x y => simp only [evalOp, h x (by simp [PO.args]), h y (by simp [PO.args])]
  | ment _ _ x y => simp only [evalOp, h x (by simp [PO.args]), h y (by simp [PO.args])]
  | mdel _ x y => simp only [evalOp, h x (by simp [PO.args]), h y (by simp [PO.args])]
  | mset _ x y z => simp only [evalOp, h x (by simp [PO.args]), h y (by simp [PO.args]), h z (by simp [PO.args])]
  | mest x y z => simp only [evalOp, h x (by simp [PO.args]), h y (by simp [PO.args]), h z (by simp [PO.args])]
  | lenM x => simp only [evalOp, h x (by simp [PO.args])]
  | mkI _ x => simp only [evalOp, h x (by simp [PO.args])]
  | tas _ _ x => simp only [evalOp, h x (by simp [PO.args])]
  | isNilI _ x => simp only [evalOp, h x (by simp [PO.args])]
  | inv _ x as => simp only [evalOp, map_congr as fun y hy => h y (by simp [PO.args, hy]), h x (by simp [PO.args])]
  | lenC _ => rfl
  | bad => rfl
  | eqv neg agg ks x y => cases agg <;> simp only [evalOp, h x (by simp [PO.args]), h y (by simp [PO.args])]
  | mv x => simp only [evalOp, h x (by simp [PO.args])]
  | box x => simp only [evalOp, h x (by simp [PO.args])]
  | load n x => simp only [evalOp, h x (by simp [PO.args])]
  | fieldA n x => simp only [evalOp, h x (by simp [PO.args])]
  | field n o x => simp only [evalOp, h x (by simp [PO.args])]
  | un o x => simp only [evalOp, h x (by simp [PO.args])]
  | conv k x => simp only [evalOp, h x (by simp [PO.args])]
  | ext x i => simp only [evalOp, h x (by simp [PO.args])]
  | lenS x => simp only [evalOp, h x (by simp [PO.args])]
  | store n x y => simp only [evalOp, h x (by simp [PO.args]), h y (by simp [PO.args])]
  | indexS n x y => simp only [evalOp, h x (by simp [PO.args]), h y (by simp [PO.args])]
  | indexA l n x y => simp only [evalOp, h x (by simp [PO.args]), h y (by simp [PO.args])]
  | indexV l n s x y => simp only [evalOp, h x (by simp [PO.args]), h y (by simp [PO.args])]
  | bin o x y => simp only [evalOp, h x (by simp [PO.args]), h y (by simp [PO.args])]
  | mkS s b z x y => simp only [evalOp, h x (by simp [PO.args]), h y (by simp [PO.args])]
  | app s b x y => simp only [evalOp, h x (by simp [PO.args]), h y (by simp [PO.args])]
  | appZ s b z x y => simp only [evalOp, h x (by simp [PO.args]), h y (by simp [PO.args])]
  | capS x => simp only [evalOp, h x (by simp [PO.args])]
  | isNil g x => simp only [evalOp, h x (by simp [PO.args])]
  | clr s z x => simp only [evalOp, h x (by simp [PO.args])]
  | sl3 s x lo hi m =>
    have h1 := h x (by simp [PO.args])
    have h2 : ∀ d m, bnd env d m lo = bnd env' d m lo := fun d m => bnd_congr fun y hy => h y (by simp [PO.args, hy])
    have h3 : ∀ d n, bnd env d n (some hi) = bnd env' d n (some hi) := fun d n => bnd_congr fun y hy => h y (by simp [optArgs] at hy; simp [PO.args, hy])
    have h4 : ∀ d n, bnd env d n (some m) = bnd env' d n (some m) := fun d n => bnd_congr fun y hy => h y (by simp [optArgs] at hy; simp [PO.args, hy])
    simp only [evalOp, h1, h2, h3, h4]

theorem refOp_congr {T : FuncId → Option IFn} {env env' : List AV} {io : PO} (h : ∀ x ∈ io.args, arg env x = arg env' x) : refOp T env io = refOp T env' io := by
  have map_congr : ∀ l : List Arg, (∀ x ∈ l, arg env x = arg env' x) → l.map (arg env) = l.map (arg env') := fun l hl => List.map_congr_left hl
  cases io with
  | call f as => simp only [refOp, map_congr as h]
  | callv g as => simp only [refOp, map_congr as fun x hx => h x (by simp [PO.args, hx]), h g (by simp [PO.args])]
  | inv _ x as => simp only [refOp, map_congr as fun y hy => h y (by simp [PO.args, hy]), h x (by simp [PO.args])]
  | _ => rfl
theorem evalD_congr {T : FuncId → Option IFn} {cb : Cb} {env env' : List AV} {H : Heap} {nx : Nat} {io : PO} (h : ∀ x ∈ io.args, arg env x = arg env' x) : evalD T cb env H nx io = evalD T cb env' H nx io := by
  unfold evalD
  rw [refOp_congr h, evalOp_congr h]

/-! The way in the text's order -/
structure Tr where
  st : St
  v : AV
  rd : List Nat
  wr : Wr
  nx : Nat
  k : Nat
def ids (wr : Wr) : List Nat := wr.map (·.1)
def Tr.foot (t : Tr) : Foot := ⟨t.rd, ids t.wr, t.k⟩
structure StepT (T : FuncId → Option IFn) (cb : Cb) (io : IOp) (t : Tr) : Prop where
  run : (wantedA t.st.env io.guard = true ∧ evalD T cb t.st.env t.st.H t.st.H.nx io.op = some (.eff t.v t.rd t.wr t.nx) ∧ t.k = kOf t.rd t.wr t.st.H t.nx) ∨ (wantedA t.st.env io.guard = false ∧ t.v = undefA ∧ t.rd = [] ∧ t.wr = [] ∧ t.nx = t.st.H.nx ∧ t.k = 0) ∨
    (wantedA t.st.env io.guard = true ∧ t.k = 2 ∧ ∃ H', evalD T cb t.st.env t.st.H t.st.H.nx io.op = some (.whole t.v H') ∧ t.rd = [] ∧ t.wr = snap t.st.H H' ∧ t.nx = H'.nx ∧ t.st.H.nx ≤ H'.nx)
def Tr.next (io : IOp) (t : Tr) : St := ⟨setD t.st.env io.dst t.v, wrH t.st.H t.wr t.nx⟩
theorem footOK_spec {f : Foot} {bef : Nat} : ∀ {n : Nat} {fs : List Foot}, footOK f bef n fs = true → ∀ (k : Nat) g, fs[k]? = some g → k < n ∧ (bef.testBit (n - 1 - k) = true ∨ clash g f = false)
  | n, [], h, k, g, hk => by simp at hk
  | 0, _ :: _, h, k, g, hk => by simp [footOK] at h
  | n + 1, x :: fs, h, k, g, hk => by
    simp only [footOK, Bool.and_eq_true, Bool.or_eq_true, Bool.not_eq_true'] at h
    cases k with
    | zero => simp at hk; subst hk; exact ⟨by omega, by simpa using h.1⟩
    | succ k =>
      obtain ⟨h1, h2⟩ := footOK_spec h.2 k g (by simpa using hk)
      exact ⟨by omega, by rw [show n + 1 - 1 - (k + 1) = n - 1 - k by omega]; exact h2⟩
theorem clash_nil (g : Foot) : clash g ⟨[], [], 0⟩ = false := by simp [clash]
theorem StepT.quiet {T : FuncId → Option IFn} {cb : Cb} {io : IOp} {t : Tr} (h : StepT T cb io t) (hk : t.k = 0) : t.wr = [] ∧ t.nx ≤ t.st.H.nx := by
  rcases h.run with ⟨-, -, h3⟩ | ⟨-, -, -, h4, h5, -⟩ | ⟨-, h2, -⟩
  · rw [hk] at h3
    unfold kOf at h3
    split at h3
    · rename_i hc
      simp only [Bool.and_eq_true, List.isEmpty_iff, decide_eq_true_eq] at hc
      exact ⟨hc.1.2, hc.2⟩
    · cases h3
  · exact ⟨h4, by omega⟩
  · omega
/-- What an evaluation of a drawing region went through. -/
theorem trace {T : FuncId → Option IFn} {cb : Cb} : ∀ {ios : List IOp} {n : Nat} {fs : List Foot} {st st' : St}, evalDraw T cb ios n fs st = some st' →
    ∃ ts : List Tr, ts.length = ios.length ∧ (∀ (i : Nat) io t, ios[i]? = some io → ts[i]? = some t → StepT T cb io t ∧ ((ts[i + 1]?).map (·.st)).getD st' = t.next io ∧
      (∀ (k : Nat) g, fs[k]? = some g → k < n → (io.bef.testBit (n - 1 - k) = true ∨ clash g t.foot = false)) ∧ (∀ (j : Nat) u, j < i → ts[j]? = some u → (io.bef.testBit (n + j) = true ∨ clash u.foot t.foot = false))) ∧
      ((ts[0]?).map (·.st)).getD st' = st
  | [], n, fs, st, st', h => by cases h; exact ⟨[], rfl, by simp, rfl⟩
  | io :: ios, n, fs, st, st', h => by
    have step : ∀ (t : Tr), t.st = st → StepT T cb io t → (∀ (k : Nat) g, fs[k]? = some g → k < n → (io.bef.testBit (n - 1 - k) = true ∨ clash g t.foot = false)) → evalDraw T cb ios (n + 1) (t.foot :: fs) (t.next io) = some st' → ∃ ts : List Tr, ts.length = (io :: ios).length ∧ (∀ (i : Nat) io' t, (io :: ios)[i]? = some io' → ts[i]? = some t → StepT T cb io' t ∧ ((ts[i + 1]?).map (·.st)).getD st' = t.next io' ∧
      (∀ (k : Nat) g, fs[k]? = some g → k < n → (io'.bef.testBit (n - 1 - k) = true ∨ clash g t.foot = false)) ∧ (∀ (j : Nat) u, j < i → ts[j]? = some u → (io'.bef.testBit (n + j) = true ∨ clash u.foot t.foot = false))) ∧
      ((ts[0]?).map (·.st)).getD st' = st := by
      intro t ht hst hf he
      obtain ⟨ts, h1, h2, h3⟩ := trace he
      refine ⟨t :: ts, by simp [h1], fun i io' u hi hu => ?_, by simpa using ht⟩
      cases i with
      | zero =>
        simp at hi hu; subst hi hu
        exact ⟨hst, by simpa using h3, hf, fun j u hj => by omega⟩
      | succ i =>
        simp at hi hu
        obtain ⟨g1, g2, g3, g4⟩ := h2 i io' u hi hu
        refine ⟨g1, by simpa using g2, fun k g hk hkn => ?_, fun j x hj hx => ?_⟩
        · have := g3 (k + 1) g (by simpa using hk) (by omega)
          rwa [show n + 1 - 1 - (k + 1) = n - 1 - k by omega] at this
        · cases j with
          | zero =>
            simp at hx; subst hx
            have := g3 0 t.foot (by simp) (by omega)
            simpa using this
          | succ j =>
            simp at hx
            have := g4 j x (by omega) hx
            rwa [show n + 1 + j = n + (j + 1) by omega] at this
    simp only [evalDraw] at h
    split at h
    · rename_i hw
      split at h
      · rename_i v rd wr nx he
        split at h
        · rename_i hfo
          exact step ⟨st, v, rd, wr, nx, _⟩ rfl ⟨.inl ⟨hw, he, rfl⟩⟩ (fun k g hk _ => (footOK_spec hfo k g hk).2) h
        · cases h
      · rename_i v H' he
        split at h
        · rename_i hfo
          simp only [Bool.and_eq_true, decide_eq_true_eq] at hfo
          exact step ⟨st, v, [], snap st.H H', H'.nx, 2⟩ rfl ⟨.inr (.inr ⟨hw, rfl, H', he, rfl, rfl, rfl, hfo.2⟩)⟩ (fun k g hk _ => (footOK_spec hfo.1 k g hk).2) h
        · cases h
      · cases h
    · rename_i hw
      have hwr : wrH st.H [] st.H.nx = st.H := by simp [wrH, wrL]
      exact step ⟨st, undefA, [], [], st.H.nx, 0⟩ rfl ⟨.inr (.inl ⟨by simpa using hw, rfl, rfl, rfl, rfl, rfl⟩)⟩ (fun k g _ _ => .inr (clash_nil g)) (by simpa [Tr.next, hwr, Tr.foot, ids] using h)

/-! What stands behind a set of the operations -/
theorem setD_length (env : List AV) (d : Option Nat) (v : AV) : (setD env d v).length = env.length := by cases d <;> simp [setD, setK_eq]
theorem setD_get (env : List AV) (d : Option Nat) (v : AV) (t : Nat) : (setD env d v)[t]? = if d = some t ∧ t < env.length then some v else env[t]? := by
  cases d with
  | none => simp [setD]
  | some d =>
    simp only [setD, setK_eq, Option.some.injEq]
    by_cases h : d = t
    · subst h
      by_cases hl : d < env.length
      · rw [List.getElem?_set_self hl, if_pos ⟨rfl, hl⟩]
      · rw [if_neg (fun q => hl q.2), List.getElem?_eq_none (by simpa using hl), List.getElem?_eq_none (by simpa using hl)]
    · rw [List.getElem?_set_ne h, if_neg (fun q => h q.1)]
theorem setD_comm (env : List AV) {d e : Option Nat} (v u : AV) (h : ∀ t, d = some t → e ≠ some t) : setD (setD env d v) e u = setD (setD env e u) d v := by
  apply List.ext_getElem?
  intro t
  simp only [setD_get, setD_length]
  by_cases h1 : d = some t
  · have := h t h1
    simp [h1, this]
  · simp [h1]
def envL (st : List AV) (dst : Nat → Option Nat) (v : Nat → AV) (p : Nat → Bool) : Nat → List AV
  | 0 => st
  | n + 1 => if p n then setD (envL st dst v p n) (dst n) (v n) else envL st dst v p n
def memL (h : Mem) (wr : Nat → Wr) (p : Nat → Bool) : Nat → Mem
  | 0 => h
  | n + 1 => if p n then updH (memL h wr p n) (wr n) else memL h wr p n
theorem envL_length (st : List AV) (dst : Nat → Option Nat) (v : Nat → AV) (p : Nat → Bool) (n : Nat) : (envL st dst v p n).length = st.length := by
  induction n with
  | zero => rfl
  | succ n ih => simp only [envL]; split <;> simp [setD_length, ih]
theorem envL_congr {st : List AV} {dst : Nat → Option Nat} {v : Nat → AV} {p q : Nat → Bool} {t : Nat} (n : Nat) (h : ∀ j, j < n → dst j = some t → p j = q j) : (envL st dst v p n)[t]? = (envL st dst v q n)[t]? := by
  induction n with
  | zero => rfl
  | succ n ih =>
    have ih := ih fun j hj => h j (by omega)
    simp only [envL]
    by_cases hd : dst n = some t
    · rw [h n (by omega) hd]
      split
      · simp only [setD_get, envL_length, ih]
      · exact ih
    · split <;> split <;> (try simp only [setD_get, hd, false_and, if_false]) <;> exact ih
theorem envL_add {st : List AV} {dst : Nat → Option Nat} {v : Nat → AV} {p : Nat → Bool} {i : Nat} (hp : p i = false) : ∀ n, (∀ j, i < j → j < n → p j = true → ∀ t, dst i = some t → dst j ≠ some t) → envL st dst v (fun j => if j = i then true else p j) n = if i < n then setD (envL st dst v p n) (dst i) (v i) else envL st dst v p n
  | 0, _ => by simp [envL]
  | n + 1, h => by
    have ih := envL_add (st := st) (dst := dst) (v := v) hp n fun j hj hn => h j hj (by omega)
    simp only [envL]
    rw [ih]
    by_cases h1 : n = i
    · subst h1
      simp [hp]
    · simp only [h1, if_false]
      by_cases h2 : i < n
      · rw [if_pos h2, if_pos (show i < n + 1 by omega)]
        by_cases h3 : p n = true
        · rw [if_pos h3, if_pos h3, setD_comm _ _ _ (h n h2 (by omega) h3)]
        · rw [if_neg h3, if_neg h3]
      · rw [if_neg h2, if_neg (show ¬ i < n + 1 by omega)]
def lookW : Wr → Nat → Option (Option Blk)
  | [], _ => none
  | p :: wr, id => match lookW wr id with
    | some b => some b
    | none => if id = p.1 then some p.2 else none
theorem updH_look : ∀ (wr : Wr) (h : Mem) (id : Nat), updH h wr id = match lookW wr id with | some b => b | none => h id
  | [], h, id => rfl
  | p :: wr, h, id => by
    have : updH h (p :: wr) = updH (fun i => if i = p.1 then p.2 else h i) wr := rfl
    rw [this, updH_look wr]
    simp only [lookW]
    cases lookW wr id with
    | some b => rfl
    | none => by_cases h1 : id = p.1 <;> simp [h1]
theorem lookW_none : ∀ {wr : Wr} {id : Nat}, id ∉ ids wr → lookW wr id = none
  | [], id, _ => rfl
  | p :: wr, id, h => by
    simp only [ids, List.map_cons, List.mem_cons, not_or] at h
    simp only [lookW, lookW_none (wr := wr) h.2, h.1, if_false]
theorem updH_comm {h : Mem} {a b : Wr} (hd : ∀ id, id ∈ ids a → id ∉ ids b) : updH (updH h a) b = updH (updH h b) a := by
  funext id
  simp only [updH_look]
  by_cases h1 : id ∈ ids a
  · rw [lookW_none (hd id h1)]
  · rw [lookW_none h1]
theorem memL_congr {h : Mem} {wr : Nat → Wr} {p q : Nat → Bool} {id : Nat} (n : Nat) (hh : ∀ j, j < n → id ∈ ids (wr j) → p j = q j) : memL h wr p n id = memL h wr q n id := by
  induction n with
  | zero => rfl
  | succ n ih =>
    have ih := ih fun j hj => hh j (by omega)
    simp only [memL]
    by_cases hd : id ∈ ids (wr n)
    · rw [hh n (by omega) hd]
      split
      · simp only [updH_look, ih]
      · exact ih
    · have : ∀ m : Mem, updH m (wr n) id = m id := fun m => by rw [updH_look, lookW_none hd]
      split <;> split <;> (try simp only [this]) <;> exact ih
theorem memL_add {h : Mem} {wr : Nat → Wr} {p : Nat → Bool} {i : Nat} (hp : p i = false) : ∀ n, (∀ j, i < j → j < n → p j = true → ∀ id, id ∈ ids (wr i) → id ∉ ids (wr j)) → memL h wr (fun j => if j = i then true else p j) n = if i < n then updH (memL h wr p n) (wr i) else memL h wr p n
  | 0, _ => by simp [memL]
  | n + 1, hh => by
    have ih := memL_add (h := h) (wr := wr) hp n fun j hj hn => hh j hj (by omega)
    simp only [memL]
    rw [ih]
    by_cases h1 : n = i
    · subst h1
      simp [hp]
    · simp only [h1, if_false]
      by_cases h2 : i < n
      · rw [if_pos h2, if_pos (show i < n + 1 by omega)]
        by_cases h3 : p n = true
        · rw [if_pos h3, if_pos h3, updH_comm (hh n h2 (by omega) h3)]
        · rw [if_neg h3, if_neg h3]
      · rw [if_neg h2, if_neg (show ¬ i < n + 1 by omega)]
/-! The memory behind an operation that worked on all of it -/
theorem lookW_snap {H H' : Heap} (id : Nat) : (match lookW (snap H H') id with | some b => b | none => hget H id) = hget H' id := by
  have key : ∀ (l : List Nat), l.Nodup → lookW (l.map fun i => (i, hget H' i)) id = if id ∈ l then some (hget H' id) else none := by
    intro l
    induction l with
    | nil => intro _; rfl
    | cons x l ih =>
      intro hn
      obtain ⟨h1, h2⟩ := List.nodup_cons.1 hn
      simp only [List.map_cons, lookW, ih h2, List.mem_cons]
      by_cases hx : id = x
      · subst hx; simp [h1]
      · by_cases hl : id ∈ l
        · simp [hl]
        · simp [hl, hx]
  have hl : lookW (snap H H') id = if id ∈ List.range (max H.l.length H'.l.length) then some (hget H' id) else none := key _ List.nodup_range
  rw [hl]
  by_cases h : id ∈ List.range (max H.l.length H'.l.length)
  · simp [h]
  · simp only [h, if_false]
    simp only [List.mem_range, Nat.not_lt] at h
    have h1 : H.l[id]? = none := List.getElem?_eq_none (by omega)
    have h2 : H'.l[id]? = none := List.getElem?_eq_none (by omega)
    simp only [hget, h1, h2]
theorem updH_snap (H H' : Heap) : updH (hget H) (snap H H') = hget H' := by
  funext id
  rw [updH_look]; exact lookW_snap id
theorem evalD_whole {T : FuncId → Option IFn} {cb : Cb} {env : List AV} {H H' : Heap} {nx : Nat} {io : PO} {v : AV} (h : evalD T cb env H nx io = some (.whole v H')) : evalOp T cb env H nx io = some (.whole v H') := by
  unfold evalD at h
  split at h
  · split at h
    · exact h
    · exfalso
      split at h
      · simp only [freeC] at h
        split at h
        · split at h
          · split at h <;> cases h
          · cases h
        · cases h
      · simp only [wholeC] at h
        split at h
        · split at h
          · split at h <;> cases h
          · cases h
        · cases h
  · exact h
end Go.V
/- Soundness: regions that draw their order. -/
set_option linter.unusedVariables false
set_option linter.unusedSimpArgs false
namespace Go.V
open Go.RowKit
variable {P : Program}

/-! What comes before what -/
theorem edges_fold {acc : Array Nat} {j : Nat} : ∀ (es : List Edge) (s : Nat), (es.foldl (fun s e => if Region.binds .any e then s ||| 2 ^ e.on ||| acc.getD e.on 0 else s) s).testBit j = true → s.testBit j = true ∨ ∃ e ∈ es, Region.binds .any e = true ∧ (e.on = j ∨ (acc.getD e.on 0).testBit j = true)
  | [], s, h => .inl h
  | e :: es, s, h => by
    simp only [List.foldl_cons] at h
    rcases edges_fold es _ h with h1 | ⟨e', h1, h2⟩
    · split at h1
      · rename_i hb
        simp only [Nat.testBit_or, Bool.or_eq_true, Nat.testBit_two_pow, decide_eq_true_eq] at h1
        rcases h1 with (h1 | h1) | h1
        · exact .inl h1
        · exact .inr ⟨e, by simp, hb, .inl h1⟩
        · exact .inr ⟨e, by simp, hb, .inr h1⟩
      · exact .inl h1
    · exact .inr ⟨e', by simp [h1], h2⟩
theorem before_fold : ∀ (l : List Oper) (acc : Array Nat), (l.foldl (fun acc o => acc.push (o.after.foldl (fun s e => if Region.binds .any e then s ||| 2 ^ e.on ||| acc.getD e.on 0 else s) 0)) acc).size = acc.size + l.length ∧
    (∀ k, k < acc.size → (l.foldl (fun acc o => acc.push (o.after.foldl (fun s e => if Region.binds .any e then s ||| 2 ^ e.on ||| acc.getD e.on 0 else s) 0)) acc).getD k 0 = acc.getD k 0) ∧
    ∀ (k : Nat) o, l[k]? = some o → ∀ j, ((l.foldl (fun acc o => acc.push (o.after.foldl (fun s e => if Region.binds .any e then s ||| 2 ^ e.on ||| acc.getD e.on 0 else s) 0)) acc).getD (acc.size + k) 0).testBit j = true →
      ∃ e ∈ o.after, Region.binds .any e = true ∧ (e.on = j ∨ (e.on < acc.size + k ∧ ((l.foldl (fun acc o => acc.push (o.after.foldl (fun s e => if Region.binds .any e then s ||| 2 ^ e.on ||| acc.getD e.on 0 else s) 0)) acc).getD e.on 0).testBit j = true))
  | [], acc => ⟨by simp, fun _ _ => rfl, by simp⟩
  | o :: l, acc => by
    obtain ⟨h1, h2, h3⟩ := before_fold l (acc.push (o.after.foldl (fun s e => if Region.binds .any e then s ||| 2 ^ e.on ||| acc.getD e.on 0 else s) 0))
    simp only [List.foldl_cons]
    refine ⟨by rw [h1]; simp; omega, fun k hk => ?_, fun k o' hk j hj => ?_⟩
    · rw [h2 k (by simp; omega)]
      simp only [Array.getD_eq_getD_getElem?]
      rw [Array.getElem?_push, if_neg (by omega)]
    · cases k with
      | zero =>
        simp at hk; subst hk
        rw [Nat.add_zero, h2 acc.size (by simp)] at hj
        have : (acc.push (o.after.foldl (fun s e => if Region.binds .any e then s ||| 2 ^ e.on ||| acc.getD e.on 0 else s) 0)).getD acc.size 0 = o.after.foldl (fun s e => if Region.binds .any e then s ||| 2 ^ e.on ||| acc.getD e.on 0 else s) 0 := by
          simp only [Array.getD_eq_getD_getElem?]; rw [Array.getElem?_push, if_pos rfl]; rfl
        rw [this, ← Array.foldl_toList] at hj
        rcases edges_fold _ _ hj with h | ⟨e, q1, q2, q3⟩
        · simp at h
        · refine ⟨e, by simpa using q1, q2, ?_⟩
          rcases q3 with q3 | q3
          · exact .inl q3
          · right
            have hlt : e.on < acc.size := by
              rcases Nat.lt_or_ge e.on acc.size with h' | h'
              · exact h'
              · simp only [Array.getD_eq_getD_getElem?] at q3
                rw [Array.getElem?_eq_none h'] at q3; simp at q3
            refine ⟨by omega, ?_⟩
            rw [h2 e.on (by simp; omega)]
            simp only [Array.getD_eq_getD_getElem?] at q3 ⊢
            rw [Array.getElem?_push, if_neg (by omega)]; exact q3
      | succ k =>
        simp at hk
        have hs : (acc.push (o.after.foldl (fun s e => if Region.binds .any e then s ||| 2 ^ e.on ||| acc.getD e.on 0 else s) 0)).size + k = acc.size + (k + 1) := by simp; omega
        obtain ⟨e, q1, q2, q3⟩ := h3 k o' hk j (by rw [hs]; exact hj)
        rw [hs] at q3
        exact ⟨e, q1, q2, q3⟩
theorem before_spec {ops : Array Oper} {i : Nat} {o : Oper} (ho : ops[i]? = some o) {j : Nat} (h : ((Region.before ops).getD i 0).testBit j = true) : ∃ e ∈ o.after, Region.binds .any e = true ∧ (e.on = j ∨ (e.on < i ∧ ((Region.before ops).getD e.on 0).testBit j = true)) := by
  have := (before_fold ops.toList #[]).2.2 i o (by simpa using ho) j
  unfold Region.before at h ⊢
  simp only [← Array.foldl_toList] at h ⊢
  simp only [← Array.foldl_toList] at this
  simpa using this (by simpa using h)
/-- Who has all that comes just before has all that comes before. -/
theorem closed_before {ops : Array Oper} {listed : Array Bool} (hcl : ∀ i o, listed.getD i false = true → ops[i]? = some o → ∀ e ∈ o.after, Region.binds .any e = true → listed.getD e.on false = true) :
    ∀ (i : Nat) o, ops[i]? = some o → (∀ e ∈ o.after, Region.binds .any e = true → listed.getD e.on false = true) → ∀ j, ((Region.before ops).getD i 0).testBit j = true → listed.getD j false = true := by
  intro i
  induction i using Nat.strongRecOn with
  | _ i ih =>
    intro o ho hall j hj
    obtain ⟨e, q1, q2, q3⟩ := before_spec ho hj
    rcases q3 with q3 | ⟨q3, q4⟩
    · exact q3 ▸ hall e q1 q2
    · have hl := hall e q1 q2
      cases he : ops[e.on]? with
      | none =>
        -- a number without an operation: nothing comes before it
        have : (Region.before ops).getD e.on 0 = 0 := by
          have hs := (before_fold ops.toList #[]).1
          simp only [Array.getD_eq_getD_getElem?]
          rw [Array.getElem?_eq_none]
          · rfl
          · have h1 : (Region.before ops).size = ops.size := by unfold Region.before; rw [← Array.foldl_toList]; simpa using hs
            rw [h1]; exact Array.getElem?_eq_none_iff.1 he
        rw [this] at q4; simp at q4
      | some o' => exact ih e.on q3 o' he (hcl e.on o' hl he) j q4

/-! Reading the code -/
theorem cOpers_get {P : Program} {ops : Array Oper} : ∀ {l : List Oper} {k : Nat} {ios : List IOp}, cOpers P ops l k = some ios → ios.length = l.length ∧ ∀ (i : Nat) o io, l[i]? = some o → ios[i]? = some io → cOper P ops ((Region.before ops).getD (k + i) 0) o = some io
  | [], k, ios, h => by cases h; exact ⟨rfl, by simp⟩
  | o :: l, k, ios, h => by
    simp only [cOpers] at h
    split at h
    · rename_i a as h1 h2
      cases h
      obtain ⟨g1, g2⟩ := cOpers_get h2
      refine ⟨by simp [g1], fun i o' io hi hio => ?_⟩
      cases i with
      | zero => simp at hi hio; subst hi hio; exact h1
      | succ i =>
        simp at hi hio
        have := g2 i o' io hi hio
        rwa [show k + 1 + i = k + (i + 1) by omega] at this
    · cases h
theorem slots_spec {ops : Array Oper} (h : slotsOK ops = true) : (∀ (i j : Nat) oi oj, i < j → ops[i]? = some oi → ops[j]? = some oj → ((Region.before ops).getD j 0).testBit i = true ∨ oi.apart ops oj = true) ∧ ∀ (i : Nat) o, ops[i]? = some o → ∀ e ∈ o.after, Region.binds .any e = true → e.on < i := by
  unfold slotsOK at h
  simp only [Bool.and_eq_true, List.all_eq_true] at h
  obtain ⟨h1, h2⟩ := h
  have mem : ∀ (i : Nat) o, ops[i]? = some o → (o, i) ∈ ops.toList.zipIdx := fun i o ho => by
    rw [List.mem_zipIdx_iff_getElem?]; simpa using ho
  refine ⟨fun i j oi oj hij hi hj => ?_, fun i o ho e he hb => ?_⟩
  · have := h1 (oj, j) (mem j oj hj) (oi, i) (mem i oi hi)
    simp only [hij, decide_true, Bool.not_true, Bool.false_or, Bool.or_eq_true] at this
    exact this
  · have := h2 (o, i) (mem i o ho) e (by simpa using he)
    simpa [hb] using this
theorem uses_spec {ops : Array Oper} : ∀ {os : List Oper} {ios : List IOp}, usesOK ops os ios = true → ∀ (i : Nat) o io, os[i]? = some o → ios[i]? = some io → ∀ n, Arg.t n ∈ io.op.args → n ∈ o.looksAt ops
  | [], ios, h, i, o, io, hi, hio, n, hn => by simp at hi
  | o' :: os, [], h, i, o, io, hi, hio, n, hn => by simp at hio
  | o' :: os, io' :: ios, h, i, o, io, hi, hio, n, hn => by
    simp only [usesOK, Bool.and_eq_true, List.all_eq_true] at h
    cases i with
    | zero =>
      simp at hi hio; subst hi hio
      have := h.1 _ hn
      simpa using this
    | succ i => simp at hi hio; exact uses_spec h.2 i o io hi hio n hn
theorem apart_dst {ops : Array Oper} {x y : Oper} (h : x.apart ops y = true) : (∀ d, x.dst = some d → d ∉ y.looksAt ops) ∧ (∀ d, x.dst = some d → y.dst ≠ some d) ∧ (∀ d, y.dst = some d → d ∉ x.looksAt ops) := Oper.apart_spec h
theorem clash_false {a b : Foot} (h : clash a b = false) : (∀ id ∈ a.wr, id ∉ b.rd ∧ id ∉ b.wr) ∧ ∀ id ∈ b.wr, id ∉ a.rd := by
  simp only [clash, Bool.or_eq_false_iff, List.any_eq_false, Bool.or_eq_true, not_or, List.contains_iff_mem, Bool.not_eq_true] at h
  refine ⟨fun id hid => ?_, fun id hid => ?_⟩
  · have := h.1.2 id hid
    simpa using this
  · have := h.2 id hid
    simpa using this
theorem clash_all {a b : Foot} (h : clash a b = false) : (a.k = 2 → b.k = 0) ∧ (b.k = 2 → a.k = 0) := by
  simp only [clash, Bool.or_eq_false_iff, Bool.and_eq_false_iff, beq_eq_false_iff_ne, bne_eq_false_iff_eq] at h
  refine ⟨fun h2 => ?_, fun h2 => ?_⟩
  · rcases h.1.1.1 with h1 | h1
    · exact absurd h2 h1
    · exact h1
  · rcases h.1.1.2 with h1 | h1
    · exact absurd h2 h1
    · exact h1
/-- How many are left. -/
def leftN (n : Nat) (listed : Array Bool) : Nat := ((List.range n).filter fun i => !listed.getD i true).length
theorem filter_set {l : List Nat} {i : Nat} {p p' : Nat → Bool} (hp : p i = true) (hp' : p' i = false) (he : ∀ j, j ≠ i → p' j = p j) (hnd : l.Nodup) : (i ∈ l → (l.filter p').length + 1 = (l.filter p).length) ∧ (i ∉ l → (l.filter p').length = (l.filter p).length) := by
  induction l with
  | nil => simp
  | cons x l ih =>
    have hnd' := List.nodup_cons.1 hnd
    obtain ⟨ih1, ih2⟩ := ih hnd'.2
    refine ⟨fun hm => ?_, fun hm => ?_⟩
    · simp only [List.mem_cons] at hm
      by_cases hx : x = i
      · subst hx
        rw [List.filter_cons_of_pos hp, List.filter_cons_of_neg (by simp [hp'])]
        rw [ih2 hnd'.1]; rfl
      · have hm' := hm.resolve_left (Ne.symm hx)
        have := ih1 hm'
        by_cases hpx : p x = true
        · rw [List.filter_cons_of_pos hpx, List.filter_cons_of_pos (by rw [he x hx]; exact hpx)]; simp; omega
        · rw [List.filter_cons_of_neg hpx, List.filter_cons_of_neg (by rw [he x hx]; exact hpx)]; exact this
    · simp only [List.mem_cons, not_or] at hm
      have := ih2 hm.2
      by_cases hpx : p x = true
      · rw [List.filter_cons_of_pos hpx, List.filter_cons_of_pos (by rw [he x (Ne.symm hm.1)]; exact hpx)]; simp [this]
      · rw [List.filter_cons_of_neg hpx, List.filter_cons_of_neg (by rw [he x (Ne.symm hm.1)]; exact hpx)]; exact this
theorem leftN_set {n i : Nat} {listed : Array Bool} (hi : i < n) (hs : listed.size = n) (h : listed.getD i true = false) : leftN n (listed.setIfInBounds i true) + 1 = leftN n listed := by
  refine (filter_set (i := i) (by simp [h]) ?_ (fun j hj => ?_) List.nodup_range).1 (by simpa using hi)
  · simp only [Array.getD_eq_getD_getElem?]
    rw [Array.getElem?_setIfInBounds_self_of_lt (by omega)]; rfl
  · simp only [Array.getD_eq_getD_getElem?]
    rw [Array.getElem?_setIfInBounds_ne (Ne.symm hj)]
end Go.V
/- Soundness: regions that draw their order: the theorem. -/
set_option linter.unusedVariables false
set_option linter.unusedSimpArgs false
namespace Go.V
open Go.RowKit
variable {P : Program}

section
variable {P : Program} {T : FuncId → Option IFn} {cb : Cb}
instance : Inhabited Tr := ⟨⟨⟨[], noH⟩, undefA, [], [], 0, 0⟩⟩
/-- All that is known of a drawing region's evaluation. -/
structure Drawn (P : Program) (T : FuncId → Option IFn) (cb : Cb) (ops : Array Oper) (ios : List IOp) (st st' : St) (ts : List Tr) : Prop where
  comp : ∀ (i : Nat) o io, ops[i]? = some o → ios[i]? = some io → cOper P ops ((Region.before ops).getD i 0) o = some io
  len : ios.length = ops.size
  tlen : ts.length = ops.size
  slots : ∀ (i j : Nat) oi oj, i < j → ops[i]? = some oi → ops[j]? = some oj → ((Region.before ops).getD j 0).testBit i = true ∨ oi.apart ops oj = true
  edges : ∀ (i : Nat) o, ops[i]? = some o → ∀ e ∈ o.after, Region.binds .any e = true → e.on < i
  uses : ∀ (i : Nat) o io, ops[i]? = some o → ios[i]? = some io → ∀ n, Arg.t n ∈ io.op.args → n ∈ o.looksAt ops
  step : ∀ (i : Nat) io t, ios[i]? = some io → ts[i]? = some t → StepT T cb io t ∧ ((ts[i + 1]?).map (·.st)).getD st' = t.next io ∧ ∀ (j : Nat) u, j < i → ts[j]? = some u → (io.bef.testBit j = true ∨ clash u.foot t.foot = false)
  start : ((ts[0]?).map (·.st)).getD st' = st
variable {ops : Array Oper} {ios : List IOp} {st st' : St} {ts : List Tr}
def dstF (ios : List IOp) (j : Nat) : Option Nat := ((ios[j]?).map (·.dst)).getD none
def valF (ts : List Tr) (j : Nat) : AV := ((ts[j]?).map (·.v)).getD undefA
def wrF (ts : List Tr) (j : Nat) : Wr := ((ts[j]?).map (·.wr)).getD []
def stF (ts : List Tr) (st' : St) (j : Nat) : St := ((ts[j]?).map (·.st)).getD st'
theorem Drawn.ios_at (D : Drawn P T cb ops ios st st' ts) {i : Nat} (hi : i < ops.size) : ∃ o io t, ops[i]? = some o ∧ ios[i]? = some io ∧ ts[i]? = some t :=
  ⟨ops[i], ios[i]'(by rw [D.len]; exact hi), ts[i]'(by rw [D.tlen]; exact hi), by simp [hi], by simp [D.len, hi], by simp [D.tlen, hi]⟩
theorem Drawn.at_ (D : Drawn P T cb ops ios st st' ts) : ∀ i, i ≤ ops.size → (stF ts st' i).env = envL st.env (dstF ios) (valF ts) (fun _ => true) i ∧ hget (stF ts st' i).H = memL (hget st.H) (wrF ts) (fun _ => true) i ∧ st.H.nx ≤ (stF ts st' i).H.nx
  | 0, _ => by
    have := D.start
    unfold stF
    rw [this]; exact ⟨rfl, rfl, Nat.le_refl _⟩
  | i + 1, hi => by
    obtain ⟨h1, h2, h3⟩ := D.at_ i (by omega)
    obtain ⟨o, io, t, e1, e2, e3⟩ := D.ios_at (i := i) (by omega)
    obtain ⟨-, g2, -⟩ := D.step i io t e2 e3
    have hst : stF ts st' (i + 1) = t.next io := g2
    have hti : stF ts st' i = t.st := by simp [stF, e3]
    rw [hst]
    rw [hti] at h1 h2 h3
    have hd : dstF ios i = io.dst := by simp [dstF, e2]
    have hv : valF ts i = t.v := by simp [valF, e3]
    have hw : wrF ts i = t.wr := by simp [wrF, e3]
    refine ⟨?_, ?_, ?_⟩
    · simp only [envL, if_true, hd, hv, ← h1, Tr.next]
    · simp only [memL, if_true, hw, ← h2, Tr.next, hget_wrH]
    · exact Nat.le_trans h3 (Nat.le_max_left _ _)
/-- Numbers of places rise. -/
theorem Drawn.nx_mono (D : Drawn P T cb ops ios st st' ts) : ∀ {i j : Nat}, i ≤ j → j ≤ ops.size → (stF ts st' i).H.nx ≤ (stF ts st' j).H.nx := by
  intro i j hij
  induction j with
  | zero => intro _; have : i = 0 := by omega
            subst this; exact Nat.le_refl _
  | succ j ih =>
    intro hj
    by_cases h : i = j + 1
    · subst h; exact Nat.le_refl _
    · refine Nat.le_trans (ih (by omega) (by omega)) ?_
      obtain ⟨o, io, t, e1, e2, e3⟩ := D.ios_at (i := j) (by omega)
      obtain ⟨-, g2, -⟩ := D.step j io t e2 e3
      have hst : stF ts st' (j + 1) = t.next io := g2
      have hti : stF ts st' j = t.st := by simp [stF, e3]
      rw [hst, hti]
      exact Nat.le_max_left _ _
/-- Behind a set of the operations. -/
structure Good (P : Program) (ops : Array Oper) (ios : List IOp) (ts : List Tr) (st st' : St) (S0 : Nat → Prop) (φ0 : Phi) (w0 : World) (a0 : Act) (listed : Array Bool) (a : Act) (w : World) : Prop where
  size : listed.size = ops.size
  closed : ∀ i o, listed.getD i false = true → ops[i]? = some o → ∀ e ∈ o.after, Region.binds .any e = true → listed.getD e.on false = true
  defers : a.defers = a0.defers
  ex : ∃ S φ, Sim P S φ (memL (hget st.H) (wrF ts) (fun j => listed.getD j false) ops.size) w ∧ Reps w S φ (envL st.env (dstF ios) (valF ts) (fun j => listed.getD j false) ops.size) a.tmps ∧
    Adv S0 φ0 (hget st.H) w0 S φ (memL (hget st.H) (wrF ts) (fun j => listed.getD j false) ops.size) w ∧
    ∀ id, st.H.nx ≤ id → (∀ j, j < ops.size → listed.getD j false = true → (stF ts st' j).H.nx ≤ id → (stF ts st' (j + 1)).H.nx ≤ id) → φ id = none
theorem envL_true (st : List AV) (dst : Nat → Option Nat) (v : Nat → AV) (i : Nat) : ∀ n, i ≤ n → envL st dst v (fun j => decide (j < i)) n = envL st dst v (fun _ => true) i := by
  have base : ∀ m, m ≤ i → envL st dst v (fun j => decide (j < i)) m = envL st dst v (fun _ => true) m := fun m hm => by
    induction m with
    | zero => rfl
    | succ m ih => simp only [envL, ih (by omega), show m < i by omega, decide_true, if_true]
  intro n hn
  induction n with
  | zero => have : i = 0 := by omega
            subst this; rfl
  | succ n ih =>
    by_cases h : i = n + 1
    · subst h; exact base _ (Nat.le_refl _)
    · simp only [envL, show ¬ n < i by omega, decide_false, Bool.false_eq_true, if_false]
      exact ih (by omega)
theorem memL_true (h : Mem) (wr : Nat → Wr) (i : Nat) : ∀ n, i ≤ n → memL h wr (fun j => decide (j < i)) n = memL h wr (fun _ => true) i := by
  have base : ∀ m, m ≤ i → memL h wr (fun j => decide (j < i)) m = memL h wr (fun _ => true) m := fun m hm => by
    induction m with
    | zero => rfl
    | succ m ih => simp only [memL, ih (by omega), show m < i by omega, decide_true, if_true]
  intro n hn
  induction n with
  | zero => have : i = 0 := by omega
            subst this; rfl
  | succ n ih =>
    by_cases h : i = n + 1
    · subst h; exact base _ (Nat.le_refl _)
    · simp only [memL, show ¬ n < i by omega, decide_false, Bool.false_eq_true, if_false]
      exact ih (by omega)
theorem memL_none (h : Mem) (wr : Nat → Wr) : ∀ n, memL h wr (fun _ => false) n = h
  | 0 => rfl
  | n + 1 => by simp only [memL, Bool.false_eq_true, if_false]; exact memL_none h wr n
theorem envL_none (st : List AV) (dst : Nat → Option Nat) (v : Nat → AV) : ∀ n, envL st dst v (fun _ => false) n = st
  | 0 => rfl
  | n + 1 => by simp only [envL, Bool.false_eq_true, if_false]; exact envL_none st dst v n
theorem listed_lt {listed : Array Bool} {n j : Nat} (hs : listed.size = n) (h : listed.getD j false = true) : j < n := by
  rcases Nat.lt_or_ge j listed.size with h' | h'
  · omega
  · simp only [Array.getD_eq_getD_getElem?] at h
    rw [Array.getElem?_eq_none h'] at h; simp at h
theorem getD_same {listed : Array Bool} {n i : Nat} (hs : listed.size = n) (hi : i < n) (h : listed.getD i true = false) : listed.getD i false = false := by
  have hlt : i < listed.size := by omega
  simp only [Array.getD_eq_getD_getElem?] at h ⊢
  have : listed[i]? = some listed[i] := by simp [hlt]
  rw [this] at h ⊢; simpa using h
theorem set_listed {listed : Array Bool} {i : Nat} (hi : i < listed.size) : (fun j => (listed.setIfInBounds i true).getD j false) = fun j => if j = i then true else listed.getD j false := by
  funext j
  by_cases h : j = i
  · subst h
    simp only [Array.getD_eq_getD_getElem?, if_true]
    rw [Array.getElem?_setIfInBounds_self_of_lt hi]; rfl
  · simp only [Array.getD_eq_getD_getElem?, h, if_false]
    rw [Array.getElem?_setIfInBounds_ne (Ne.symm h)]
theorem draw_any (hT : TOK P T) (hcb : CbOK P cb) {F : Fence} (hF : WF F) (D : Drawn P T cb ops ios st st' ts) {S0 : Nat → Prop} {φ0 : Phi} {w0 : World} {a0 : Act} {Q : Exit → Act → World → Prop}
    (hQ : ∀ a w, (∃ S φ, Sim P S φ (hget st'.H) w ∧ Reps w S φ st'.env a.tmps ∧ Adv S0 φ0 (hget st.H) w0 S φ (hget st'.H) w ∧ (∀ id, st'.H.nx ≤ id → φ id = none)) → a.defers = a0.defers → Q .normal a w) :
    ∀ (fuel : Nat) (listed : Array Bool) (a : Act) (w : World), leftN ops.size listed = fuel → Good P ops ios ts st st' S0 φ0 w0 a0 listed a w → wpAnyIn F 0 P .any ops Q fuel listed a w := by
  -- when none is ready all are listed
  have hend : ∀ (listed : Array Bool) (a : Act) (w : World), Good P ops ios ts st st' S0 φ0 w0 a0 listed a w → Region.ready .any ops listed = [] → Q .normal a w := by
    intro listed a w G hr
    have hall : ∀ i, i < ops.size → listed.getD i false = true := by
      intro i
      induction i using Nat.strongRecOn with
      | _ i ih =>
        intro hi
        cases hl : listed.getD i true with
        | true =>
          simp only [Array.getD_eq_getD_getElem?] at hl ⊢
          have hlt : i < listed.size := by rw [G.size]; exact hi
          have : listed[i]? = some listed[i] := by simp [hlt]
          rw [this] at hl ⊢; simpa using hl
        | false =>
          have : i ∈ Region.ready .any ops listed := by
            rw [mem_ready]
            refine ⟨hl, ops[i], by simp [hi], fun e he hb => ?_⟩
            have hlt := D.edges i ops[i] (by simp [hi]) e he hb
            exact ih e.on hlt (by omega)
          rw [hr] at this; cases this
    obtain ⟨S, φ, h1, h2, h3, h4⟩ := G.ex
    obtain ⟨f1, f2, f3⟩ := D.at_ ops.size (Nat.le_refl _)
    have hfin : stF ts st' ops.size = st' := by
      unfold stF
      rw [List.getElem?_eq_none (by rw [D.tlen]; exact Nat.le_refl _)]; rfl
    rw [hfin] at f1 f2 f3
    have em : memL (hget st.H) (wrF ts) (fun j => listed.getD j false) ops.size = hget st'.H := by
      rw [f2]; funext id
      exact memL_congr _ fun j hj _ => hall j hj
    have ee : envL st.env (dstF ios) (valF ts) (fun j => listed.getD j false) ops.size = st'.env := by
      rw [f1]; apply List.ext_getElem?; intro t
      exact envL_congr _ fun j hj _ => hall j hj
    rw [em] at h1 h3
    rw [ee] at h2
    refine hQ a w ⟨S, φ, h1, h2, h3, fun id hid => h4 id (by omega) fun j hj _ _ => ?_⟩ G.defers
    have := D.nx_mono (i := j + 1) (j := ops.size) (by omega) (Nat.le_refl _)
    rw [hfin] at this; omega
  intro fuel
  induction fuel with
  | zero =>
    intro listed a w hl G
    have hr : Region.ready .any ops listed = [] := by
      cases hr : Region.ready .any ops listed with
      | nil => rfl
      | cons i l =>
        have hi : i ∈ Region.ready .any ops listed := by rw [hr]; simp
        rw [mem_ready] at hi
        obtain ⟨h0, o, ho, -⟩ := hi
        have hlt : i < ops.size := (Array.getElem?_eq_some_iff.1 ho).1
        have := leftN_set hlt G.size h0
        omega
    exact ⟨hr, hend listed a w G hr⟩
  | succ fuel ih =>
    intro listed a w hl G
    refine ⟨hend listed a w G, fun i hi => ?_⟩
    rw [mem_ready] at hi
    obtain ⟨h0, o, ho, hall⟩ := hi
    have hlt : i < ops.size := (Array.getElem?_eq_some_iff.1 ho).1
    have hleft := leftN_set hlt G.size h0
    obtain ⟨o', io, t, e1, e2, e3⟩ := D.ios_at hlt
    rw [ho] at e1; cases e1
    obtain ⟨hst, hnext, hfoot⟩ := D.step i io t e2 e3
    have hcomp := D.comp i o io ho e2
    obtain ⟨d1, d2, d3⟩ := cOper_op hcomp
    have hp : listed.getD i false = false := getD_same G.size hlt h0
    have hbef := closed_before (listed := listed) (fun i o h1 h2 => G.closed i o h1 h2) i o ho hall
    have hti : stF ts st' i = t.st := by simp [stF, e3]
    obtain ⟨c1, c2, c3⟩ := D.at_ i (by omega)
    rw [hti] at c1 c2 c3
    have hdst : dstF ios i = io.dst := by simp [dstF, e2]
    have hval : valF ts i = t.v := by simp [valF, e3]
    have hwr : wrF ts i = t.wr := by simp [wrF, e3]
    -- those behind that are listed do not hang on it
    have later : ∀ j oj ioj, i < j → ops[j]? = some oj → ios[j]? = some ioj → listed.getD j false = true → ((Region.before ops).getD j 0).testBit i = false := fun j oj ioj hij hoj hioj hlj => by
      cases hb : ((Region.before ops).getD j 0).testBit i with
      | false => rfl
      | true =>
        have := closed_before (listed := listed) (fun i o h1 h2 => G.closed i o h1 h2) j oj hoj (G.closed j oj hlj hoj) i hb
        rw [hp] at this; cases this
    -- the slots that it looks at
    have slot : ∀ s, (s ∈ o.looksAt ops ∨ o.dst = some s) → ∀ j, j < ops.size → dstF ios j = some s → j ≠ i → listed.getD j false = decide (j < i) := by
      intro s hs j hj hdj hji
      obtain ⟨oj, ioj, tj, q1, q2, q3⟩ := D.ios_at hj
      have hoj := (cOper_op (D.comp j oj ioj q1 q2)).1
      have hdj' : oj.dst = some s := by rw [← hoj]; simpa [dstF, q2] using hdj
      rcases Nat.lt_or_gt_of_ne hji with hlt2 | hlt2
      · simp only [hlt2, decide_true]
        rcases D.slots j i oj o hlt2 q1 ho with h1 | h1
        · exact hbef j h1
        · exfalso
          obtain ⟨r1, r2, r3⟩ := apart_dst h1
          rcases hs with hs | hs
          · exact r1 s hdj' hs
          · exact r2 s hdj' hs
      · simp only [show ¬ j < i by omega, decide_false]
        cases hlj : listed.getD j false with
        | false => rfl
        | true =>
          exfalso
          have hb := later j oj ioj hlt2 q1 q2 hlj
          rcases D.slots i j o oj hlt2 ho q1 with h1 | h1
          · rw [hb] at h1; cases h1
          · obtain ⟨r1, r2, r3⟩ := apart_dst h1
            rcases hs with hs | hs
            · exact r3 s hdj' hs
            · exact r2 s hs hdj'
    obtain ⟨S, φ, s1, s2, s3, s4⟩ := G.ex
    have looks : ∀ s, s ∈ o.looksAt ops → (envL st.env (dstF ios) (valF ts) (fun j => listed.getD j false) ops.size).getD s undefA = t.st.env.getD s undefA := by
      intro s hs
      have : (envL st.env (dstF ios) (valF ts) (fun j => listed.getD j false) ops.size)[s]? = t.st.env[s]? := by
        rw [c1, ← envL_true st.env (dstF ios) (valF ts) i ops.size (by omega)]
        refine envL_congr _ fun j hj hdj => ?_
        by_cases hji : j = i
        · subst hji; rw [hp]; simp
        · exact slot s (.inl hs) j hj hdj hji
      simp only [List.getD_eq_getElem?_getD, this]
    have hwant : wantedA (envL st.env (dstF ios) (valF ts) (fun j => listed.getD j false) ops.size) io.guard = wantedA t.st.env io.guard := by
      unfold cOper at hcomp
      split at hcomp
      · cases hcomp; rfl
      · rename_i j want hg
        split at hcomp
        · rename_i tt ht
          cases hcomp
          have hin : tt ∈ o.looksAt ops := by unfold Oper.looksAt; simp only [hg, ht]; simp
          simp only [wantedA, looks tt hin]
        · cases hcomp
    have hwant2 := wanted_eq hcomp s2
    rw [hwant] at hwant2
    -- what comes behind it
    have after : ∀ (S' : Nat → Prop) (φ' : Phi) (vv : Value) (w' : World), Sim P S' φ' (updH (memL (hget st.H) (wrF ts) (fun j => listed.getD j false) ops.size) t.wr) w' → Adv S φ (memL (hget st.H) (wrF ts) (fun j => listed.getD j false) ops.size) w S' φ' (updH (memL (hget st.H) (wrF ts) (fun j => listed.getD j false) ops.size) t.wr) w' →
        Rep w' S' φ' t.v vv → (∀ id, st.H.nx ≤ id → (∀ j, j < ops.size → (listed.setIfInBounds i true).getD j false = true → (stF ts st' j).H.nx ≤ id → (stF ts st' (j + 1)).H.nx ≤ id) → φ' id = none) → Good P ops ios ts st st' S0 φ0 w0 a0 (listed.setIfInBounds i true) (a.put o.dst vv) w' := by
      intro S' φ' vv w' k1 k2 k3 k4
      have hsz : i < listed.size := by rw [G.size]; exact hlt
      have hset := set_listed (listed := listed) hsz
      have emem : memL (hget st.H) (wrF ts) (fun j => (listed.setIfInBounds i true).getD j false) ops.size = updH (memL (hget st.H) (wrF ts) (fun j => listed.getD j false) ops.size) t.wr := by
        rw [hset, memL_add hp ops.size fun j hij hj hlj id hid hidj => ?_, if_pos hlt, hwr]
        obtain ⟨oj, ioj, tj, q1, q2, q3⟩ := D.ios_at hj
        have hb := later j oj ioj hij q1 q2 hlj
        obtain ⟨-, -, f3⟩ := D.step j ioj tj q2 q3
        have hbj := (cOper_op (D.comp j oj ioj q1 q2)).2.2
        rcases f3 i t hij e3 with h1 | h1
        · rw [hbj, hb] at h1; cases h1
        · have := (clash_false h1).1 id (by simpa [Tr.foot, wrF, e3] using hid)
          exact this.2 (by simpa [Tr.foot, wrF, q3] using hidj)
      have eenv : envL st.env (dstF ios) (valF ts) (fun j => (listed.setIfInBounds i true).getD j false) ops.size = setD (envL st.env (dstF ios) (valF ts) (fun j => listed.getD j false) ops.size) o.dst t.v := by
        rw [hset, envL_add hp ops.size fun j hij hj hlj s hs hsj => ?_, if_pos hlt, hval, hdst, d1]
        have := slot s (.inr (by rw [← d1, ← hdst]; exact hs)) j hj hsj (by omega)
        rw [hlj] at this; simp at this; omega
      refine ⟨by simp [G.size], fun j oj hlj hoj e he hb => ?_, by rw [put_defers]; exact G.defers, S', φ', by rw [emem]; exact k1, ?_, by rw [emem]; exact s3.trans k2, fun id hid hj => ?_⟩
      · have := congrFun hset j
        rw [this] at hlj
        by_cases hji : j = i
        · subst hji; rw [ho] at hoj; cases hoj
          exact getD_set_true (hall e he hb)
        · simp only [hji, if_false] at hlj
          exact getD_set_true (G.closed j oj hlj hoj e he hb)
      · rw [eenv]; exact reps_put (k2.reps s1 s2) k3 o.dst
      · exact k4 id hid hj
    -- numbers of places that are drawn by one operation
    have only : ∀ (φ' : Phi), (∀ id, (id < t.st.H.nx ∨ t.nx ≤ id) → φ' id = φ id) → ∀ id, st.H.nx ≤ id → (∀ j, j < ops.size → (listed.setIfInBounds i true).getD j false = true → (stF ts st' j).H.nx ≤ id → (stF ts st' (j + 1)).H.nx ≤ id) → φ' id = none := by
      intro φ' k4 id hid hj
      have hsz : i < listed.size := by rw [G.size]; exact hlt
      have hset := set_listed (listed := listed) hsz
      have hi' := hj i hlt (by have := congrFun hset i; rw [this]; simp)
      rw [hti] at hi'
      have hn1 : (stF ts st' (i + 1)).H.nx = max t.st.H.nx t.nx := by
        have : stF ts st' (i + 1) = t.next io := hnext
        rw [this]; rfl
      rw [hn1] at hi'
      rw [k4 id (by omega)]
      refine s4 id hid fun j hjs hlj => hj j hjs ?_
      have := congrFun hset j
      rw [this, hlj]; simp
    unfold wpOpIn
    rw [ho]
    simp only
    rcases hst.run with ⟨r1, r2, -⟩ | ⟨r1, r2, r3, r4, r5, -⟩ | ⟨r1, hk2, H', r2, -, r4, r5, r6⟩
    · rw [r1] at hwant2
      rw [if_pos hwant2.symm]
      rw [d2] at r2
      cases hcop : cOp P o.op with
      | none => rw [hcop] at r2; cases r2
      | some oo =>
        rw [hcop] at r2
        have huse := D.uses i o io ho e2
        rw [d2, hcop] at huse
        have hev : evalD T cb (envL st.env (dstF ios) (valF ts) (fun j => listed.getD j false) ops.size) t.st.H t.st.H.nx oo = some (.eff t.v t.rd t.wr t.nx) := by
          rw [← r2]
          refine evalD_congr fun x hx => ?_
          cases x with
          | c v => rfl
          | t n => rw [arg_t, arg_t]; exact looks n (huse n hx)
        refine wpIn_of hF (cOp_noDeferD hcop hev) (opD_eff hT hcb hcop rfl hev (fun id hid => ?_) s1 s2 (fun id i1 i2 => ?_)) fun vv w' hE => ?_
        · -- what it reads is as it was
          rw [c2, ← memL_true (hget st.H) (wrF ts) i ops.size (by omega)]
          refine memL_congr _ fun j hj hidj => ?_
          obtain ⟨oj, ioj, tj, q1, q2, q3⟩ := D.ios_at hj
          by_cases hji : j = i
          · subst hji; rw [hp]; simp
          · rcases Nat.lt_or_gt_of_ne hji with hlt2 | hlt2
            · simp only [hlt2, decide_true]
              rcases hfoot j tj hlt2 q3 with h1 | h1
              · rw [d3] at h1; exact hbef j h1
              · exact absurd hid ((clash_false h1).1 id (by simpa [Tr.foot, wrF, q3] using hidj)).1
            · simp only [show ¬ j < i by omega, decide_false]
              cases hlj : listed.getD j false with
              | false => rfl
              | true =>
                have hb := later j oj ioj hlt2 q1 q2 hlj
                obtain ⟨-, -, f3⟩ := D.step j ioj tj q2 q3
                have hbj := (cOper_op (D.comp j oj ioj q1 q2)).2.2
                rcases f3 i t hlt2 e3 with h1 | h1
                · rw [hbj, hb] at h1; cases h1
                · exact absurd hid ((clash_false h1).2 id (by simpa [Tr.foot, wrF, q3] using hidj))
        · -- its new places are new
          refine s4 id (by omega) fun j hj hlj hle => ?_
          by_cases hji : j = i
          · subst hji; rw [hp] at hlj; cases hlj
          · rcases Nat.lt_or_gt_of_ne hji with hlt2 | hlt2
            · have := D.nx_mono (i := j + 1) (j := i) (by omega) (by omega)
              rw [hti] at this; omega
            · have h1 := D.nx_mono (i := i + 1) (j := j) (by omega) (by omega)
              have hn1 : (stF ts st' (i + 1)).H.nx = max t.st.H.nx t.nx := by
                have : stF ts st' (i + 1) = t.next io := hnext
                rw [this]; rfl
              rw [hn1] at h1; omega
        · obtain ⟨S', φ', hD⟩ := hE
          exact ih _ _ _ (by omega) (after S' φ' vv w' hD.sim hD.adv hD.rep (only φ' hD.only))
    · rw [r1] at hwant2
      rw [if_neg (by rw [← hwant2]; simp)]
      refine ⟨fun f _ => hF.fn f, ih _ _ _ (by omega) (after S φ undef w ?_ ?_ ?_ (only φ fun _ _ => rfl))⟩
      · rw [r4]; exact s1
      · rw [r4]; exact Adv.refl _ _ _ _
      · rw [r2]; exact undef_rep
    · -- an operation that works on all of the memory: all that touched it before is done, nothing behind it
      rw [r1] at hwant2
      rw [if_pos hwant2.symm]
      rw [d2] at r2
      have quiet : ∀ j tj, j < ops.size → ts[j]? = some tj → tj.k = 0 → tj.wr = [] ∧ (stF ts st' (j + 1)).H.nx = (stF ts st' j).H.nx := by
        intro j tj hj q3 hk
        obtain ⟨oj, ioj, tj', q1, q2, q3'⟩ := D.ios_at hj
        rw [q3] at q3'; cases q3'
        obtain ⟨f1, f2, -⟩ := D.step j ioj tj q2 q3
        obtain ⟨g1, g2⟩ := f1.quiet hk
        refine ⟨g1, ?_⟩
        have hs1 : stF ts st' (j + 1) = tj.next ioj := f2
        have hs2 : stF ts st' j = tj.st := by simp [stF, q3]
        rw [hs1, hs2]
        show max tj.st.H.nx tj.nx = tj.st.H.nx
        omega
      have done : ∀ j tj, j < i → ts[j]? = some tj → tj.k ≠ 0 → listed.getD j false = true := by
        intro j tj hj q3 hk
        rcases hfoot j tj hj q3 with h1 | h1
        · rw [d3] at h1; exact hbef j h1
        · exact absurd ((clash_all h1).2 hk2) hk
      have open_ : ∀ j tj, i < j → j < ops.size → ts[j]? = some tj → tj.k ≠ 0 → listed.getD j false = false := by
        intro j tj hij hj q3 hk
        obtain ⟨oj, ioj, tj', q1, q2, q3'⟩ := D.ios_at hj
        rw [q3] at q3'; cases q3'
        cases hlj : listed.getD j false with
        | false => rfl
        | true =>
          have hb := later j oj ioj hij q1 q2 hlj
          obtain ⟨-, -, f3⟩ := D.step j ioj tj q2 q3
          have hbj := (cOper_op (D.comp j oj ioj q1 q2)).2.2
          rcases f3 i t hij e3 with h1 | h1
          · rw [hbj, hb] at h1; cases h1
          · exact absurd ((clash_all h1).1 hk2) hk
      have hmem : memL (hget st.H) (wrF ts) (fun j => listed.getD j false) ops.size = hget t.st.H := by
        funext id
        rw [c2, ← memL_true (hget st.H) (wrF ts) i ops.size (by omega)]
        refine memL_congr _ fun j hj hidj => ?_
        obtain ⟨oj, ioj, tj, q1, q2, q3⟩ := D.ios_at hj
        have hk : tj.k ≠ 0 := fun hk => by
          have := (quiet j tj hj q3 hk).1
          simp [wrF, q3, this, ids] at hidj
        by_cases hji : j = i
        · subst hji; rw [hp]; simp
        · rcases Nat.lt_or_gt_of_ne hji with hlt2 | hlt2
          · simp only [hlt2, decide_true]; exact done j tj hlt2 q3 hk
          · simp only [show ¬ j < i by omega, decide_false]; exact open_ j tj hlt2 hj q3 hk
      have htop : ∀ id, t.st.H.nx ≤ id → φ id = none := fun id hid => by
        refine s4 id (by omega) fun j hj hlj hle => ?_
        by_cases hji : j = i
        · subst hji; rw [hp] at hlj; cases hlj
        · rcases Nat.lt_or_gt_of_ne hji with hlt2 | hlt2
          · have := D.nx_mono (i := j + 1) (j := i) (by omega) (by omega)
            rw [hti] at this; omega
          · obtain ⟨oj, ioj, tj, q1, q2, q3⟩ := D.ios_at hj
            by_cases hk : tj.k = 0
            · rw [(quiet j tj hj q3 hk).2]; exact hle
            · rw [open_ j tj hlt2 hj q3 hk] at hlj; cases hlj
      have hn1 : (stF ts st' (i + 1)).H.nx = H'.nx := by
        have : stF ts st' (i + 1) = t.next io := hnext
        rw [this]
        show max t.st.H.nx t.nx = H'.nx
        omega
      cases hcop : cOp P o.op with
      | none => rw [hcop] at r2; cases r2
      | some oo =>
        rw [hcop] at r2
        have huse := D.uses i o io ho e2
        rw [d2, hcop] at huse
        have hev : evalD T cb (envL st.env (dstF ios) (valF ts) (fun j => listed.getD j false) ops.size) t.st.H t.st.H.nx oo = some (.whole t.v H') := by
          rw [← r2]
          refine evalD_congr fun x hx => ?_
          cases x with
          | c v => rfl
          | t n => rw [arg_t, arg_t]; exact looks n (huse n hx)
        rw [hmem] at s1
        refine wpIn_ofW hF (cOp_noDeferD hcop hev) (op_whole hT hcb hcop rfl (evalD_whole hev) s1 s2 htop) fun vv w' hE => ?_
        obtain ⟨S', φ', k2, k1, k3, k4, k5⟩ := hE
        refine ih _ _ _ (by omega) (after S' φ' vv w' ?_ ?_ k3 fun id hid hj => ?_)
        · rw [hmem, r4, updH_snap]; exact k1
        · rw [hmem, r4, updH_snap]; exact k2
        · -- places that were there before are all drawn
          refine k4 id ?_
          have hsz : i < listed.size := by rw [G.size]; exact hlt
          have hset := set_listed (listed := listed) hsz
          have walk : ∀ j, j ≤ i + 1 → (stF ts st' j).H.nx ≤ id := by
            intro j
            induction j with
            | zero =>
              intro _
              have := D.start
              unfold stF
              rw [this]; exact hid
            | succ j ihj =>
              intro hj1
              have hle := ihj (by omega)
              have hjs : j < ops.size := by omega
              by_cases hji : j = i
              · exact hj j hjs (by have := congrFun hset j; rw [this]; simp [hji]) hle
              · obtain ⟨oj, ioj, tj, q1, q2, q3⟩ := D.ios_at hjs
                by_cases hk : tj.k = 0
                · rw [(quiet j tj hjs q3 hk).2]; exact hle
                · exact hj j hjs (by have := congrFun hset j; rw [this]; simp only [hji, if_false]; exact done j tj (by omega) q3 hk) hle
          have := walk (i + 1) (Nat.le_refl _)
          omega
theorem region_draw (hT : TOK P T) (hcb : CbOK P cb) (hm : P.follows .mixedOrders = true) {F : Fence} (hF : WF F) {id : Nat} {Q : Exit → Act → World → Prop} {S : Nat → Prop} {φ : Phi} {w : World} {a : Act} (hc : cOpers P ops ops.toList 0 = some ios) (hs : slotsOK ops = true) (hu : usesOK ops ops.toList ios = true) (he : evalDraw T cb ios 0 [] st = some st') (hI : Inv P S φ w st a)
    (hQ : ∀ a' w', Reach P S φ w st a st' a' w' → Q .normal a' w') : (Code.region id ops true).wpIn F 0 P Q a w := by
  obtain ⟨ts, h1, h2, h3⟩ := trace he
  obtain ⟨c1, c2⟩ := cOpers_get hc
  obtain ⟨sl1, sl2⟩ := slots_spec hs
  have cc : ∀ (i : Nat) o io, ops[i]? = some o → ios[i]? = some io → cOper P ops ((Region.before ops).getD i 0) o = some io := fun i o io ho hio => by
    have := c2 i o io (by simpa using ho) hio
    simpa using this
  have D : Drawn P T cb ops ios st st' ts := ⟨cc, by simpa using c1, by rw [h1]; simpa using c1, sl1, sl2, fun i o io ho hio => uses_spec hu i o io (by simpa using ho) hio,
    fun i io t hio ht => by
      obtain ⟨g1, g2, -, g4⟩ := h2 i io t hio ht
      exact ⟨g1, g2, fun j u hj hu => by simpa using g4 j u hj hu⟩, h3⟩
  refine wpIn_region_any hm ?_
  have hfin : stF ts st' ops.size = st' := by
    unfold stF
    rw [List.getElem?_eq_none (by rw [D.tlen]; exact Nat.le_refl _)]; rfl
  have hle := (D.at_ ops.size (Nat.le_refl _)).2.2
  rw [hfin] at hle
  refine draw_any hT hcb hF D (S0 := S) (φ0 := φ) (w0 := w) (a0 := a) (fun a' w' hex hd => ?_) ops.size (Array.replicate ops.size false) a w.drew ?_ ?_
  · obtain ⟨S', φ', k1, k2, k3, k4⟩ := hex
    exact hQ a' w' ⟨S', φ', ⟨k1, k2, k4⟩, k3, hd, hle⟩
  · have hall : ∀ i ∈ List.range ops.size, (!(Array.replicate ops.size false).getD i true) = true := fun i hi => by
      have hi' : i < ops.size := by simpa using hi
      simp [hi']
    unfold leftN
    rw [List.filter_eq_self.2 hall]; simp
  · have hno : ∀ j, (Array.replicate ops.size false).getD j false = false := fun j => by
      by_cases hj : j < ops.size
      · simp [hj]
      · simp only [Array.getD_eq_getD_getElem?]; rw [Array.getElem?_eq_none (by simpa using hj)]; rfl
    have hp : (fun j => (Array.replicate ops.size false).getD j false) = fun _ => false := funext hno
    have em : memL (hget st.H) (wrF ts) (fun j => (Array.replicate ops.size false).getD j false) ops.size = hget st.H := by rw [hp]; exact memL_none _ _ _
    have ee : envL st.env (dstF ios) (valF ts) (fun j => (Array.replicate ops.size false).getD j false) ops.size = st.env := by rw [hp]; exact envL_none _ _ _ _
    exact ⟨by simp, (fun i o hl => by rw [hno] at hl; cases hl), rfl, S, φ, by rw [em]; exact hI.drewR.sim, by rw [ee]; exact hI.drewR.env, by rw [em]; exact Adv.drewR _ _ _ _, fun id hid _ => hI.top id hid⟩
end
end Go.V
/- Soundness: code, and functions. -/
set_option linter.unusedVariables false
set_option linter.unusedSimpArgs false
namespace Go.V
open Go.RowKit
variable {P : Program}

theorem World.putObj_heap {w : World} {r k : Nat} {o : Obj} (h : r < w.heap.size) : (w.putObj r o).heap[k]? = if k = r then some o else w.heap[k]? := by
  by_cases hk : k = r
  · subst hk; rw [if_pos rfl]; exact World.putObj_heap_same h
  · rw [if_neg hk]; exact World.putObj_heap_other hk
def Ex.to : Ex → Exit
  | .normal => .normal
  | .exit id => .exit id
  | .ret => .ret
  | .pan v => .panic [{ v := v, recovered := false }]
theorem Ex.to_then {K : Act → World → Prop} {Q : Exit → Act → World → Prop} {e : Ex} (h : e ≠ .normal) (a : Act) (w : World) : Exit.then K Q e.to a w = Q e.to a w := by cases e <;> first | rfl | exact absurd rfl h

/-- A loop, by how often it goes round at most. -/
theorem wpIn_rounds {F : Fence} {n : Nat} {P : Program} {c : Code} {Q : Exit → Act → World → Prop} (J : Nat → Act → World → Prop) (h0 : ∀ a w, ¬ J 0 a w)
    (round : ∀ k a w, J (k + 1) a w → c.wpIn F n P (Exit.then (J k) Q) a w) {m : Nat} {a : Act} {w : World} (h : J m a w) : (Code.loop c).wpIn F n P Q a w := by
  intro b k cs hro hb hr
  have key : ∀ j a w, J j a w → ∃ e a' w', Q e a' w' ∧ ArrivesIn (Machine.fenced P F) P (lone (b.atR a (.code c :: .inLoop c :: k)) cs w) b k cs e a' w' := by
    intro j
    induction j with
    | zero => intro a w hJ; exact absurd hJ (h0 a w)
    | succ j ih =>
      intro a w hJ
      obtain ⟨e, a₁, w₁, hq, harr⟩ := round j a w hJ b (.inLoop c :: k) cs hro hb hr
      cases e with
      | normal =>
        obtain ⟨e₂, a₂, w₂, hq₂, harr₂⟩ := ih a₁ w₁ hq
        exact ⟨e₂, a₂, w₂, hq₂, .of_steps (StepsIn.trans harr (.one (fenced_calm hb hr rfl) stepR_inLoop)) harr₂⟩
      | exit id => exact ⟨_, a₁, w₁, hq, .pass (x := .inLoop c) rfl (fun _ _ => .inl (by simp)) harr⟩
      | goto l => exact ⟨_, a₁, w₁, hq, .pass (x := .inLoop c) rfl (fun _ _ => .inl (by simp)) harr⟩
      | ret => exact ⟨_, a₁, w₁, hq, .pass (x := .inLoop c) rfl (fun _ _ => .inl (by simp)) harr⟩
      | panic ch => exact ⟨_, a₁, w₁, hq, .pass (x := .inLoop c) rfl (fun _ _ => .inl (by simp)) harr⟩
      | outgrown => exact ⟨_, a₁, w₁, hq, .pass (x := .inLoop c) rfl (fun _ _ => .inl (by simp)) harr⟩
  obtain ⟨e, a', w', hq, harr⟩ := key _ a w h
  exact ⟨e, a', w', hq, .of_steps (.one (fenced_calm hb hr rfl) stepR_loop) harr⟩

/-! A scope that no jump goes through -/
section
variable {b : Frame} {a : Act} {k : List Item} {cs : List Frame} {w : World} {F : Fence} {n : Nat}
theorem stepR_scope {c : Code} : step P (lone (b.atR a (.code (.scope c) :: k)) cs w) = .next (lone (b.atR a (.code c :: .inScope c :: k)) cs w) :=
  step_lone_go (by simp [stepG, stepG.exec, Frame.atR])
theorem stepR_inScope {c : Code} : step P (lone (b.atR a (.inScope c :: k)) cs w) = .next (lone (b.atR a k) cs w) :=
  step_lone_go (by simp [stepG, stepG.exec, Frame.atR])
theorem wpIn_scope {c : Code} {Q : Exit → Act → World → Prop} (h : c.wpIn F n P (fun e a w => (∀ l, e ≠ .goto l) ∧ Q e a w) a w) : (Code.scope c).wpIn F n P Q a w := by
  intro b k cs hro hb hr
  have h0 : (lone (b.atR a (.code (.scope c) :: k)) cs w).fenced P F := fenced_calm hb hr rfl
  obtain ⟨e, a₁, w₁, ⟨hng, hq⟩, harr⟩ := h b (.inScope c :: k) cs hro hb hr
  cases e with
  | normal => exact ⟨.normal, a₁, w₁, hq, .head h0 stepR_scope (StepsIn.trans harr (.one (fenced_calm (fr := b.atR a₁ (.inScope c :: k)) hb hr rfl) stepR_inScope))⟩
  | exit id => exact ⟨.exit id, a₁, w₁, hq, .of_steps (.one h0 stepR_scope) ⟨fun k' hk => harr.1 k' (by simp [exitTo, hk]), fun hr hk => harr.2 hr (by simp [exitTo, hk])⟩⟩
  | goto l => exact absurd rfl (hng l)
  | ret => exact ⟨_, a₁, w₁, hq, .of_steps (.one h0 stepR_scope) harr⟩
  | panic ch => exact ⟨_, a₁, w₁, hq, .of_steps (.one h0 stepR_scope) harr⟩
  | outgrown => exact ⟨_, a₁, w₁, hq, .of_steps (.one h0 stepR_scope) harr⟩
end
theorem Ex.to_goto (e : Ex) (l : Nat) : e.to ≠ .goto l := by cases e <;> simp [Ex.to]

theorem shape_loop {w : World} {b : Nat} {r : Loop} (h : w.heap[b]? = some (.loop r)) : w.shape? b = none := by unfold World.shape?; rw [h]
theorem shape_deferred {w : World} {b : Nat} {d : Option (List Deferred)} (h : w.heap[b]? = some (.deferred d)) : w.shape? b = none := by unfold World.shape?; rw [h]
theorem hget_wr1 (H : Heap) (id : Nat) (b : Option Blk) (nx : Nat) : hget (wrH H [(id, b)] nx) = fun k => if k = id then b else hget H k := by rw [hget_wrH, updH_one]

/-! Marks; the frames of rounds -/
def DefOK (w : World) (S : Nat → Prop) (φ : Phi) : DE → Deferred → Prop
  | .mk id, d => ∃ loc, φ id = some loc ∧ d = { target := .collected loc.blk, args := #[] }
  | .fn f as, d => ∃ caps da, d = { target := .fn (.func f) caps, args := da } ∧ Reps w S φ as (da ++ caps)
def Marks (w : World) (S : Nat → Prop) (φ : Phi) : List DE → List Deferred → Prop
  | [], [] => True
  | e :: es, d :: ds => DefOK w S φ e d ∧ Marks w S φ es ds
  | _, _ => False
theorem DefOK.adv {S S' : Nat → Prop} {φ φ' : Phi} {h h' : Mem} {w w' : World} (p : Adv S φ h w S' φ' h' w') (hs : Sim P S φ h w) {e : DE} {d : Deferred} (hd : DefOK w S φ e d) : DefOK w' S' φ' e d := by
  cases e with
  | mk id => obtain ⟨loc, h1, h2⟩ := hd; exact ⟨loc, p.phi _ _ h1, h2⟩
  | fn f as => obtain ⟨caps, da, h1, h2⟩ := hd; exact ⟨caps, da, h1, p.reps hs h2⟩
theorem Marks.adv {S S' : Nat → Prop} {φ φ' : Phi} {h h' : Mem} {w w' : World} (p : Adv S φ h w S' φ' h' w') (hs : Sim P S φ h w) : ∀ {ids : List DE} {ds : List Deferred}, Marks w S φ ids ds → Marks w' S' φ' ids ds
  | [], [], _ => trivial
  | e :: es, d :: ds, hm => ⟨hm.1.adv p hs, Marks.adv p hs hm.2⟩
  | [], _ :: _, hm => hm
  | _ :: _, [], hm => hm
theorem Marks.append {w : World} {S : Nat → Prop} {φ : Phi} : ∀ {ids ids' : List DE} {ds ds' : List Deferred}, Marks w S φ ids ds → Marks w S φ ids' ds' → Marks w S φ (ids ++ ids') (ds ++ ds')
  | [], _, [], _, _, h => h
  | id :: ids, _, d :: ds, _, hm, h => ⟨hm.1, Marks.append hm.2 h⟩
  | [], _, _ :: _, _, hm, _ => hm.elim
  | _ :: _, _, [], _, hm, _ => hm.elim
def FR (φ : Phi) : Option Nat → Fence → Prop
  | none, F => F = Fence.wide
  | some id, F => ∃ loc, φ id = some loc ∧ F = Fence.wide.inRound loc.blk
theorem FR.wf {φ : Phi} {rd : Option Nat} {F : Fence} (h : FR φ rd F) : WF F := by
  cases rd with
  | none => cases h; exact .wide
  | some id => obtain ⟨loc, -, rfl⟩ := h; exact .rnd _
theorem FR.mono {φ φ' : Phi} (hφ : ∀ id loc, φ id = some loc → φ' id = some loc) {rd : Option Nat} {F : Fence} (h : FR φ rd F) : FR φ' rd F := by
  cases rd with
  | none => exact h
  | some id => obtain ⟨loc, h1, h2⟩ := h; exact ⟨loc, hφ _ _ h1, h2⟩
structure InvR (P : Program) (S : Nat → Prop) (φ : Phi) (w : World) (r : RSt) (a : Act) : Prop where
  inv : Inv P S φ w r.st a
  mrk : Marks w S φ r.ds a.defers
def ReachR (P : Program) (S : Nat → Prop) (φ : Phi) (w : World) (r : RSt) (r' : RSt) (a' : Act) (w' : World) : Prop :=
  ∃ S' φ', InvR P S' φ' w' r' a' ∧ Adv S φ (hget r.st.H) w S' φ' (hget r'.st.H) w' ∧ r.st.H.nx ≤ r'.st.H.nx
theorem ReachR.refl {S : Nat → Prop} {φ : Phi} {w : World} {r : RSt} {a : Act} (h : InvR P S φ w r a) : ReachR P S φ w r r a w := ⟨S, φ, h, Adv.refl _ _ _ _, Nat.le_refl _⟩
theorem ReachR.step {S S' : Nat → Prop} {φ φ' : Phi} {w w' w'' : World} {r r' r'' : RSt} {a'' : Act} (h2 : Adv S φ (hget r.st.H) w S' φ' (hget r'.st.H) w') (h4 : r.st.H.nx ≤ r'.st.H.nx) (k : ReachR P S' φ' w' r' r'' a'' w'') : ReachR P S φ w r r'' a'' w'' := by
  obtain ⟨S'', φ'', k1, k2, k4⟩ := k
  exact ⟨S'', φ'', k1, h2.trans k2, Nat.le_trans h4 k4⟩
theorem ReachR.of {S : Nat → Prop} {φ : Phi} {w w' : World} {st st' : St} {a a' : Act} {ds : List DE} (hs : Sim P S φ (hget st.H) w) (hm : Marks w S φ ds a.defers) (h : Reach P S φ w st a st' a' w') : ReachR P S φ w ⟨st, ds⟩ ⟨st', ds⟩ a' w' := by
  obtain ⟨S', φ', k1, k2, k3, k4⟩ := h
  exact ⟨S', φ', ⟨k1, by rw [k3]; exact hm.adv k2 hs⟩, k2, k4⟩

/-! What a function panics with -/
theorem clos_rep {w : World} {S : Nat → Prop} {φ : Phi} : ∀ {a : AV} {v u : Value}, closV a = some v → Rep w S φ a u → u = v
  | .int k n, _, _, h, hr => by cases h; exact hr.inv_int
  | .bool b, _, _, h, hr => by cases h; exact hr.inv_bool
  | .str s, _, _, h, hr => by cases h; exact hr.inv_str
  | .ifcN, _, _, h, hr => by cases h; exact hr.inv_ifcN
  | .agg [], _, _, h, hr => by
    cases h
    obtain ⟨us, rfl, q⟩ := hr.inv_agg
    have : us.size = 0 := q.1
    rw [Array.eq_empty_of_size_eq_zero this]
  | .ifc t a, _, _, h, hr => by
    simp only [closV, Option.map_eq_some_iff] at h
    obtain ⟨v', h1, rfl⟩ := h
    obtain ⟨u', rfl, q⟩ := hr.inv_ifc
    rw [clos_rep h1 q]
  | .agg (_ :: _), _, _, h, _ | .tup _, _, _, h, _ | .lst .., _, _, h, _ | .ptrL .., _, _, h, _ | .own .., _, _, h, _ | .ptr .., _, _, h, _ | .emp _, _, _, h, _ | .nilS, _, _, h, _ | .nilP, _, _, h, _ | .nilF, _, _, h, _ | .fn .., _, _, h, _ | .yld _, _, _, h, _
  | .fresh .., _, _, h, _ | .map _, _, _, h, _ | .mapN, _, _, h, _ | .mapL .., _, _, h, _ | .pan _, _, _, h, _ => by simp [closV] at h
section
variable {T : FuncId → Option IFn} {cb : Cb}
/-- A call that panics; a panic. -/
def PanOK (P : Program) (S : Nat → Prop) (φ : Phi) (H : Heap) (w : World) (p : Value) (H' : Heap) (a : Act) (o : Oper) : Prop :=
  ((execOp a.eval o).run P w = .halt (.panic p) w ∧ H' = H) ∨ ∃ f us, (execOp a.eval o).run P w = .ok (.enter f us) w ∧ Calls P f us w fun e w' => e = .panicked [{ v := p, recovered := false }] ∧ Left P S φ H w H' w'
theorem panCall_ok (hT : TOK P T) (hcb : CbOK P cb) {f : FuncId} {args : List AV} {us : Array Value} {H H' : Heap} {p : Value} {a : Act} {o : Oper} {S : Nat → Prop} {φ : Phi} {w : World}
    (hex : ∀ w, (execOp a.eval o).run P w = (callFunc f us).run P w) (hargs : Reps w S φ args us) (he : panCall T cb f args H = some (p, H')) (hs : Sim P S φ (hget H) w) (htop : ∀ id, H.nx ≤ id → φ id = none) : PanOK P S φ H w p H' a o := by
  unfold panCall at he
  split at he
  · rename_i fn hfn
    split at he
    · split at he
      · rename_i p' H1 hq
        cases he
        obtain ⟨g, c, g1, g2, g3, -⟩ := cFn_spec (hT f fn hfn)
        exact .inr ⟨f, us, by rw [hex]; exact run_callFunc g1 g2 g3 us, (hcb.fn f args H _ H' hq S φ w us hs htop hargs).mono fun e w' hf => hf.pan⟩
      · cases he
    · cases he
  · cases he
theorem panOp_ok (hT : TOK P T) (hcb : CbOK P cb) {op : Op} {io : PO} {H H' : Heap} {p : Value} {a : Act} {o : Oper} {env : List AV} {S : Nat → Prop} {φ : Phi} {w : World} (hc : cOp P op = some io) (ho : o.op = op) (he : panOp T cb env H io = some (p, H')) (hs : Sim P S φ (hget H) w) (hr : Reps w S φ env a.tmps) (htop : ∀ id, H.nx ≤ id → φ id = none) :
    PanOK P S φ H w p H' a o ∧ ∀ c, op ≠ .defer c := by
  have hcall : (∃ f as, io = .call f as) ∨ (∃ g as, io = .callv g as) ∨ ∃ x, io = .pnc x := by
    cases io <;> simp only [panOp] at he <;> first | (cases he; done) | exact .inl ⟨_, _, rfl⟩ | exact .inr (.inl ⟨_, _, rfl⟩) | exact .inr (.inr ⟨_, rfl⟩)
  have hnd : ∀ c, op ≠ .defer c := by
    rintro c rfl
    simp only [cOp] at hc
    split at hc
    · simp only [Option.map_eq_some_iff] at hc
      obtain ⟨_, _, rfl⟩ := hc
      rcases hcall with ⟨_, _, e⟩ | ⟨_, _, e⟩ | ⟨_, e⟩ <;> cases e
    · cases hc
  refine ⟨?_, hnd⟩
  by_cases hpn : ∃ x, op = .panic x
  · obtain ⟨x, rfl⟩ := hpn
    simp only [cOp, Option.map_eq_some_iff] at hc
    obtain ⟨ax, hx, rfl⟩ := hc
    simp only [panOp] at he
    split at he
    · rename_i t v e1
      simp only [Option.map_eq_some_iff] at he
      obtain ⟨p', h1, h2⟩ := he
      cases h2
      have hv := arg_rep hr hx
      rw [e1] at hv
      have hval := clos_rep h1 hv
      obtain ⟨u, k1, -⟩ := hv.inv_ifc
      refine .inl ⟨?_, rfl⟩
      rw [← hval, k1]
      unfold execOp
      simp only [ho, k1, Instr.panic]
      rfl
    · cases he
  · have hcl : io.isCall = true := by
      rcases hcall with ⟨f, as, rfl⟩ | ⟨g, as, rfl⟩ | ⟨x, rfl⟩
      · rfl
      · rfl
      · exact absurd (cOp_pnc hc rfl) hpn
    obtain ⟨c, rfl⟩ := cOp_call hc hcl
    simp only [cOp] at hc
    split at hc
    · exfalso
      unfold cBuiltin at hc
      repeat' (first | (cases hc; done) | split at hc)
      all_goals (first
        | (cases hc; cases hcl; done)
        | (simp only [Option.map_eq_some_iff] at hc; obtain ⟨_, _, rfl⟩ := hc; cases hcl; done))
    · rename_i f args hcal hargs
      cases hc
      exact panCall_ok (us := c.args.map a.eval) hT hcb (fun w => by rw [call_exec ho hcal]; simp [invoke]) (args_arr hargs hr) he hs htop
    · rename_i g args hng hcal hargs
      simp only [Option.map_eq_some_iff] at hc
      obtain ⟨ag, hg, rfl⟩ := hc
      simp only [panOp] at he
      split at he
      · rename_i f first caps e1
        have hv := arg_rep hr hg
        rw [e1] at hv
        obtain ⟨vf, vc, k1, k2, k3⟩ : ∃ vf vc, a.eval g = .func (.func f) vf vc ∧ Reps w S φ first vf ∧ Reps w S φ caps vc := by
          generalize a.eval g = q at hv
          cases hv with
          | fn hl h hl' h' => exact ⟨_, _, rfl, ⟨hl, h⟩, ⟨hl', h'⟩⟩
        exact panCall_ok hT hcb (callv_exec ho hcal k1) ((k2.append (args_arr hargs hr)).append k3) he hs htop
      · cases he
    · simp only [Option.map_eq_some_iff] at hc
      obtain ⟨_, _, rfl⟩ := hc
      cases he
    · cases hc
theorem dfrOp_ok {op : Op} {io : PO} {a : Act} {o : Oper} {env : List AV} {d : DE} {S : Nat → Prop} {φ : Phi} {w : World} (hc : cOp P op = some io) (ho : o.op = op) (he : dfrOp env io = some d) (hr : Reps w S φ env a.tmps) :
    ∃ dd, (execOp a.eval o).run P w = .ok (.defer dd) w ∧ DefOK w S φ d dd := by
  have hdf : ∃ c, op = .defer c := cOp_dfr hc (by cases io <;> first | rfl | (simp only [dfrOp] at he; cases he))
  obtain ⟨c, rfl⟩ := hdf
  simp only [cOp] at hc
  split at hc
  · rename_i g args hcal hargs
    simp only [Option.map_eq_some_iff] at hc
    obtain ⟨ag, hg, rfl⟩ := hc
    simp only [dfrOp] at he
    split at he
    · rename_i f first caps e1
      cases he
      have hv := arg_rep hr hg
      rw [e1] at hv
      obtain ⟨vf, vc, k1, k2, k3⟩ : ∃ vf vc, a.eval g = .func (.func f) vf vc ∧ Reps w S φ first vf ∧ Reps w S φ caps vc := by
        generalize a.eval g = q at hv
        cases hv with
        | fn hl h hl' h' => exact ⟨_, _, rfl, ⟨hl, h⟩, ⟨hl', h'⟩⟩
      refine ⟨{ target := .fn (.func f) vc, args := vf ++ c.args.map a.eval }, ?_, vc, _, rfl, (k2.append (args_arr hargs hr)).append k3⟩
      unfold execOp
      simp only [ho, resolve, hcal, k1, Deferred.ofValue, Sem.run_bind, Sem.run_pure, Result.andThen_ok]
    · cases he
  · cases hc
theorem ReachR.trans {S : Nat → Prop} {φ : Phi} {w w' w'' : World} {r r' r'' : RSt} {a' a'' : Act} (h : ReachR P S φ w r r' a' w') (k : ∀ S' φ', InvR P S' φ' w' r' a' → ReachR P S' φ' w' r' r'' a'' w'') : ReachR P S φ w r r'' a'' w'' := by
  obtain ⟨S', φ', h1, h2, h4⟩ := h
  exact ReachR.step h2 h4 (k S' φ' h1)
theorem put_tmps (a : Act) (ds : List Deferred) (dst : Option Nat) (v : Value) : (({ a with defers := ds } : Act).put dst v).tmps = (a.put dst v).tmps := by cases dst <;> rfl
theorem seqx_sound (hT : TOK P T) (hcb : CbOK P cb) {ops : Array Oper} {Q : Exit → Act → World → Prop} : ∀ (n k : Nat) (ios : List IOp) (r r' : RSt) (ex : Ex) (S : Nat → Prop) (φ : Phi) (w : World) (a : Act), k + n = ops.size → cOpers P ops (ops.toList.drop k) k = some ios → evalX T cb ios r = some (ex, r') → InvR P S φ w r a →
    (∀ a' w', ReachR P S φ w r r' a' w' → Q ex.to a' w') → wpOpsIn Fence.wide 0 P ops Q (List.range' k n) a w
  | 0, k, ios, r, r', ex, S, φ, w, a, hk, hc, he, hI, hQ => by
    have : ops.toList.drop k = [] := by simp; omega
    rw [this] at hc
    cases hc; cases he
    exact hQ a w (ReachR.refl hI)
  | n + 1, k, ios, r, r', ex, S, φ, w, a, hk, hc, he, hI, hQ => by
    have hlt : k < ops.size := by omega
    have hd : ops.toList.drop k = ops[k] :: ops.toList.drop (k + 1) := by rw [List.drop_eq_getElem_cons (by simpa using hlt)]; simp
    rw [hd] at hc
    simp only [cOpers] at hc
    have hF : WF Fence.wide := .wide
    split at hc
    · rename_i io ios' h1 h2
      cases hc
      obtain ⟨d1, d2, d3⟩ := cOper_op h1
      have ho : ops[k]? = some ops[k] := by simp [hlt]
      have hw := wanted_eq h1 hI.inv.env
      simp only [List.range'_succ, wpOpsIn, ho]
      simp only [evalX] at he
      split at he
      · rename_i hwant
        rw [hwant] at hw
        rw [if_pos hw.symm]
        cases hcop : cOp P ops[k].op with
        | none =>
          rw [hcop] at d2
          have d2 : io.op = .bad := d2
          simp only [d2, evalOp, dfrOp, panOp] at he
          cases he
        | some oo =>
          rw [hcop] at d2
          have d2 : io.op = oo := d2
          rw [d2] at he
          split at he
          · rename_i v rd wr nx e1
            refine wpIn_of hF (cOp_noDefer hcop e1) (op_eff hT hcb hcop rfl e1 (fun _ _ => rfl) hI.inv.sim hI.inv.env (fun id i1 _ => hI.inv.top id i1)) fun vv w' hE => ?_
            have hR := inv_eff hI.inv hE io.dst
            rw [d1] at hR he
            have hRR := ReachR.of hI.inv.sim hI.mrk hR
            obtain ⟨S', φ', r1, r2, r4⟩ := hRR
            exact seqx_sound hT hcb n (k + 1) ios' _ r' ex S' φ' w' _ (by omega) h2 he r1 fun a' w'' hR' => hQ a' w'' (ReachR.step r2 r4 hR')
          · rename_i v H' e1
            refine wpIn_ofW hF (cOp_noDefer hcop e1) (op_whole hT hcb hcop rfl e1 hI.inv.sim hI.inv.env hI.inv.top) fun vv w' hE => ?_
            obtain ⟨S', φ', r2, r1, r3, r4, r5⟩ := hE
            rw [d1] at he
            exact seqx_sound hT hcb n (k + 1) ios' _ r' ex S' φ' w' _ (by omega) h2 he ⟨⟨r1, reps_put (r2.reps hI.inv.sim hI.inv.env) r3 _, r4⟩, by rw [put_defers]; exact hI.mrk.adv r2 hI.inv.sim⟩ fun a' w'' hR' => hQ a' w'' (ReachR.step r2 r5 hR')
          · split at he
            · rename_i dd hdd
              obtain ⟨d', e1, e2⟩ := dfrOp_ok (w := w) hcop rfl hdd hI.inv.env
              refine ⟨fun f _ => hF.fn f, ?_⟩
              show ops[k].uponIn Fence.wide 0 P a _ Q ((ops[k].semAt none a.eval).run P w)
              rw [Oper.semAt_none, e1, Oper.uponIn_defer]
              rw [d1] at he
              refine seqx_sound hT hcb n (k + 1) ios' _ r' ex S φ w _ (by omega) h2 he ⟨⟨hI.inv.sim, ?_, hI.inv.top⟩, ?_⟩ fun a' w'' hR' => hQ a' w'' hR'
              · rw [put_tmps]; exact reps_put hI.inv.env undef_rep _
              · rw [put_defers]; exact ⟨e2, hI.mrk⟩
            · split at he
              · rename_i p H1 hp
                cases he
                obtain ⟨hpo, hnd⟩ := panOp_ok hT hcb hcop rfl hp hI.inv.sim hI.inv.env hI.inv.top
                refine ⟨fun f _ => hF.fn f, ?_⟩
                rw [Oper.semAt_eq _ _ _ hnd]
                rcases hpo with ⟨e1, rfl⟩ | ⟨f, us, e1, e2⟩
                · rw [e1]
                  exact hQ a w (ReachR.refl hI)
                · rw [e1]
                  refine ⟨(fun hh => by rw [hF.depth] at hh; cases hh), hF.calls (e2.mono ?_)⟩
                  rintro e w'' ⟨rfl, S', φ', adv, sim, top, nx⟩
                  exact hQ a w'' ⟨S', φ', ⟨⟨sim, adv.reps hI.inv.sim hI.inv.env, top⟩, hI.mrk.adv adv hI.inv.sim⟩, adv, nx⟩
              · cases he
      · rename_i hwant
        have hwant' : wantedA r.st.env io.guard = false := by simpa using hwant
        rw [hwant'] at hw
        rw [if_neg (by rw [← hw]; simp)]
        refine ⟨fun f _ => hF.fn f, ?_⟩
        rw [d1] at he
        have hRR := ReachR.of hI.inv.sim hI.mrk (inv_undef hI.inv ops[k].dst)
        obtain ⟨S', φ', r1, r2, r4⟩ := hRR
        exact seqx_sound hT hcb n (k + 1) ios' _ r' ex S' φ' w _ (by omega) h2 he r1 fun a' w'' hR' => hQ a' w'' (ReachR.step r2 r4 hR')
    · cases hc
theorem region_x (hT : TOK P T) (hcb : CbOK P cb) {id : Nat} {ops : Array Oper} {Q : Exit → Act → World → Prop} {ios : List IOp} {r r' : RSt} {ex : Ex} {S : Nat → Prop} {φ : Phi} {w : World} {a : Act} (hc : cOpers P ops ops.toList 0 = some ios) (he : evalX T cb ios r = some (ex, r')) (hI : InvR P S φ w r a)
    (hQ : ∀ a' w', ReachR P S φ w r r' a' w' → Q ex.to a' w') : (Code.region id ops false).wpIn Fence.wide 0 P Q a w :=
  wpIn_region (by rw [List.range_eq_range']; exact seqx_sound hT hcb ops.size 0 ios r r' ex S φ w a (by omega) (by simpa using hc) he hI hQ)
end
end Go.V
/- Soundness: loops over functions; functions; rounds. -/
set_option linter.unusedVariables false
set_option linter.unusedSimpArgs false
namespace Go.V
open Go.RowKit
variable {P : Program}
/-! Loops over functions begin, and end -/
section
variable {T : FuncId → Option IFn} {cb : Cb}
theorem wrH_two (H : Heap) (i j : Nat) (b c : Option Blk) (nx : Nat) : hget (wrH H [(i, b), (j, c)] nx) = fun k => if k = j then c else if k = i then b else hget H k := by rw [hget_wrH]; rfl
theorem enter_sim {S : Nat → Prop} {φ : Phi} {H H1 : Heap} {w : World} {env : List AV} {tmps : Array Value} {ps : Array Tmp} {x y : Code} {ia ib : IC} {rd : Option Nat} {F : Fence} {id : Nat} {ds : List DE}
    (hs : Sim P S φ (hget H) w) (htop : ∀ k, H.nx ≤ k → φ k = none) (hr : Reps w S φ env tmps) (hx : cCode P x = some ia) (hy : cCode P y = some ib) (hF : FR φ rd F) (he : enterH rd H env ps.toList ia ib = some (H1, id, ds)) (fn : FuncId) :
    ∃ mark w1 φ1 loc, (Instr.enterLoop fn tmps ps x y F.round).run P w = .ok (loc.blk, mark) w1 ∧ φ1 id = some loc ∧ Adv S φ (hget H) w S φ1 (hget H1) w1 ∧ Sim P S φ1 (hget H1) w1 ∧ (∀ k, H1.nx ≤ k → φ1 k = none) ∧ H.nx ≤ H1.nx ∧ Marks w1 S φ1 ds mark := by
  cases rd with
  | none =>
    cases hF
    simp only [enterH, Option.some.injEq, Prod.mk.injEq] at he
    obtain ⟨rfl, rfl, rfl⟩ := he
    obtain ⟨q1, q2⟩ := alloc_sim (P := P) (nx := H.nx) (b := .mark) (o := .deferred (some [])) hs (htop _ (Nat.le_refl _)) (fun _ => World.alloc_heap_new w _)
    have hn2 : (fun k => if k = H.nx then some (⟨w.heap.size, 0, 0⟩ : Loc) else φ k) (H.nx + 1) = none := by
      show (if H.nx + 1 = H.nx then _ else φ (H.nx + 1)) = none
      rw [if_neg (by omega)]; exact htop _ (by omega)
    obtain ⟨p1, p2⟩ := alloc_sim (P := P) (nx := H.nx + 1) (b := .loop env ps.toList ia ib .ready .normal H.nx) (o := .loop { state := .ready, pending := none, fn, tmps, params := ps, assign := x, body := y, defers := w.heap.size }) q2 hn2 (fun adv =>
      ⟨_, World.alloc_heap_new _ _, adv.reps q2 (q1.reps hs hr), rfl, hx, hy, rfl, rfl, ⟨w.heap.size, 0, 0⟩, by simp, rfl⟩)
    refine ⟨_, _, (fun k => if k = H.nx + 1 then some ⟨(w.alloc (.deferred (some []))).heap.size, 0, 0⟩ else if k = H.nx then some ⟨w.heap.size, 0, 0⟩ else φ k), ⟨w.heap.size + 1, 0, 0⟩, run_enterLoop_outer fn tmps ps x y, by simp, ?_, ?_, fun k hk => ?_, Nat.le_max_left _ _, ?_⟩
    · rw [wrH_two]; exact q1.trans p1
    · rw [wrH_two]; exact p2
    · have : max H.nx (H.nx + 2) ≤ k := hk
      simp only [show k ≠ H.nx + 1 by omega, show k ≠ H.nx by omega, if_false]
      exact htop k (by omega)
    · exact ⟨⟨⟨w.heap.size, 0, 0⟩, by simp, rfl⟩, trivial⟩
  | some l =>
    obtain ⟨loc0, e0, rfl⟩ := hF
    simp only [enterH] at he
    split at he
    · rename_i env0 ps0 a0 b0 st0 pend0 d0 hl
      simp only [Option.some.injEq, Prod.mk.injEq] at he
      obtain ⟨rfl, rfl, rfl⟩ := he
      obtain ⟨loc', g1, g2, -⟩ := hs.blk l _ hl
      rw [e0] at g1; cases g1
      obtain ⟨r0, f1, f2, f3, f4, f5, f6, f7, ld, f8, f9⟩ := g2
      obtain ⟨p1, p2⟩ := alloc_sim (P := P) (nx := H.nx) (b := .loop env ps.toList ia ib .ready .normal d0) (o := .loop { state := .ready, pending := none, fn, tmps, params := ps, assign := x, body := y, defers := r0.defers }) hs (htop _ (Nat.le_refl _)) (fun adv =>
        ⟨_, World.alloc_heap_new _ _, adv.reps hs hr, rfl, hx, hy, rfl, rfl, ld, adv.phi _ _ f8, f9⟩)
      have hrun : (Instr.enterLoop fn tmps ps x y (Fence.wide.inRound loc0.blk).round).run P w = .ok (w.heap.size, []) (w.alloc (.loop { state := .ready, pending := none, fn, tmps, params := ps, assign := x, body := y, defers := r0.defers })) := by
        show (Instr.enterLoop fn tmps ps x y (some loc0.blk)).run P w = _
        unfold Instr.enterLoop
        simp only [Sem.run_bind, run_getLoop f1, run_newObj_alloc, Result.andThen_ok, Sem.run_pure]
      refine ⟨_, _, (fun k => if k = H.nx then some ⟨w.heap.size, 0, 0⟩ else φ k), ⟨w.heap.size, 0, 0⟩, hrun, by simp, ?_, ?_, fun k hk => ?_, Nat.le_max_left _ _, trivial⟩
      · rw [hget_wr1]; exact p1
      · rw [hget_wr1]; exact p2
      · have : max H.nx (H.nx + 1) ≤ k := hk
        simp only [show k ≠ H.nx by omega, if_false]
        exact htop k (by omega)
    · cases he
theorem leave_sim {S : Nat → Prop} {φ : Phi} {H : Heap} {w : World} {env : List AV} {id : Nat} {ds : List DE} {loc : Loc} {ex : Ex} {r : RSt} (hs : Sim P S φ (hget H) w) (hφ : φ id = some loc) (he : leaveH env H id ds = some (ex, r)) :
    ∃ w1, (Instr.endLoop loc.blk).run P w = .ok ex.code w1 ∧ r = ⟨⟨env, wrH H [(id, none)] 0⟩, ds⟩ ∧ Adv S φ (hget H) w S φ (hget (wrH H [(id, none)] 0)) w1 ∧ Sim P S φ (hget (wrH H [(id, none)] 0)) w1 := by
  have key : ∀ env0 ps0 a0 b0 st0 pend0 d0, hget H id = some (.loop env0 ps0 a0 b0 st0 pend0 d0) → st0 ≠ .busy →
      ∃ w1, (Instr.endLoop loc.blk).run P w = .ok pend0.code w1 ∧ Adv S φ (hget H) w S φ (hget (wrH H [(id, none)] 0)) w1 ∧ Sim P S φ (hget (wrH H [(id, none)] 0)) w1 := by
    intro env0 ps0 a0 b0 st0 pend0 d0 hl hne
    obtain ⟨loc', g1, g2, -⟩ := hs.blk id _ hl
    rw [hφ] at g1; cases g1
    obtain ⟨r0, f1, f2, f3, f4, f5, f6, f7, -⟩ := g2
    have hrun := run_endLoop (P := P) f1 (by rw [f6]; exact hne)
    obtain ⟨q1, q2⟩ := put_sim (P := P) (b' := none) (o := .loop { r0 with state := .exhausted }) hs hl hφ (shape_loop f1) (fun x hx => by cases hx)
    exact ⟨_, by rw [← f7]; exact hrun, by rw [hget_wr1]; exact q1, by rw [hget_wr1]; exact q2⟩
  unfold leaveH at he
  split at he
  · cases he
  · cases he
  · rename_i env0 ps0 a0 b0 st0 pend0 d0 hne hne2 hl
    cases he
    obtain ⟨w1, h1, h2, h3⟩ := key _ _ _ _ _ _ _ hl (fun e => by subst e; first | exact hne rfl | exact hne _ _ _ _ _ _ rfl | simp_all)
    exact ⟨w1, h1, rfl, h2, h3⟩
  · cases he
theorem leaveH_noPan {env : List AV} {H : Heap} {id : Nat} {ds : List DE} {p : Value} {r : RSt} (he : leaveH env H id ds = some (.pan p, r)) : False := by
  unfold leaveH at he
  split at he
  · cases he
  · cases he
  · rename_i env0 ps0 a0 b0 st0 pend0 d0 hne hne2 hl
    cases he
    first | exact hne2 _ _ _ _ _ _ _ rfl | simp_all
  · cases he
theorem iter_loop {F : Fence} {rd : Option Nat} {c : Code} {f : RSt → Option (Ex × RSt)} {r' : RSt} {ex : Ex}
    (hf : ∀ r ex r', f r = some (ex, r') → ∀ (S : Nat → Prop) (φ : Phi) (w : World) (a : Act), FR φ rd F → InvR P S φ w r a → ∀ Q : Exit → Act → World → Prop, (∀ a' w', ReachR P S φ w r r' a' w' → Q ex.to a' w') → c.wpIn F 0 P Q a w)
    {m : Nat} {r : RSt} (h : iter f m r = some (ex, r')) {S : Nat → Prop} {φ : Phi} {w : World} {a : Act} (hF : FR φ rd F) (hI : InvR P S φ w r a) {Q : Exit → Act → World → Prop} (hQ : ∀ a' w', ReachR P S φ w r r' a' w' → Q ex.to a' w') : (Code.loop c).wpIn F 0 P Q a w := by
  refine wpIn_rounds (fun k a w => ∃ r S φ, FR φ rd F ∧ InvR P S φ w r a ∧ iter f k r = some (ex, r') ∧ ∀ a' w', ReachR P S φ w r r' a' w' → Q ex.to a' w') (fun a w => ?_) (fun k a w => ?_) (m := m) ⟨r, S, φ, hF, hI, h, hQ⟩
  · rintro ⟨r, S, φ, -, -, h, -⟩; simp [iter] at h
  · rintro ⟨r, S, φ, hF, hI, h, hQ⟩
    simp only [iter] at h
    cases hr : f r with
    | none => rw [hr] at h; cases h
    | some p =>
      obtain ⟨e1, r1⟩ := p
      refine hf r e1 r1 hr S φ w a hF hI _ fun a' w' hR => ?_
      cases e1 with
      | normal =>
        rw [hr] at h
        obtain ⟨S', φ', k1, k2, k4⟩ := hR
        exact ⟨r1, S', φ', hF.mono k2.phi, k1, h, fun a'' w'' hR' => hQ a'' w'' (ReachR.step k2 k4 hR')⟩
      | exit id => rw [hr] at h; cases h; exact hQ a' w' hR
      | ret => rw [hr] at h; cases h; exact hQ a' w' hR
      | pan p => rw [hr] at h; cases h; exact hQ a' w' hR
theorem range_sound (hT : TOK P T) (hcb : CbOK P cb) {g : Operand} {ag : Arg} {ps : Array Tmp} {x y : Code} {ia ib : IC} (hg : cOpd g = some ag) (hx : cCode P x = some ia) (hy : cCode P y = some ib) {m : Nat} {rd : Option Nat} {r r' : RSt} {ex : Ex} (hr : run T cb m rd (.rangeF ag ps.toList ia ib) r = some (ex, r'))
    {F : Fence} {S : Nat → Prop} {φ : Phi} {w : World} {a : Act} (hF : FR φ rd F) (hI : InvR P S φ w r a) {Q : Exit → Act → World → Prop} (hQ : ∀ a' w', ReachR P S φ w r r' a' w' → Q ex.to a' w') : (Code.rangeFunc g ps x y).wpIn F 0 P Q a w := by
  have hv := arg_rep hI.inv.env hg
  simp only [run] at hr
  split at hr
  · rename_i f first caps e1
    rw [e1] at hv
    split at hr
    · rename_i hTf
      split at hr
      · rename_i H1 id ds e2
        split at hr
        · rename_i v2 H2 e3
          split at hr
          · cases hr
          rename_i hv2
          obtain ⟨vf, vc, k1, k2, k3⟩ : ∃ vf vc, a.eval g = .func (.func f) vf vc ∧ Reps w S φ first vf ∧ Reps w S φ caps vc := by
            generalize a.eval g = q at hv
            cases hv with
            | fn hl h hl' h' => exact ⟨_, _, rfl, ⟨hl, h⟩, ⟨hl', h'⟩⟩
          obtain ⟨fn, hfn⟩ := Option.isSome_iff_exists.1 hTf
          obtain ⟨gg, c, g1, g2, g3, -⟩ := cFn_spec (hT f fn hfn)
          refine wpIn_rangeFunc fun fn' _ => ?_
          obtain ⟨mark, w1, φ1, loc, m1, m2, m3, m4, m5, m6, m7⟩ := enter_sim (P := P) (ps := ps) (x := x) (y := y) hI.inv.sim hI.inv.top hI.inv.env hx hy hF e2 fn'
          have hargs : Reps w1 S φ1 (first ++ [.yld id] ++ caps) (vf ++ #[.func (.yield loc.blk) #[] #[]] ++ vc) :=
            ((m3.reps hI.inv.sim k2).append (reps_one (.yld m2))).append (m3.reps hI.inv.sim k3)
          have hcall := hcb.ret e3 (by simpa using hv2) m4 m5 hargs
          have h5 : (resolve a.eval (rangeCall g loc.blk) 0).run P w1 = .ok { target := .fn (.func f) vc, args := vf ++ #[.func (.yield loc.blk) #[] #[]] } w1 := by
            simp only [resolve, rangeCall, k1]
            simp [Deferred.ofValue, Act.eval]
          have h6 : (invoke (.fn (.func f) vc) (vf ++ #[.func (.yield loc.blk) #[] #[]])).run P w1 = .ok (.enter f (vf ++ #[.func (.yield loc.blk) #[] #[]] ++ vc)) w1 := run_callFunc g1 g2 g3 _
          have h7 : F.depth.isSome = true → 1 ≤ 0 := fun hh => by rw [hF.wf.depth] at hh; cases hh
          refine ⟨loc.blk, mark, w1, _, w1, f, _, w1, m1, h5, fun f' _ => hF.wf.fn f', h6, h7, hF.wf.calls (hcall.mono ?_)⟩
          · rintro e w2 ⟨vv, rfl, S2, φ2, adv, sim, -, top, nx⟩
            obtain ⟨w3, n1, n2, n3, n4⟩ := leave_sim (P := P) sim (adv.phi _ _ m2) hr
            subst n2
            have hadv : Adv S φ (hget r.st.H) w S2 φ2 (hget (wrH H2 [(id, none)] 0)) w3 := (m3.trans adv).trans n3
            have hR : ReachR P S φ w r ⟨⟨r.st.env, wrH H2 [(id, none)] 0⟩, ds ++ r.ds⟩ { a with defers := mark ++ a.defers } w3 :=
              ⟨S2, φ2, ⟨⟨n4, hadv.reps hI.inv.sim hI.inv.env, fun k hk => top k (Nat.le_trans (Nat.le_max_left _ _) hk)⟩, (m7.adv (adv.trans n3) m4).append (hI.mrk.adv hadv hI.inv.sim)⟩, hadv, Nat.le_trans (Nat.le_trans m6 nx) (Nat.le_max_left _ _)⟩
            have hq := hQ _ _ hR
            refine ⟨ex.code, w3, n1, ?_⟩
            cases ex with
            | normal => exact hq
            | exit id => exact wpIn_exit hq
            | ret => exact wpIn_ret hq
            | pan p => exact (leaveH_noPan hr).elim
        · cases hr
      · cases hr
    · cases hr
  · cases hr
theorem run_sound (hT : TOK P T) (hcb : CbOK P cb) (hm : P.follows .mixedOrders = true) (m : Nat) (rd : Option Nat) (F : Fence) : ∀ (c : Code) (ic : IC), cCode P c = some ic → ∀ r ex r', run T cb m rd ic r = some (ex, r') → ∀ (S : Nat → Prop) (φ : Phi) (w : World) (a : Act), FR φ rd F → InvR P S φ w r a → ∀ Q : Exit → Act → World → Prop, (∀ a' w', ReachR P S φ w r r' a' w' → Q ex.to a' w') → c.wpIn F 0 P Q a w
  | .skip, ic, hc, r, ex, r', hr, S, φ, w, a, hF, hI, Q, hQ => by
    cases hc; cases hr
    exact wpIn_skip (hQ a w (ReachR.refl hI))
  | .label l, ic, hc, r, ex, r', hr, S, φ, w, a, hF, hI, Q, hQ => by
    cases hc; cases hr
    exact wpIn_label (hQ a w (ReachR.refl hI))
  | .region id ops draw, ic, hc, r, ex, r', hr, S, φ, w, a, hF, hI, Q, hQ => by
    simp only [cCode] at hc
    split at hc
    · rename_i os hos
      cases draw with
      | true =>
        simp only [if_true] at hc
        split at hc
        · rename_i hsl
          cases hc
          simp only [Bool.and_eq_true] at hsl
          simp only [run, if_true] at hr
          cases he : evalDraw T cb os 0 [] r.st with
          | none => simp [he] at hr
          | some st1 => simp [he] at hr; obtain ⟨rfl, rfl⟩ := hr; exact region_draw hT hcb hm hF.wf hos hsl.1 hsl.2 he hI.inv (fun a' w' hR => hQ a' w' (ReachR.of hI.inv.sim hI.mrk hR))
        · cases hc
      | false =>
        simp only [Bool.false_eq_true, if_false] at hc
        cases hc
        simp only [run, Bool.false_eq_true, if_false] at hr
        cases he : evalOps T cb os r.st with
        | none =>
          cases rd with
          | some l => simp [he] at hr
          | none =>
            simp [he] at hr
            cases hF
            exact region_x hT hcb hos hr hI hQ
        | some st1 => simp [he] at hr; obtain ⟨rfl, rfl⟩ := hr; exact region_seq hT hcb hF.wf hos he hI.inv (fun a' w' hR => hQ a' w' (ReachR.of hI.inv.sim hI.mrk hR))
    · cases hc
  | .seq x y, ic, hc, r, ex, r', hr, S, φ, w, a, hF, hI, Q, hQ => by
    simp only [cCode] at hc
    split at hc
    · rename_i ia ib h1 h2
      cases hc
      simp only [run] at hr
      cases h3 : run T cb m rd ia r with
      | none => rw [h3] at hr; cases hr
      | some p =>
        obtain ⟨e1, r1⟩ := p
        rw [h3] at hr
        refine wpIn_seq (run_sound hT hcb hm m rd F x ia h1 r e1 r1 h3 S φ w a hF hI _ fun a' w' hR => ?_)
        cases e1 with
        | normal =>
          obtain ⟨S', φ', k1, k2, k4⟩ := hR
          exact run_sound hT hcb hm m rd F y ib h2 r1 ex r' hr S' φ' w' a' (hF.mono k2.phi) k1 Q fun a'' w'' hR' => hQ a'' w'' (ReachR.step k2 k4 hR')
        | exit id => cases hr; exact hQ a' w' hR
        | ret => cases hr; exact hQ a' w' hR
        | pan p => cases hr; exact hQ a' w' hR
    · cases hc
  | .cond x y z, ic, hc, r, ex, r', hr, S, φ, w, a, hF, hI, Q, hQ => by
    simp only [cCode] at hc
    split at hc
    · rename_i ax iy iz h1 h2 h3
      cases hc
      simp only [run] at hr
      have hv := arg_rep hI.inv.env h1
      split at hr
      · rename_i e1
        rw [e1] at hv
        exact wpIn_cond (t := true) hv.inv_bool (run_sound hT hcb hm m rd F y iy h2 r ex r' hr S φ w a hF hI Q hQ)
      · rename_i e1
        rw [e1] at hv
        exact wpIn_cond (t := false) hv.inv_bool (run_sound hT hcb hm m rd F z iz h3 r ex r' hr S φ w a hF hI Q hQ)
      · cases hr
    · cases hc
  | .block id c, ic, hc, r, ex, r', hr, S, φ, w, a, hF, hI, Q, hQ => by
    simp only [cCode] at hc
    cases h1 : cCode P c with
    | none => simp [h1] at hc
    | some ib =>
      simp [h1] at hc; subst hc
      simp only [run] at hr
      cases h2 : run T cb m rd ib r with
      | none => rw [h2] at hr; cases hr
      | some p =>
        obtain ⟨e1, r1⟩ := p
        rw [h2] at hr
        refine wpIn_block (run_sound hT hcb hm m rd F c ib h1 r e1 r1 h2 S φ w a hF hI _ fun a' w' hR => ?_)
        cases e1 with
        | normal => cases hr; exact hQ a' w' hR
        | ret => cases hr; exact hQ a' w' hR
        | pan p => cases hr; exact hQ a' w' hR
        | exit id' =>
          simp only at hr
          split at hr
          · rename_i hid; cases hr
            show (if id' = id then Q .normal a' w' else Q (.exit id') a' w')
            rw [if_pos hid]; exact hQ a' w' hR
          · rename_i hid; cases hr
            show (if id' = id then Q .normal a' w' else Q (.exit id') a' w')
            rw [if_neg hid]; exact hQ a' w' hR
  | .loop c, ic, hc, r, ex, r', hr, S, φ, w, a, hF, hI, Q, hQ => by
    simp only [cCode] at hc
    cases h1 : cCode P c with
    | none => simp [h1] at hc
    | some ib =>
      simp [h1] at hc; subst hc
      simp only [run] at hr
      exact iter_loop (run_sound hT hcb hm m rd F c ib h1) hr hF hI hQ
  | .scope c, ic, hc, r, ex, r', hr, S, φ, w, a, hF, hI, Q, hQ => by
    simp only [cCode] at hc
    cases h1 : cCode P c with
    | none => simp [h1] at hc
    | some ib =>
      simp [h1] at hc; subst hc
      simp only [run] at hr
      exact wpIn_scope (run_sound hT hcb hm m rd F c ib h1 r ex r' hr S φ w a hF hI _ fun a' w' hR => ⟨ex.to_goto, hQ a' w' hR⟩)
  | .exit id, ic, hc, r, ex, r', hr, S, φ, w, a, hF, hI, Q, hQ => by
    cases hc; cases hr
    exact wpIn_exit (hQ a w (ReachR.refl hI))
  | .ret, ic, hc, r, ex, r', hr, S, φ, w, a, hF, hI, Q, hQ => by
    cases hc; cases hr
    exact wpIn_ret (hQ a w (ReachR.refl hI))
  | .rangeFunc g ps x y, ic, hc, r, ex, r', hr, S, φ, w, a, hF, hI, Q, hQ => by
    simp only [cCode] at hc
    split at hc
    · rename_i ag ia ib h1 h2 h3
      cases hc
      exact range_sound hT hcb h1 h2 h3 hr hF hI hQ
    · cases hc
  | .goto _, ic, hc, _, _, _, _, _, _, _, _, _, _, _, _ => by cases hc
  | .refuse _, ic, hc, _, _, _, _, _, _, _, _, _, _, _, _ => by cases hc
end

/-! Results -/
def resOne (tmps : Array Value) (r : ResultVar) : Sem Value :=
  match r with
  | .tmp t => pure (tmps.getD t undef)
  | .cell x t => do loadVar t (← asAddr (tmps.getD x undef))
theorem results_eq (fn : Func) (tmps : Array Value) : results fn tmps = (do let vs ← fn.results.mapM (resOne tmps); pure (if h : vs.size = 1 then vs[0] else .tuple vs)) := rfl
theorem resV_run {r : ResultVar} {ir : IRes} (hc : cRes P r = some ir) {st : St} {v : AV} (hr : resV st ir = some v) {S : Nat → Prop} {φ : Phi} {w : World} {a : Act} (hI : Inv P S φ w st a) :
    ∃ vv, (resOne a.tmps r).run P w = .ok vv w ∧ Rep w S φ v vv := by
  cases r with
  | tmp t => cases hc; cases hr; exact ⟨_, rfl, hI.env.getD t⟩
  | cell x t =>
    simp only [cRes] at hc
    cases hk : partK P t with
    | none => simp [hk] at hc
    | some k =>
      simp [hk] at hc; subst hc
      simp only [resV] at hr
      have hv := hI.env.getD x
      split at hr
      · rename_i id i j e1
        split at hr
        · rename_i s xs e2
          rw [e1] at hv
          obtain ⟨loc, f1, f2⟩ := hv.inv_ptr
          obtain ⟨loc', g1, g2, g3⟩ := hI.sim.blk id _ e2
          rw [f1] at g1; cases g1
          cases e3 : xs[i]? with
          | none => simp [e3] at hr
          | some y =>
            simp [e3] at hr
            obtain ⟨vv, r1, r2⟩ := run_loadPart (P := P) hk (o := loc.base + i * loc.sz) (g2.cells e3) hr
            exact ⟨vv, by simp only [resOne, f2, asAddr, Sem.run_bind, Sem.run_pure, Result.andThen_ok]; exact r1, r2⟩
        · cases hr
      · cases hr
theorem resL_run : ∀ {rs : List ResultVar} {irs : List IRes}, cRess P rs = some irs → ∀ {st : St} {vs : List AV}, resL st irs = some vs → ∀ {S : Nat → Prop} {φ : Phi} {w : World} {a : Act}, Inv P S φ w st a →
    ∃ us : List Value, (rs.mapM (resOne a.tmps)).run P w = .ok us w ∧ Reps w S φ vs us.toArray
  | [], irs, hc, st, vs, hr, S, φ, w, a, hI => by
    cases hc; cases hr
    exact ⟨[], rfl, reps_nil⟩
  | r :: rs, irs, hc, st, vs, hr, S, φ, w, a, hI => by
    simp only [cRess] at hc
    split at hc
    · rename_i ir irs' h1 h2
      cases hc
      simp only [resL] at hr
      split at hr
      · rename_i v vs' h3 h4
        cases hr
        obtain ⟨u, q1, q2⟩ := resV_run (P := P) h1 h3 hI
        obtain ⟨us, q3, q4⟩ := resL_run h2 h4 hI
        refine ⟨u :: us, ?_, Reps.cons q2 q4⟩
        rw [List.mapM_cons, Sem.run_bind, q1]
        simp only [Result.andThen_ok, Sem.run_bind, q3, Sem.run_pure]
      · cases hr
    · cases hc
theorem results_run {fn : Func} {irs : List IRes} (hc : cRess P fn.results.toList = some irs) {st : St} {vs : List AV} (hr : resL st irs = some vs) {S : Nat → Prop} {φ : Phi} {w : World} {a : Act} (hI : Inv P S φ w st a) :
    ∃ vv, (results fn a.tmps).run P w = .ok vv w ∧ Rep w S φ (tupV vs) vv := by
  obtain ⟨us, h1, h2⟩ := resL_run (P := P) hc hr hI
  have h3 : (results fn a.tmps).run P w = .ok (if h : us.toArray.size = 1 then us.toArray[0] else .tuple us.toArray) w := by
    rw [results_eq, Array.mapM_eq_mapM_toList, Sem.run_bind, Sem.run_map, h1]
    rfl
  refine ⟨_, h3, ?_⟩
  cases us with
  | nil =>
    have : vs = [] := by have := h2.1; simpa using this.symm
    subst this
    simp only [List.size_toArray, List.length_nil]
    exact .tup rfl (by simp)
  | cons u us =>
    cases vs with
    | nil => have := h2.1; simp at this
    | cons v vs =>
      cases us with
      | nil =>
        have : vs = [] := by have := h2.1; simpa using this.symm
        subst this
        exact h2.2 0 v u (by simp) (by simp)
      | cons u' us =>
        cases vs with
        | nil => have := h2.1; simp at this
        | cons v' vs =>
          rw [dif_neg (by simp)]
          exact .tup h2.1 h2.2

end Go.V
