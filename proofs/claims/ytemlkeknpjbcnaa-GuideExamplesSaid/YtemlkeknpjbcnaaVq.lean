/- Soundness: regions that draw their order. First: plain facts. -/
import Derived.Test.YtemlkeknpjbcnaaVp
set_option linter.unusedVariables false
set_option linter.unusedSimpArgs false
namespace Go.V
open Go.RowKit
variable {P : Program}

/-! An operation looks at its arguments alone -/
theorem fillA_congr {env env' : List AV} : ∀ {ps : List (Nat × Nat × Arg)} {zs : List AV}, (∀ x ∈ ps.map (·.2.2), arg env x = arg env' x) → fillA env ps zs = fillA env' ps zs
  | [], zs, h => rfl
  | (o, s, x) :: ps, zs, h => by
    have h1 : arg env x = arg env' x := h x (by simp)
    have ih : ∀ zs, fillA env ps zs = fillA env' ps zs := fun zs => fillA_congr fun y hy => h y (by simp at hy ⊢; exact .inr hy)
    simp only [fillA, h1]
    have : fillA env ps = fillA env' ps := funext ih
    rw [this]
theorem fillS_congr {env env' : List AV} {sz : Nat} : ∀ {ps : List (Nat × Arg)} {xs : List (List AV)}, (∀ x ∈ ps.map (·.2), arg env x = arg env' x) → fillS env sz ps xs = fillS env' sz ps xs
  | [], xs, h => rfl
  | (i, x) :: ps, xs, h => by
    have h1 : arg env x = arg env' x := h x (by simp)
    have ih : ∀ zs, fillS env sz ps zs = fillS env' sz ps zs := fun zs => fillS_congr fun y hy => h y (by simp at hy ⊢; exact .inr hy)
    simp only [fillS, h1, ih]
theorem bnd_congr {env env' : List AV} {d m : Nat} {x : Option Arg} (h : ∀ y ∈ optArgs x, arg env y = arg env' y) : bnd env d m x = bnd env' d m x := by
  cases x with
  | none => rfl
  | some y => simp only [bnd, h y (by simp [optArgs])]
theorem evalOp_congr {T : FuncId → Option IFn} {cb : Cb} {env env' : List AV} {H : Heap} {nx : Nat} {io : PO} (h : ∀ x ∈ io.args, arg env x = arg env' x) : evalOp T cb env H nx io = evalOp T cb env' H nx io := by
  have map_congr : ∀ l : List Arg, (∀ x ∈ l, arg env x = arg env' x) → l.map (arg env) = l.map (arg env') := fun l hl => List.map_congr_left hl
  cases io with
  | build z ps => simp only [evalOp, fillA_congr (env := env) (env' := env') (ps := ps) h]
  | buildS s n z ps => simp only [evalOp, fillS_congr (env := env) (env' := env') (ps := ps) h]
  | sl s x lo hi =>
    have h1 := h x (by simp [PO.args])
    have h2 : ∀ d m, bnd env d m lo = bnd env' d m lo := fun d m => bnd_congr fun y hy => h y (by simp [PO.args, hy])
    have h3 : ∀ d m, bnd env d m hi = bnd env' d m hi := fun d m => bnd_congr fun y hy => h y (by simp [PO.args, hy])
    simp only [evalOp, h1, h2, h3]
  | mkF f a b => simp only [evalOp, map_congr a fun x hx => h x (by simp [PO.args, hx]), map_congr b fun x hx => h x (by simp [PO.args, hx])]
  | call f as => simp only [evalOp, map_congr as h]
  | callv g as => simp only [evalOp, map_congr as fun x hx => h x (by simp [PO.args, hx]), h g (by simp [PO.args])]
  | mx m xs =>
    cases xs with
    | nil => rfl
    | cons x xs => simp only [evalOp, h x (by simp [PO.args]), map_congr xs fun y hy => h y (by simp [PO.args, hy])]
  | pick c a b => simp only [evalOp, h c (by simp [PO.args]), h a (by simp [PO.args]), h b (by simp [PO.args])]
  | new _ => rfl
  | lenC _ => rfl
  | bad => rfl
  | eqv neg agg ks x y => cases agg <;> simp only [evalOp, h x (by simp [PO.args]), h y (by simp [PO.args])]
  | mv x => simp only [evalOp, h x (by simp [PO.args])]
  | box x => simp only [evalOp, h x (by simp [PO.args])]
  | load n x => simp only [evalOp, h x (by simp [PO.args])]
  | fieldA n x => simp only [evalOp, h x (by simp [PO.args])]
  | field n o x => simp only [evalOp, h x (by simp [PO.args])]
  | un o x => simp only [evalOp, h x (by simp [PO.args])]
  | conv k x => simp only [evalOp, h x (by simp [PO.args])]
  | ext x i => simp only [evalOp, h x (by simp [PO.args])]
  | lenS x => simp only [evalOp, h x (by simp [PO.args])]
  | store n x y => simp only [evalOp, h x (by simp [PO.args]), h y (by simp [PO.args])]
  | indexS n x y => simp only [evalOp, h x (by simp [PO.args]), h y (by simp [PO.args])]
  | indexA l n x y => simp only [evalOp, h x (by simp [PO.args]), h y (by simp [PO.args])]
  | indexV l n s x y => simp only [evalOp, h x (by simp [PO.args]), h y (by simp [PO.args])]
  | bin o x y => simp only [evalOp, h x (by simp [PO.args]), h y (by simp [PO.args])]
  | mkS s b z x y => simp only [evalOp, h x (by simp [PO.args]), h y (by simp [PO.args])]
  | app s b x y => simp only [evalOp, h x (by simp [PO.args]), h y (by simp [PO.args])]
  | appZ s b z x y => simp only [evalOp, h x (by simp [PO.args]), h y (by simp [PO.args])]
  | capS x => simp only [evalOp, h x (by simp [PO.args])]
  | isNil g x => simp only [evalOp, h x (by simp [PO.args])]
  | clr s z x => simp only [evalOp, h x (by simp [PO.args])]
  | sl3 s x lo hi m =>
    have h1 := h x (by simp [PO.args])
    have h2 : ∀ d m, bnd env d m lo = bnd env' d m lo := fun d m => bnd_congr fun y hy => h y (by simp [PO.args, hy])
    have h3 : ∀ d n, bnd env d n (some hi) = bnd env' d n (some hi) := fun d n => bnd_congr fun y hy => h y (by simp [optArgs] at hy; simp [PO.args, hy])
    have h4 : ∀ d n, bnd env d n (some m) = bnd env' d n (some m) := fun d n => bnd_congr fun y hy => h y (by simp [optArgs] at hy; simp [PO.args, hy])
    simp only [evalOp, h1, h2, h3, h4]

/-! The way in the text's order -/
structure Tr where
  st : St
  v : AV
  rd : List Nat
  wr : Wr
  nx : Nat
def ids (wr : Wr) : List Nat := wr.map (·.1)
def Tr.foot (t : Tr) : Foot := ⟨t.rd, ids t.wr⟩
structure StepT (T : FuncId → Option IFn) (cb : Cb) (io : IOp) (t : Tr) : Prop where
  run : (wantedA t.st.env io.guard = true ∧ evalOp T cb t.st.env t.st.H t.st.H.nx io.op = some (.eff t.v t.rd t.wr t.nx)) ∨ (wantedA t.st.env io.guard = false ∧ t.v = undefA ∧ t.rd = [] ∧ t.wr = [] ∧ t.nx = t.st.H.nx)
def Tr.next (io : IOp) (t : Tr) : St := ⟨setD t.st.env io.dst t.v, wrH t.st.H t.wr t.nx⟩
theorem footOK_spec {f : Foot} {bef : Nat} : ∀ {n : Nat} {fs : List Foot}, footOK f bef n fs = true → ∀ (k : Nat) g, fs[k]? = some g → k < n ∧ (bef.testBit (n - 1 - k) = true ∨ clash g f = false)
  | n, [], h, k, g, hk => by simp at hk
  | 0, _ :: _, h, k, g, hk => by simp [footOK] at h
  | n + 1, x :: fs, h, k, g, hk => by
    simp only [footOK, Bool.and_eq_true, Bool.or_eq_true, Bool.not_eq_true'] at h
    cases k with
    | zero => simp at hk; subst hk; exact ⟨by omega, by simpa using h.1⟩
    | succ k =>
      obtain ⟨h1, h2⟩ := footOK_spec h.2 k g (by simpa using hk)
      exact ⟨by omega, by rw [show n + 1 - 1 - (k + 1) = n - 1 - k by omega]; exact h2⟩
theorem clash_nil (g : Foot) : clash g ⟨[], []⟩ = false := by simp [clash]
/-- What an evaluation of a drawing region went through. -/
theorem trace {T : FuncId → Option IFn} {cb : Cb} : ∀ {ios : List IOp} {n : Nat} {fs : List Foot} {st st' : St}, evalDraw T cb ios n fs st = some st' →
    ∃ ts : List Tr, ts.length = ios.length ∧ (∀ (i : Nat) io t, ios[i]? = some io → ts[i]? = some t → StepT T cb io t ∧ ((ts[i + 1]?).map (·.st)).getD st' = t.next io ∧
      (∀ (k : Nat) g, fs[k]? = some g → k < n → (io.bef.testBit (n - 1 - k) = true ∨ clash g t.foot = false)) ∧ (∀ (j : Nat) u, j < i → ts[j]? = some u → (io.bef.testBit (n + j) = true ∨ clash u.foot t.foot = false))) ∧
      ((ts[0]?).map (·.st)).getD st' = st
  | [], n, fs, st, st', h => by cases h; exact ⟨[], rfl, by simp, rfl⟩
  | io :: ios, n, fs, st, st', h => by
    have step : ∀ (t : Tr), t.st = st → StepT T cb io t → (∀ (k : Nat) g, fs[k]? = some g → k < n → (io.bef.testBit (n - 1 - k) = true ∨ clash g t.foot = false)) → evalDraw T cb ios (n + 1) (t.foot :: fs) (t.next io) = some st' → ∃ ts : List Tr, ts.length = (io :: ios).length ∧ (∀ (i : Nat) io' t, (io :: ios)[i]? = some io' → ts[i]? = some t → StepT T cb io' t ∧ ((ts[i + 1]?).map (·.st)).getD st' = t.next io' ∧
      (∀ (k : Nat) g, fs[k]? = some g → k < n → (io'.bef.testBit (n - 1 - k) = true ∨ clash g t.foot = false)) ∧ (∀ (j : Nat) u, j < i → ts[j]? = some u → (io'.bef.testBit (n + j) = true ∨ clash u.foot t.foot = false))) ∧
      ((ts[0]?).map (·.st)).getD st' = st := by
      intro t ht hst hf he
      obtain ⟨ts, h1, h2, h3⟩ := trace he
      refine ⟨t :: ts, by simp [h1], fun i io' u hi hu => ?_, by simpa using ht⟩
      cases i with
      | zero =>
        simp at hi hu; subst hi hu
        exact ⟨hst, by simpa using h3, hf, fun j u hj => by omega⟩
      | succ i =>
        simp at hi hu
        obtain ⟨g1, g2, g3, g4⟩ := h2 i io' u hi hu
        refine ⟨g1, by simpa using g2, fun k g hk hkn => ?_, fun j x hj hx => ?_⟩
        · have := g3 (k + 1) g (by simpa using hk) (by omega)
          rwa [show n + 1 - 1 - (k + 1) = n - 1 - k by omega] at this
        · cases j with
          | zero =>
            simp at hx; subst hx
            have := g3 0 t.foot (by simp) (by omega)
            simpa using this
          | succ j =>
            simp at hx
            have := g4 j x (by omega) hx
            rwa [show n + 1 + j = n + (j + 1) by omega] at this
    simp only [evalDraw] at h
    split at h
    · rename_i hw
      split at h
      · rename_i v rd wr nx he
        split at h
        · rename_i hfo
          exact step ⟨st, v, rd, wr, nx⟩ rfl ⟨.inl ⟨hw, he⟩⟩ (fun k g hk _ => (footOK_spec hfo k g hk).2) h
        · cases h
      · cases h
    · rename_i hw
      have hwr : wrH st.H [] st.H.nx = st.H := by simp [wrH, wrL]
      exact step ⟨st, undefA, [], [], st.H.nx⟩ rfl ⟨.inr ⟨by simpa using hw, rfl, rfl, rfl, rfl⟩⟩ (fun k g _ _ => .inr (clash_nil g)) (by simpa [Tr.next, hwr, Tr.foot, ids] using h)

/-! What stands behind a set of the operations -/
theorem setD_length (env : List AV) (d : Option Nat) (v : AV) : (setD env d v).length = env.length := by cases d <;> simp [setD]
theorem setD_get (env : List AV) (d : Option Nat) (v : AV) (t : Nat) : (setD env d v)[t]? = if d = some t ∧ t < env.length then some v else env[t]? := by
  cases d with
  | none => simp [setD]
  | some d =>
    simp only [setD, Option.some.injEq]
    by_cases h : d = t
    · subst h
      by_cases hl : d < env.length
      · rw [List.getElem?_set_self hl, if_pos ⟨rfl, hl⟩]
      · rw [if_neg (fun q => hl q.2), List.getElem?_eq_none (by simpa using hl), List.getElem?_eq_none (by simpa using hl)]
    · rw [List.getElem?_set_ne h, if_neg (fun q => h q.1)]
theorem setD_comm (env : List AV) {d e : Option Nat} (v u : AV) (h : ∀ t, d = some t → e ≠ some t) : setD (setD env d v) e u = setD (setD env e u) d v := by
  apply List.ext_getElem?
  intro t
  simp only [setD_get, setD_length]
  by_cases h1 : d = some t
  · have := h t h1
    simp [h1, this]
  · simp [h1]
def envL (st : List AV) (dst : Nat → Option Nat) (v : Nat → AV) (p : Nat → Bool) : Nat → List AV
  | 0 => st
  | n + 1 => if p n then setD (envL st dst v p n) (dst n) (v n) else envL st dst v p n
def memL (h : Mem) (wr : Nat → Wr) (p : Nat → Bool) : Nat → Mem
  | 0 => h
  | n + 1 => if p n then updH (memL h wr p n) (wr n) else memL h wr p n
theorem envL_length (st : List AV) (dst : Nat → Option Nat) (v : Nat → AV) (p : Nat → Bool) (n : Nat) : (envL st dst v p n).length = st.length := by
  induction n with
  | zero => rfl
  | succ n ih => simp only [envL]; split <;> simp [setD_length, ih]
theorem envL_congr {st : List AV} {dst : Nat → Option Nat} {v : Nat → AV} {p q : Nat → Bool} {t : Nat} (n : Nat) (h : ∀ j, j < n → dst j = some t → p j = q j) : (envL st dst v p n)[t]? = (envL st dst v q n)[t]? := by
  induction n with
  | zero => rfl
  | succ n ih =>
    have ih := ih fun j hj => h j (by omega)
    simp only [envL]
    by_cases hd : dst n = some t
    · rw [h n (by omega) hd]
      split
      · simp only [setD_get, envL_length, ih]
      · exact ih
    · split <;> split <;> (try simp only [setD_get, hd, false_and, if_false]) <;> exact ih
theorem envL_add {st : List AV} {dst : Nat → Option Nat} {v : Nat → AV} {p : Nat → Bool} {i : Nat} (hp : p i = false) : ∀ n, (∀ j, i < j → j < n → p j = true → ∀ t, dst i = some t → dst j ≠ some t) → envL st dst v (fun j => if j = i then true else p j) n = if i < n then setD (envL st dst v p n) (dst i) (v i) else envL st dst v p n
  | 0, _ => by simp [envL]
  | n + 1, h => by
    have ih := envL_add (st := st) (dst := dst) (v := v) hp n fun j hj hn => h j hj (by omega)
    simp only [envL]
    rw [ih]
    by_cases h1 : n = i
    · subst h1
      simp [hp]
    · simp only [h1, if_false]
      by_cases h2 : i < n
      · rw [if_pos h2, if_pos (show i < n + 1 by omega)]
        by_cases h3 : p n = true
        · rw [if_pos h3, if_pos h3, setD_comm _ _ _ (h n h2 (by omega) h3)]
        · rw [if_neg h3, if_neg h3]
      · rw [if_neg h2, if_neg (show ¬ i < n + 1 by omega)]
def lookW : Wr → Nat → Option (Option Blk)
  | [], _ => none
  | p :: wr, id => match lookW wr id with
    | some b => some b
    | none => if id = p.1 then some p.2 else none
theorem updH_look : ∀ (wr : Wr) (h : Mem) (id : Nat), updH h wr id = match lookW wr id with | some b => b | none => h id
  | [], h, id => rfl
  | p :: wr, h, id => by
    have : updH h (p :: wr) = updH (fun i => if i = p.1 then p.2 else h i) wr := rfl
    rw [this, updH_look wr]
    simp only [lookW]
    cases lookW wr id with
    | some b => rfl
    | none => by_cases h1 : id = p.1 <;> simp [h1]
theorem lookW_none : ∀ {wr : Wr} {id : Nat}, id ∉ ids wr → lookW wr id = none
  | [], id, _ => rfl
  | p :: wr, id, h => by
    simp only [ids, List.map_cons, List.mem_cons, not_or] at h
    simp only [lookW, lookW_none (wr := wr) h.2, h.1, if_false]
theorem updH_comm {h : Mem} {a b : Wr} (hd : ∀ id, id ∈ ids a → id ∉ ids b) : updH (updH h a) b = updH (updH h b) a := by
  funext id
  simp only [updH_look]
  by_cases h1 : id ∈ ids a
  · rw [lookW_none (hd id h1)]
  · rw [lookW_none h1]
theorem memL_congr {h : Mem} {wr : Nat → Wr} {p q : Nat → Bool} {id : Nat} (n : Nat) (hh : ∀ j, j < n → id ∈ ids (wr j) → p j = q j) : memL h wr p n id = memL h wr q n id := by
  induction n with
  | zero => rfl
  | succ n ih =>
    have ih := ih fun j hj => hh j (by omega)
    simp only [memL]
    by_cases hd : id ∈ ids (wr n)
    · rw [hh n (by omega) hd]
      split
      · simp only [updH_look, ih]
      · exact ih
    · have : ∀ m : Mem, updH m (wr n) id = m id := fun m => by rw [updH_look, lookW_none hd]
      split <;> split <;> (try simp only [this]) <;> exact ih
theorem memL_add {h : Mem} {wr : Nat → Wr} {p : Nat → Bool} {i : Nat} (hp : p i = false) : ∀ n, (∀ j, i < j → j < n → p j = true → ∀ id, id ∈ ids (wr i) → id ∉ ids (wr j)) → memL h wr (fun j => if j = i then true else p j) n = if i < n then updH (memL h wr p n) (wr i) else memL h wr p n
  | 0, _ => by simp [memL]
  | n + 1, hh => by
    have ih := memL_add (h := h) (wr := wr) hp n fun j hj hn => hh j hj (by omega)
    simp only [memL]
    rw [ih]
    by_cases h1 : n = i
    · subst h1
      simp [hp]
    · simp only [h1, if_false]
      by_cases h2 : i < n
      · rw [if_pos h2, if_pos (show i < n + 1 by omega)]
        by_cases h3 : p n = true
        · rw [if_pos h3, if_pos h3, updH_comm (hh n h2 (by omega) h3)]
        · rw [if_neg h3, if_neg h3]
      · rw [if_neg h2, if_neg (show ¬ i < n + 1 by omega)]
end Go.V
