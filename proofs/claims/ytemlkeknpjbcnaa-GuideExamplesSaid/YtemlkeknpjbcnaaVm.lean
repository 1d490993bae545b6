/- Soundness: calls of functions on arguments that name none of the evaluator's memory. -/
import Derived.Test.YtemlkeknpjbcnaaVl
import Derived.RangeFuncLeaves
set_option linter.unusedVariables false
set_option linter.unusedSimpArgs false
namespace Go.V
open Go.RowKit
variable {P : Program}

/-- What is left behind by whatever is evaluated. -/
def Fin (P : Program) (S : Nat → Prop) (φ : Phi) (H : Heap) (w : World) (v : AV) (H' : Heap) (vv : Value) (w' : World) : Prop :=
  ∃ S' φ', Adv S φ (hget H) w S' φ' (hget H') w' ∧ Sim P S' φ' (hget H') w' ∧ Rep w' S' φ' v vv ∧ (∀ id, H'.nx ≤ id → φ' id = none) ∧ H.nx ≤ H'.nx
/-- ... by a call on arguments that name none of the evaluator's memory. -/
def Pure (P : Program) (Sc : Nat → Prop) (w : World) (t : AV) (vv : Value) (w' : World) : Prop :=
  ∃ v H' ids S' φ', Adv Sc (fun _ => none) (hget noH) w S' φ' (hget H') w' ∧ Sim P S' φ' (hget H') w' ∧ Rep w' S' φ' v vv ∧ detach H' v = some (t, ids) ∧ ids.Nodup
def PuOK (P : Program) (f : FuncId) (args : List AV) (t : AV) : Prop :=
  ∀ Sc w us, Sim P Sc (fun _ => none) (hget noH) w → Reps w Sc (fun _ => none) args us → Calls P f us w fun e w' => ∃ vv, e = .returned vv ∧ Pure P Sc w t vv w'
/-- What a function that is evaluated does; what a round does. -/
structure CbOK (P : Program) (cb : Cb) : Prop where
  fn : ∀ f args H v H', cb (.fn f) args H = some (v, H') → ∀ S φ w vargs, Sim P S φ (hget H) w → (∀ id, H.nx ≤ id → φ id = none) → Reps w S φ args vargs →
    Calls P f vargs w fun e w' => ∃ vv, e = .returned vv ∧ Fin P S φ H w v H' vv w'
  pu : ∀ f args H t H', cb (.pu f) args H = some (t, H') → PuOK P f args t
  yl : ∀ id args H v H', cb (.yl id) args H = some (v, H') → ∀ S φ w vargs loc, Sim P S φ (hget H) w → (∀ id, H.nx ≤ id → φ id = none) → Reps w S φ args vargs → φ id = some loc →
    ∃ fn tmps a b, (Instr.yield loc.blk vargs).run P w = .ok (.round loc.blk fn tmps a b) w ∧ RoundIn Fence.wide 0 P loc.blk fn tmps a b w fun e w' => ∃ vv, e = .returned vv ∧ Fin P S φ H w v H' vv w'
def TOK (P : Program) (T : FuncId → Option IFn) : Prop := ∀ f fn, T f = some fn → cFn P fn.byref f = some fn
theorem cFn_spec {P : Program} {br : Bool} {f : FuncId} {fn : IFn} (h : cFn P br f = some fn) : ∃ g c, P.funcs[f]? = some g ∧ (g.name == "runtime.NumGoroutine") = false ∧ g.body = some c ∧ cCode P c = some fn.body ∧ cRess P g.results.toList = some fn.res ∧ fn.ntmps = g.ntmps := by
  unfold cFn at h
  split at h
  · cases h
  · rename_i g hg
    split at h
    · cases h
    · rename_i hn
      split at h
      · cases h
      · rename_i c hc
        split at h
        · rename_i ic rs h1 h2
          cases h
          exact ⟨g, c, hg, by simpa using hn, hc, h1, h2, rfl⟩
        · cases h
theorem run_callFunc {P : Program} {w : World} {f : FuncId} {g : Func} {c : Code} (h1 : P.funcs[f]? = some g) (h2 : (g.name == "runtime.NumGoroutine") = false) (h3 : g.body = some c) (args : Array Value) : (callFunc f args).run P w = .ok (.enter f args) w := by
  have h2' : ¬ g.name = "runtime.NumGoroutine" := by simpa using h2
  simp [callFunc, h1, h2', h3]

/-- What names no place of the evaluator's memory stands in whatever memory. -/
def AV.isLst : AV → Bool
  | .lst .. | .ptrL .. => true
  | _ => false
theorem Rep.flat1 {w : World} {S S' : Nat → Prop} {φ φ' : Phi} {c : AV} {v : Value} (h : Rep w S φ c v) (hn : c.flat1 = true) : Rep w S' φ' c v := by
  cases h with
  | int => exact .int
  | bool => exact .bool
  | str => exact .str
  | nilS => exact .nilS
  | nilP => exact .nilP
  | nilF => exact .nilF
  | _ => simp [AV.flat1] at hn
theorem Rep.flat {w : World} {S S' : Nat → Prop} {φ φ' : Phi} {c : AV} {v : Value} (h : Rep w S φ c v) (hn : c.flat = true) : Rep w S' φ' c v := by
  cases h with
  | agg hl h =>
    simp only [AV.flat, List.all_eq_true] at hn
    exact .agg hl fun i c v e1 e2 => (h i c v e1 e2).flat1 (hn c (List.mem_of_getElem? e1))
  | int => exact .int
  | bool => exact .bool
  | str => exact .str
  | nilS => exact .nilS
  | nilP => exact .nilP
  | nilF => exact .nilF
  | _ => simp [AV.flat, AV.flat1] at hn
theorem Rep.move {w : World} {S S' : Nat → Prop} {φ φ' : Phi} {c : AV} {v : Value} (h : Rep w S φ c v) (hn : c.noId = true) (hS : (∀ b, S b → S' b) ∨ c.isLst = false) : Rep w S' φ' c v := by
  have up : (∀ b, S b → S' b) → ∀ {ψ : Phi} {a : AV} {u : Value}, Rep w S ψ a u → Rep w S' ψ a u := fun hS1 ψ a u h => h.mono hS1 (fun _ _ => rfl) (fun _ _ _ e => e) (fun _ _ e => e)
  cases h with
  | int => exact .int
  | bool => exact .bool
  | str => exact .str
  | lst vals hs h1 hl hc hr =>
    rcases hS with hS | hS
    · exact .lst vals hs (hS _ h1) hl hc (fun i j x c e1 e2 => up hS (hr i j x c e1 e2))
    · simp [AV.isLst] at hS
  | lstNil => exact .lstNil
  | ptrL vals hs h1 hc hr =>
    rcases hS with hS | hS
    · exact .ptrL vals hs (hS _ h1) hc (fun i j x c e1 e2 => up hS (hr i j x c e1 e2))
    · simp [AV.isLst] at hS
  | emp h => exact .emp h
  | nilS => exact .nilS
  | nilP => exact .nilP
  | nilF => exact .nilF
  | fn hl h hl' h' =>
    simp only [AV.noId, Bool.and_eq_true, List.all_eq_true] at hn
    exact .fn hl (fun i c v e1 e2 => (h i c v e1 e2).flat (hn.1 c (List.mem_of_getElem? e1))) hl' (fun i c v e1 e2 => (h' i c v e1 e2).flat (hn.2 c (List.mem_of_getElem? e1)))
  | _ => simp [AV.noId] at hn

section args
variable {S Sc : Nat → Prop} {φ : Phi} {h : Mem} {H : Heap} {w : World}
theorem reifyW_spec {f : AV → Option (AV × List Nat)} : ∀ {vs as : List AV} {rd : List Nat}, reifyW f vs = some (as, rd) → as.length = vs.length ∧ ∀ (j : Nat) a, as[j]? = some a → ∃ v r, vs[j]? = some v ∧ f v = some (a, r) ∧ ∀ id ∈ r, id ∈ rd
  | [], as, rd, h => by cases h; exact ⟨rfl, by simp⟩
  | v :: vs, as, rd, h => by
    simp only [reifyW] at h
    split at h
    · rename_i a r as' rs e1 e2
      cases h
      obtain ⟨h1, h2⟩ := reifyW_spec e2
      refine ⟨by simp [h1], fun j b hb => ?_⟩
      cases j with
      | zero => simp at hb; subst hb; exact ⟨v, r, by simp, e1, fun id hid => by simp [hid]⟩
      | succ j =>
        obtain ⟨v', r', q1, q2, q3⟩ := h2 j b (by simpa using hb)
        exact ⟨v', r', by simpa using q1, q2, fun id hid => by simp [q3 id hid]⟩
    · cases h
theorem reifyWW_spec {f : AV → Option (AV × List Nat)} : ∀ {vs as : List (List AV)} {rd : List Nat}, reifyWW f vs = some (as, rd) → as.length = vs.length ∧ ∀ (i : Nat) y, as[i]? = some y → ∃ x, vs[i]? = some x ∧ y.length = x.length ∧ ∀ (j : Nat) a, y[j]? = some a → ∃ v r, x[j]? = some v ∧ f v = some (a, r) ∧ ∀ id ∈ r, id ∈ rd
  | [], as, rd, h => by cases h; exact ⟨rfl, by simp⟩
  | v :: vs, as, rd, h => by
    simp only [reifyWW] at h
    split at h
    · rename_i a r as' rs e1 e2
      cases h
      obtain ⟨h1, h2⟩ := reifyWW_spec e2
      obtain ⟨h3, h4⟩ := reifyW_spec e1
      refine ⟨by simp [h1], fun i y hy => ?_⟩
      cases i with
      | zero =>
        simp at hy; subst hy
        exact ⟨v, by simp, h3, fun j b hb => by obtain ⟨v', r', q1, q2, q3⟩ := h4 j b hb; exact ⟨v', r', q1, q2, fun id hid => by simp [q3 id hid]⟩⟩
      | succ i =>
        obtain ⟨x, q0, q1, q2⟩ := h2 i y (by simpa using hy)
        exact ⟨x, by simpa using q0, q1, fun j b hb => by obtain ⟨v', r', q1, q2, q3⟩ := q2 j b hb; exact ⟨v', r', q1, q2, fun id hid => by simp [q3 id hid]⟩⟩
    · cases h
/-- What a slice of the evaluator's memory holds, as it may be read. -/
theorem own_lst {s off len id : Nat} {xs ys : List (List AV)} {v : Value} (hs : Sim P S φ h w) (hb : h id = some (.row s xs)) (hv : Rep w S φ (.own id off len) v) (hle : off + len ≤ xs.length) (h2 : ∀ b, Own φ h b → Sc b)
    (hl : ys.length = ((xs.drop off).take len).length) (hy : ∀ (i : Nat) y, ys[i]? = some y → ∃ x, ((xs.drop off).take len)[i]? = some x ∧ y.length = x.length ∧ ∀ (j : Nat) a, y[j]? = some a → ∃ c, x[j]? = some c ∧ (c.one = true → a.one = true) ∧ ∀ u, Rep w S φ c u → Rep w Sc (fun _ => none) a u) :
    Rep w Sc (fun _ => none) (.lst s ys) v := by
  obtain ⟨loc, cap, e', n', hφ, hsh, hn', hlc, hval⟩ := hv.inv_own
  obtain ⟨loc', g1, g2, g3⟩ := hs.blk id _ hb
  rw [hφ] at g1; cases g1
  have hlen : ys.length = len := by rw [hl]; simp; omega
  obtain ⟨q1, q2⟩ := g2.sub (off := off) (len := len)
  have hat : LstAt w Sc s ys loc.blk (loc.base + off * loc.sz) := by
    refine ⟨fun y hyy => ?_, h2 _ ⟨id, _, loc, hb, hφ, rfl⟩, fun i j y a e1 e2 => ?_⟩
    · obtain ⟨i, hi, rfl⟩ := List.getElem_of_mem hyy
      obtain ⟨x, r1, r2, r3⟩ := hy i _ (List.getElem?_eq_getElem hi)
      refine ⟨by rw [r2]; exact q1 x (List.mem_of_getElem? r1), ?_⟩
      rw [List.all_eq_true]
      intro a ha
      obtain ⟨j, hj, rfl⟩ := List.getElem_of_mem ha
      obtain ⟨c, c1, c2, c3⟩ := r3 j _ (List.getElem?_eq_getElem hj)
      exact c2 (q2 i j x c r1 c1).1
    · obtain ⟨x, r1, r2, r3⟩ := hy i y e1
      obtain ⟨c, c1, c2, c3⟩ := r3 j a e2
      obtain ⟨-, u, r4, r5⟩ := q2 i j x c r1 c1
      exact ⟨u, r4, c3 u r5⟩
  rw [hval]
  have := hat.lst (φ := fun _ => none) (cap := cap) (by rw [hlen]; exact hlc)
  rwa [hlen] at this
theorem reifyD_rep (hs : Sim P S φ h w) (h1 : ∀ b, S b → Sc b) : ∀ (d : Nat) {v a : AV} {rd : List Nat}, reifyD H d v = some (a, rd) → (∀ id ∈ rd, h id = hget H id) → (rd ≠ [] → ∀ b, Own φ h b → Sc b) → (v.one = true → a.one = true) ∧ ∀ u, Rep w S φ v u → Rep w Sc (fun _ => none) a u
  | 0, v, a, rd, he, hrd, h2 => by
    simp only [reifyD] at he
    split at he
    · rename_i hn; cases he; exact ⟨id, fun u hv => hv.move hn (.inl h1)⟩
    · cases he
  | d + 1, v, a, rd, he, hrd, h2 => by
    simp only [reifyD] at he
    split at he
    · cases he
      refine ⟨fun _ => rfl, fun u hv => ?_⟩
      obtain ⟨loc, cap, e', n', hφ, hsh, hn', hlc, hval⟩ := hv.inv_own
      rw [hval]
      exact .emp (by simp)
    · rename_i id off len hne
      split at he
      · rename_i s xs e1
        split at he
        · rename_i hle
          cases e2 : reifyWW (reifyD H d) ((xs.drop off).take len) with
          | none => simp [e2] at he
          | some p =>
            obtain ⟨ys, rs⟩ := p
            simp [e2] at he
            obtain ⟨rfl, rfl⟩ := he
            obtain ⟨k1, k2⟩ := reifyWW_spec e2
            have h2' := h2 (by simp)
            refine ⟨fun _ => rfl, fun u hv => own_lst hs (by rw [hrd id (by simp)]; exact e1) hv hle h2' k1 fun i y hy => ?_⟩
            obtain ⟨x, q1, q2, q3⟩ := k2 i y hy
            refine ⟨x, q1, q2, fun j b hb => ?_⟩
            obtain ⟨c, r, c1, c2, c3⟩ := q3 j b hb
            obtain ⟨o1, o2⟩ := reifyD_rep hs h1 d c2 (fun id hid => hrd id (by simp [c3 id hid])) (fun _ => h2')
            exact ⟨c, c1, o1, o2⟩
        · cases he
      · cases he
    · split at he
      · rename_i hn; cases he; exact ⟨id, fun u hv => hv.move hn (.inl h1)⟩
      · cases he
theorem reifyC_rep {v a : AV} {rd : List Nat} {u : Value} (he : reifyC H v = some (a, rd)) (hrd : ∀ id ∈ rd, h id = hget H id) (hs : Sim P S φ h w) (hv : Rep w S φ v u) (h1 : ∀ b, S b → Sc b) (h2 : rd ≠ [] → ∀ b, Own φ h b → Sc b) : Rep w Sc (fun _ => none) a u :=
  (reifyD_rep hs h1 4 he hrd h2).2 u hv
theorem reifyL_rep : ∀ {vs as : List AV} {rd : List Nat} {us : List Value}, reifyL H vs = some (as, rd) → (∀ id ∈ rd, h id = hget H id) → Sim P S φ h w → Reps w S φ vs us.toArray → (∀ b, S b → Sc b) → (rd ≠ [] → ∀ b, Own φ h b → Sc b) → Reps w Sc (fun _ => none) as us.toArray
  | [], as, rd, us, he, hrd, hs, hv, h1, h2 => by
    cases he
    exact ⟨hv.1, by simp⟩
  | v :: vs, as, rd, us, he, hrd, hs, hv, h1, h2 => by
    simp only [reifyL] at he
    split at he
    · rename_i a r as' rs e1 e2
      cases he
      cases us with
      | nil => have := hv.1; simp at this
      | cons u us =>
        exact Reps.cons (reifyC_rep e1 (fun id hid => hrd id (by simp [hid])) hs (hv.2 0 v u (by simp) (by simp)) h1 (fun hne => h2 (by simp [hne])))
          (reifyL_rep e2 (fun id hid => hrd id (by simp [hid])) hs ⟨by have := hv.1; simpa using this, fun i c x q1 q2 => hv.2 (i + 1) c x (by simpa using q1) (by simpa using q2)⟩ h1 (fun hne => h2 (by simp [hne])))
    · cases he
theorem reify_rep {v a : AV} {rd : List Nat} {u : Value} (he : reify H v = some (a, rd)) (hrd : ∀ id ∈ rd, h id = hget H id) (hs : Sim P S φ h w) (hv : Rep w S φ v u) (h1 : ∀ b, S b → Sc b) (h2 : rd ≠ [] → ∀ b, Own φ h b → Sc b) : Rep w Sc (fun _ => none) a u := by
  unfold reify at he
  split at he
  · rename_i cs
    cases e1 : reifyL H cs with
    | none => simp [e1] at he
    | some p =>
      obtain ⟨as, r⟩ := p
      simp [e1] at he
      obtain ⟨rfl, rfl⟩ := he
      obtain ⟨us, rfl, f2⟩ := hv.inv_agg
      have := reifyL_rep (us := us.toList) e1 hrd hs (by simpa using f2) h1 h2
      exact .agg (by simpa using this.1) (by simpa using this.2)
  · exact reifyC_rep he hrd hs hv h1 h2
theorem reifyArgs_rep : ∀ {vs as : List AV} {rd : List Nat} {us : List Value}, reifyArgs H vs = some (as, rd) → (∀ id ∈ rd, h id = hget H id) → Sim P S φ h w → Reps w S φ vs us.toArray → (∀ b, S b → Sc b) → (rd ≠ [] → ∀ b, Own φ h b → Sc b) → Reps w Sc (fun _ => none) as us.toArray
  | [], as, rd, us, he, hrd, hs, hv, h1, h2 => by
    cases he
    exact ⟨hv.1, by simp⟩
  | v :: vs, as, rd, us, he, hrd, hs, hv, h1, h2 => by
    simp only [reifyArgs] at he
    split at he
    · rename_i a r as' rs e1 e2
      cases he
      cases us with
      | nil => have := hv.1; simp at this
      | cons u us =>
        exact Reps.cons (reify_rep e1 (fun id hid => hrd id (by simp [hid])) hs (hv.2 0 v u (by simp) (by simp)) h1 (fun hne => h2 (by simp [hne])))
          (reifyArgs_rep e2 (fun id hid => hrd id (by simp [hid])) hs ⟨by have := hv.1; simpa using this, fun i c x q1 q2 => hv.2 (i + 1) c x (by simpa using q1) (by simpa using q2)⟩ h1 (fun hne => h2 (by simp [hne])))
    · cases he
end args

/-! Results -/
structure Ent where
  loc : Loc
  xs : List (List AV)
def mkWr (nx : Nat) : List Ent → Wr
  | [] => []
  | e :: es => (nx, some (.row e.loc.sz e.xs)) :: mkWr (nx + 1) es
theorem mkWr_append (nx : Nat) : ∀ (a b : List Ent), mkWr nx (a ++ b) = mkWr nx a ++ mkWr (nx + a.length) b
  | [], b => by simp [mkWr]
  | e :: a, b => by simp [mkWr, mkWr_append (nx + 1) a b, Nat.add_assoc, Nat.add_comm 1]
theorem updH_append (h : Mem) (a b : Wr) : updH h (a ++ b) = updH (updH h a) b := by simp [updH, List.foldl_append]
theorem updH_mkWr : ∀ (es : List Ent) (nx : Nat) (h : Mem) (id : Nat), updH h (mkWr nx es) id = if nx ≤ id then (match es[id - nx]? with | some e => some (.row e.loc.sz e.xs) | none => h id) else h id
  | [], nx, h, id => by simp [mkWr, updH]
  | e :: es, nx, h, id => by
    have : updH h (mkWr nx (e :: es)) = updH (fun i => if i = nx then some (.row e.loc.sz e.xs) else h i) (mkWr (nx + 1) es) := rfl
    rw [this, updH_mkWr es (nx + 1)]
    by_cases h1 : id = nx
    · subst h1; rw [if_neg (by omega)]; simp
    · by_cases h2 : nx ≤ id
      · rw [if_pos (by omega), if_pos h2, show id - nx = (id - (nx + 1)) + 1 by omega]
        simp [h1]
      · rw [if_neg (by omega), if_neg h2]; simp [h1]
def phiE (φ : Phi) (nx : Nat) (es : List Ent) : Phi := fun id => if nx ≤ id then (match es[id - nx]? with | some e => some e.loc | none => φ id) else φ id
theorem phiE_at (φ : Phi) (nx : Nat) (es : List Ent) (k : Nat) (e : Ent) (h : es[k]? = some e) : phiE φ nx es (nx + k) = some e.loc := by simp [phiE, h]
theorem phiE_only (φ : Phi) (nx : Nat) (es : List Ent) (id : Nat) (h : id < nx ∨ nx + es.length ≤ id) : phiE φ nx es id = φ id := by
  unfold phiE
  rcases h with h | h
  · rw [if_neg (by omega)]
  · rw [if_pos (by omega), List.getElem?_eq_none (by omega)]
/-- Blocks that nobody else knows are taken over. -/
theorem adopt_sim {S S'' : Nat → Prop} {φ : Phi} {h : Mem} {w w' : World} {nx : Nat} {es : List Ent} (hs : Sim P S φ h w) (hn : ∀ id, nx ≤ id → id < nx + es.length → φ id = none)
    (hb : ∀ b, b < w.heap.size → w'.heap[b]? = w.heap[b]?) (hsz : w.heap.size ≤ w'.heap.size) (hos : w'.os = w.os) (hta : w'.tape = w.tape) (hou : w'.output = w.output) (hsh : ∀ b e n, w.shape? b = some (e, n) → w'.shape? b = some (e, n))
    (hS : ∀ b, S b → S'' b) (hS2 : ∀ b, S'' b → S b ∨ w.heap.size ≤ b) (hS3 : ∀ b, S'' b → b < w'.heap.size)
    (hes : ∀ (k : Nat) e, es[k]? = some e → SimBlk P w' S'' (fun _ => none) e.loc (.row e.loc.sz e.xs) ∧ ¬ S'' e.loc.blk ∧ w.heap.size ≤ e.loc.blk)
    (hd : ∀ (k k' : Nat) e e', es[k]? = some e → es[k']? = some e' → e.loc.blk = e'.loc.blk → k = k') :
    Adv S φ h w S'' (phiE φ nx es) (updH h (mkWr nx es)) w' ∧ Sim P S'' (phiE φ nx es) (updH h (mkWr nx es)) w' := by
  have old : ∀ id b, updH h (mkWr nx es) id = some b → (∃ k e, nx ≤ id ∧ id = nx + k ∧ es[k]? = some e ∧ b = .row e.loc.sz e.xs ∧ phiE φ nx es id = some e.loc) ∨ (h id = some b ∧ phiE φ nx es id = φ id ∧ (id < nx ∨ nx + es.length ≤ id)) := by
    intro id b e1
    rw [updH_mkWr] at e1
    by_cases h1 : nx ≤ id
    · rw [if_pos h1] at e1
      cases e2 : es[id - nx]? with
      | none =>
        rw [e2] at e1
        have : nx + es.length ≤ id := by rw [List.getElem?_eq_none_iff] at e2; omega
        exact .inr ⟨e1, phiE_only _ _ _ _ (.inr this), .inr this⟩
      | some e =>
        rw [e2] at e1
        cases e1
        exact .inl ⟨id - nx, e, h1, by omega, e2, rfl, by simp [phiE, h1, e2]⟩
    · rw [if_neg h1] at e1
      exact .inr ⟨e1, phiE_only _ _ _ _ (.inl (by omega)), .inl (by omega)⟩
  have hadv : Adv S φ h w S'' (phiE φ nx es) (updH h (mkWr nx es)) w' := by
    refine ⟨fun id loc e => ?_, hS, hS2, hos, hta, hou, hsz, fun b hbb _ => hb b hbb, ?_, hsh⟩
    · have : id < nx ∨ nx + es.length ≤ id := by
        rcases Nat.lt_or_ge id nx with h1 | h1
        · exact .inl h1
        · rcases Nat.lt_or_ge id (nx + es.length) with h2 | h2
          · rw [hn id h1 h2] at e; cases e
          · exact .inr h2
      rw [phiE_only _ _ _ _ this]; exact e
    · rintro b ⟨id, x, loc, e1, e2, e3⟩
      rcases old id x e1 with ⟨k, e, -, rfl, f1, -, f2⟩ | ⟨f1, f2, -⟩
      · rw [f2] at e2; cases e2
        exact .inr (e3 ▸ (hes k e f1).2.2)
      · rw [f2] at e2
        exact .inl ⟨id, x, loc, f1, e2, e3⟩
  have bd : ∀ id b loc, h id = some b → φ id = some loc → loc.blk < w.heap.size := fun id b loc e1 e2 => by
    obtain ⟨l', q1, q2, -⟩ := hs.blk id b e1
    rw [e2] at q1; cases q1
    exact q2.lt
  refine ⟨hadv, ?_, ?_, hS3⟩
  · intro id b e1
    rcases old id b e1 with ⟨k, e, -, rfl, f1, rfl, f2⟩ | ⟨f1, f2, -⟩
    · obtain ⟨g1, g2, g3⟩ := hes k e f1
      refine ⟨e.loc, f2, ?_, g2⟩
      obtain ⟨p1, p2, c, t, p3, p4, p5⟩ := g1
      exact ⟨p1, p2, c, t, p3, p4, fun i j x a q1 q2 => by obtain ⟨o1, v, r1, r2⟩ := p5 i j x a q1 q2; exact ⟨o1, v, r1, noPhi r2⟩⟩
    · obtain ⟨loc, g1, g2, g3⟩ := hs.blk id b f1
      refine ⟨loc, by rw [f2]; exact g1, g2.adv hadv hs (hb _ (bd id b loc f1 g1)), fun hS'' => ?_⟩
      rcases hS2 _ hS'' with h1 | h1
      · exact g3 h1
      · have := bd id b loc f1 g1; omega
  · intro id id' b b' loc loc' a1 a2 a3 a4 a5
    rcases old id b a1 with ⟨k, e, -, rfl, f1, -, f2⟩ | ⟨f1, f2, -⟩ <;> rcases old id' b' a2 with ⟨k', e', -, rfl, f1', -, f2'⟩ | ⟨f1', f2', -⟩
    · rw [f2] at a3; cases a3
      rw [f2'] at a4; cases a4
      rw [hd k k' e e' f1 f1' a5]
    · rw [f2] at a3; cases a3
      rw [f2'] at a4
      have := bd id' b' loc' f1' a4
      have := (hes k e f1).2.2
      omega
    · rw [f2'] at a4; cases a4
      rw [f2] at a3
      have := bd id b loc f1 a3
      have := (hes k' e' f1').2.2
      omega
    · rw [f2] at a3; rw [f2'] at a4
      exact hs.inj id id' b b' loc loc' f1 f1' a3 a4 a5
end Go.V
