/- Soundness: calls of functions on arguments that name none of the evaluator's memory. -/
import Derived.Test.YtpammdlgoeoeaaaJC
import Derived.RangeFuncLeaves
import Derived.OrdersIn
set_option linter.unusedVariables false
set_option linter.unusedSimpArgs false
namespace Go.V
open Go.RowKit
variable {P : Program}

/-- What is left behind by whatever is evaluated. -/
def Fin (P : Program) (S : Nat → Prop) (φ : Phi) (H : Heap) (w : World) (v : AV) (H' : Heap) (vv : Value) (w' : World) : Prop :=
  ∃ S' φ', Adv S φ (hget H) w S' φ' (hget H') w' ∧ Sim P S' φ' (hget H') w' ∧ Rep w' S' φ' v vv ∧ (∀ id, H'.nx ≤ id → φ' id = none) ∧ H.nx ≤ H'.nx
/-- ... by a call on arguments that name none of the evaluator's memory. -/
def Pure (P : Program) (Sc : Nat → Prop) (w : World) (t : AV) (vv : Value) (w' : World) : Prop :=
  ∃ v H' ids S' φ', Adv Sc (fun _ => none) (hget noH) w S' φ' (hget H') w' ∧ Sim P S' φ' (hget H') w' ∧ Rep w' S' φ' v vv ∧ detach H' v = some (t, ids) ∧ ids.Nodup
def PuOK (P : Program) (f : FuncId) (args : List AV) (t : AV) : Prop :=
  ∀ Sc w us, Sim P Sc (fun _ => none) (hget noH) w → Reps w Sc (fun _ => none) args us → Calls P f us w fun e w' => ∃ vv, e = .returned vv ∧ Pure P Sc w t vv w'
/-- What a function that is evaluated does; what a round does. -/
structure CbOK (P : Program) (cb : Cb) : Prop where
  fn : ∀ f args H v H', cb (.fn f) args H = some (v, H') → ∀ S φ w vargs, Sim P S φ (hget H) w → (∀ id, H.nx ≤ id → φ id = none) → Reps w S φ args vargs →
    Calls P f vargs w fun e w' => ∃ vv, e = .returned vv ∧ Fin P S φ H w v H' vv w'
  pu : ∀ f args H t H', cb (.pu f) args H = some (t, H') → PuOK P f args t
  yl : ∀ id args H v H', cb (.yl id) args H = some (v, H') → ∀ S φ w vargs loc, Sim P S φ (hget H) w → (∀ id, H.nx ≤ id → φ id = none) → Reps w S φ args vargs → φ id = some loc →
    ∃ fn tmps a b, (Instr.yield loc.blk vargs).run P w = .ok (.round loc.blk fn tmps a b) w ∧ RoundIn Fence.wide 0 P loc.blk fn tmps a b w fun e w' => ∃ vv, e = .returned vv ∧ Fin P S φ H w v H' vv w'
def TOK (P : Program) (T : FuncId → Option IFn) : Prop := ∀ f fn, T f = some fn → cFn P fn.byref f = some fn
theorem cFn_spec {P : Program} {br : Bool} {f : FuncId} {fn : IFn} (h : cFn P br f = some fn) : ∃ g c, P.funcs[f]? = some g ∧ (g.name == "runtime.NumGoroutine") = false ∧ g.body = some c ∧ cCode P c = some fn.body ∧ cRess P g.results.toList = some fn.res ∧ fn.ntmps = g.ntmps := by
  unfold cFn at h
  split at h
  · cases h
  · rename_i g hg
    split at h
    · cases h
    · rename_i hn
      split at h
      · cases h
      · rename_i c hc
        split at h
        · rename_i ic rs h1 h2
          cases h
          exact ⟨g, c, hg, by simpa using hn, hc, h1, h2, rfl⟩
        · cases h
theorem run_callFunc {P : Program} {w : World} {f : FuncId} {g : Func} {c : Code} (h1 : P.funcs[f]? = some g) (h2 : (g.name == "runtime.NumGoroutine") = false) (h3 : g.body = some c) (args : Array Value) : (callFunc f args).run P w = .ok (.enter f args) w := by
  have h2' : ¬ g.name = "runtime.NumGoroutine" := by simpa using h2
  simp [callFunc, h1, h2', h3]

/-- What names no place of the evaluator's memory stands in whatever memory. -/
def AV.isLst : AV → Bool
  | .lst .. | .ptrL .. => true
  | _ => false
theorem Rep.flat1 {w : World} {S S' : Nat → Prop} {φ φ' : Phi} {c : AV} {v : Value} (h : Rep w S φ c v) (hn : c.flat1 = true) : Rep w S' φ' c v := by
  cases h with
  | int => exact .int
  | bool => exact .bool
  | str => exact .str
  | nilS => exact .nilS
  | nilP => exact .nilP
  | nilF => exact .nilF
  | _ => simp [AV.flat1] at hn
theorem Rep.flat {w : World} {S S' : Nat → Prop} {φ φ' : Phi} {c : AV} {v : Value} (h : Rep w S φ c v) (hn : c.flat = true) : Rep w S' φ' c v := by
  cases h with
  | agg hl h =>
    simp only [AV.flat, List.all_eq_true] at hn
    exact .agg hl fun i c v e1 e2 => (h i c v e1 e2).flat1 (hn c (List.mem_of_getElem? e1))
  | int => exact .int
  | bool => exact .bool
  | str => exact .str
  | nilS => exact .nilS
  | nilP => exact .nilP
  | nilF => exact .nilF
  | _ => simp [AV.flat, AV.flat1] at hn
theorem Rep.move {w : World} {S S' : Nat → Prop} {φ φ' : Phi} {c : AV} {v : Value} (h : Rep w S φ c v) (hn : c.noId = true) (hS : (∀ b, S b → S' b) ∨ c.isLst = false) : Rep w S' φ' c v := by
  have up : (∀ b, S b → S' b) → ∀ {ψ : Phi} {a : AV} {u : Value}, Rep w S ψ a u → Rep w S' ψ a u := fun hS1 ψ a u h => h.mono hS1 (fun _ _ => rfl) (fun _ _ _ e => e) (fun _ _ e => e)
  cases h with
  | int => exact .int
  | bool => exact .bool
  | str => exact .str
  | lst vals hs h1 hl hc hr =>
    rcases hS with hS | hS
    · exact .lst vals hs (hS _ h1) hl hc (fun i j x c e1 e2 => up hS (hr i j x c e1 e2))
    · simp [AV.isLst] at hS
  | lstNil => exact .lstNil
  | ptrL vals hs h1 hc hr =>
    rcases hS with hS | hS
    · exact .ptrL vals hs (hS _ h1) hc (fun i j x c e1 e2 => up hS (hr i j x c e1 e2))
    · simp [AV.isLst] at hS
  | emp h => exact .emp h
  | nilS => exact .nilS
  | nilP => exact .nilP
  | nilF => exact .nilF
  | fn hl h hl' h' =>
    simp only [AV.noId, Bool.and_eq_true, List.all_eq_true] at hn
    exact .fn hl (fun i c v e1 e2 => (h i c v e1 e2).flat (hn.1 c (List.mem_of_getElem? e1))) hl' (fun i c v e1 e2 => (h' i c v e1 e2).flat (hn.2 c (List.mem_of_getElem? e1)))
  | _ => simp [AV.noId] at hn

section args
variable {S Sc : Nat → Prop} {φ : Phi} {h : Mem} {H : Heap} {w : World}
theorem reifyW_spec {f : AV → Option (AV × List Nat)} : ∀ {vs as : List AV} {rd : List Nat}, reifyW f vs = some (as, rd) → as.length = vs.length ∧ ∀ (j : Nat) a, as[j]? = some a → ∃ v r, vs[j]? = some v ∧ f v = some (a, r) ∧ ∀ id ∈ r, id ∈ rd
  | [], as, rd, h => by cases h; exact ⟨rfl, by simp⟩
  | v :: vs, as, rd, h => by
    simp only [reifyW] at h
    split at h
    · rename_i a r as' rs e1 e2
      cases h
      obtain ⟨h1, h2⟩ := reifyW_spec e2
      refine ⟨by simp [h1], fun j b hb => ?_⟩
      cases j with
      | zero => simp at hb; subst hb; exact ⟨v, r, by simp, e1, fun id hid => by simp [hid]⟩
      | succ j =>
        obtain ⟨v', r', q1, q2, q3⟩ := h2 j b (by simpa using hb)
        exact ⟨v', r', by simpa using q1, q2, fun id hid => by simp [q3 id hid]⟩
    · cases h
theorem reifyWW_spec {f : AV → Option (AV × List Nat)} : ∀ {vs as : List (List AV)} {rd : List Nat}, reifyWW f vs = some (as, rd) → as.length = vs.length ∧ ∀ (i : Nat) y, as[i]? = some y → ∃ x, vs[i]? = some x ∧ y.length = x.length ∧ ∀ (j : Nat) a, y[j]? = some a → ∃ v r, x[j]? = some v ∧ f v = some (a, r) ∧ ∀ id ∈ r, id ∈ rd
  | [], as, rd, h => by cases h; exact ⟨rfl, by simp⟩
  | v :: vs, as, rd, h => by
    simp only [reifyWW] at h
    split at h
    · rename_i a r as' rs e1 e2
      cases h
      obtain ⟨h1, h2⟩ := reifyWW_spec e2
      obtain ⟨h3, h4⟩ := reifyW_spec e1
      refine ⟨by simp [h1], fun i y hy => ?_⟩
      cases i with
      | zero =>
        simp at hy; subst hy
        exact ⟨v, by simp, h3, fun j b hb => by obtain ⟨v', r', q1, q2, q3⟩ := h4 j b hb; exact ⟨v', r', q1, q2, fun id hid => by simp [q3 id hid]⟩⟩
      | succ i =>
        obtain ⟨x, q0, q1, q2⟩ := h2 i y (by simpa using hy)
        exact ⟨x, by simpa using q0, q1, fun j b hb => by obtain ⟨v', r', q1, q2, q3⟩ := q2 j b hb; exact ⟨v', r', q1, q2, fun id hid => by simp [q3 id hid]⟩⟩
    · cases h
/-- What a slice of the evaluator's memory holds, as it may be read. -/
theorem own_lst {s off len id : Nat} {xs ys : List (List AV)} {v : Value} (hs : Sim P S φ h w) (hb : h id = some (.row s xs)) (hv : Rep w S φ (.own id off len) v) (hle : off + len ≤ xs.length) (h2 : ∀ b, Own φ h b → Sc b)
    (hl : ys.length = ((xs.drop off).take len).length) (hy : ∀ (i : Nat) y, ys[i]? = some y → ∃ x, ((xs.drop off).take len)[i]? = some x ∧ y.length = x.length ∧ ∀ (j : Nat) a, y[j]? = some a → ∃ c, x[j]? = some c ∧ (c.one = true → a.one = true) ∧ ∀ u, Rep w S φ c u → Rep w Sc (fun _ => none) a u) :
    Rep w Sc (fun _ => none) (.lst s ys) v := by
  obtain ⟨loc, cap, e', n', hφ, hsh, hn', hlc, hval⟩ := hv.inv_own
  obtain ⟨loc', g1, g2, g3⟩ := hs.blk id _ hb
  rw [hφ] at g1; cases g1
  have hlen : ys.length = len := by rw [hl]; simp; omega
  obtain ⟨q1, q2⟩ := g2.sub (off := off) (len := len)
  have hat : LstAt w Sc s ys loc.blk (loc.base + off * loc.sz) := by
    refine ⟨fun y hyy => ?_, h2 _ ⟨id, _, loc, hb, hφ, rfl⟩, fun i j y a e1 e2 => ?_⟩
    · obtain ⟨i, hi, rfl⟩ := List.getElem_of_mem hyy
      obtain ⟨x, r1, r2, r3⟩ := hy i _ (List.getElem?_eq_getElem hi)
      refine ⟨by rw [r2]; exact q1 x (List.mem_of_getElem? r1), ?_⟩
      rw [List.all_eq_true]
      intro a ha
      obtain ⟨j, hj, rfl⟩ := List.getElem_of_mem ha
      obtain ⟨c, c1, c2, c3⟩ := r3 j _ (List.getElem?_eq_getElem hj)
      exact c2 (q2 i j x c r1 c1).1
    · obtain ⟨x, r1, r2, r3⟩ := hy i y e1
      obtain ⟨c, c1, c2, c3⟩ := r3 j a e2
      obtain ⟨-, u, r4, r5⟩ := q2 i j x c r1 c1
      exact ⟨u, r4, c3 u r5⟩
  rw [hval]
  have := hat.lst (φ := fun _ => none) (cap := cap) (by rw [hlen]; exact hlc)
  rwa [hlen] at this
theorem reifyD_rep (hs : Sim P S φ h w) (h1 : ∀ b, S b → Sc b) : ∀ (d : Nat) {v a : AV} {rd : List Nat}, reifyD H d v = some (a, rd) → (∀ id ∈ rd, h id = hget H id) → (rd ≠ [] → ∀ b, Own φ h b → Sc b) → (v.one = true → a.one = true) ∧ ∀ u, Rep w S φ v u → Rep w Sc (fun _ => none) a u
  | 0, v, a, rd, he, hrd, h2 => by
    simp only [reifyD] at he
    split at he
    · rename_i hn; cases he; exact ⟨id, fun u hv => hv.move hn (.inl h1)⟩
    · cases he
  | d + 1, v, a, rd, he, hrd, h2 => by
    simp only [reifyD] at he
    split at he
    · cases he
      refine ⟨fun _ => rfl, fun u hv => ?_⟩
      obtain ⟨loc, cap, e', n', hφ, hsh, hn', hlc, hval⟩ := hv.inv_own
      rw [hval]
      exact .emp (by simp)
    · rename_i id off len hne
      split at he
      · rename_i s xs e1
        split at he
        · rename_i hle
          cases e2 : reifyWW (reifyD H d) ((xs.drop off).take len) with
          | none => simp [e2] at he
          | some p =>
            obtain ⟨ys, rs⟩ := p
            simp [e2] at he
            obtain ⟨rfl, rfl⟩ := he
            obtain ⟨k1, k2⟩ := reifyWW_spec e2
            have h2' := h2 (by simp)
            refine ⟨fun _ => rfl, fun u hv => own_lst hs (by rw [hrd id (by simp)]; exact e1) hv hle h2' k1 fun i y hy => ?_⟩
            obtain ⟨x, q1, q2, q3⟩ := k2 i y hy
            refine ⟨x, q1, q2, fun j b hb => ?_⟩
            obtain ⟨c, r, c1, c2, c3⟩ := q3 j b hb
            obtain ⟨o1, o2⟩ := reifyD_rep hs h1 d c2 (fun id hid => hrd id (by simp [c3 id hid])) (fun _ => h2')
            exact ⟨c, c1, o1, o2⟩
        · cases he
      · cases he
    · split at he
      · rename_i hn; cases he; exact ⟨id, fun u hv => hv.move hn (.inl h1)⟩
      · cases he
theorem reifyC_rep {v a : AV} {rd : List Nat} {u : Value} (he : reifyC H v = some (a, rd)) (hrd : ∀ id ∈ rd, h id = hget H id) (hs : Sim P S φ h w) (hv : Rep w S φ v u) (h1 : ∀ b, S b → Sc b) (h2 : rd ≠ [] → ∀ b, Own φ h b → Sc b) : Rep w Sc (fun _ => none) a u :=
  (reifyD_rep hs h1 4 he hrd h2).2 u hv
theorem reifyL_rep : ∀ {vs as : List AV} {rd : List Nat} {us : List Value}, reifyL H vs = some (as, rd) → (∀ id ∈ rd, h id = hget H id) → Sim P S φ h w → Reps w S φ vs us.toArray → (∀ b, S b → Sc b) → (rd ≠ [] → ∀ b, Own φ h b → Sc b) → Reps w Sc (fun _ => none) as us.toArray
  | [], as, rd, us, he, hrd, hs, hv, h1, h2 => by
    cases he
    exact ⟨hv.1, by simp⟩
  | v :: vs, as, rd, us, he, hrd, hs, hv, h1, h2 => by
    simp only [reifyL] at he
    split at he
    · rename_i a r as' rs e1 e2
      cases he
      cases us with
      | nil => have := hv.1; simp at this
      | cons u us =>
        exact Reps.cons (reifyC_rep e1 (fun id hid => hrd id (by simp [hid])) hs (hv.2 0 v u (by simp) (by simp)) h1 (fun hne => h2 (by simp [hne])))
          (reifyL_rep e2 (fun id hid => hrd id (by simp [hid])) hs ⟨by have := hv.1; simpa using this, fun i c x q1 q2 => hv.2 (i + 1) c x (by simpa using q1) (by simpa using q2)⟩ h1 (fun hne => h2 (by simp [hne])))
    · cases he
theorem reify_rep {v a : AV} {rd : List Nat} {u : Value} (he : reify H v = some (a, rd)) (hrd : ∀ id ∈ rd, h id = hget H id) (hs : Sim P S φ h w) (hv : Rep w S φ v u) (h1 : ∀ b, S b → Sc b) (h2 : rd ≠ [] → ∀ b, Own φ h b → Sc b) : Rep w Sc (fun _ => none) a u := by
  unfold reify at he
  split at he
  · rename_i cs
    cases e1 : reifyL H cs with
    | none => simp [e1] at he
    | some p =>
      obtain ⟨as, r⟩ := p
      simp [e1] at he
      obtain ⟨rfl, rfl⟩ := he
      obtain ⟨us, rfl, f2⟩ := hv.inv_agg
      have := reifyL_rep (us := us.toList) e1 hrd hs (by simpa using f2) h1 h2
      exact .agg (by simpa using this.1) (by simpa using this.2)
  · exact reifyC_rep he hrd hs hv h1 h2
theorem reifyArgs_rep : ∀ {vs as : List AV} {rd : List Nat} {us : List Value}, reifyArgs H vs = some (as, rd) → (∀ id ∈ rd, h id = hget H id) → Sim P S φ h w → Reps w S φ vs us.toArray → (∀ b, S b → Sc b) → (rd ≠ [] → ∀ b, Own φ h b → Sc b) → Reps w Sc (fun _ => none) as us.toArray
  | [], as, rd, us, he, hrd, hs, hv, h1, h2 => by
    cases he
    exact ⟨hv.1, by simp⟩
  | v :: vs, as, rd, us, he, hrd, hs, hv, h1, h2 => by
    simp only [reifyArgs] at he
    split at he
    · rename_i a r as' rs e1 e2
      cases he
      cases us with
      | nil => have := hv.1; simp at this
      | cons u us =>
        exact Reps.cons (reify_rep e1 (fun id hid => hrd id (by simp [hid])) hs (hv.2 0 v u (by simp) (by simp)) h1 (fun hne => h2 (by simp [hne])))
          (reifyArgs_rep e2 (fun id hid => hrd id (by simp [hid])) hs ⟨by have := hv.1; simpa using this, fun i c x q1 q2 => hv.2 (i + 1) c x (by simpa using q1) (by simpa using q2)⟩ h1 (fun hne => h2 (by simp [hne])))
    · cases he
end args

/-! Results -/
structure Ent where
  loc : Loc
  xs : List (List AV)
def mkWr (nx : Nat) : List Ent → Wr
  | [] => []
  | e :: es => (nx, some (.row e.loc.sz e.xs)) :: mkWr (nx + 1) es
theorem mkWr_append (nx : Nat) : ∀ (a b : List Ent), mkWr nx (a ++ b) = mkWr nx a ++ mkWr (nx + a.length) b
  | [], b => by simp [mkWr]
  | e :: a, b => by simp [mkWr, mkWr_append (nx + 1) a b, Nat.add_assoc, Nat.add_comm 1]
theorem updH_append (h : Mem) (a b : Wr) : updH h (a ++ b) = updH (updH h a) b := by simp [updH, List.foldl_append]
theorem updH_mkWr : ∀ (es : List Ent) (nx : Nat) (h : Mem) (id : Nat), updH h (mkWr nx es) id = if nx ≤ id then (match es[id - nx]? with | some e => some (.row e.loc.sz e.xs) | none => h id) else h id
  | [], nx, h, id => by simp [mkWr, updH]
  | e :: es, nx, h, id => by
    have : updH h (mkWr nx (e :: es)) = updH (fun i => if i = nx then some (.row e.loc.sz e.xs) else h i) (mkWr (nx + 1) es) := rfl
    rw [this, updH_mkWr es (nx + 1)]
    by_cases h1 : id = nx
    · subst h1; rw [if_neg (by omega)]; simp
    · by_cases h2 : nx ≤ id
      · rw [if_pos (by omega), if_pos h2, show id - nx = (id - (nx + 1)) + 1 by omega]
        simp [h1]
      · rw [if_neg (by omega), if_neg h2]; simp [h1]
def phiE (φ : Phi) (nx : Nat) (es : List Ent) : Phi := fun id => if nx ≤ id then (match es[id - nx]? with | some e => some e.loc | none => φ id) else φ id
theorem phiE_at (φ : Phi) (nx : Nat) (es : List Ent) (k : Nat) (e : Ent) (h : es[k]? = some e) : phiE φ nx es (nx + k) = some e.loc := by simp [phiE, h]
theorem phiE_only (φ : Phi) (nx : Nat) (es : List Ent) (id : Nat) (h : id < nx ∨ nx + es.length ≤ id) : phiE φ nx es id = φ id := by
  unfold phiE
  rcases h with h | h
  · rw [if_neg (by omega)]
  · rw [if_pos (by omega), List.getElem?_eq_none (by omega)]
/-- Blocks that nobody else knows are taken over. -/
theorem adopt_sim {S S'' : Nat → Prop} {φ : Phi} {h : Mem} {w w' : World} {nx : Nat} {es : List Ent} (hs : Sim P S φ h w) (hn : ∀ id, nx ≤ id → id < nx + es.length → φ id = none)
    (hb : ∀ b, b < w.heap.size → w'.heap[b]? = w.heap[b]?) (hsz : w.heap.size ≤ w'.heap.size) (hos : w'.os = w.os) (hta : w'.tape = w.tape) (hou : w'.output = w.output) (hsh : ∀ b e n, w.shape? b = some (e, n) → w'.shape? b = some (e, n))
    (hS : ∀ b, S b → S'' b) (hS2 : ∀ b, S'' b → S b ∨ w.heap.size ≤ b) (hS3 : ∀ b, S'' b → b < w'.heap.size)
    (hes : ∀ (k : Nat) e, es[k]? = some e → SimBlk P w' S'' (fun _ => none) e.loc (.row e.loc.sz e.xs) ∧ ¬ S'' e.loc.blk ∧ w.heap.size ≤ e.loc.blk)
    (hd : ∀ (k k' : Nat) e e', es[k]? = some e → es[k']? = some e' → e.loc.blk = e'.loc.blk → k = k') :
    Adv S φ h w S'' (phiE φ nx es) (updH h (mkWr nx es)) w' ∧ Sim P S'' (phiE φ nx es) (updH h (mkWr nx es)) w' := by
  have old : ∀ id b, updH h (mkWr nx es) id = some b → (∃ k e, nx ≤ id ∧ id = nx + k ∧ es[k]? = some e ∧ b = .row e.loc.sz e.xs ∧ phiE φ nx es id = some e.loc) ∨ (h id = some b ∧ phiE φ nx es id = φ id ∧ (id < nx ∨ nx + es.length ≤ id)) := by
    intro id b e1
    rw [updH_mkWr] at e1
    by_cases h1 : nx ≤ id
    · rw [if_pos h1] at e1
      cases e2 : es[id - nx]? with
      | none =>
        rw [e2] at e1
        have : nx + es.length ≤ id := by rw [List.getElem?_eq_none_iff] at e2; omega
        exact .inr ⟨e1, phiE_only _ _ _ _ (.inr this), .inr this⟩
      | some e =>
        rw [e2] at e1
        cases e1
        exact .inl ⟨id - nx, e, h1, by omega, e2, rfl, by simp [phiE, h1, e2]⟩
    · rw [if_neg h1] at e1
      exact .inr ⟨e1, phiE_only _ _ _ _ (.inl (by omega)), .inl (by omega)⟩
  have hadv : Adv S φ h w S'' (phiE φ nx es) (updH h (mkWr nx es)) w' := by
    refine ⟨fun id loc e => ?_, hS, hS2, hos, hta, hou, hsz, fun b hbb _ => hb b hbb, ?_, hsh⟩
    · have : id < nx ∨ nx + es.length ≤ id := by
        rcases Nat.lt_or_ge id nx with h1 | h1
        · exact .inl h1
        · rcases Nat.lt_or_ge id (nx + es.length) with h2 | h2
          · rw [hn id h1 h2] at e; cases e
          · exact .inr h2
      rw [phiE_only _ _ _ _ this]; exact e
    · rintro b ⟨id, x, loc, e1, e2, e3⟩
      rcases old id x e1 with ⟨k, e, -, rfl, f1, -, f2⟩ | ⟨f1, f2, -⟩
      · rw [f2] at e2; cases e2
        exact .inr (e3 ▸ (hes k e f1).2.2)
      · rw [f2] at e2
        exact .inl ⟨id, x, loc, f1, e2, e3⟩
  have bd : ∀ id b loc, h id = some b → φ id = some loc → loc.blk < w.heap.size := fun id b loc e1 e2 => by
    obtain ⟨l', q1, q2, -⟩ := hs.blk id b e1
    rw [e2] at q1; cases q1
    exact q2.lt
  refine ⟨hadv, ?_, ?_, hS3⟩
  · intro id b e1
    rcases old id b e1 with ⟨k, e, -, rfl, f1, rfl, f2⟩ | ⟨f1, f2, -⟩
    · obtain ⟨g1, g2, g3⟩ := hes k e f1
      refine ⟨e.loc, f2, ?_, g2⟩
      obtain ⟨p1, p2, c, t, p3, p4, p5⟩ := g1
      exact ⟨p1, p2, c, t, p3, p4, fun i j x a q1 q2 => by obtain ⟨o1, v, r1, r2⟩ := p5 i j x a q1 q2; exact ⟨o1, v, r1, noPhi r2⟩⟩
    · obtain ⟨loc, g1, g2, g3⟩ := hs.blk id b f1
      refine ⟨loc, by rw [f2]; exact g1, g2.adv hadv hs (hb _ (bd id b loc f1 g1)), fun hS'' => ?_⟩
      rcases hS2 _ hS'' with h1 | h1
      · exact g3 h1
      · have := bd id b loc f1 g1; omega
  · intro id id' b b' loc loc' a1 a2 a3 a4 a5
    rcases old id b a1 with ⟨k, e, -, rfl, f1, -, f2⟩ | ⟨f1, f2, -⟩ <;> rcases old id' b' a2 with ⟨k', e', -, rfl, f1', -, f2'⟩ | ⟨f1', f2', -⟩
    · rw [f2] at a3; cases a3
      rw [f2'] at a4; cases a4
      rw [hd k k' e e' f1 f1' a5]
    · rw [f2] at a3; cases a3
      rw [f2'] at a4
      have := bd id' b' loc' f1' a4
      have := (hes k e f1).2.2
      omega
    · rw [f2'] at a4; cases a4
      rw [f2] at a3
      have := bd id b loc f1 a3
      have := (hes k' e' f1').2.2
      omega
    · rw [f2] at a3; rw [f2'] at a4
      exact hs.inj id id' b b' loc loc' f1 f1' a3 a4 a5
end Go.V
/- Soundness: results of calls; the call as an operation. -/
set_option linter.unusedVariables false
set_option linter.unusedSimpArgs false
namespace Go.V
open Go.RowKit
variable {P : Program}

theorem hasLstL_mem : ∀ {cs : List AV}, hasLstL cs = false → ∀ c ∈ cs, c.isLst = false
  | [], _, c, hc => by simp at hc
  | x :: cs, h, c, hc => by
    simp only [List.mem_cons] at hc
    cases x <;> simp only [hasLstL] at h <;> first
      | (cases h; done)
      | (rcases hc with rfl | hc
         · rfl
         · exact hasLstL_mem h c hc)
section res
variable {S' S'' : Nat → Prop} {φ' : Phi} {H' : Heap} {w' : World}
/-- A result's tree is taken over: its blocks, its value. -/
def DetOK (P : Program) (w' : World) (S'' : Nat → Prop) (φ' : Phi) (H' : Heap) (nx : Nat) (att : AV × Wr × Nat) (ids : List Nat) (vv : Value) : Prop :=
  ∃ es, att.2.1 = mkWr nx es ∧ att.2.2 = nx + es.length ∧ es.length = ids.length ∧
    (∀ (k : Nat) e, es[k]? = some e → ∃ id loc, ids[k]? = some id ∧ (hget H' id).isSome = true ∧ φ' id = some loc ∧ e.loc.blk = loc.blk ∧ SimBlk P w' S'' (fun _ => none) e.loc (.row e.loc.sz e.xs)) ∧
    ∀ φ : Phi, (∀ (k : Nat) e, es[k]? = some e → φ (nx + k) = some e.loc) → Rep w' S'' φ att.1 vv
theorem detOK_pure {nx : Nat} {t : AV} {vv : Value} (h : ∀ φ : Phi, Rep w' S'' φ t vv) : DetOK P w' S'' φ' H' nx (t, [], nx) [] vv :=
  ⟨[], rfl, rfl, rfl, by simp, fun φ _ => h φ⟩
theorem detC {v t : AV} {ids : List Nat} {vv : Value} (hs : Sim P S' φ' (hget H') w') (he : detachC H' v = some (t, ids)) (hv : Rep w' S' φ' v vv) (hST : (∀ b, S' b → S'' b) ∨ t.hasLst0 = false) (nx : Nat) : DetOK P w' S'' φ' H' nx (attachC nx t) ids vv := by
  unfold detachC at he
  split at he
  · rename_i id off len
    split at he
    · rename_i s xs e1
      split at he
      · rename_i hc
        cases he
        obtain ⟨loc, cap, e', n', hφ, hsh, hn', hlc, hval⟩ := hv.inv_own
        obtain ⟨loc', g1, g2, g3⟩ := hs.blk id _ e1
        rw [hφ] at g1; cases g1
        have hlen : ((xs.drop off).take len).length = len := by simp; omega
        have hls : loc.sz = s := g2.1
        obtain ⟨q1, q2⟩ := g2.sub (off := off) (len := len)
        obtain ⟨blk1, blk2, cur, ce, f3, f4, f5⟩ := g2
        have hST' : ∀ c, (∃ x ∈ (xs.drop off).take len, c ∈ x) → (∀ b, S' b → S'' b) ∨ c.isLst = false := fun c ⟨x, hx, hcx⟩ => by
          rcases hST with h1 | h1
          · exact .inl h1
          · right
            simp only [AV.hasLst0, List.any_eq_false] at h1
            exact hasLstL_mem (by simpa using h1 x hx) c hcx
        refine ⟨[⟨⟨loc.blk, loc.base + off * s, s⟩, (xs.drop off).take len⟩], rfl, rfl, rfl, fun k e hk => ?_, fun φ hφs => ?_⟩
        · cases k with
          | succ k => simp at hk
          | zero =>
            simp at hk; subst hk
            refine ⟨id, loc, rfl, by rw [e1]; rfl, hφ, rfl, rfl, q1, cur, ce, f3, ?_, fun i j x a r1 r2 => ?_⟩
            · have : (off + len) * s ≤ xs.length * s := Nat.mul_le_mul_right _ hc.1
              rw [Nat.add_mul] at this
              simp only [hlen]; omega
            · obtain ⟨o1, u, p1, p2⟩ := q2 i j x a r1 r2
              have hcell : w'.cell? ⟨loc.blk, loc.base + off * loc.sz + i * s + j, none⟩ = cur[loc.base + off * s + i * s + j]? := by simp [World.cell?, f3, hls]
              rw [hcell] at p1
              have hno := hc.2
              rw [List.all_eq_true] at hno
              have := hno x (List.mem_of_getElem? r1)
              rw [List.all_eq_true] at this
              exact ⟨o1, u, p1, p2.move (this a (List.mem_of_getElem? r2)) (hST' a ⟨x, List.mem_of_getElem? r1, List.mem_of_getElem? r2⟩)⟩
        · have h0 := hφs 0 _ rfl
          have := Rep.own (w := w') (S := S'') (off := 0) (len := len) (cap := cap) h0 hsh (by
            rw [hls] at hn'
            simp only [Nat.zero_add]; rw [Nat.add_mul] at hn'; omega) hlc
          rw [hval, hls]
          simp only [attachC, hlen]
          simpa using this
      · cases he
    · cases he
  · split at he
    · rename_i hn
      cases he
      have ha : attachC nx v = (v, [], nx) := by cases v <;> first | rfl | (simp [AV.noId] at hn)
      rw [ha]
      refine detOK_pure fun φ => hv.move hn ?_
      rcases hST with h1 | h1
      · exact .inl h1
      · right; cases v <;> first | rfl | (simp [AV.hasLst0] at h1)
    · cases he
theorem detOK_cons {nx : Nat} {att1 : AV × Wr × Nat} {ids1 ids2 : List Nat} {vv : Value} {as : List AV} {wr2 : Wr} {nx2 : Nat} {vs : List Value}
    (h1 : DetOK P w' S'' φ' H' nx att1 ids1 vv)
    (h2 : ∃ es, wr2 = mkWr att1.2.2 es ∧ nx2 = att1.2.2 + es.length ∧ es.length = ids2.length ∧
      (∀ (k : Nat) e, es[k]? = some e → ∃ id loc, ids2[k]? = some id ∧ (hget H' id).isSome = true ∧ φ' id = some loc ∧ e.loc.blk = loc.blk ∧ SimBlk P w' S'' (fun _ => none) e.loc (.row e.loc.sz e.xs)) ∧
      ∀ φ : Phi, (∀ (k : Nat) e, es[k]? = some e → φ (att1.2.2 + k) = some e.loc) → Reps w' S'' φ as vs.toArray) :
    ∃ es, att1.2.1 ++ wr2 = mkWr nx es ∧ nx2 = nx + es.length ∧ es.length = (ids1 ++ ids2).length ∧
      (∀ (k : Nat) e, es[k]? = some e → ∃ id loc, (ids1 ++ ids2)[k]? = some id ∧ (hget H' id).isSome = true ∧ φ' id = some loc ∧ e.loc.blk = loc.blk ∧ SimBlk P w' S'' (fun _ => none) e.loc (.row e.loc.sz e.xs)) ∧
      ∀ φ : Phi, (∀ (k : Nat) e, es[k]? = some e → φ (nx + k) = some e.loc) → Reps w' S'' φ (att1.1 :: as) (vv :: vs).toArray := by
  obtain ⟨e1, a1, a2, a3, a4, a5⟩ := h1
  obtain ⟨e2, b1, b2, b3, b4, b5⟩ := h2
  rw [a2] at b1 b2 b5
  refine ⟨e1 ++ e2, by rw [mkWr_append, a1, b1], by simp [b2, Nat.add_assoc], by simp [a3, b3], fun k e hk => ?_, fun φ hφ => ?_⟩
  · by_cases h : k < e1.length
    · rw [List.getElem?_append_left h] at hk
      obtain ⟨id, loc, c1, c2⟩ := a4 k e hk
      exact ⟨id, loc, by rw [List.getElem?_append_left (by omega)]; exact c1, c2⟩
    · rw [List.getElem?_append_right (by omega)] at hk
      obtain ⟨id, loc, c1, c2⟩ := b4 _ e hk
      exact ⟨id, loc, by rw [List.getElem?_append_right (by omega), ← a3]; exact c1, c2⟩
  · refine Reps.cons (a5 φ fun k e hk => hφ k e ?_) (b5 φ fun k e hk => ?_)
    · have : k < e1.length := by
        rcases Nat.lt_or_ge k e1.length with h' | h'
        · exact h'
        · rw [List.getElem?_eq_none h'] at hk; cases hk
      rw [List.getElem?_append_left this]; exact hk
    · have := hφ (e1.length + k) e (by rw [List.getElem?_append_right (by omega), Nat.add_sub_cancel_left]; exact hk)
      rwa [← Nat.add_assoc] at this
def DetLs (P : Program) (w' : World) (S'' : Nat → Prop) (φ' : Phi) (H' : Heap) (nx : Nat) (att : List AV × Wr × Nat) (ids : List Nat) (vs : List Value) : Prop :=
  ∃ es, att.2.1 = mkWr nx es ∧ att.2.2 = nx + es.length ∧ es.length = ids.length ∧
    (∀ (k : Nat) e, es[k]? = some e → ∃ id loc, ids[k]? = some id ∧ (hget H' id).isSome = true ∧ φ' id = some loc ∧ e.loc.blk = loc.blk ∧ SimBlk P w' S'' (fun _ => none) e.loc (.row e.loc.sz e.xs)) ∧
    ∀ φ : Phi, (∀ (k : Nat) e, es[k]? = some e → φ (nx + k) = some e.loc) → Reps w' S'' φ att.1 vs.toArray
theorem detL : ∀ {vs ts : List AV} {ids : List Nat} {us : List Value}, Sim P S' φ' (hget H') w' → detachL H' vs = some (ts, ids) → Reps w' S' φ' vs us.toArray → ((∀ b, S' b → S'' b) ∨ ∀ t ∈ ts, t.hasLst0 = false) → ∀ nx, DetLs P w' S'' φ' H' nx (attachL nx ts) ids us
  | [], ts, ids, us, hs, he, hv, hST, nx => by
    cases he
    have : us = [] := by have := hv.1; simpa using this
    subst this
    exact ⟨[], rfl, rfl, rfl, by simp, fun φ _ => reps_nil⟩
  | v :: vs, ts, ids, us, hs, he, hv, hST, nx => by
    simp only [detachL] at he
    split at he
    · rename_i a r as' rs e1 e2
      cases he
      cases us with
      | nil => have := hv.1; simp at this
      | cons u us =>
        refine detOK_cons (detC hs e1 (hv.2 0 v u (by simp) (by simp)) (hST.imp id fun h => h _ (by simp)) nx) ?_
        exact detL hs e2 ⟨by have := hv.1; simpa using this, fun i c x q1 q2 => hv.2 (i + 1) c x (by simpa using q1) (by simpa using q2)⟩ (hST.imp id fun h t ht => h t (by simp [ht])) _
    · cases he
theorem detachC_noAgg {H : Heap} {v t : AV} {ids : List Nat} (h : detachC H v = some (t, ids)) : (∀ y, t ≠ .agg y) ∧ ∀ vs, t ≠ .tup vs := by
  unfold detachC at h
  split at h
  · split at h
    · split at h
      · cases h; exact ⟨(fun _ e => by cases e), (fun _ e => by cases e)⟩
      · cases h
    · cases h
  · split at h
    · rename_i hn; cases h; exact ⟨(fun _ e => by subst e; simp [AV.noId] at hn), (fun _ e => by subst e; simp [AV.noId] at hn)⟩
    · cases h
/-- Whether a list of trees has a slice of old memory. -/
theorem attach1_C {nx : Nat} {t : AV} (h : ∀ y, t ≠ .agg y) : attach1 nx t = attachC nx t := by cases t <;> first | rfl | exact absurd rfl (h _)
theorem det1 {v t : AV} {ids : List Nat} {vv : Value} (hs : Sim P S' φ' (hget H') w') (he : detach1 H' v = some (t, ids)) (hv : Rep w' S' φ' v vv) (hST : (∀ b, S' b → S'' b) ∨ t.hasLst1 = false) (nx : Nat) : DetOK P w' S'' φ' H' nx (attach1 nx t) ids vv := by
  unfold detach1 at he
  split at he
  · rename_i cs
    cases e1 : detachL H' cs with
    | none => simp [e1] at he
    | some p =>
      obtain ⟨as, r⟩ := p
      simp [e1] at he
      obtain ⟨rfl, rfl⟩ := he
      obtain ⟨us, rfl, f2⟩ := hv.inv_agg
      have hST2 : (∀ b, S' b → S'' b) ∨ ∀ t ∈ as, t.hasLst0 = false := by
        rcases hST with h1 | h1
        · exact .inl h1
        · right
          simp only [AV.hasLst1, List.any_eq_false] at h1
          exact fun t ht => by simpa using h1 t ht
      obtain ⟨es, a1, a2, a3, a4, a5⟩ := detL (us := us.toList) hs e1 (by simpa using f2) hST2 nx
      refine ⟨es, a1, a2, a3, a4, fun φ hφ => ?_⟩
      have := a5 φ hφ
      exact .agg (by simpa using this.1) (by simpa using this.2)
  · rw [attach1_C (detachC_noAgg he).1]
    refine detC hs he hv (hST.imp id fun h => ?_) nx
    have := (detachC_noAgg he).1
    cases t <;> first | exact h | exact absurd rfl (this _)
theorem det1_noTup {H : Heap} {v t : AV} {ids : List Nat} (h : detach1 H v = some (t, ids)) : ∀ vs, t ≠ .tup vs := by
  unfold detach1 at h
  split at h
  · rename_i cs
    cases e1 : detachL H cs with
    | none => simp [e1] at h
    | some p => simp [e1] at h; obtain ⟨rfl, -⟩ := h; exact fun _ e => by cases e
  · exact (detachC_noAgg h).2
theorem detM : ∀ {vs ts : List AV} {ids : List Nat} {us : List Value}, Sim P S' φ' (hget H') w' → detachM H' vs = some (ts, ids) → Reps w' S' φ' vs us.toArray → ((∀ b, S' b → S'' b) ∨ ∀ t ∈ ts, t.hasLst1 = false) → ∀ nx, DetLs P w' S'' φ' H' nx (attachM nx ts) ids us
  | [], ts, ids, us, hs, he, hv, hST, nx => by
    cases he
    have : us = [] := by have := hv.1; simpa using this
    subst this
    exact ⟨[], rfl, rfl, rfl, by simp, fun φ _ => reps_nil⟩
  | v :: vs, ts, ids, us, hs, he, hv, hST, nx => by
    simp only [detachM] at he
    split at he
    · rename_i a r as' rs e1 e2
      cases he
      cases us with
      | nil => have := hv.1; simp at this
      | cons u us =>
        refine detOK_cons (det1 hs e1 (hv.2 0 v u (by simp) (by simp)) (hST.imp id fun h => h _ (by simp)) nx) ?_
        exact detM hs e2 ⟨by have := hv.1; simpa using this, fun i c x q1 q2 => hv.2 (i + 1) c x (by simpa using q1) (by simpa using q2)⟩ (hST.imp id fun h t ht => h t (by simp [ht])) _
    · cases he
theorem det {v t : AV} {ids : List Nat} {vv : Value} (hs : Sim P S' φ' (hget H') w') (he : detach H' v = some (t, ids)) (hv : Rep w' S' φ' v vv) (hST : (∀ b, S' b → S'' b) ∨ t.hasLst = false) (nx : Nat) : DetOK P w' S'' φ' H' nx (attach nx t) ids vv := by
  unfold detach at he
  split at he
  · rename_i cs
    cases e1 : detachM H' cs with
    | none => simp [e1] at he
    | some p =>
      obtain ⟨as, r⟩ := p
      simp [e1] at he
      obtain ⟨rfl, rfl⟩ := he
      obtain ⟨us, rfl, f2⟩ := hv.inv_tup
      have hST2 : (∀ b, S' b → S'' b) ∨ ∀ t ∈ as, t.hasLst1 = false := by
        rcases hST with h1 | h1
        · exact .inl h1
        · right
          simp only [AV.hasLst, List.any_eq_false] at h1
          exact fun t ht => by simpa using h1 t ht
      obtain ⟨es, a1, a2, a3, a4, a5⟩ := detM (us := us.toList) hs e1 (by simpa using f2) hST2 nx
      refine ⟨es, a1, a2, a3, a4, fun φ hφ => ?_⟩
      have := a5 φ hφ
      exact .tup (by simpa using this.1) (by simpa using this.2)
  · have hnt := det1_noTup he
    have ha : attach nx t = attach1 nx t := by cases t <;> first | rfl | exact absurd rfl (hnt _)
    rw [ha]
    refine det1 hs he hv (hST.imp id fun h => ?_) nx
    cases t <;> first | exact h | exact absurd rfl (hnt _)
end res

/-! The call -/
section ops
variable {P : Program} {T : FuncId → Option IFn} {cb : Cb} {S : Nat → Prop} {φ : Phi} {h : Mem} {H : Heap} {w : World} {nx : Nat}
theorem call_pure (hT : TOK P T) (hcb : CbOK P cb) {f : FuncId} {args args' : List AV} {rd : List Nat} {t : AV} {H0 : Heap} {us : Array Value} {fn : IFn} (hfn : T f = some fn) (h1 : reifyArgs H args = some (args', rd)) (h2 : cb (.pu f) args' noH = some (t, H0)) (h3 : rd = [] ∨ t.hasLst = false)
    (hrd : ∀ id ∈ rd, h id = hget H id) (hs : Sim P S φ h w) (hv : Reps w S φ args us) (hn : ∀ id, nx ≤ id → id < (attach nx t).2.2 → φ id = none) :
    (∀ vs, (callFunc f vs).run P w = .ok (.enter f vs) w) ∧ Calls P f us w fun e w' => ∃ v, e = .returned v ∧ Ends P S φ h w (attach nx t).1 (attach nx t).2.1 nx (attach nx t).2.2 v w' := by
  obtain ⟨g, c, g1, g2, g3, -⟩ := cFn_spec (hT f fn hfn)
  refine ⟨fun vs => run_callFunc g1 g2 g3 vs, ?_⟩
  obtain ⟨Sc, hSc⟩ : ∃ Sc : Nat → Prop, Sc = fun b => S b ∨ (rd ≠ [] ∧ Own φ h b) := ⟨_, rfl⟩
  have hown_lt : ∀ b, Own φ h b → b < w.heap.size := by
    rintro b ⟨id, x, loc, q1, q2, rfl⟩
    obtain ⟨l', p1, p2, -⟩ := hs.blk id x q1
    rw [q2] at p1; cases p1
    exact p2.lt
  have hsc : Sim P Sc (fun _ => none) (hget noH) w := ⟨fun id b hb => by simp [hget, noH] at hb, fun id id' b b' l l' hb => by simp [hget, noH] at hb, fun b hb => by
    rw [hSc] at hb
    rcases hb with hb | hb
    · exact hs.bd b hb
    · exact hown_lt b hb.2⟩
  have hargs := reifyArgs_rep (Sc := Sc) (us := us.toList) h1 hrd hs (by simpa using hv) (fun b hb => by rw [hSc]; exact .inl hb) (fun hne b hb => by rw [hSc]; exact .inr ⟨hne, hb⟩)
  refine (hcb.pu f args' noH t H0 h2 Sc w us hsc (by simpa using hargs)).mono ?_
  rintro e w' ⟨vv, rfl, v, H', ids, S', φ', adv, sim, rep, e2, hnd⟩
  refine ⟨vv, rfl, ?_⟩
  have hnone : ∀ b, ¬ Own (fun _ => none) (hget noH) b := by rintro b ⟨id, x, loc, q1, q2, q3⟩; cases q2
  have hblk : ∀ b, b < w.heap.size → w'.heap[b]? = w.heap[b]? := fun b hb => adv.keep b hb (hnone b)
  obtain ⟨S'', hS''⟩ : ∃ S'' : Nat → Prop, S'' = fun b => S b ∨ (rd = [] ∧ S' b) := ⟨_, rfl⟩
  have hS1 : ∀ b, S b → S'' b := fun b hb => by rw [hS'']; exact .inl hb
  have hS2 : ∀ b, S'' b → S b ∨ w.heap.size ≤ b := fun b hb => by
    rw [hS''] at hb
    rcases hb with hb | ⟨hr, hb⟩
    · exact .inl hb
    · rcases adv.new b hb with hb | hb
      · rw [hSc] at hb
        rcases hb with hb | hb
        · exact .inl hb
        · exact absurd hr hb.1
      · exact .inr hb
  have hST : (∀ b, S' b → S'' b) ∨ t.hasLst = false := by
    rcases h3 with h3 | h3
    · exact .inl fun b hb => by rw [hS'']; exact .inr ⟨h3, hb⟩
    · exact .inr h3
  obtain ⟨es, a1, a2, a3, a4, a5⟩ := det (nx := nx) sim e2 rep hST
  have hlen : ∀ k e, es[k]? = some e → k < es.length := fun k e hk => by
    rcases Nat.lt_or_ge k es.length with h' | h'
    · exact h'
    · rw [List.getElem?_eq_none h'] at hk; cases hk
  obtain ⟨q1, q2⟩ := adopt_sim (nx := nx) (es := es) (w' := w') hs (fun id i1 i2 => hn id i1 (by rw [a2]; exact i2)) hblk adv.size adv.os adv.tape adv.output adv.shape hS1 hS2 (fun b hb => by
      rcases hS2 b hb with hb' | hb'
      · exact Nat.lt_of_lt_of_le (hs.bd b hb') adv.size
      · rw [hS''] at hb
        rcases hb with hb | ⟨-, hb⟩
        · exact Nat.lt_of_lt_of_le (hs.bd b hb) adv.size
        · exact sim.bd b hb)
    (fun k e hk => by
      obtain ⟨id, loc, b1, b2, b3, b4, b5⟩ := a4 k e hk
      obtain ⟨x, hx⟩ := Option.isSome_iff_exists.1 b2
      obtain ⟨l', c1, c2, c3⟩ := sim.blk id x hx
      rw [b3] at c1; cases c1
      have hge : w.heap.size ≤ loc.blk := by
        rcases adv.own loc.blk ⟨id, x, loc, hx, b3, rfl⟩ with h' | h'
        · exact absurd h' (hnone _)
        · exact h'
      refine ⟨b5, fun hb => ?_, by rw [b4]; exact hge⟩
      rw [hS'', b4] at hb
      rcases hb with hb | ⟨-, hb⟩
      · have := hs.bd _ hb; omega
      · exact c3 hb)
    (fun k k' e e' hk hk' he => by
      obtain ⟨id, loc, b1, b2, b3, b4, b5⟩ := a4 k e hk
      obtain ⟨id', loc', b1', b2', b3', b4', b5'⟩ := a4 k' e' hk'
      obtain ⟨x, hx⟩ := Option.isSome_iff_exists.1 b2
      obtain ⟨x', hx'⟩ := Option.isSome_iff_exists.1 b2'
      have hid := sim.inj id id' x x' loc loc' hx hx' b3 b3' (by rw [← b4, ← b4', he])
      subst hid
      have l1 : k < ids.length := by rw [← a3]; exact hlen k e hk
      have l2 : k' < ids.length := by rw [← a3]; exact hlen k' e' hk'
      have e1 : ids[k] = id := by have : ids[k]? = some ids[k] := by simp [l1]
                                  rw [this] at b1; cases b1; rfl
      have e2 : ids[k'] = id := by have : ids[k']? = some ids[k'] := by simp [l2]
                                   rw [this] at b1'; cases b1'; rfl
      exact (List.getElem_inj hnd).1 (e1.trans e2.symm))
  rw [a1, a2]
  exact ⟨S'', phiE φ nx es, q1, q2, a5 _ fun k e hk => phiE_at φ nx es k e hk, fun id hid => phiE_only φ nx es id hid⟩
end ops
end Go.V
/- Soundness: every operation. -/
set_option linter.unusedVariables false
set_option linter.unusedSimpArgs false
namespace Go.V
open Go.RowKit
variable {P : Program}

theorem call_exec {a : Act} {o : Oper} {c : Call} {f : FuncId} (ho : o.op = .call c) (hc : c.callee = .value (.func f)) : (execOp a.eval o) = (do let d ← (pure { target := .fn (.func f) #[], args := #[] ++ c.args.map a.eval } : Sem Deferred); invoke d.target d.args) := by
  unfold execOp
  simp only [ho, resolve, hc, Deferred.ofValue, Act.eval]
section ops
variable {P : Program} {T : FuncId → Option IFn} {cb : Cb} {S : Nat → Prop} {φ : Phi} {h : Mem} {H : Heap} {w : World} {env : List AV} {a : Act} {o : Oper} {nx : Nat}
theorem args_arr {c : Call} {as : List Arg} (h : cOpds c.args.toList = some as) (hr : Reps w S φ env a.tmps) : Reps w S φ (as.map (arg env)) (c.args.map a.eval) := by
  have := args_rep hr h
  have e : (c.args.toList.map a.eval).toArray = c.args.map a.eval := by rw [← Array.toList_map]
  rw [e] at this; exact this
theorem snd_callC {c : Call} {f : FuncId} {args : List AV} {us : Array Value} {v : AV} {rd : List Nat} {wr : Wr} {nx' : Nat} (hT : TOK P T) (hcb : CbOK P cb)
    (hex : ∀ w, (execOp a.eval o).run P w = (callFunc f us).run P w) (hargs : Reps w S φ args us)
    (he : callOp T cb f args H nx = some (.eff v rd wr nx')) (hrd : ∀ id ∈ rd, h id = hget H id) (hs : Sim P S φ h w) (hn : ∀ id, nx ≤ id → id < nx' → φ id = none) : OpOK P o a w (Ends P S φ h w v wr nx nx') := by
  unfold callOp at he
  split at he
  · cases he
  · rename_i fn hfn
    split at he
    · cases hq : cb (.fn f) args H with
      | none => simp [hq] at he
      | some p => simp [hq] at he
    · split at he
      · rename_i args' rd' e1
        split at he
        · rename_i t H0 e2
          split at he
          · rename_i e3
            cases he
            obtain ⟨q1, q2⟩ := call_pure hT hcb hfn e1 e2 e3 hrd hs hargs hn
            exact .inr (.inr ⟨f, us, w, by rw [hex, q1], q2⟩)
          · cases he
        · cases he
      · cases he
theorem callv_exec {c : Call} {g : Operand} {f : FuncId} {vf vc : Array Value} (ho : o.op = .call c) (hc : c.callee = .value g) (hg : a.eval g = .func (.func f) vf vc) (w : World) : (execOp a.eval o).run P w = (callFunc f (vf ++ c.args.map a.eval ++ vc)).run P w := by
  unfold execOp
  simp only [ho, resolve, hc, hg, Deferred.ofValue, Sem.run_bind, Sem.run_pure, Result.andThen_ok, invoke]
theorem one_arg {c : Call} {x : Arg} (hargs : cOpds c.args.toList = some [x]) : ∃ p, c.args = #[p] ∧ cOpd p = some x := by
  cases hl : c.args.toList with
  | nil => rw [hl] at hargs; cases hargs
  | cons p ps =>
    rw [hl] at hargs
    simp only [cOpds] at hargs
    split at hargs
    · rename_i q1 q2 e1 e2
      cases hargs
      cases ps with
      | nil => exact ⟨p, by have : c.args = (c.args.toList).toArray := by simp
                            rw [this, hl], e1⟩
      | cons r rs =>
        simp only [cOpds] at e2
        split at e2 <;> cases e2
    · cases hargs
theorem op_eff (hT : TOK P T) (hcb : CbOK P cb) {op : Op} {io : PO} (hc : cOp P op = some io) (ho : o.op = op) {v : AV} {rd : List Nat} {wr : Wr} {nx' : Nat} (he : evalOp T cb env H nx io = some (.eff v rd wr nx')) (hrd : ∀ id ∈ rd, h id = hget H id) (hs : Sim P S φ h w) (hr : Reps w S φ env a.tmps) (hn : ∀ id, nx ≤ id → id < nx' → φ id = none) :
    OpOK P o a w (Ends P S φ h w v wr nx nx') := by
  have hn1 : nx < nx' → φ nx = none := fun hlt => hn nx (Nat.le_refl _) hlt
  cases op with
  | move x =>
    simp only [cOp] at hc
    cases hx : cOpd x with
    | none => simp [hx] at hc
    | some ax => simp [hx] at hc; subst hc; cases he; exact snd_mv (by unfold execOp; simp only [ho]) hx hs hr
  | assign x =>
    simp only [cOp] at hc
    cases hx : cOpd x with
    | none => simp [hx] at hc
    | some ax => simp [hx] at hc; subst hc; cases he; exact snd_mv (by unfold execOp; simp only [ho]) hx hs hr
  | pick x y z =>
    simp only [cOp] at hc
    split at hc
    · rename_i ac ax ay e1 e2 e3
      cases hc
      simp only [evalOp] at he
      split at he
      · rename_i b hb; cases he; exact snd_pick ho e1 e2 e3 hb hs hr
      · cases he
    · cases hc
  | alloc e =>
    simp only [cOp] at hc
    cases hz : zeroK P e with
    | none => simp [hz] at hc
    | some z =>
      simp [hz] at hc; subst hc
      simp only [evalOp] at he
      split at he
      · cases he; exact snd_new ho hz hs (hn1 (by omega))
      · cases he
  | box e x =>
    simp only [cOp] at hc
    cases hx : cOpd x with
    | none => simp [hx] at hc
    | some ax =>
      simp [hx] at hc; subst hc
      simp only [evalOp] at he
      split at he
      · rename_i h1; cases he; exact snd_box ho hx h1 hs hr (hn1 (by omega))
      · cases he
  | build t ps =>
    simp only [cOp] at hc
    split at hc
    · rename_i d z e1 e2
      split at hc
      · rename_i hg
        cases hp : cParts P d ps.toList with
        | none => simp [hp] at hc
        | some ps' =>
          simp [hp] at hc; subst hc
          simp only [evalOp] at he
          cases hf : fillA env ps' z with
          | none => simp [hf] at he
          | some cs => simp [hf] at he; obtain ⟨rfl, rfl, rfl, rfl⟩ := he; exact snd_build ho e1 e2 hg hp hf hs hr
      · cases hc
    · cases hc
  | buildSlice t n ps =>
    simp only [cOp] at hc
    split at hc
    · rename_i e hu
      split at hc
      · rename_i s z ps' e1 e2 e3
        split at hc
        · cases hc
        · rename_i h0
          cases hc
          simp only [evalOp] at he
          split at he
          · rename_i hcc
            cases hf : fillS env s ps' (List.replicate n z) with
            | none => simp [hf] at he
            | some xs => simp [hf] at he; obtain ⟨rfl, rfl, rfl, rfl⟩ := he; exact snd_buildS ho hu e1 e2 e3 (by simpa using h0) hcc hf hs hr (hn1 (by omega))
          · cases he
      · cases hc
    · cases hc
  | load t x =>
    simp only [cOp] at hc
    split at hc
    · rename_i k ax e1 e2; cases hc; exact snd_load ho e1 e2 he hrd hs hr
    · cases hc
  | store t x y =>
    simp only [cOp] at hc
    split at hc
    · rename_i n ax ay e1 e2 e3; cases hc; exact snd_store ho e1 e2 e3 he hrd hs hr
    · cases hc
  | fieldAddr s x i =>
    simp only [cOp] at hc
    split at hc
    · rename_i fs ax hu hx
      cases hf : fs[i]? with
      | none => simp [hf] at hc
      | some f =>
        simp only [hf, Option.bind_some] at hc
        split at hc
        · cases hc
        · rename_i n hne hsz; cases hc; exact snd_fieldA ho hu hf hsz (fun e => hne e) hx he hs hr
        · cases hc
    · cases hc
  | indexAddr t x y =>
    simp only [cOp] at hc
    split at hc
    · rename_i e ax ay hu hx hy
      cases hk : sizeK P e with
      | none => simp [hk] at hc
      | some n => simp [hk] at hc; subst hc; exact snd_indexS ho hu hk hx hy he hrd hs hr
    · rename_i len e ax ay hu hx hy
      cases hk : sizeK P e with
      | none => simp [hk] at hc
      | some n => simp [hk] at hc; subst hc; exact snd_indexA ho hu hk hx hy he hs hr
    · cases hc
  | field t x i =>
    simp only [cOp] at hc
    split at hc
    · rename_i fs ax hu hx
      cases hf : fs[i]? with
      | none => simp [hf] at hc
      | some f =>
        cases hk : partK P f.type with
        | none => simp [hf, hk] at hc
        | some k => simp [hf, hk] at hc; subst hc; exact snd_field ho hu hf hk hx he hs hr
    · cases hc
  | index t x y =>
    simp only [cOp] at hc
    split at hc
    · rename_i len e ax ay hu hx hy
      split at hc
      · rename_i k s hk hsz; cases hc; exact snd_indexV ho hu hk hsz hx hy he hs hr
      · cases hc
    · cases hc
  | binOp op t x y t' =>
    simp only [cOp] at hc
    split at hc
    · rename_i ax ay hx hy
      split at hc
      · cases hc
        simp only [evalOp] at he
        cases hb : binA op (arg env ax) (arg env ay) with
        | none => simp [hb] at he
        | some z => simp [hb] at he; obtain ⟨rfl, rfl, rfl, rfl⟩ := he; exact snd_bin ho hx hy hb hs hr
      · rename_i hnt
        have hnt' : isIntT P t = false := by simpa using hnt
        split at hc
        · unfold cNil at hc
          split at hc
          · rename_i hnil; cases hc; simp only [Bool.and_eq_true] at hnil; exact snd_isNil (neg := false) ho hnil.1 hnil.2 hx he hs hr
          · exact snd_eqv (neg := false) ho hc hx hy hnt' he hs hr
        · unfold cNil at hc
          split at hc
          · rename_i hnil; cases hc; simp only [Bool.and_eq_true] at hnil; exact snd_isNil (neg := true) ho hnil.1 hnil.2 hx he hs hr
          · exact snd_eqv (neg := true) ho hc hx hy hnt' he hs hr
        · cases hc
    · cases hc
  | unOp op t x =>
    simp only [cOp] at hc
    cases hx : cOpd x with
    | none => simp [hx] at hc
    | some ax =>
      simp [hx] at hc; subst hc
      simp only [evalOp] at he
      cases hb : unA op (arg env ax) with
      | none => simp [hb] at he
      | some z => simp [hb] at he; obtain ⟨rfl, rfl, rfl, rfl⟩ := he; exact snd_un ho hx hb hs hr
  | convert s d x =>
    simp only [cOp] at hc
    split at hc
    · rename_i k0 k ax h1 h2 hx
      cases hc
      simp only [evalOp] at he
      split at he
      · rename_i k' n e1; cases he; exact snd_conv ho h1 h2 hx e1 hs hr
      · cases he
    · cases hc
  | makeSlice t x y =>
    simp only [cOp] at hc
    split at hc
    · rename_i e ax ay hu hx hy
      split at hc
      · rename_i i z hi hz
        split at hc
        · cases hc
        · cases hc; exact snd_mkS ho hu hi hz hx hy he hs hr hn1
      · cases hc
    · cases hc
  | slice t x lo hi mx =>
    cases mx with
    | none =>
      simp only [cOp] at hc
      split at hc
      · rename_i e ax alo ahi hu hx hlo hhi
        cases hk : sizeK P e with
        | none => simp [hk] at hc
        | some n => simp [hk] at hc; subst hc; exact snd_sl ho hu hk hx hlo hhi he hrd hs hr
      · cases hc
    | some mx =>
      cases hi with
      | none => simp [cOp] at hc
      | some hi =>
        simp only [cOp] at hc
        split at hc
        · rename_i e ax alo ahi amx hu hx hlo hhi hmx
          cases hk : sizeK P e with
          | none => simp [hk] at hc
          | some n => simp [hk] at hc; subst hc; exact snd_sl3 ho hu hk hx hlo hhi hmx he hrd hs hr
        · cases hc
  | extract x i =>
    simp only [cOp] at hc
    cases hx : cOpd x with
    | none => simp [hx] at hc
    | some ax =>
      simp [hx] at hc; subst hc
      simp only [evalOp] at he
      split at he
      · rename_i vs e1
        cases e2 : vs[i]? with
        | none => simp [e2] at he
        | some z => simp [e2] at he; obtain ⟨rfl, rfl, rfl, rfl⟩ := he; exact snd_ext ho hx e1 e2 hs hr
      · cases he
  | makeFunc fn first caps =>
    cases fn with
    | func f =>
      simp only [cOp] at hc
      split at hc
      · rename_i af ac h1 h2; cases hc; cases he; exact snd_mkF ho h1 h2 hs hr
      · cases hc
    | _ => simp [cOp] at hc
  | call c =>
    simp only [cOp] at hc
    split at hc
    · rename_i b args hcal hargs
      unfold cBuiltin at hc
      split at hc
      · -- len
        rename_i x
        obtain ⟨p, hp1, hp2⟩ := one_arg hargs
        split at hc
        · rename_i e ht
          cases hc
          cases h0 : c.argTypes[0]? with
          | none => simp [h0] at ht
          | some t => simp [h0] at ht; exact snd_len ho hcal hp1 h0 ht hp2 he hs hr
        · rename_i n e ht
          cases hc
          cases he
          cases h0 : c.argTypes[0]? with
          | none => simp [h0] at ht
          | some t => simp [h0] at ht; exact snd_lenC ho hcal hp1 h0 ht hs
        · cases hc
      · -- append
        rename_i x y
        have ha : ∃ p q, c.args = #[p, q] ∧ cOpd p = some x ∧ cOpd q = some y := by
          cases hl : c.args.toList with
          | nil => rw [hl] at hargs; cases hargs
          | cons p ps =>
            rw [hl] at hargs
            simp only [cOpds] at hargs
            split at hargs
            · rename_i q1 q2 e1 e2
              cases hargs
              cases ps with
              | nil => cases e2
              | cons r rs =>
                simp only [cOpds] at e2
                split at e2
                · rename_i q3 q4 e3 e4
                  cases e2
                  cases rs with
                  | nil => exact ⟨p, r, by have : c.args = (c.args.toList).toArray := by simp
                                           rw [this, hl], e1, e3⟩
                  | cons r' rs' =>
                    simp only [cOpds] at e4
                    split at e4 <;> cases e4
                · cases e2
            · cases hargs
        obtain ⟨p, q, hp1, hp2, hp3⟩ := ha
        split at hc
        · rename_i e u ht hu1
          split at hc
          · rename_i i z hi hz
            split at hc
            · rename_i hcc
              simp only [beq_iff_eq] at hcc
              cases h0 : c.argTypes[0]? with
              | none => simp [h0] at ht
              | some t =>
                simp [h0] at ht
                split at hc
                · rename_i hsl
                  cases hc
                  obtain ⟨e', he'⟩ : ∃ e', P.underlying u = some (.slice e') := by
                    unfold isSliceT at hsl
                    split at hsl
                    · rename_i e' he'; exact ⟨e', he'⟩
                    · cases hsl
                  exact snd_app ho hcal hp1 h0 ht hu1 he' hi hz hcc hp2 hp3 he hrd hs hr hn1
                · split at hc
                  · rename_i hit
                    cases hc
                    obtain ⟨k', hk'⟩ : ∃ k', P.underlying u = some (.int k') := by
                      unfold isIntT at hit
                      split at hit
                      · rename_i e' he'; exact ⟨e', he'⟩
                      · cases hit
                    exact snd_appZ ho hcal hp1 h0 ht hu1 hk' hi hz hcc hp2 hp3 he hs hr hn1
                  · cases hc
            · cases hc
          · cases hc
        · cases hc
      · -- cap
        rename_i x
        obtain ⟨p, hp1, hp2⟩ := one_arg hargs
        split at hc
        · rename_i e ht
          cases hc
          cases h0 : c.argTypes[0]? with
          | none => simp [h0] at ht
          | some t => simp [h0] at ht; exact snd_cap ho hcal hp1 h0 ht hp2 he hs hr
        · cases hc
      · -- clear
        rename_i x
        obtain ⟨p, hp1, hp2⟩ := one_arg hargs
        split at hc
        · rename_i e ht
          split at hc
          · rename_i n z hk hz
            split at hc
            · rename_i hzl
              cases hc
              simp only [beq_iff_eq] at hzl
              cases h0 : c.argTypes[0]? with
              | none => simp [h0] at ht
              | some t => simp [h0] at ht; exact snd_clr ho hcal hp1 h0 ht hk hz hzl hp2 he hrd hs hr
            · cases hc
          · cases hc
        · cases hc
      · cases hc; exact snd_mx (mx := false) ho hcal hargs he hs hr
      · cases hc; exact snd_mx (mx := true) ho hcal hargs he hs hr
      · cases hc
    · rename_i f args hcal hargs
      cases hc
      simp only [evalOp] at he
      exact snd_callC (c := c) (us := c.args.map a.eval) hT hcb (fun w => by rw [call_exec ho hcal]; simp [invoke]) (args_arr hargs hr) he hrd hs hn
    · rename_i g args hng hcal hargs
      cases hg : cOpd g with
      | none => simp [hg] at hc
      | some ag =>
        simp [hg] at hc; subst hc
        simp only [evalOp] at he
        split at he
        · rename_i f first caps e1
          have hv := arg_rep hr hg
          rw [e1] at hv
          obtain ⟨vf, vc, k1, k2, k3⟩ : ∃ vf vc, a.eval g = .func (.func f) vf vc ∧ Reps w S φ first vf ∧ Reps w S φ caps vc := by
            generalize a.eval g = q at hv
            cases hv with
            | fn hl h hl' h' => exact ⟨_, _, rfl, ⟨hl, h⟩, ⟨hl', h'⟩⟩
          exact snd_callC (c := c) hT hcb (callv_exec ho hcal k1) ((k2.append (args_arr hargs hr)).append k3) he hrd hs hn
        · rename_i id e1
          cases hq : cb (.yl id) (args.map (arg env)) H with
          | none => simp [hq] at he
          | some p => simp [hq] at he
        · cases he
    · cases hc
  | _ => simp [cOp] at hc
end ops
end Go.V
/- Soundness: regions in the text's order. -/
set_option linter.unusedVariables false
set_option linter.unusedSimpArgs false
namespace Go.V
open Go.RowKit
variable {P : Program}

/-- The fences that the walk stands in. -/
inductive WF : Fence → Prop
  | wide : WF Fence.wide
  | rnd (l : Nat) : WF (Fence.wide.inRound l)
theorem WF.fn {F : Fence} (h : WF F) (f : FuncId) : F.fn f := by cases h <;> trivial
theorem WF.depth {F : Fence} (h : WF F) : F.depth = none := by cases h <;> rfl
theorem WF.calls {F : Fence} (h : WF F) {n : Nat} {P : Program} {f : FuncId} {args : Array Value} {w : World} {R : Ending → World → Prop} (hc : Calls P f args w R) : CallsIn F n P f args w R := by
  cases h with
  | wide => exact callsIn_wide.2 hc
  | rnd l => exact callsIn_wide.2 hc
theorem wpIn_of {P : Program} {F : Fence} (hF : WF F) {o : Oper} {a : Act} {w : World} {R : Value → World → Prop} {K : Act → World → Prop} {Q : Exit → Act → World → Prop} (hd : ∀ c, o.op ≠ .defer c) (h : OpOK P o a w R) (hK : ∀ v w', R v w' → K (a.put o.dst v) w') : o.wpIn F 0 P a w K Q := by
  refine ⟨fun f _ => hF.fn f, ?_⟩
  rw [Oper.semAt_eq _ _ _ hd]
  rcases h with ⟨v, w', h1, h2⟩ | ⟨w', h1, h2⟩ | ⟨f, args, w', h1, h2⟩
  · rw [h1]; exact hK v w' h2
  · rw [h1]; exact hK undef w' h2
  · rw [h1]
    refine ⟨(fun hh => by rw [hF.depth] at hh; cases hh), hF.calls (h2.mono ?_)⟩
    rintro e w'' ⟨v, rfl, h3⟩
    exact hK v w'' h3
/-- ... a round among what may come. -/
def OpW (P : Program) (o : Oper) (a : Act) (w : World) (R : Value → World → Prop) : Prop :=
  OpOK P o a w R ∨ ∃ l fn tmps x y w', (execOp a.eval o).run P w = .ok (.round l fn tmps x y) w' ∧ RoundIn Fence.wide 0 P l fn tmps x y w' fun e w'' => ∃ v, e = .returned v ∧ R v w''
theorem WF.round {F : Fence} (h : WF F) {n l fn : Nat} {tmps : Array Value} {x y : Code} {w : World} {R : Ending → World → Prop} (hc : RoundIn Fence.wide n P l fn tmps x y w R) : RoundIn F n P l fn tmps x y w R := by
  cases h with
  | wide => exact hc
  | rnd l => exact hc
theorem wpIn_ofW {F : Fence} (hF : WF F) {o : Oper} {a : Act} {w : World} {R : Value → World → Prop} {K : Act → World → Prop} {Q : Exit → Act → World → Prop} (hd : ∀ c, o.op ≠ .defer c) (h : OpW P o a w R) (hK : ∀ v w', R v w' → K (a.put o.dst v) w') : o.wpIn F 0 P a w K Q := by
  rcases h with h | ⟨l, fn, tmps, x, y, w', h1, h2⟩
  · exact wpIn_of hF hd h hK
  · refine ⟨fun f _ => hF.fn f, ?_⟩
    rw [Oper.semAt_eq _ _ _ hd, h1]
    refine ⟨(fun hh => by rw [hF.depth] at hh; cases hh), hF.round (h2.mono ?_)⟩
    rintro e w'' ⟨v, rfl, h3⟩
    exact hK v w'' h3
theorem callv_yield {a : Act} {o : Oper} {c : Call} {g : Operand} {l : Nat} (ho : o.op = .call c) (hc : c.callee = .value g) (hg : a.eval g = .func (.yield l) #[] #[]) (w : World) : (execOp a.eval o).run P w = (Instr.yield l (c.args.map a.eval)).run P w := by
  unfold execOp
  simp only [ho, resolve, hc, hg, Deferred.ofValue, Sem.run_bind, Sem.run_pure, Result.andThen_ok, invoke]
  simp
theorem cOp_noDefer {P : Program} {op : Op} {io : PO} (h : cOp P op = some io) : ∀ c, op ≠ .defer c := by
  rintro c rfl; cases h

/-! Memory -/
theorem hsetL_get : ∀ (l : List (Option Blk)) (i : Nat) (b : Option Blk) (j : Nat), (match (hsetL l i b)[j]? with | some (some x) => some x | _ => none) = if j = i then b else (match l[j]? with | some (some x) => some x | _ => none)
  | [], 0, b, j => by
    cases j with
    | zero => cases b <;> simp [hsetL]
    | succ j => simp [hsetL]
  | [], n + 1, b, j => by
    cases j with
    | zero => simp [hsetL]
    | succ j =>
      have := hsetL_get [] n b j
      simp only [hsetL, List.getElem?_cons_succ]
      rw [this]; simp
  | x :: l, 0, b, j => by
    cases j with
    | zero => cases b <;> simp [hsetL]
    | succ j => simp [hsetL]
  | x :: l, n + 1, b, j => by
    cases j with
    | zero => simp [hsetL]
    | succ j =>
      have := hsetL_get l n b j
      simp only [hsetL, List.getElem?_cons_succ]
      rw [this]; simp
theorem hget_wrL : ∀ (wr : Wr) (l : List (Option Blk)) (n n' : Nat), hget ⟨wrL l wr, n⟩ = updH (hget ⟨l, n'⟩) wr
  | [], l, n, n' => rfl
  | p :: wr, l, n, n' => by
    have h1 : hget ⟨wrL l (p :: wr), n⟩ = hget ⟨wrL (hsetL l p.1 p.2) wr, n⟩ := rfl
    have h2 : updH (hget ⟨l, n'⟩) (p :: wr) = updH (fun id => if id = p.1 then p.2 else hget ⟨l, n'⟩ id) wr := rfl
    rw [h1, h2, hget_wrL wr _ n n']
    congr 1
    funext id
    exact hsetL_get l p.1 p.2 id
theorem hget_wrH (H : Heap) (wr : Wr) (nx : Nat) : hget (wrH H wr nx) = updH (hget H) wr := hget_wrL wr H.l _ H.nx
theorem reps_put {w : World} {S : Nat → Prop} {φ : Phi} {env : List AV} {a : Act} {v : AV} {vv : Value} (hr : Reps w S φ env a.tmps) (hv : Rep w S φ v vv) (dst : Option Nat) : Reps w S φ (setD env dst v) (a.put dst vv).tmps := by
  cases dst with
  | none => exact hr
  | some d =>
    refine ⟨by simp [setD, Act.put, hr.1], fun i c u e1 e2 => ?_⟩
    simp only [setD, Act.put] at e1 e2
    by_cases hi : i = d
    · subst hi
      have hlt : i < env.length := by
        rcases Nat.lt_or_ge i env.length with h' | h'
        · exact h'
        · rw [List.getElem?_eq_none (by simpa using h')] at e1; cases e1
      rw [List.getElem?_set_self hlt] at e1
      rw [Array.getElem?_setIfInBounds_self_of_lt (by rw [hr.1]; exact hlt)] at e2
      cases e1; cases e2; exact hv
    · rw [List.getElem?_set_ne (Ne.symm hi)] at e1
      rw [Array.getElem?_setIfInBounds_ne (Ne.symm hi)] at e2
      exact hr.2 i c u e1 e2
theorem put_defers (a : Act) (dst : Option Nat) (v : Value) : (a.put dst v).defers = a.defers := by cases dst <;> rfl

/-! The state -/
structure Inv (P : Program) (S : Nat → Prop) (φ : Phi) (w : World) (st : St) (a : Act) : Prop where
  sim : Sim P S φ (hget st.H) w
  env : Reps w S φ st.env a.tmps
  top : ∀ id, st.H.nx ≤ id → φ id = none
def Reach (P : Program) (S : Nat → Prop) (φ : Phi) (w : World) (st : St) (a : Act) (st' : St) (a' : Act) (w' : World) : Prop :=
  ∃ S' φ', Inv P S' φ' w' st' a' ∧ Adv S φ (hget st.H) w S' φ' (hget st'.H) w' ∧ a'.defers = a.defers ∧ st.H.nx ≤ st'.H.nx
theorem Reach.refl {S : Nat → Prop} {φ : Phi} {w : World} {st : St} {a : Act} (h : Inv P S φ w st a) : Reach P S φ w st a st a w := ⟨S, φ, h, Adv.refl _ _ _ _, rfl, Nat.le_refl _⟩
/-- The world drew a number. -/
theorem Inv.drewR {S : Nat → Prop} {φ : Phi} {w : World} {st : St} {a : Act} (h : Inv P S φ w st a) : Inv P S φ w.drew st a := ⟨h.sim.drewR, (Adv.drewR _ _ _ _).reps h.sim h.env, h.top⟩

section seq
variable {P : Program} {T : FuncId → Option IFn} {cb : Cb}
theorem call_whole (hT : TOK P T) (hcb : CbOK P cb) {f : FuncId} {args : List AV} {us : Array Value} {H H' : Heap} {nx : Nat} {v : AV} {a : Act} {o : Oper} {S : Nat → Prop} {φ : Phi} {w : World}
    (hex : ∀ w, (execOp a.eval o).run P w = (callFunc f us).run P w) (hargs : Reps w S φ args us) (he : callOp T cb f args H nx = some (.whole v H')) (hs : Sim P S φ (hget H) w) (htop : ∀ id, H.nx ≤ id → φ id = none) :
    OpW P o a w (Fin P S φ H w v H') := by
  unfold callOp at he
  split at he
  · cases he
  · rename_i fn hfn
    split at he
    · cases hq : cb (.fn f) args H with
      | none => simp [hq] at he
      | some p =>
        simp [hq] at he
        obtain ⟨rfl, rfl⟩ := he
        obtain ⟨g, c, g1, g2, g3, -⟩ := cFn_spec (hT f fn hfn)
        exact .inl (.inr (.inr ⟨f, us, w, by rw [hex]; exact run_callFunc g1 g2 g3 us, hcb.fn f args H p.1 p.2 hq S φ w us hs htop hargs⟩))
    · split at he
      · split at he
        · split at he <;> cases he
        · cases he
      · cases he
theorem evalOp_whole {env : List AV} {H H' : Heap} {nx : Nat} {io : PO} {v : AV} (he : evalOp T cb env H nx io = some (.whole v H')) :
    (∃ f args, io = .call f args ∧ callOp T cb f (args.map (arg env)) H nx = some (.whole v H')) ∨ (∃ g args f first caps, io = .callv g args ∧ arg env g = .fn f first caps ∧ callOp T cb f (first ++ args.map (arg env) ++ caps) H nx = some (.whole v H')) ∨
    (∃ g args id, io = .callv g args ∧ arg env g = .yld id ∧ cb (.yl id) (args.map (arg env)) H = some (v, H')) := by
  cases io with
  | call f args => exact .inl ⟨f, args, rfl, he⟩
  | callv g args =>
    simp only [evalOp] at he
    split at he
    · rename_i f first caps e1; exact .inr (.inl ⟨g, args, f, first, caps, rfl, e1, he⟩)
    · rename_i id e1
      cases hq : cb (.yl id) (args.map (arg env)) H with
      | none => simp [hq] at he
      | some p => simp [hq] at he; obtain ⟨rfl, rfl⟩ := he; exact .inr (.inr ⟨g, args, id, rfl, e1, hq⟩)
    · cases he
  | eqv neg agg ks x y =>
    cases agg <;> simp only [evalOp] at he
    · cases h1 : eqL ks [arg env x] [arg env y] <;> simp [h1] at he
    · split at he
      · rename_i cs ds _ _; cases h1 : eqL ks cs ds <;> simp [h1] at he
      · cases he
  | _ =>
    simp only [evalOp] at he
    repeat' (first | (cases he; done) | split at he)
    all_goals (first | (cases he; done) | (simp [Option.bind_eq_some_iff, Option.map_eq_some_iff] at he; done))
def PO.isCall : PO → Bool
  | .call .. | .callv .. => true
  | _ => false
theorem cOp_call {op : Op} {io : PO} (hc : cOp P op = some io) (h : io.isCall = true) : ∃ c, op = .call c := by
  cases op with
  | call c => exact ⟨c, rfl⟩
  | fieldAddr s x i =>
    simp only [cOp] at hc
    split at hc
    · rename_i fs ax hu hx
      cases hf : fs[i]? with
      | none => simp [hf] at hc
      | some f =>
        simp only [hf, Option.bind_some] at hc
        split at hc <;> cases hc
        cases h
    · cases hc
  | binOp op t x y t' =>
    simp only [cOp] at hc
    split at hc
    · split at hc
      · cases hc; cases h
      · have key : ∀ {neg x y}, cEqv P neg t x y = some io → False := by
          intro neg x y hq
          unfold cEqv at hq
          split at hq
          · split at hq <;> cases hq
            cases h
          · cases hq
        have key2 : ∀ {neg x y z r}, (r = some io → False) → cNil P neg t x y z r = some io → False := by
          intro neg x y z r hr hq
          unfold cNil at hq
          split at hq
          · cases hq; cases h
          · exact hr hq
        split at hc
        · exact (key2 key hc).elim
        · exact (key2 key hc).elim
        · cases hc
    · cases hc
  | slice t x lo hi mx =>
    cases mx with
    | none =>
      simp only [cOp] at hc
      split at hc
      · simp only [Option.map_eq_some_iff] at hc; obtain ⟨_, _, rfl⟩ := hc; cases h
      · cases hc
    | some mx =>
      cases hi with
      | none => simp [cOp] at hc
      | some hi =>
        simp only [cOp] at hc
        split at hc
        · simp only [Option.map_eq_some_iff] at hc; obtain ⟨_, _, rfl⟩ := hc; cases h
        · cases hc
  | makeFunc fn first caps =>
    cases fn <;> simp only [cOp] at hc
    · split at hc <;> cases hc
      cases h
    all_goals cases hc
  | _ =>
    simp only [cOp] at hc
    repeat' (first | (cases hc; done) | split at hc)
    all_goals (first
      | (cases hc; cases h; done)
      | (simp only [Option.bind_eq_some_iff, Option.map_eq_some_iff] at hc; obtain ⟨_, _, rfl⟩ := hc; cases h; done)
      | (simp only [Option.bind_eq_some_iff, Option.map_eq_some_iff] at hc; obtain ⟨_, _, _, _, rfl⟩ := hc; cases h; done)
      | (simp only [Option.bind_eq_some_iff, Option.map_eq_some_iff] at hc; obtain ⟨_, _, h2⟩ := hc; cases h2; cases h; done))
theorem op_whole (hT : TOK P T) (hcb : CbOK P cb) {op : Op} {io : PO} {H H' : Heap} {nx : Nat} {v : AV} {a : Act} {o : Oper} {env : List AV} {S : Nat → Prop} {φ : Phi} {w : World} (hc : cOp P op = some io) (ho : o.op = op) (he : evalOp T cb env H nx io = some (.whole v H')) (hs : Sim P S φ (hget H) w) (hr : Reps w S φ env a.tmps) (htop : ∀ id, H.nx ≤ id → φ id = none) :
    OpW P o a w (Fin P S φ H w v H') := by
  have hcall : io.isCall = true := by
    rcases evalOp_whole he with ⟨f, args, rfl, -⟩ | ⟨g, args, f, first, caps, rfl, -⟩ | ⟨g, args, id, rfl, -⟩ <;> rfl
  obtain ⟨c, rfl⟩ := cOp_call hc hcall
  simp only [cOp] at hc
  split at hc
  · rename_i b args hcal hargs
    exfalso
    unfold cBuiltin at hc
    split at hc
    · split at hc <;> cases hc <;> cases hcall
    · split at hc
      · split at hc
        · split at hc
          · split at hc
            · cases hc; cases hcall
            · split at hc
              · cases hc; cases hcall
              · cases hc
          · cases hc
        · cases hc
      · cases hc
    · split at hc <;> cases hc
      cases hcall
    · split at hc
      · split at hc
        · split at hc <;> cases hc
          cases hcall
        · cases hc
      · cases hc
    · cases hc; cases hcall
    · cases hc; cases hcall
    · cases hc
  · rename_i f args hcal hargs
    cases hc
    exact call_whole (us := c.args.map a.eval) hT hcb (fun w => by rw [call_exec ho hcal]; simp [invoke]) (args_arr hargs hr) he hs htop
  · rename_i g args hng hcal hargs
    cases hg : cOpd g with
    | none => simp [hg] at hc
    | some ag =>
      simp [hg] at hc; subst hc
      simp only [evalOp] at he
      split at he
      · rename_i f first caps e1
        have hv := arg_rep hr hg
        rw [e1] at hv
        obtain ⟨vf, vc, k1, k2, k3⟩ : ∃ vf vc, a.eval g = .func (.func f) vf vc ∧ Reps w S φ first vf ∧ Reps w S φ caps vc := by
          generalize a.eval g = q at hv
          cases hv with
          | fn hl h hl' h' => exact ⟨_, _, rfl, ⟨hl, h⟩, ⟨hl', h'⟩⟩
        exact call_whole hT hcb (callv_exec ho hcal k1) ((k2.append (args_arr hargs hr)).append k3) he hs htop
      · rename_i id e1
        have hv := arg_rep hr hg
        rw [e1] at hv
        obtain ⟨loc, k1, k2⟩ : ∃ loc, φ id = some loc ∧ a.eval g = .func (.yield loc.blk) #[] #[] := by
          generalize a.eval g = q at hv
          cases hv with
          | yld h => exact ⟨_, h, rfl⟩
        cases hq : cb (.yl id) (args.map (arg env)) H with
        | none => simp [hq] at he
        | some p =>
          simp [hq] at he
          obtain ⟨rfl, rfl⟩ := he
          obtain ⟨fn, tmps, x, y, m1, m2⟩ := hcb.yl id _ H p.1 p.2 hq S φ w _ loc hs htop (args_arr hargs hr) k1
          exact .inr ⟨loc.blk, fn, tmps, x, y, w, by rw [callv_yield ho hcal k2]; exact m1, m2⟩
      · cases he
  · cases hc
theorem inv_eff {S : Nat → Prop} {φ : Phi} {w w' : World} {st : St} {a : Act} {v : AV} {wr : Wr} {nx : Nat} {vv : Value} (hI : Inv P S φ w st a) (h : Ends P S φ (hget st.H) w v wr st.H.nx nx vv w') (dst : Option Nat) : Reach P S φ w st a ⟨setD st.env dst v, wrH st.H wr nx⟩ (a.put dst vv) w' := by
  obtain ⟨S', φ', hD⟩ := h
  refine ⟨S', φ', ⟨by rw [hget_wrH]; exact hD.sim, reps_put (hD.adv.reps hI.sim hI.env) hD.rep dst, fun id hid => ?_⟩, by rw [hget_wrH]; exact hD.adv, put_defers _ _ _, Nat.le_max_left _ _⟩
  have hid' : max st.H.nx nx ≤ id := hid
  rw [hD.only id (.inr (by omega))]
  exact hI.top id (by omega)
theorem inv_undef {S : Nat → Prop} {φ : Phi} {w : World} {st : St} {a : Act} (hI : Inv P S φ w st a) (dst : Option Nat) : Reach P S φ w st a ⟨setD st.env dst undefA, st.H⟩ (a.put dst undef) w :=
  ⟨S, φ, ⟨hI.sim, reps_put hI.env undef_rep dst, hI.top⟩, Adv.refl _ _ _ _, put_defers _ _ _, Nat.le_refl _⟩
theorem Reach.trans {S : Nat → Prop} {φ : Phi} {w w' w'' : World} {st st' st'' : St} {a a' a'' : Act} (h : Reach P S φ w st a st' a' w') (k : ∀ S' φ', Inv P S' φ' w' st' a' → Reach P S' φ' w' st' a' st'' a'' w'') : Reach P S φ w st a st'' a'' w'' := by
  obtain ⟨S', φ', h1, h2, h3, h4⟩ := h
  obtain ⟨S'', φ'', k1, k2, k3, k4⟩ := k S' φ' h1
  exact ⟨S'', φ'', k1, h2.trans k2, k3.trans h3, Nat.le_trans h4 k4⟩
theorem Reach.step {S S' : Nat → Prop} {φ φ' : Phi} {w w' w'' : World} {st st' st'' : St} {a a' a'' : Act} (h2 : Adv S φ (hget st.H) w S' φ' (hget st'.H) w') (h3 : a'.defers = a.defers) (h4 : st.H.nx ≤ st'.H.nx) (k : Reach P S' φ' w' st' a' st'' a'' w'') : Reach P S φ w st a st'' a'' w'' := by
  obtain ⟨S'', φ'', k1, k2, k3, k4⟩ := k
  exact ⟨S'', φ'', k1, h2.trans k2, k3.trans h3, Nat.le_trans h4 k4⟩
theorem wanted_eq {S : Nat → Prop} {φ : Phi} {w : World} {env : List AV} {a : Act} {ops : Array Oper} {o : Oper} {bef : Nat} {io : IOp} (hc : cOper P ops bef o = some io) (hr : Reps w S φ env a.tmps) : wantedA env io.guard = Region.wanted o (yielded ops a.tmps) := by
  unfold cOper at hc
  split at hc
  · rename_i hg; cases hc; simp [wantedA, Region.wanted, hg]
  · rename_i j want hg
    split at hc
    · rename_i t ht
      cases hc
      simp only [wantedA, Region.wanted, hg, yielded, ht, Option.bind_some]
      have hv := hr.getD t
      have hsz : a.tmps[t]? = if t < a.tmps.size then some (a.tmps.getD t undef) else none := by
        by_cases h : t < a.tmps.size
        · simp [h]
        · simp [h]
      by_cases hlt : t < a.tmps.size
      · rw [hsz, if_pos hlt]
        generalize env.getD t undefA = x at hv
        generalize a.tmps.getD t undef = y at hv
        cases hv <;> simp
      · rw [hsz, if_neg hlt]
        have : env.getD t undefA = undefA := by simp [List.getD, List.getElem?_eq_none (show env.length ≤ t by rw [← hr.1]; exact Nat.le_of_not_lt hlt)]
        rw [this]; simp [undefA]
    · cases hc
theorem cOper_op {ops : Array Oper} {bef : Nat} {o : Oper} {io : IOp} (hc : cOper P ops bef o = some io) : io.dst = o.dst ∧ io.op = (cOp P o.op).getD .bad ∧ io.bef = bef := by
  unfold cOper at hc
  split at hc
  · cases hc; exact ⟨rfl, rfl, rfl⟩
  · split at hc
    · cases hc; exact ⟨rfl, rfl, rfl⟩
    · cases hc
theorem seq_sound (hT : TOK P T) (hcb : CbOK P cb) {F : Fence} (hF : WF F) {ops : Array Oper} {Q : Exit → Act → World → Prop} : ∀ (n k : Nat) (ios : List IOp) (st st' : St) (S : Nat → Prop) (φ : Phi) (w : World) (a : Act), k + n = ops.size → cOpers P ops (ops.toList.drop k) k = some ios → evalOps T cb ios st = some st' → Inv P S φ w st a →
    (∀ a' w', Reach P S φ w st a st' a' w' → Q .normal a' w') → wpOpsIn F 0 P ops Q (List.range' k n) a w
  | 0, k, ios, st, st', S, φ, w, a, hk, hc, he, hI, hQ => by
    have : ops.toList.drop k = [] := by simp; omega
    rw [this] at hc
    cases hc; cases he
    exact hQ a w (Reach.refl hI)
  | n + 1, k, ios, st, st', S, φ, w, a, hk, hc, he, hI, hQ => by
    have hlt : k < ops.size := by omega
    have hd : ops.toList.drop k = ops[k] :: ops.toList.drop (k + 1) := by rw [List.drop_eq_getElem_cons (by simpa using hlt)]; simp
    rw [hd] at hc
    simp only [cOpers] at hc
    split at hc
    · rename_i io ios' h1 h2
      cases hc
      obtain ⟨d1, d2, d3⟩ := cOper_op h1
      have ho : ops[k]? = some ops[k] := by simp [hlt]
      have hw := wanted_eq h1 hI.env
      simp only [List.range'_succ, wpOpsIn, ho]
      simp only [evalOps] at he
      split at he
      · rename_i hwant
        rw [hwant] at hw
        rw [if_pos hw.symm]
        split at he
        · rename_i v rd wr nx e1
          rw [d2] at e1
          cases hcop : cOp P ops[k].op with
          | none => rw [hcop] at e1; cases e1
          | some oo =>
            rw [hcop] at e1
            refine wpIn_of hF (cOp_noDefer hcop) (op_eff hT hcb hcop rfl e1 (fun _ _ => rfl) hI.sim hI.env (fun id i1 _ => hI.top id i1)) fun vv w' hE => ?_
            have hR := inv_eff hI hE io.dst
            rw [d1] at hR he
            obtain ⟨S', φ', r1, r2, r3, r4⟩ := hR
            exact seq_sound hT hcb hF n (k + 1) ios' _ st' S' φ' w' _ (by omega) h2 he r1 fun a' w'' hR' => hQ a' w'' (Reach.step r2 r3 r4 hR')
        · rename_i v H' e1
          rw [d2] at e1
          cases hcop : cOp P ops[k].op with
          | none => rw [hcop] at e1; cases e1
          | some oo =>
            rw [hcop] at e1
            refine wpIn_ofW hF (cOp_noDefer hcop) (op_whole hT hcb hcop rfl e1 hI.sim hI.env hI.top) fun vv w' hE => ?_
            obtain ⟨S', φ', r2, r1, r3, r4, r5⟩ := hE
            rw [d1] at he
            exact seq_sound hT hcb hF n (k + 1) ios' _ st' S' φ' w' _ (by omega) h2 he ⟨r1, reps_put (r2.reps hI.sim hI.env) r3 _, r4⟩ fun a' w'' hR' => hQ a' w'' (Reach.step r2 (put_defers _ _ _) r5 hR')
        · cases he
      · rename_i hwant
        have hwant' : wantedA st.env io.guard = false := by simpa using hwant
        rw [hwant'] at hw
        rw [if_neg (by rw [← hw]; simp)]
        refine ⟨fun f _ => hF.fn f, ?_⟩
        rw [d1] at he
        obtain ⟨S', φ', r1, r2, r3, r4⟩ := inv_undef hI ops[k].dst
        exact seq_sound hT hcb hF n (k + 1) ios' _ st' S' φ' w _ (by omega) h2 he r1 fun a' w'' hR' => hQ a' w'' (Reach.step r2 r3 r4 hR')
    · cases hc
theorem region_seq (hT : TOK P T) (hcb : CbOK P cb) {F : Fence} (hF : WF F) {id : Nat} {ops : Array Oper} {Q : Exit → Act → World → Prop} {ios : List IOp} {st st' : St} {S : Nat → Prop} {φ : Phi} {w : World} {a : Act} (hc : cOpers P ops ops.toList 0 = some ios) (he : evalOps T cb ios st = some st') (hI : Inv P S φ w st a)
    (hQ : ∀ a' w', Reach P S φ w st a st' a' w' → Q .normal a' w') : (Code.region id ops false).wpIn F 0 P Q a w := by
  refine wpIn_region ?_
  rw [List.range_eq_range']
  exact seq_sound hT hcb hF ops.size 0 ios st st' S φ w a (by omega) (by simpa using hc) he hI hQ
end seq
end Go.V
/- Soundness: regions that draw their order. First: plain facts. -/
set_option linter.unusedVariables false
set_option linter.unusedSimpArgs false
namespace Go.V
open Go.RowKit
variable {P : Program}

/-! An operation looks at its arguments alone -/
theorem fillA_congr {env env' : List AV} : ∀ {ps : List (Nat × Nat × Arg)} {zs : List AV}, (∀ x ∈ ps.map (·.2.2), arg env x = arg env' x) → fillA env ps zs = fillA env' ps zs
  | [], zs, h => rfl
  | (o, s, x) :: ps, zs, h => by
    have h1 : arg env x = arg env' x := h x (by simp)
    have ih : ∀ zs, fillA env ps zs = fillA env' ps zs := fun zs => fillA_congr fun y hy => h y (by simp at hy ⊢; exact .inr hy)
    simp only [fillA, h1]
    have : fillA env ps = fillA env' ps := funext ih
    rw [this]
theorem fillS_congr {env env' : List AV} {sz : Nat} : ∀ {ps : List (Nat × Arg)} {xs : List (List AV)}, (∀ x ∈ ps.map (·.2), arg env x = arg env' x) → fillS env sz ps xs = fillS env' sz ps xs
  | [], xs, h => rfl
  | (i, x) :: ps, xs, h => by
    have h1 : arg env x = arg env' x := h x (by simp)
    have ih : ∀ zs, fillS env sz ps zs = fillS env' sz ps zs := fun zs => fillS_congr fun y hy => h y (by simp at hy ⊢; exact .inr hy)
    simp only [fillS, h1, ih]
theorem bnd_congr {env env' : List AV} {d m : Nat} {x : Option Arg} (h : ∀ y ∈ optArgs x, arg env y = arg env' y) : bnd env d m x = bnd env' d m x := by
  cases x with
  | none => rfl
  | some y => simp only [bnd, h y (by simp [optArgs])]
theorem evalOp_congr {T : FuncId → Option IFn} {cb : Cb} {env env' : List AV} {H : Heap} {nx : Nat} {io : PO} (h : ∀ x ∈ io.args, arg env x = arg env' x) : evalOp T cb env H nx io = evalOp T cb env' H nx io := by
  have map_congr : ∀ l : List Arg, (∀ x ∈ l, arg env x = arg env' x) → l.map (arg env) = l.map (arg env') := fun l hl => List.map_congr_left hl
  cases io with
  | build z ps => simp only [evalOp, fillA_congr (env := env) (env' := env') (ps := ps) h]
  | buildS s n z ps => simp only [evalOp, fillS_congr (env := env) (env' := env') (ps := ps) h]
  | sl s x lo hi =>
    have h1 := h x (by simp [PO.args])
    have h2 : ∀ d m, bnd env d m lo = bnd env' d m lo := fun d m => bnd_congr fun y hy => h y (by simp [PO.args, hy])
    have h3 : ∀ d m, bnd env d m hi = bnd env' d m hi := fun d m => bnd_congr fun y hy => h y (by simp [PO.args, hy])
    simp only [evalOp, h1, h2, h3]
  | mkF f a b => simp only [evalOp, map_congr a fun x hx => h x (by simp [PO.args, hx]), map_congr b fun x hx => h x (by simp [PO.args, hx])]
  | call f as => simp only [evalOp, map_congr as h]
  | callv g as => simp only [evalOp, map_congr as fun x hx => h x (by simp [PO.args, hx]), h g (by simp [PO.args])]
  | mx m xs =>
    cases xs with
    | nil => rfl
    | cons x xs => simp only [evalOp, h x (by simp [PO.args]), map_congr xs fun y hy => h y (by simp [PO.args, hy])]
  | pick c a b => simp only [evalOp, h c (by simp [PO.args]), h a (by simp [PO.args]), h b (by simp [PO.args])]
  | new _ => rfl
  | lenC _ => rfl
  | bad => rfl
  | eqv neg agg ks x y => cases agg <;> simp only [evalOp, h x (by simp [PO.args]), h y (by simp [PO.args])]
  | mv x => simp only [evalOp, h x (by simp [PO.args])]
  | box x => simp only [evalOp, h x (by simp [PO.args])]
  | load n x => simp only [evalOp, h x (by simp [PO.args])]
  | fieldA n x => simp only [evalOp, h x (by simp [PO.args])]
  | field n o x => simp only [evalOp, h x (by simp [PO.args])]
  | un o x => simp only [evalOp, h x (by simp [PO.args])]
  | conv k x => simp only [evalOp, h x (by simp [PO.args])]
  | ext x i => simp only [evalOp, h x (by simp [PO.args])]
  | lenS x => simp only [evalOp, h x (by simp [PO.args])]
  | store n x y => simp only [evalOp, h x (by simp [PO.args]), h y (by simp [PO.args])]
  | indexS n x y => simp only [evalOp, h x (by simp [PO.args]), h y (by simp [PO.args])]
  | indexA l n x y => simp only [evalOp, h x (by simp [PO.args]), h y (by simp [PO.args])]
  | indexV l n s x y => simp only [evalOp, h x (by simp [PO.args]), h y (by simp [PO.args])]
  | bin o x y => simp only [evalOp, h x (by simp [PO.args]), h y (by simp [PO.args])]
  | mkS s b z x y => simp only [evalOp, h x (by simp [PO.args]), h y (by simp [PO.args])]
  | app s b x y => simp only [evalOp, h x (by simp [PO.args]), h y (by simp [PO.args])]
  | appZ s b z x y => simp only [evalOp, h x (by simp [PO.args]), h y (by simp [PO.args])]
  | capS x => simp only [evalOp, h x (by simp [PO.args])]
  | isNil g x => simp only [evalOp, h x (by simp [PO.args])]
  | clr s z x => simp only [evalOp, h x (by simp [PO.args])]
  | sl3 s x lo hi m =>
    have h1 := h x (by simp [PO.args])
    have h2 : ∀ d m, bnd env d m lo = bnd env' d m lo := fun d m => bnd_congr fun y hy => h y (by simp [PO.args, hy])
    have h3 : ∀ d n, bnd env d n (some hi) = bnd env' d n (some hi) := fun d n => bnd_congr fun y hy => h y (by simp [optArgs] at hy; simp [PO.args, hy])
    have h4 : ∀ d n, bnd env d n (some m) = bnd env' d n (some m) := fun d n => bnd_congr fun y hy => h y (by simp [optArgs] at hy; simp [PO.args, hy])
    simp only [evalOp, h1, h2, h3, h4]

/-! The way in the text's order -/
structure Tr where
  st : St
  v : AV
  rd : List Nat
  wr : Wr
  nx : Nat
def ids (wr : Wr) : List Nat := wr.map (·.1)
def Tr.foot (t : Tr) : Foot := ⟨t.rd, ids t.wr⟩
structure StepT (T : FuncId → Option IFn) (cb : Cb) (io : IOp) (t : Tr) : Prop where
  run : (wantedA t.st.env io.guard = true ∧ evalOp T cb t.st.env t.st.H t.st.H.nx io.op = some (.eff t.v t.rd t.wr t.nx)) ∨ (wantedA t.st.env io.guard = false ∧ t.v = undefA ∧ t.rd = [] ∧ t.wr = [] ∧ t.nx = t.st.H.nx)
def Tr.next (io : IOp) (t : Tr) : St := ⟨setD t.st.env io.dst t.v, wrH t.st.H t.wr t.nx⟩
theorem footOK_spec {f : Foot} {bef : Nat} : ∀ {n : Nat} {fs : List Foot}, footOK f bef n fs = true → ∀ (k : Nat) g, fs[k]? = some g → k < n ∧ (bef.testBit (n - 1 - k) = true ∨ clash g f = false)
  | n, [], h, k, g, hk => by simp at hk
  | 0, _ :: _, h, k, g, hk => by simp [footOK] at h
  | n + 1, x :: fs, h, k, g, hk => by
    simp only [footOK, Bool.and_eq_true, Bool.or_eq_true, Bool.not_eq_true'] at h
    cases k with
    | zero => simp at hk; subst hk; exact ⟨by omega, by simpa using h.1⟩
    | succ k =>
      obtain ⟨h1, h2⟩ := footOK_spec h.2 k g (by simpa using hk)
      exact ⟨by omega, by rw [show n + 1 - 1 - (k + 1) = n - 1 - k by omega]; exact h2⟩
theorem clash_nil (g : Foot) : clash g ⟨[], []⟩ = false := by simp [clash]
/-- What an evaluation of a drawing region went through. -/
theorem trace {T : FuncId → Option IFn} {cb : Cb} : ∀ {ios : List IOp} {n : Nat} {fs : List Foot} {st st' : St}, evalDraw T cb ios n fs st = some st' →
    ∃ ts : List Tr, ts.length = ios.length ∧ (∀ (i : Nat) io t, ios[i]? = some io → ts[i]? = some t → StepT T cb io t ∧ ((ts[i + 1]?).map (·.st)).getD st' = t.next io ∧
      (∀ (k : Nat) g, fs[k]? = some g → k < n → (io.bef.testBit (n - 1 - k) = true ∨ clash g t.foot = false)) ∧ (∀ (j : Nat) u, j < i → ts[j]? = some u → (io.bef.testBit (n + j) = true ∨ clash u.foot t.foot = false))) ∧
      ((ts[0]?).map (·.st)).getD st' = st
  | [], n, fs, st, st', h => by cases h; exact ⟨[], rfl, by simp, rfl⟩
  | io :: ios, n, fs, st, st', h => by
    have step : ∀ (t : Tr), t.st = st → StepT T cb io t → (∀ (k : Nat) g, fs[k]? = some g → k < n → (io.bef.testBit (n - 1 - k) = true ∨ clash g t.foot = false)) → evalDraw T cb ios (n + 1) (t.foot :: fs) (t.next io) = some st' → ∃ ts : List Tr, ts.length = (io :: ios).length ∧ (∀ (i : Nat) io' t, (io :: ios)[i]? = some io' → ts[i]? = some t → StepT T cb io' t ∧ ((ts[i + 1]?).map (·.st)).getD st' = t.next io' ∧
      (∀ (k : Nat) g, fs[k]? = some g → k < n → (io'.bef.testBit (n - 1 - k) = true ∨ clash g t.foot = false)) ∧ (∀ (j : Nat) u, j < i → ts[j]? = some u → (io'.bef.testBit (n + j) = true ∨ clash u.foot t.foot = false))) ∧
      ((ts[0]?).map (·.st)).getD st' = st := by
      intro t ht hst hf he
      obtain ⟨ts, h1, h2, h3⟩ := trace he
      refine ⟨t :: ts, by simp [h1], fun i io' u hi hu => ?_, by simpa using ht⟩
      cases i with
      | zero =>
        simp at hi hu; subst hi hu
        exact ⟨hst, by simpa using h3, hf, fun j u hj => by omega⟩
      | succ i =>
        simp at hi hu
        obtain ⟨g1, g2, g3, g4⟩ := h2 i io' u hi hu
        refine ⟨g1, by simpa using g2, fun k g hk hkn => ?_, fun j x hj hx => ?_⟩
        · have := g3 (k + 1) g (by simpa using hk) (by omega)
          rwa [show n + 1 - 1 - (k + 1) = n - 1 - k by omega] at this
        · cases j with
          | zero =>
            simp at hx; subst hx
            have := g3 0 t.foot (by simp) (by omega)
            simpa using this
          | succ j =>
            simp at hx
            have := g4 j x (by omega) hx
            rwa [show n + 1 + j = n + (j + 1) by omega] at this
    simp only [evalDraw] at h
    split at h
    · rename_i hw
      split at h
      · rename_i v rd wr nx he
        split at h
        · rename_i hfo
          exact step ⟨st, v, rd, wr, nx⟩ rfl ⟨.inl ⟨hw, he⟩⟩ (fun k g hk _ => (footOK_spec hfo k g hk).2) h
        · cases h
      · cases h
    · rename_i hw
      have hwr : wrH st.H [] st.H.nx = st.H := by simp [wrH, wrL]
      exact step ⟨st, undefA, [], [], st.H.nx⟩ rfl ⟨.inr ⟨by simpa using hw, rfl, rfl, rfl, rfl⟩⟩ (fun k g _ _ => .inr (clash_nil g)) (by simpa [Tr.next, hwr, Tr.foot, ids] using h)

/-! What stands behind a set of the operations -/
theorem setD_length (env : List AV) (d : Option Nat) (v : AV) : (setD env d v).length = env.length := by cases d <;> simp [setD]
theorem setD_get (env : List AV) (d : Option Nat) (v : AV) (t : Nat) : (setD env d v)[t]? = if d = some t ∧ t < env.length then some v else env[t]? := by
  cases d with
  | none => simp [setD]
  | some d =>
    simp only [setD, Option.some.injEq]
    by_cases h : d = t
    · subst h
      by_cases hl : d < env.length
      · rw [List.getElem?_set_self hl, if_pos ⟨rfl, hl⟩]
      · rw [if_neg (fun q => hl q.2), List.getElem?_eq_none (by simpa using hl), List.getElem?_eq_none (by simpa using hl)]
    · rw [List.getElem?_set_ne h, if_neg (fun q => h q.1)]
theorem setD_comm (env : List AV) {d e : Option Nat} (v u : AV) (h : ∀ t, d = some t → e ≠ some t) : setD (setD env d v) e u = setD (setD env e u) d v := by
  apply List.ext_getElem?
  intro t
  simp only [setD_get, setD_length]
  by_cases h1 : d = some t
  · have := h t h1
    simp [h1, this]
  · simp [h1]
def envL (st : List AV) (dst : Nat → Option Nat) (v : Nat → AV) (p : Nat → Bool) : Nat → List AV
  | 0 => st
  | n + 1 => if p n then setD (envL st dst v p n) (dst n) (v n) else envL st dst v p n
def memL (h : Mem) (wr : Nat → Wr) (p : Nat → Bool) : Nat → Mem
  | 0 => h
  | n + 1 => if p n then updH (memL h wr p n) (wr n) else memL h wr p n
theorem envL_length (st : List AV) (dst : Nat → Option Nat) (v : Nat → AV) (p : Nat → Bool) (n : Nat) : (envL st dst v p n).length = st.length := by
  induction n with
  | zero => rfl
  | succ n ih => simp only [envL]; split <;> simp [setD_length, ih]
theorem envL_congr {st : List AV} {dst : Nat → Option Nat} {v : Nat → AV} {p q : Nat → Bool} {t : Nat} (n : Nat) (h : ∀ j, j < n → dst j = some t → p j = q j) : (envL st dst v p n)[t]? = (envL st dst v q n)[t]? := by
  induction n with
  | zero => rfl
  | succ n ih =>
    have ih := ih fun j hj => h j (by omega)
    simp only [envL]
    by_cases hd : dst n = some t
    · rw [h n (by omega) hd]
      split
      · simp only [setD_get, envL_length, ih]
      · exact ih
    · split <;> split <;> (try simp only [setD_get, hd, false_and, if_false]) <;> exact ih
theorem envL_add {st : List AV} {dst : Nat → Option Nat} {v : Nat → AV} {p : Nat → Bool} {i : Nat} (hp : p i = false) : ∀ n, (∀ j, i < j → j < n → p j = true → ∀ t, dst i = some t → dst j ≠ some t) → envL st dst v (fun j => if j = i then true else p j) n = if i < n then setD (envL st dst v p n) (dst i) (v i) else envL st dst v p n
  | 0, _ => by simp [envL]
  | n + 1, h => by
    have ih := envL_add (st := st) (dst := dst) (v := v) hp n fun j hj hn => h j hj (by omega)
    simp only [envL]
    rw [ih]
    by_cases h1 : n = i
    · subst h1
      simp [hp]
    · simp only [h1, if_false]
      by_cases h2 : i < n
      · rw [if_pos h2, if_pos (show i < n + 1 by omega)]
        by_cases h3 : p n = true
        · rw [if_pos h3, if_pos h3, setD_comm _ _ _ (h n h2 (by omega) h3)]
        · rw [if_neg h3, if_neg h3]
      · rw [if_neg h2, if_neg (show ¬ i < n + 1 by omega)]
def lookW : Wr → Nat → Option (Option Blk)
  | [], _ => none
  | p :: wr, id => match lookW wr id with
    | some b => some b
    | none => if id = p.1 then some p.2 else none
theorem updH_look : ∀ (wr : Wr) (h : Mem) (id : Nat), updH h wr id = match lookW wr id with | some b => b | none => h id
  | [], h, id => rfl
  | p :: wr, h, id => by
    have : updH h (p :: wr) = updH (fun i => if i = p.1 then p.2 else h i) wr := rfl
    rw [this, updH_look wr]
    simp only [lookW]
    cases lookW wr id with
    | some b => rfl
    | none => by_cases h1 : id = p.1 <;> simp [h1]
theorem lookW_none : ∀ {wr : Wr} {id : Nat}, id ∉ ids wr → lookW wr id = none
  | [], id, _ => rfl
  | p :: wr, id, h => by
    simp only [ids, List.map_cons, List.mem_cons, not_or] at h
    simp only [lookW, lookW_none (wr := wr) h.2, h.1, if_false]
theorem updH_comm {h : Mem} {a b : Wr} (hd : ∀ id, id ∈ ids a → id ∉ ids b) : updH (updH h a) b = updH (updH h b) a := by
  funext id
  simp only [updH_look]
  by_cases h1 : id ∈ ids a
  · rw [lookW_none (hd id h1)]
  · rw [lookW_none h1]
theorem memL_congr {h : Mem} {wr : Nat → Wr} {p q : Nat → Bool} {id : Nat} (n : Nat) (hh : ∀ j, j < n → id ∈ ids (wr j) → p j = q j) : memL h wr p n id = memL h wr q n id := by
  induction n with
  | zero => rfl
  | succ n ih =>
    have ih := ih fun j hj => hh j (by omega)
    simp only [memL]
    by_cases hd : id ∈ ids (wr n)
    · rw [hh n (by omega) hd]
      split
      · simp only [updH_look, ih]
      · exact ih
    · have : ∀ m : Mem, updH m (wr n) id = m id := fun m => by rw [updH_look, lookW_none hd]
      split <;> split <;> (try simp only [this]) <;> exact ih
theorem memL_add {h : Mem} {wr : Nat → Wr} {p : Nat → Bool} {i : Nat} (hp : p i = false) : ∀ n, (∀ j, i < j → j < n → p j = true → ∀ id, id ∈ ids (wr i) → id ∉ ids (wr j)) → memL h wr (fun j => if j = i then true else p j) n = if i < n then updH (memL h wr p n) (wr i) else memL h wr p n
  | 0, _ => by simp [memL]
  | n + 1, hh => by
    have ih := memL_add (h := h) (wr := wr) hp n fun j hj hn => hh j hj (by omega)
    simp only [memL]
    rw [ih]
    by_cases h1 : n = i
    · subst h1
      simp [hp]
    · simp only [h1, if_false]
      by_cases h2 : i < n
      · rw [if_pos h2, if_pos (show i < n + 1 by omega)]
        by_cases h3 : p n = true
        · rw [if_pos h3, if_pos h3, updH_comm (hh n h2 (by omega) h3)]
        · rw [if_neg h3, if_neg h3]
      · rw [if_neg h2, if_neg (show ¬ i < n + 1 by omega)]
end Go.V
/- Soundness: regions that draw their order. -/
set_option linter.unusedVariables false
set_option linter.unusedSimpArgs false
namespace Go.V
open Go.RowKit
variable {P : Program}

/-! What comes before what -/
theorem edges_fold {acc : Array Nat} {j : Nat} : ∀ (es : List Edge) (s : Nat), (es.foldl (fun s e => if Region.binds .any e then s ||| 2 ^ e.on ||| acc.getD e.on 0 else s) s).testBit j = true → s.testBit j = true ∨ ∃ e ∈ es, Region.binds .any e = true ∧ (e.on = j ∨ (acc.getD e.on 0).testBit j = true)
  | [], s, h => .inl h
  | e :: es, s, h => by
    simp only [List.foldl_cons] at h
    rcases edges_fold es _ h with h1 | ⟨e', h1, h2⟩
    · split at h1
      · rename_i hb
        simp only [Nat.testBit_or, Bool.or_eq_true, Nat.testBit_two_pow, decide_eq_true_eq] at h1
        rcases h1 with (h1 | h1) | h1
        · exact .inl h1
        · exact .inr ⟨e, by simp, hb, .inl h1⟩
        · exact .inr ⟨e, by simp, hb, .inr h1⟩
      · exact .inl h1
    · exact .inr ⟨e', by simp [h1], h2⟩
theorem before_fold : ∀ (l : List Oper) (acc : Array Nat), (l.foldl (fun acc o => acc.push (o.after.foldl (fun s e => if Region.binds .any e then s ||| 2 ^ e.on ||| acc.getD e.on 0 else s) 0)) acc).size = acc.size + l.length ∧
    (∀ k, k < acc.size → (l.foldl (fun acc o => acc.push (o.after.foldl (fun s e => if Region.binds .any e then s ||| 2 ^ e.on ||| acc.getD e.on 0 else s) 0)) acc).getD k 0 = acc.getD k 0) ∧
    ∀ (k : Nat) o, l[k]? = some o → ∀ j, ((l.foldl (fun acc o => acc.push (o.after.foldl (fun s e => if Region.binds .any e then s ||| 2 ^ e.on ||| acc.getD e.on 0 else s) 0)) acc).getD (acc.size + k) 0).testBit j = true →
      ∃ e ∈ o.after, Region.binds .any e = true ∧ (e.on = j ∨ (e.on < acc.size + k ∧ ((l.foldl (fun acc o => acc.push (o.after.foldl (fun s e => if Region.binds .any e then s ||| 2 ^ e.on ||| acc.getD e.on 0 else s) 0)) acc).getD e.on 0).testBit j = true))
  | [], acc => ⟨by simp, fun _ _ => rfl, by simp⟩
  | o :: l, acc => by
    obtain ⟨h1, h2, h3⟩ := before_fold l (acc.push (o.after.foldl (fun s e => if Region.binds .any e then s ||| 2 ^ e.on ||| acc.getD e.on 0 else s) 0))
    simp only [List.foldl_cons]
    refine ⟨by rw [h1]; simp; omega, fun k hk => ?_, fun k o' hk j hj => ?_⟩
    · rw [h2 k (by simp; omega)]
      simp only [Array.getD_eq_getD_getElem?]
      rw [Array.getElem?_push, if_neg (by omega)]
    · cases k with
      | zero =>
        simp at hk; subst hk
        rw [Nat.add_zero, h2 acc.size (by simp)] at hj
        have : (acc.push (o.after.foldl (fun s e => if Region.binds .any e then s ||| 2 ^ e.on ||| acc.getD e.on 0 else s) 0)).getD acc.size 0 = o.after.foldl (fun s e => if Region.binds .any e then s ||| 2 ^ e.on ||| acc.getD e.on 0 else s) 0 := by
          simp only [Array.getD_eq_getD_getElem?]; rw [Array.getElem?_push, if_pos rfl]; rfl
        rw [this, ← Array.foldl_toList] at hj
        rcases edges_fold _ _ hj with h | ⟨e, q1, q2, q3⟩
        · simp at h
        · refine ⟨e, by simpa using q1, q2, ?_⟩
          rcases q3 with q3 | q3
          · exact .inl q3
          · right
            have hlt : e.on < acc.size := by
              rcases Nat.lt_or_ge e.on acc.size with h' | h'
              · exact h'
              · simp only [Array.getD_eq_getD_getElem?] at q3
                rw [Array.getElem?_eq_none h'] at q3; simp at q3
            refine ⟨by omega, ?_⟩
            rw [h2 e.on (by simp; omega)]
            simp only [Array.getD_eq_getD_getElem?] at q3 ⊢
            rw [Array.getElem?_push, if_neg (by omega)]; exact q3
      | succ k =>
        simp at hk
        have hs : (acc.push (o.after.foldl (fun s e => if Region.binds .any e then s ||| 2 ^ e.on ||| acc.getD e.on 0 else s) 0)).size + k = acc.size + (k + 1) := by simp; omega
        obtain ⟨e, q1, q2, q3⟩ := h3 k o' hk j (by rw [hs]; exact hj)
        rw [hs] at q3
        exact ⟨e, q1, q2, q3⟩
theorem before_spec {ops : Array Oper} {i : Nat} {o : Oper} (ho : ops[i]? = some o) {j : Nat} (h : ((Region.before ops).getD i 0).testBit j = true) : ∃ e ∈ o.after, Region.binds .any e = true ∧ (e.on = j ∨ (e.on < i ∧ ((Region.before ops).getD e.on 0).testBit j = true)) := by
  have := (before_fold ops.toList #[]).2.2 i o (by simpa using ho) j
  unfold Region.before at h ⊢
  simp only [← Array.foldl_toList] at h ⊢
  simp only [← Array.foldl_toList] at this
  simpa using this (by simpa using h)
/-- Who has all that comes just before has all that comes before. -/
theorem closed_before {ops : Array Oper} {listed : Array Bool} (hcl : ∀ i o, listed.getD i false = true → ops[i]? = some o → ∀ e ∈ o.after, Region.binds .any e = true → listed.getD e.on false = true) :
    ∀ (i : Nat) o, ops[i]? = some o → (∀ e ∈ o.after, Region.binds .any e = true → listed.getD e.on false = true) → ∀ j, ((Region.before ops).getD i 0).testBit j = true → listed.getD j false = true := by
  intro i
  induction i using Nat.strongRecOn with
  | _ i ih =>
    intro o ho hall j hj
    obtain ⟨e, q1, q2, q3⟩ := before_spec ho hj
    rcases q3 with q3 | ⟨q3, q4⟩
    · exact q3 ▸ hall e q1 q2
    · have hl := hall e q1 q2
      cases he : ops[e.on]? with
      | none =>
        -- a number without an operation: nothing comes before it
        have : (Region.before ops).getD e.on 0 = 0 := by
          have hs := (before_fold ops.toList #[]).1
          simp only [Array.getD_eq_getD_getElem?]
          rw [Array.getElem?_eq_none]
          · rfl
          · have h1 : (Region.before ops).size = ops.size := by unfold Region.before; rw [← Array.foldl_toList]; simpa using hs
            rw [h1]; exact Array.getElem?_eq_none_iff.1 he
        rw [this] at q4; simp at q4
      | some o' => exact ih e.on q3 o' he (hcl e.on o' hl he) j q4

/-! Reading the code -/
theorem cOpers_get {P : Program} {ops : Array Oper} : ∀ {l : List Oper} {k : Nat} {ios : List IOp}, cOpers P ops l k = some ios → ios.length = l.length ∧ ∀ (i : Nat) o io, l[i]? = some o → ios[i]? = some io → cOper P ops ((Region.before ops).getD (k + i) 0) o = some io
  | [], k, ios, h => by cases h; exact ⟨rfl, by simp⟩
  | o :: l, k, ios, h => by
    simp only [cOpers] at h
    split at h
    · rename_i a as h1 h2
      cases h
      obtain ⟨g1, g2⟩ := cOpers_get h2
      refine ⟨by simp [g1], fun i o' io hi hio => ?_⟩
      cases i with
      | zero => simp at hi hio; subst hi hio; exact h1
      | succ i =>
        simp at hi hio
        have := g2 i o' io hi hio
        rwa [show k + 1 + i = k + (i + 1) by omega] at this
    · cases h
theorem slots_spec {ops : Array Oper} (h : slotsOK ops = true) : (∀ (i j : Nat) oi oj, i < j → ops[i]? = some oi → ops[j]? = some oj → ((Region.before ops).getD j 0).testBit i = true ∨ oi.apart ops oj = true) ∧ ∀ (i : Nat) o, ops[i]? = some o → ∀ e ∈ o.after, Region.binds .any e = true → e.on < i := by
  unfold slotsOK at h
  simp only [Bool.and_eq_true, List.all_eq_true] at h
  obtain ⟨h1, h2⟩ := h
  have mem : ∀ (i : Nat) o, ops[i]? = some o → (o, i) ∈ ops.toList.zipIdx := fun i o ho => by
    rw [List.mem_zipIdx_iff_getElem?]; simpa using ho
  refine ⟨fun i j oi oj hij hi hj => ?_, fun i o ho e he hb => ?_⟩
  · have := h1 (oj, j) (mem j oj hj) (oi, i) (mem i oi hi)
    simp only [hij, decide_true, Bool.not_true, Bool.false_or, Bool.or_eq_true] at this
    exact this
  · have := h2 (o, i) (mem i o ho) e (by simpa using he)
    simpa [hb] using this
theorem uses_spec {ops : Array Oper} : ∀ {os : List Oper} {ios : List IOp}, usesOK ops os ios = true → ∀ (i : Nat) o io, os[i]? = some o → ios[i]? = some io → ∀ n, Arg.t n ∈ io.op.args → n ∈ o.looksAt ops
  | [], ios, h, i, o, io, hi, hio, n, hn => by simp at hi
  | o' :: os, [], h, i, o, io, hi, hio, n, hn => by simp at hio
  | o' :: os, io' :: ios, h, i, o, io, hi, hio, n, hn => by
    simp only [usesOK, Bool.and_eq_true, List.all_eq_true] at h
    cases i with
    | zero =>
      simp at hi hio; subst hi hio
      have := h.1 _ hn
      simpa using this
    | succ i => simp at hi hio; exact uses_spec h.2 i o io hi hio n hn
theorem apart_dst {ops : Array Oper} {x y : Oper} (h : x.apart ops y = true) : (∀ d, x.dst = some d → d ∉ y.looksAt ops) ∧ (∀ d, x.dst = some d → y.dst ≠ some d) ∧ (∀ d, y.dst = some d → d ∉ x.looksAt ops) := Oper.apart_spec h
theorem clash_false {a b : Foot} (h : clash a b = false) : (∀ id ∈ a.wr, id ∉ b.rd ∧ id ∉ b.wr) ∧ ∀ id ∈ b.wr, id ∉ a.rd := by
  simp only [clash, Bool.or_eq_false_iff, List.any_eq_false, Bool.or_eq_true, not_or, List.contains_iff_mem, Bool.not_eq_true] at h
  refine ⟨fun id hid => ?_, fun id hid => ?_⟩
  · have := h.1 id hid
    simpa using this
  · have := h.2 id hid
    simpa using this
/-- How many are left. -/
def leftN (n : Nat) (listed : Array Bool) : Nat := ((List.range n).filter fun i => !listed.getD i true).length
theorem filter_set {l : List Nat} {i : Nat} {p p' : Nat → Bool} (hp : p i = true) (hp' : p' i = false) (he : ∀ j, j ≠ i → p' j = p j) (hnd : l.Nodup) : (i ∈ l → (l.filter p').length + 1 = (l.filter p).length) ∧ (i ∉ l → (l.filter p').length = (l.filter p).length) := by
  induction l with
  | nil => simp
  | cons x l ih =>
    have hnd' := List.nodup_cons.1 hnd
    obtain ⟨ih1, ih2⟩ := ih hnd'.2
    refine ⟨fun hm => ?_, fun hm => ?_⟩
    · simp only [List.mem_cons] at hm
      by_cases hx : x = i
      · subst hx
        rw [List.filter_cons_of_pos hp, List.filter_cons_of_neg (by simp [hp'])]
        rw [ih2 hnd'.1]; rfl
      · have hm' := hm.resolve_left (Ne.symm hx)
        have := ih1 hm'
        by_cases hpx : p x = true
        · rw [List.filter_cons_of_pos hpx, List.filter_cons_of_pos (by rw [he x hx]; exact hpx)]; simp; omega
        · rw [List.filter_cons_of_neg hpx, List.filter_cons_of_neg (by rw [he x hx]; exact hpx)]; exact this
    · simp only [List.mem_cons, not_or] at hm
      have := ih2 hm.2
      by_cases hpx : p x = true
      · rw [List.filter_cons_of_pos hpx, List.filter_cons_of_pos (by rw [he x (Ne.symm hm.1)]; exact hpx)]; simp [this]
      · rw [List.filter_cons_of_neg hpx, List.filter_cons_of_neg (by rw [he x (Ne.symm hm.1)]; exact hpx)]; exact this
theorem leftN_set {n i : Nat} {listed : Array Bool} (hi : i < n) (hs : listed.size = n) (h : listed.getD i true = false) : leftN n (listed.setIfInBounds i true) + 1 = leftN n listed := by
  refine (filter_set (i := i) (by simp [h]) ?_ (fun j hj => ?_) List.nodup_range).1 (by simpa using hi)
  · simp only [Array.getD_eq_getD_getElem?]
    rw [Array.getElem?_setIfInBounds_self_of_lt (by omega)]; rfl
  · simp only [Array.getD_eq_getD_getElem?]
    rw [Array.getElem?_setIfInBounds_ne (Ne.symm hj)]
end Go.V
