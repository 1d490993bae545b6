/- Soundness: operands, memory, the operations that call nothing. -/
import Derived.Test.YtemlkeknpjbcnaaVb
set_option linter.unusedVariables false
set_option linter.unusedSimpArgs false
namespace Go.V
open Go.RowKit
variable {P : Program}

/-! Lists of cells -/
theorem Reps.size {w : World} {S : Nat → Prop} {φ : Phi} {cs : List AV} {vs : Array Value} (h : Reps w S φ cs vs) : vs.size = cs.length := h.1
theorem Reps.get {w : World} {S : Nat → Prop} {φ : Phi} {cs : List AV} {vs : Array Value} (h : Reps w S φ cs vs) {i : Nat} {c : AV} (hc : cs[i]? = some c) : ∃ v, vs[i]? = some v ∧ Rep w S φ c v := by
  have hi : i < cs.length := by
    rcases Nat.lt_or_ge i cs.length with h' | h'
    · exact h'
    · rw [List.getElem?_eq_none h'] at hc; cases hc
  have hv : i < vs.size := by rw [h.1]; exact hi
  exact ⟨vs[i], by simp [hv], h.2 i c _ hc (by simp [hv])⟩
theorem undef_rep {w : World} {S : Nat → Prop} {φ : Phi} : Rep w S φ undefA undef := .tup rfl (by intro i c v h; simp at h)
theorem Reps.getD {w : World} {S : Nat → Prop} {φ : Phi} {env : List AV} {vs : Array Value} (h : Reps w S φ env vs) (n : Nat) : Rep w S φ (env.getD n undefA) (vs.getD n undef) := by
  by_cases hn : n < env.length
  · obtain ⟨v, hv, hr⟩ := h.get (i := n) (c := env[n]) (by simp [hn])
    have e1 : env.getD n undefA = env[n] := by simp [List.getD, hn]
    have e2 : vs.getD n undef = v := by rw [Array.getD_eq_getD_getElem?, hv]; rfl
    rw [e1, e2]; exact hr
  · have e1 : env.getD n undefA = undefA := by simp [List.getD, List.getElem?_eq_none (Nat.le_of_not_lt hn)]
    have e2 : vs.getD n undef = undef := by
      have : vs[n]? = none := Array.getElem?_eq_none (by rw [h.1]; omega)
      rw [Array.getD_eq_getD_getElem?, this]; rfl
    rw [e1, e2]; exact undef_rep
theorem reps_nil {w : World} {S : Nat → Prop} {φ : Phi} : Reps w S φ [] #[] := ⟨rfl, by intro i c v h; simp at h⟩
theorem reps_list {w : World} {S : Nat → Prop} {φ : Phi} : ∀ {cs : List AV} {vs : List Value}, cs.length = vs.length → (∀ (i : Nat) c v, cs[i]? = some c → vs[i]? = some v → Rep w S φ c v) → Reps w S φ cs vs.toArray :=
  fun hl h => ⟨by simp [hl], fun i c v h1 h2 => h i c v h1 (by simpa using h2)⟩
theorem Reps.cons {w : World} {S : Nat → Prop} {φ : Phi} {c : AV} {v : Value} {cs : List AV} {vs : List Value} (h : Rep w S φ c v) (hs : Reps w S φ cs vs.toArray) : Reps w S φ (c :: cs) (v :: vs).toArray := by
  refine ⟨by have := hs.1; simp at this ⊢; exact this, fun i c' v' h1 h2 => ?_⟩
  cases i with
  | zero => simp at h1 h2; subst h1 h2; exact h
  | succ i => simp at h1 h2; exact hs.2 i c' v' h1 (by simpa using h2)
theorem Reps.append {w : World} {S : Nat → Prop} {φ : Phi} {a b : List AV} {x y : Array Value} (h : Reps w S φ a x) (k : Reps w S φ b y) : Reps w S φ (a ++ b) (x ++ y) := by
  refine ⟨by simp [h.1, k.1], fun i c v h1 h2 => ?_⟩
  by_cases hi : i < a.length
  · rw [List.getElem?_append_left hi] at h1
    rw [Array.getElem?_append_left (by rw [h.1]; exact hi)] at h2
    exact h.2 i c v h1 h2
  · rw [List.getElem?_append_right (by omega)] at h1
    rw [Array.getElem?_append_right (by rw [h.1]; omega), h.1] at h2
    exact k.2 _ c v h1 h2
theorem Reps.toList {w : World} {S : Nat → Prop} {φ : Phi} {a : List AV} {x : Array Value} (h : Reps w S φ a x) {i : Nat} {c : AV} {v : Value} (h1 : a[i]? = some c) (h2 : x.toList[i]? = some v) : Rep w S φ c v := h.2 i c v h1 (by simpa using h2)

/-! What a value is, by the evaluator's -/
theorem Rep.inv_int {w : World} {S : Nat → Prop} {φ : Phi} {k : IntKind} {n : Int} {v : Value} (h : Rep w S φ (.int k n) v) : v = .int k n := by cases h; rfl
theorem Rep.inv_bool {w : World} {S : Nat → Prop} {φ : Phi} {b : Bool} {v : Value} (h : Rep w S φ (.bool b) v) : v = .bool b := by cases h; rfl
theorem Rep.inv_agg {w : World} {S : Nat → Prop} {φ : Phi} {cs : List AV} {v : Value} (h : Rep w S φ (.agg cs) v) : ∃ vs, v = .agg vs ∧ Reps w S φ cs vs := by cases h with | agg hl h => exact ⟨_, rfl, hl, h⟩
theorem Rep.inv_tup {w : World} {S : Nat → Prop} {φ : Phi} {cs : List AV} {v : Value} (h : Rep w S φ (.tup cs) v) : ∃ vs, v = .tuple vs ∧ Reps w S φ cs vs := by cases h with | tup hl h => exact ⟨_, rfl, hl, h⟩
theorem Rep.inv_ptr {w : World} {S : Nat → Prop} {φ : Phi} {id i j : Nat} {v : Value} (h : Rep w S φ (.ptr id i j) v) : ∃ loc, φ id = some loc ∧ v = .pointer (some ⟨loc.blk, loc.base + i * loc.sz + j, none⟩) := by cases h with | ptr h => exact ⟨_, h, rfl⟩
/-- A slice's or a pointer's memory that nobody writes. -/
def LstAt (w : World) (S : Nat → Prop) (sz : Nat) (xs : List (List AV)) (b base : Nat) : Prop :=
  (∀ x ∈ xs, x.length = sz ∧ x.all AV.one = true) ∧ S b ∧ ∀ (i j : Nat) x c, xs[i]? = some x → x[j]? = some c → ∃ v, w.cell? ⟨b, base + i * sz + j, none⟩ = some v ∧ Rep w S (fun _ => none) c v
theorem Rep.inv_ptrL {w : World} {S : Nat → Prop} {φ : Phi} {sz i j : Nat} {xs : List (List AV)} {v : Value} (h : Rep w S φ (.ptrL sz xs i j) v) : ∃ b base, v = .pointer (some ⟨b, base + i * sz + j, none⟩) ∧ LstAt w S sz xs b base := by
  cases h with
  | ptrL vals hs hS hc hr => exact ⟨_, _, rfl, hs, hS, fun i j x c h1 h2 => ⟨_, hc i j x c h1 h2, hr i j x c h1 h2⟩⟩
theorem Rep.inv_lst {w : World} {S : Nat → Prop} {φ : Phi} {sz : Nat} {xs : List (List AV)} {v : Value} (h : Rep w S φ (.lst sz xs) v) : ∃ a cap, v = .slice a xs.length cap ∧ xs.length ≤ cap ∧ (xs = [] ∨ ∃ b base, a = some ⟨b, base, none⟩ ∧ LstAt w S sz xs b base) := by
  cases h with
  | lst vals hs hS hl hc hr => exact ⟨_, _, rfl, hl, .inr ⟨_, _, rfl, hs, hS, fun i j x c h1 h2 => ⟨_, hc i j x c h1 h2, hr i j x c h1 h2⟩⟩⟩
  | lstNil => exact ⟨_, _, rfl, Nat.zero_le _, .inl rfl⟩
/-- The cells of an immutable slice, as a function. -/
theorem LstAt.vals {w : World} {S : Nat → Prop} {sz : Nat} {xs : List (List AV)} {b base : Nat} (h : LstAt w S sz xs b base) : ∃ vals : Nat → Nat → Value,
    (∀ (i j : Nat) x c, xs[i]? = some x → x[j]? = some c → w.cell? ⟨b, base + i * sz + j, none⟩ = some (vals i j)) ∧
    (∀ (i j : Nat) x c, xs[i]? = some x → x[j]? = some c → Rep w S (fun _ => none) c (vals i j)) := by
  refine ⟨fun i j => (w.cell? ⟨b, base + i * sz + j, none⟩).getD undef, fun i j x c h1 h2 => ?_, fun i j x c h1 h2 => ?_⟩
  · obtain ⟨v, h3, h4⟩ := h.2.2 i j x c h1 h2; simp [h3]
  · obtain ⟨v, h3, h4⟩ := h.2.2 i j x c h1 h2; simpa [h3] using h4
theorem LstAt.lst {w : World} {S : Nat → Prop} {φ : Phi} {sz cap : Nat} {xs : List (List AV)} {b base : Nat} (h : LstAt w S sz xs b base) (hl : xs.length ≤ cap) : Rep w S φ (.lst sz xs) (.slice (some ⟨b, base, none⟩) xs.length cap) := by
  obtain ⟨vals, h1, h2⟩ := h.vals
  exact .lst vals h.1 h.2.1 hl h1 h2
theorem LstAt.ptrL {w : World} {S : Nat → Prop} {φ : Phi} {sz i j : Nat} {xs : List (List AV)} {b base : Nat} (h : LstAt w S sz xs b base) : Rep w S φ (.ptrL sz xs i j) (.pointer (some ⟨b, base + i * sz + j, none⟩)) := by
  obtain ⟨vals, h1, h2⟩ := h.vals
  exact .ptrL vals h.1 h.2.1 h1 h2

/-! Constants -/
theorem Rep.inv_emp {w : World} {S : Nat → Prop} {φ : Phi} {z : Bool} {v : Value} (h : Rep w S φ (.emp z) v) : ∃ a cap, v = .slice (some a) 0 cap ∧ (z = true → cap = 0) := by cases h with | emp h => exact ⟨_, _, rfl, h⟩
theorem ofValue1_rep {w : World} {S : Nat → Prop} {φ : Phi} : ∀ {v : Value} {a : AV}, ofValue1 v = some a → Rep w S φ a v ∧ a.one = true
  | .bool b, _, h => by cases h; exact ⟨.bool, rfl⟩
  | .int k n, _, h => by cases h; exact ⟨.int, rfl⟩
  | .string s, _, h => by cases h; exact ⟨.str, rfl⟩
  | .pointer none, _, h => by cases h; exact ⟨.nilP, rfl⟩
  | .slice none 0 0, _, h => by cases h; exact ⟨.nilS, rfl⟩
  | .nilFunc, _, h => by cases h; exact ⟨.nilF, rfl⟩
  | .slice none (n + 1) c, _, h => by simp [ofValue1] at h
  | .slice none 0 (c + 1), _, h => by simp [ofValue1] at h
  | .slice (some _) _ _, _, h => by simp [ofValue1] at h
  | .pointer (some _), _, h => by simp [ofValue1] at h
  | .float .., _, h | .complex .., _, h | .map _, _, h | .chan _, _, h | .func .., _, h | .iface .., _, h | .nilIface, _, h | .agg _, _, h | .tuple _, _, h => by simp [ofValue1] at h
theorem ofCells_rep {w : World} {S : Nat → Prop} {φ : Phi} : ∀ {vs : List Value} {as : List AV}, ofCells vs = some as → Reps w S φ as vs.toArray ∧ ∀ a ∈ as, a.one = true
  | [], _, h => by cases h; exact ⟨reps_nil, by simp⟩
  | v :: vs, as, h => by
    simp only [ofCells] at h
    split at h
    · rename_i a as' h1 h2
      cases h
      obtain ⟨r1, o1⟩ := ofValue1_rep (w := w) (S := S) (φ := φ) h1
      obtain ⟨r2, o2⟩ := ofCells_rep (w := w) (S := S) (φ := φ) h2
      exact ⟨Reps.cons r1 r2, by simp only [List.mem_cons]; intro b hb; exact hb.elim (fun e => e ▸ o1) (fun e => o2 _ e)⟩
    · cases h
theorem ofValue_rep {w : World} {S : Nat → Prop} {φ : Phi} {v : Value} {a : AV} (h : ofValue v = some a) : Rep w S φ a v := by
  unfold ofValue at h
  split at h
  · rename_i cs
    cases h1 : ofCells cs.toList with
    | none => rw [h1] at h; cases h
    | some as =>
      rw [h1] at h; cases h
      have := (ofCells_rep (w := w) (S := S) (φ := φ) h1).1
      exact .agg (by simpa using this.1) (by simpa using this.2)
  · exact (ofValue1_rep h).1

/-! Operands -/
theorem arg_rep {w : World} {S : Nat → Prop} {φ : Phi} {env : List AV} {a : Act} (he : Reps w S φ env a.tmps) {x : Operand} {ar : Arg} (h : cOpd x = some ar) : Rep w S φ (arg env ar) (a.eval x) := by
  cases x with
  | tmp t => cases h; exact he.getD t
  | const v =>
    simp only [cOpd] at h
    cases h1 : ofValue v with
    | none => rw [h1] at h; cases h
    | some c => rw [h1] at h; cases h; exact ofValue_rep h1
  | func f => cases h; exact .fn rfl (by intro i c v h; simp at h) rfl (by intro i c v h; simp at h)
  | global g => cases h
theorem args_rep {w : World} {S : Nat → Prop} {φ : Phi} {env : List AV} {a : Act} (he : Reps w S φ env a.tmps) : ∀ {xs : List Operand} {ars : List Arg}, cOpds xs = some ars → Reps w S φ (ars.map (arg env)) (xs.map a.eval).toArray
  | [], _, h => by cases h; exact reps_nil
  | x :: xs, ars, h => by
    simp only [cOpds] at h
    split at h
    · rename_i b bs h1 h2
      cases h
      exact Reps.cons (arg_rep he h1) (args_rep he h2)
    · cases h
/-- A value's cells. -/
theorem Rep.notAgg {w : World} {S : Nat → Prop} {φ : Phi} {x : AV} {v : Value} (h : Rep w S φ x v) (hx : ∀ cs, x ≠ .agg cs) : ∀ vs, v ≠ .agg vs := by
  cases h <;> intro vs e <;> first | (cases e; done) | (exact hx _ rfl)
theorem reps_one {w : World} {S : Nat → Prop} {φ : Phi} {x : AV} {v : Value} (h : Rep w S φ x v) : Reps w S φ [x] #[v] := Reps.cons (vs := []) h reps_nil
theorem cells_rep {w : World} {S : Nat → Prop} {φ : Phi} {x : AV} {v : Value} (h : Rep w S φ x v) : Reps w S φ x.cells v.cells := by
  by_cases hx : ∃ cs, x = .agg cs
  · obtain ⟨cs, rfl⟩ := hx
    obtain ⟨vs, rfl, hr⟩ := h.inv_agg
    exact hr
  · have hx' : ∀ cs, x ≠ .agg cs := fun cs e => hx ⟨cs, e⟩
    have hv := h.notAgg hx'
    have e1 : x.cells = [x] := by cases x <;> first | rfl | exact absurd rfl (hx' _)
    have e2 : v.cells = #[v] := by cases v <;> first | rfl | exact absurd rfl (hv _)
    rw [e1, e2]; exact reps_one h
/-- What fills one cell fills one cell in the model. -/
theorem Rep.oneCell {w : World} {S : Nat → Prop} {φ : Phi} {x : AV} {v : Value} (h : Rep w S φ x v) (h1 : x.one = true) : v.oneCell' = true := by
  cases h <;> first | rfl | (simp [AV.one] at h1)
theorem reps_oneCell {w : World} {S : Nat → Prop} {φ : Phi} {cs : List AV} {vs : Array Value} (h : Reps w S φ cs vs) (h1 : cs.all AV.one = true) : ∀ v ∈ vs.toList, v.oneCell' = true := by
  intro v hv
  obtain ⟨i, hi, rfl⟩ := List.getElem_of_mem hv
  have hi' : i < cs.length := by have := h.1; simp at hi; omega
  have := h.2 i cs[i] vs.toList[i] (by simp [hi']) (by simp)
  exact this.oneCell (by rw [List.all_eq_true] at h1; exact h1 _ (List.getElem_mem hi'))

/-! What an operation leaves -/
def updH (h : Mem) (wr : Wr) : Mem := wr.foldl (fun h p => fun id => if id = p.1 then p.2 else h id) h
theorem updH_nil (h : Mem) : updH h [] = h := rfl
theorem updH_one (h : Mem) (id : Nat) (b : Option Blk) : updH h [(id, b)] = fun i => if i = id then b else h i := rfl
structure Done (P : Program) (S : Nat → Prop) (φ : Phi) (h : Mem) (w : World) (v : AV) (wr : Wr) (nx nx' : Nat) (S' : Nat → Prop) (φ' : Phi) (vv : Value) (w' : World) : Prop where
  adv : Adv S φ h w S' φ' (updH h wr) w'
  sim : Sim P S' φ' (updH h wr) w'
  rep : Rep w' S' φ' v vv
  only : ∀ id, (id < nx ∨ nx' ≤ id) → φ' id = φ id
def Ends (P : Program) (S : Nat → Prop) (φ : Phi) (h : Mem) (w : World) (v : AV) (wr : Wr) (nx nx' : Nat) (vv : Value) (w' : World) : Prop := ∃ S' φ', Done P S φ h w v wr nx nx' S' φ' vv w'
theorem ends_pure {S : Nat → Prop} {φ : Phi} {h : Mem} {w : World} {v : AV} {nx : Nat} {vv : Value} (hs : Sim P S φ h w) (hr : Rep w S φ v vv) : Ends P S φ h w v [] nx nx vv w :=
  ⟨S, φ, Adv.refl _ _ _ _, hs, hr, fun _ _ => rfl⟩

/-- A new block. -/
theorem shape_alloc {w : World} {o : Obj} {b : Nat} {e : TypeId} {n : Nat} (h : w.shape? b = some (e, n)) : (w.alloc o).shape? b = some (e, n) := by
  unfold World.shape? at *
  cases hb : w.heap[b]? with
  | none => rw [hb] at h; cases h
  | some x =>
    have hlt := (Array.getElem?_eq_some_iff.1 hb).1
    rw [Below.heap_alloc w o b hlt, hb]; rw [hb] at h; exact h
theorem new_ends {S : Nat → Prop} {φ : Phi} {h : Mem} {w : World} {nx sz : Nat} {xs : List (List AV)} {c : Array Value} {e : TypeId} (hs : Sim P S φ h w) (hn : φ nx = none)
    (hl : ∀ x ∈ xs, x.length = sz) (hsz : xs.length * sz ≤ c.size) (h1 : ∀ x ∈ xs, x.all AV.one = true)
    (hc : ∀ (i j : Nat) x a, xs[i]? = some x → x[j]? = some a → ∃ v, c[i * sz + j]? = some v ∧ Rep w S φ a v) :
    let φ' : Phi := fun id => if id = nx then some ⟨w.heap.size, 0, sz⟩ else φ id
    let h' : Mem := fun id => if id = nx then some (.row sz xs) else h id
    Adv S φ h w S φ' h' (w.alloc (.cells c e)) ∧ Sim P S φ' h' (w.alloc (.cells c e)) := by
  have hh : h nx = none := by
    cases hb : h nx with
    | none => rfl
    | some b => obtain ⟨loc, e1, -⟩ := hs.blk nx b hb; rw [hn] at e1; cases e1
  have hadv : Adv S φ h w S (fun id => if id = nx then some ⟨w.heap.size, 0, sz⟩ else φ id) (fun id => if id = nx then some (.row sz xs) else h id) (w.alloc (.cells c e)) := by
    refine ⟨fun id loc e1 => ?_, fun _ e => e, fun _ e => .inl e, rfl, rfl, rfl, by simp, fun b hb _ => Below.heap_alloc w _ b hb, ?_, fun b e n hb => shape_alloc hb⟩
    · have : id ≠ nx := by rintro rfl; rw [hn] at e1; cases e1
      simp [this, e1]
    · rintro b ⟨id, x, loc, e1, e2, e3⟩
      by_cases hid : id = nx
      · subst hid; simp at e2; subst e2; right; simp at e3; omega
      · simp [hid] at e1 e2; exact .inl ⟨id, x, loc, e1, e2, e3⟩
  refine ⟨hadv, ?_, ?_, ?_⟩
  · intro id b hb
    by_cases hid : id = nx
    · subst hid
      simp at hb; subst hb
      refine ⟨⟨w.heap.size, 0, sz⟩, by simp, ⟨rfl, hl, c, e, World.alloc_heap_new w _, by simpa using hsz, fun i j x a e1 e2 => ?_⟩, fun hS => absurd (hs.bd _ hS) (by simp)⟩
      obtain ⟨v, e3, e4⟩ := hc i j x a e1 e2
      have hx := h1 x (List.mem_of_getElem? e1)
      rw [List.all_eq_true] at hx
      exact ⟨hx a (List.mem_of_getElem? e2), v, by simpa using e3, hadv.rep hs e4⟩
    · simp [hid] at hb
      obtain ⟨loc, e1, e2, e3⟩ := hs.blk id b hb
      exact ⟨loc, by simp [hid, e1], e2.adv hadv hs (Below.heap_alloc w _ _ e2.lt), e3⟩
  · intro id id' b b' loc loc' a1 a2 a3 a4 a5
    by_cases hid : id = nx <;> by_cases hid' : id' = nx
    · rw [hid, hid']
    · subst hid
      simp at a3; subst a3
      simp [hid'] at a2 a4
      have := hs.lt a2 a4
      simp at a5; omega
    · subst hid'
      simp at a4; subst a4
      simp [hid] at a1 a3
      have := hs.lt a1 a3
      simp at a5; omega
    · simp [hid] at a1 a3; simp [hid'] at a2 a4
      exact hs.inj id id' b b' loc loc' a1 a2 a3 a4 a5
  · intro b hb
    exact Nat.lt_of_lt_of_le (hs.bd b hb) (by simp)
end Go.V
