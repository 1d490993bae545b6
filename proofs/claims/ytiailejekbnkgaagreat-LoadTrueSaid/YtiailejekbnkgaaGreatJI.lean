/- How a state that is known in part stands to the evaluator's state. -/
import Derived.Test.YtiailejekbnkgaaGreatJH
set_option linter.unusedVariables false
set_option linter.unusedSimpArgs false
namespace Go.Q
open Go.V

/-- What waits, in the evaluator's terms: the slots of a caller; the record of a loop over a function. -/
inductive FC where
  | call (as : List AV)
  | rng (id : Nat) (as : List AV) (ps : List Nat) (a b : IC) (d : Nat)
def RF (c : Cx) (H : Heap) (fr : Fr) : FC → Prop
  | .call as => F2 (Cv c) fr.env as
  | .rng id as ps a b d => hget H id = some (.loop as ps a b fr.st fr.pend d) ∧ F2 (Cv c) fr.env as
/-- Cells of a list. -/
def Rk (c : Cx) : Option (List Nat) → D → AV → Prop
  | none => RD
  | some rs => RO c.Φ (c.okr rs)
def BOK (c : Cx) (H : Heap) (p : Pl) : SB → Prop
  | .cells cs => ∃ x as, p.idc = some x ∧ hget H x = some (.row cs.length [as]) ∧ F2 (Cv c) cs as ∧ as.all AV.one = true
  | .list sz x dp => ∃ xs, x.upto c.ρ.length = true ∧ x.den c.ρ = .list xs ∧ xs.length = p.len ∧ (p.idc = none → p.len = 0) ∧
      ∀ y, p.idc = some y → ∃ rows, hget H y = some (.row sz rows) ∧ p.off + p.len ≤ rows.length ∧ (∀ r ∈ rows, r.length = sz ∧ r.all AV.one = true) ∧ F2 (F2 (Rk c dp)) xs ((rows.drop p.off).take p.len)
def rngIds : List FC → List Nat
  | [] => []
  | .call _ :: K => rngIds K
  | .rng id _ _ _ _ _ :: K => id :: rngIds K
structure Rel (c : Cx) (S : SS) (env : List AV) (H : Heap) (K : List FC) (mk : List Nat) : Prop where
  n : S.n = c.ρ.length
  env : F2 (Cv c) S.env env
  stk : F2 (RF c H) S.stk K
  hlen : ∀ id p, c.ψ id = some p → id < S.heap.length
  heap : ∀ id h, S.heap[id]? = some h → ∃ p, c.ψ id = some p ∧ p.rt = h.rt ∧ ∀ b, h.b = some b → BOK c H p b ∧ ∀ x, p.idc = some x → c.Φ x = none
  inj : ∀ i i' p p' x b b', bget S.heap i = some b → bget S.heap i' = some b' → c.ψ i = some p → c.ψ i' = some p' → p.idc = some x → p'.idc = some x → i = i'
  rt : ∀ i i' p p' x, c.ψ i = some p → c.ψ i' = some p' → p.idc = some x → p'.idc = some x → p.rt = p'.rt
  bnd : ∀ i p x, c.ψ i = some p → p.idc = some x → x < H.nx
  frz : ∀ x sz rows, c.Φ x = some (sz, rows) → hget H x = some (.row sz rows) ∧ x < H.nx
  f0 : ∀ x, c.F0 x → c.Φ x ≠ none
  rngs : (rngIds K).Nodup ∧ ∀ id ∈ rngIds K, id < H.nx
  mks : mk.Nodup ∧ ∀ d ∈ mk, hget H d = some .mark ∧ d < H.nx

variable {c c' : Cx} {S : SS} {env : List AV} {H H' : Heap} {K : List FC} {mk : List Nat}
theorem Rk.mono (h : c.le c') {dp : Option (List Nat)} {d : D} {a : AV} (hk : Rk c dp d a) : Rk c' dp d a := by
  cases dp with
  | none => exact hk
  | some rs => exact RO.mono h.Φ (fun _ => h.okr) hk
theorem BOK.mono (h : c.le c') {p : Pl} {b : SB} (hb : BOK c H p b) : BOK c' H p b := by
  cases b with
  | cells cs => obtain ⟨x, as, h1, h2, h3, h4⟩ := hb; exact ⟨x, as, h1, h2, Cv.monoL h h3, h4⟩
  | list sz x dp =>
    obtain ⟨xs, h1, h2, h3, h4, h5⟩ := hb
    refine ⟨xs, h.upto h1, by rw [h.den h1]; exact h2, h3, h4, fun y hy => ?_⟩
    obtain ⟨rows, g1, g2, g3, g4⟩ := h5 y hy
    exact ⟨rows, g1, g2, g3, g4.mono fun _ _ => F2.mono fun _ _ => Rk.mono h⟩
theorem BOK.mem {p : Pl} {b : SB} (hb : BOK c H p b) (hk : ∀ x, p.idc = some x → hget H' x = hget H x) : BOK c H' p b := by
  cases b with
  | cells cs => obtain ⟨x, as, h1, h2, h3, h4⟩ := hb; exact ⟨x, as, h1, by rw [hk x h1]; exact h2, h3, h4⟩
  | list sz x dp =>
    obtain ⟨xs, h1, h2, h3, h4, h5⟩ := hb
    refine ⟨xs, h1, h2, h3, h4, fun y hy => ?_⟩
    obtain ⟨rows, g1, g2⟩ := h5 y hy
    exact ⟨rows, by rw [hk y hy]; exact g1, g2⟩
theorem BOK.row {p : Pl} {b : SB} (hb : BOK c H p b) {x : Nat} (hx : p.idc = some x) : ∃ s rows, hget H x = some (.row s rows) := by
  cases b with
  | cells cs => obtain ⟨y, as, h1, h2, h3, h4⟩ := hb; rw [hx] at h1; cases h1; exact ⟨_, _, h2⟩
  | list sz x dp => obtain ⟨xs, h1, h2, h3, h4, h5⟩ := hb; obtain ⟨rows, g1, -⟩ := h5 _ hx; exact ⟨_, _, g1⟩
theorem RF.mono (h : c.le c') {fr : Fr} {k : FC} (hf : RF c H fr k) : RF c' H fr k := by
  cases k with
  | call as => exact Cv.monoL h hf
  | rng id as ps a b d => exact ⟨hf.1, Cv.monoL h hf.2⟩
theorem RF.memL : ∀ {frs : List Fr} {K : List FC}, (∀ id ∈ rngIds K, hget H' id = hget H id) → F2 (RF c H) frs K → F2 (RF c H') frs K
  | _, _, _, .nil => .nil
  | _, .call as :: K, hk, .cons h t => .cons h (RF.memL (K := K) (fun id hid => hk id (by simpa [rngIds] using hid)) t)
  | _, .rng id as ps a b d :: K, hk, .cons h t => .cons ⟨by rw [hk id (by simp [rngIds])]; exact h.1, h.2⟩ (RF.memL (K := K) (fun id hid => hk id (by simp [rngIds, hid])) t)
theorem rng_at : ∀ {frs : List Fr} {K : List FC}, F2 (RF c H) frs K → ∀ id ∈ rngIds K, ∃ as ps a b st pd d, hget H id = some (.loop as ps a b st pd d)
  | _, _, .nil, _, h => by cases h
  | _, .call as :: K, .cons h t, id, hid => rng_at t id (by simpa [rngIds] using hid)
  | _, .rng i as ps a b d :: K, .cons h t, id, hid => by
    simp only [rngIds, List.mem_cons] at hid
    rcases hid with rfl | hid
    · exact ⟨_, _, _, _, _, _, _, h.1⟩
    · exact rng_at t id hid
theorem bget_some {heap : List HB} {i : Nat} {b : SB} : bget heap i = some b ↔ ∃ h, heap[i]? = some h ∧ h.b = some b := by
  unfold bget
  constructor
  · intro h
    split at h
    · rename_i r b' e; cases h; exact ⟨_, e, rfl⟩
    · cases h
  · rintro ⟨⟨r, b'⟩, h1, h2⟩
    simp only at h2; subst h2; rw [h1]
theorem Rel.blk (r : Rel c S env H K mk) {i : Nat} {b : SB} (hb : bget S.heap i = some b) : ∃ p, c.ψ i = some p ∧ p.rt = rtOf S.heap i ∧ BOK c H p b ∧ ∀ x, p.idc = some x → c.Φ x = none := by
  obtain ⟨h, h1, h2⟩ := bget_some.1 hb
  obtain ⟨p, g1, g2, g3⟩ := r.heap i h h1
  exact ⟨p, g1, by simp [rtOf, h1, g2], (g3 b h2).1, (g3 b h2).2⟩
/-- Memory changes where nothing is known of it, or at blocks that are told anew. -/
theorem Rel.mem {heap' : List HB} (r : Rel c S env H K mk) (hle : c.le c') (hρ : c'.ρ = c.ρ) (W : Nat → Prop)
    (hW : ∀ x, W x → ∃ i p b, bget S.heap i = some b ∧ c.ψ i = some p ∧ p.idc = some x)
    (hk : ∀ x, x < H.nx → ¬ W x → hget H' x = hget H x) (hnx : H.nx ≤ H'.nx)
    (hlen : ∀ id p, c'.ψ id = some p → id < heap'.length)
    (heap : ∀ id h, heap'[id]? = some h → ∃ p, c'.ψ id = some p ∧ p.rt = h.rt ∧ ∀ b, h.b = some b → BOK c' H' p b ∧ ∀ x, p.idc = some x → c'.Φ x = none)
    (inj : ∀ i i' p p' x b b', bget heap' i = some b → bget heap' i' = some b' → c'.ψ i = some p → c'.ψ i' = some p' → p.idc = some x → p'.idc = some x → i = i')
    (rt : ∀ i i' p p' x, c'.ψ i = some p → c'.ψ i' = some p' → p.idc = some x → p'.idc = some x → p.rt = p'.rt)
    (bnd : ∀ i p x, c'.ψ i = some p → p.idc = some x → x < H'.nx)
    (frz : ∀ x sz rows, c'.Φ x = some (sz, rows) → c.Φ x = none → hget H' x = some (.row sz rows) ∧ x < H'.nx) :
    Rel c' { S with heap := heap' } env H' K mk := by
  have hrow : ∀ x, W x → ∃ s rows, hget H x = some (.row s rows) := fun x hx => by
    obtain ⟨i, p, b, h1, h2, h3⟩ := hW x hx
    obtain ⟨p', g1, g2, g3, g4⟩ := r.blk h1
    rw [h2] at g1; cases g1
    exact g3.row h3
  have hrng : ∀ id ∈ rngIds K, hget H' id = hget H id := fun id hid => hk id (r.rngs.2 id hid) fun hw => by
    obtain ⟨s, rows, e⟩ := hrow id hw
    obtain ⟨as, ps, a, b, st, pd, d, e'⟩ := rng_at r.stk id hid
    rw [e] at e'; cases e'
  refine ⟨by rw [hρ]; exact r.n, Cv.monoL hle r.env, RF.memL hrng (r.stk.mono fun _ _ => RF.mono hle), hlen, heap, inj, rt, bnd, fun x sz rows hx => ?_, fun x hx => ?_, ⟨r.rngs.1, fun id hid => Nat.lt_of_lt_of_le (r.rngs.2 id hid) hnx⟩, r.mks.1, fun d hd => ?_⟩
  · cases e : c.Φ x with
    | none => exact frz x sz rows hx e
    | some y =>
      have := hle.Φ x y e
      rw [hx] at this; cases this
      obtain ⟨g1, g2⟩ := r.frz x sz rows e
      refine ⟨?_, Nat.lt_of_lt_of_le g2 hnx⟩
      rw [hk x g2 fun hw => by
        obtain ⟨i, p, b, h1, h2, h3⟩ := hW x hw
        obtain ⟨p', q1, q2, q3, q4⟩ := r.blk h1
        rw [h2] at q1; cases q1
        rw [q4 x h3] at e; cases e]
      exact g1
  · rw [hle.F0] at hx
    have := r.f0 x hx
    cases e : c.Φ x with
    | none => exact absurd e this
    | some y => rw [hle.Φ x y e]; simp
  · obtain ⟨g1, g2⟩ := r.mks.2 d hd
    refine ⟨?_, Nat.lt_of_lt_of_le g2 hnx⟩
    rw [hk d g2 fun hw => by
      obtain ⟨s, rows, e⟩ := hrow d hw
      rw [e] at g1; cases g1]
    exact g1
/-- A new block of memory, of which nothing is told yet. -/
theorem Rel.alloc (r : Rel c S env H K mk) (b : Option Blk) : Rel c S env (wrH H [(H.nx, b)] (H.nx + 1)) K mk := by
  have hg : ∀ x, x < H.nx → hget (wrH H [(H.nx, b)] (H.nx + 1)) x = hget H x := fun x hx => by
    rw [hget_wr1]; simp only; rw [if_neg (by omega)]
  have hn : H.nx ≤ (wrH H [(H.nx, b)] (H.nx + 1)).nx := by simp [wrH]
  have := r.mem (c' := c) (heap' := S.heap) (H' := wrH H [(H.nx, b)] (H.nx + 1)) (Cx.le.refl c) rfl (fun _ => False) (fun _ h => h.elim) (fun x hx _ => hg x hx) hn r.hlen
    (fun id h hh => by
      obtain ⟨p, g1, g2, g3⟩ := r.heap id h hh
      exact ⟨p, g1, g2, fun b hb => ⟨(g3 b hb).1.mem fun x hx => hg x (r.bnd _ _ _ g1 hx), (g3 b hb).2⟩⟩)
    r.inj r.rt (fun i p x h1 h2 => Nat.lt_of_lt_of_le (r.bnd i p x h1 h2) hn) (fun x sz rows h1 h2 => by rw [h1] at h2; cases h2)
  exact this
def Cx.add (c : Cx) (i : Nat) (p : Pl) : Cx := { c with ψ := fun k => if k = i then some p else c.ψ k }
theorem Rel.le_add (r : Rel c S env H K mk) (p : Pl) : c.le (c.add S.heap.length p) :=
  ⟨fun _ _ h => h, rfl, fun id q h => by
    have := r.hlen id q h
    simp only [Cx.add]; rw [if_neg (by omega)]; exact h, rfl, [], by simp [Cx.add]⟩
theorem getElem?_snoc {α : Type} {l : List α} {a : α} {i : Nat} {b : α} (h : (l ++ [a])[i]? = some b) : l[i]? = some b ∨ (i = l.length ∧ b = a) := by
  rcases Nat.lt_trichotomy i l.length with h1 | h1 | h1
  · rw [List.getElem?_append_left h1] at h; exact .inl h
  · subst h1; simp at h; exact .inr ⟨rfl, h.symm⟩
  · rw [List.getElem?_append_right (by omega), List.getElem?_eq_none (by simp; omega)] at h; cases h
/-- A block that is told. -/
theorem Rel.add (r : Rel c S env H K mk) (p : Pl) (b : SB)
    (hx : ∀ x, p.idc = some x → x < H.nx ∧ c.Φ x = none ∧ (∀ i q b', bget S.heap i = some b' → c.ψ i = some q → q.idc ≠ some x) ∧ (∀ i q, c.ψ i = some q → q.idc = some x → q.rt = p.rt))
    (hb : BOK c H p b) : Rel (c.add S.heap.length p) { S with heap := S.heap ++ [⟨p.rt, some b⟩] } env H K mk := by
  have hle := r.le_add p
  have hψ : ∀ i q, (c.add S.heap.length p).ψ i = some q → (c.ψ i = some q ∧ i < S.heap.length) ∨ (i = S.heap.length ∧ q = p) := fun i q h => by
    simp only [Cx.add] at h
    split at h
    · rename_i e; cases h; exact .inr ⟨e, rfl⟩
    · exact .inl ⟨h, r.hlen _ _ h⟩
  have hbg : ∀ i b', bget (S.heap ++ [⟨p.rt, some b⟩]) i = some b' → bget S.heap i = some b' ∨ i = S.heap.length := fun i b' h => by
    obtain ⟨h', g1, g2⟩ := bget_some.1 h
    rcases getElem?_snoc g1 with g1 | ⟨g1, -⟩
    · exact .inl (bget_some.2 ⟨h', g1, g2⟩)
    · exact .inr g1
  refine r.mem hle rfl (fun _ => False) (fun _ h => h.elim) (fun _ _ _ => rfl) (Nat.le_refl _) ?_ ?_ ?_ ?_ ?_ ?_
  · intro i q h
    rcases hψ i q h with ⟨-, h1⟩ | ⟨h1, -⟩ <;> simp <;> omega
  · intro i h hh
    rcases getElem?_snoc hh with hh | ⟨rfl, rfl⟩
    · obtain ⟨q, g1, g2, g3⟩ := r.heap i h hh
      exact ⟨q, hle.ψ _ _ g1, g2, fun b hb => ⟨(g3 b hb).1.mono hle, (g3 b hb).2⟩⟩
    · exact ⟨p, by simp [Cx.add], rfl, fun b' e => by cases e; exact ⟨hb.mono hle, fun x h1 => (hx x h1).2.1⟩⟩
  · intro i i' q q' x b1 b2 h1 h2 h3 h4 h5 h6
    rcases hbg _ _ h1 with g1 | g1 <;> rcases hbg _ _ h2 with g2 | g2
    · rcases hψ _ _ h3 with ⟨e3, e3'⟩ | ⟨e3, e3'⟩
      · rcases hψ _ _ h4 with ⟨e4, e4'⟩ | ⟨e4, e4'⟩
        · exact r.inj _ _ _ _ _ _ _ g1 g2 e3 e4 h5 h6
        · subst e4; obtain ⟨h, k1, -⟩ := bget_some.1 g2; simp at k1
      · subst e3; obtain ⟨h, k1, -⟩ := bget_some.1 g1; simp at k1
    · subst g2
      rcases hψ _ _ h3 with ⟨e3, e3'⟩ | ⟨e3, e3'⟩
      · rcases hψ _ _ h4 with ⟨e4, e4'⟩ | ⟨e4, e4'⟩
        · omega
        · subst e4'; exact absurd h5 ((hx x h6).2.2.1 _ _ _ g1 e3)
      · exact e3
    · subst g1
      rcases hψ _ _ h4 with ⟨e4, e4'⟩ | ⟨e4, e4'⟩
      · rcases hψ _ _ h3 with ⟨e3, e3'⟩ | ⟨e3, e3'⟩
        · omega
        · subst e3'; exact absurd h6 ((hx x h5).2.2.1 _ _ _ g2 e4)
      · exact e4.symm
    · rw [g1, g2]
  · intro i i' q q' x h3 h4 h5 h6
    rcases hψ _ _ h3 with ⟨e3, e3'⟩ | ⟨e3, e3'⟩ <;> rcases hψ _ _ h4 with ⟨e4, e4'⟩ | ⟨e4, e4'⟩
    · exact r.rt _ _ _ _ _ e3 e4 h5 h6
    · subst e4'; exact (hx x h6).2.2.2 _ _ e3 h5
    · subst e3'; exact ((hx x h5).2.2.2 _ _ e4 h6).symm
    · rw [e3', e4']
  · intro i q x h1 h2
    rcases hψ _ _ h1 with ⟨e3, e3'⟩ | ⟨e3, e3'⟩
    · exact r.bnd _ _ _ e3 h2
    · subst e3'; exact (hx x h2).1
  · intro x sz rows h1 h2; rw [show (c.add S.heap.length p).Φ = c.Φ from rfl] at h1; rw [h1] at h2; cases h2
theorem hput_at {heap : List HB} {id : Nat} {b : Option SB} {i : Nat} {h : HB} (hh : (hput heap id b)[i]? = some h) : (i ≠ id ∧ heap[i]? = some h) ∨ (i = id ∧ h = ⟨rtOf heap id, b⟩ ∧ id < heap.length) := by
  unfold hput at hh
  by_cases e : i = id
  · subst e
    by_cases hl : i < heap.length
    · rw [List.getElem?_set_self hl] at hh; cases hh; exact .inr ⟨rfl, rfl, hl⟩
    · rw [List.getElem?_eq_none (by simp; omega)] at hh; cases hh
  · rw [List.getElem?_set_ne (fun h => e h.symm)] at hh; exact .inl ⟨e, hh⟩
theorem hput_len {heap : List HB} {id : Nat} {b : Option SB} : (hput heap id b).length = heap.length := by simp [hput]
theorem bget_put {heap : List HB} {id : Nat} {b : Option SB} {i : Nat} {b' : SB} (h : bget (hput heap id b) i = some b') : (i ≠ id ∧ bget heap i = some b') ∨ (i = id ∧ b = some b') := by
  obtain ⟨h', g1, g2⟩ := bget_some.1 h
  rcases hput_at g1 with ⟨e, g⟩ | ⟨e, rfl, -⟩
  · exact .inl ⟨e, bget_some.2 ⟨h', g, g2⟩⟩
  · exact .inr ⟨e, g2⟩
/-- A block of which nothing is told any more. -/
theorem Rel.drop (r : Rel c S env H K mk) (id : Nat) : Rel c { S with heap := hput S.heap id none } env H K mk := by
  refine r.mem (Cx.le.refl c) rfl (fun _ => False) (fun _ h => h.elim) (fun _ _ _ => rfl) (Nat.le_refl _) (fun i p h => by rw [hput_len]; exact r.hlen i p h) ?_ ?_ r.rt r.bnd (fun x sz rows h1 h2 => by rw [h1] at h2; cases h2)
  · intro i h hh
    rcases hput_at hh with ⟨e, g⟩ | ⟨rfl, rfl, hl⟩
    · exact r.heap i h g
    · obtain ⟨p, g1, g2, g3⟩ := r.heap i _ (List.getElem?_eq_getElem hl)
      exact ⟨p, g1, by rw [g2]; simp [rtOf, List.getElem?_eq_getElem hl], fun b e => by cases e⟩
  · intro i i' p p' x b b' h1 h2 h3 h4 h5 h6
    rcases bget_put h1 with ⟨-, g1⟩ | ⟨-, e⟩
    · rcases bget_put h2 with ⟨-, g2⟩ | ⟨-, e⟩
      · exact r.inj _ _ _ _ _ _ _ g1 g2 h3 h4 h5 h6
      · cases e
    · cases e
/-- A block is told anew, its memory written. -/
theorem Rel.put (r : Rel c S env H K mk) {id : Nat} {b : SB} {p : Pl} {x : Nat} (hb : bget S.heap id = some b) (hp : c.ψ id = some p) (hx : p.idc = some x) (b' : SB) (o : Option Blk) (hb' : BOK c (wrH H [(x, o)] H.nx) p b') :
    Rel c { S with heap := hput S.heap id (some b') } env (wrH H [(x, o)] H.nx) K mk := by
  have hg : ∀ y, y ≠ x → hget (wrH H [(x, o)] H.nx) y = hget H y := fun y hy => by rw [hget_wr1]; simp only; rw [if_neg hy]
  have hn : (wrH H [(x, o)] H.nx).nx = H.nx := by simp [wrH]
  obtain ⟨p', q1, q2, q3, q4⟩ := r.blk hb
  rw [hp] at q1; cases q1
  refine r.mem (Cx.le.refl c) rfl (fun y => y = x) (fun y h => ⟨id, p, b, hb, hp, by rw [h]; exact hx⟩) (fun y _ hy => hg y hy) (by rw [hn]; exact Nat.le_refl _) (fun i p h => by rw [hput_len]; exact r.hlen i p h) ?_ ?_ r.rt (by rw [hn]; exact r.bnd) (fun x sz rows h1 h2 => by rw [h1] at h2; cases h2)
  · intro i h hh
    rcases hput_at hh with ⟨e, g⟩ | ⟨rfl, rfl, hl⟩
    · obtain ⟨q, g1, g2, g3⟩ := r.heap i h g
      refine ⟨q, g1, g2, fun b1 hb1 => ⟨(g3 b1 hb1).1.mem fun y hy => hg y ?_, (g3 b1 hb1).2⟩⟩
      rintro rfl
      exact e (r.inj _ _ _ _ _ _ _ (bget_some.2 ⟨h, g, hb1⟩) hb g1 hp hy hx)
    · exact ⟨p, hp, q2, fun b1 e => by cases e; exact ⟨hb', q4⟩⟩
  · intro i i' q q' y b1 b2 h1 h2 h3 h4 h5 h6
    have k1 : ∃ b, bget S.heap i = some b := by
      rcases bget_put h1 with ⟨-, g1⟩ | ⟨rfl, e⟩
      · exact ⟨_, g1⟩
      · exact ⟨_, hb⟩
    have k2 : ∃ b, bget S.heap i' = some b := by
      rcases bget_put h2 with ⟨-, g1⟩ | ⟨rfl, e⟩
      · exact ⟨_, g1⟩
      · exact ⟨_, hb⟩
    obtain ⟨_, k1⟩ := k1; obtain ⟨_, k2⟩ := k2
    exact r.inj _ _ _ _ _ _ _ k1 k2 h3 h4 h5 h6
/-- A block is told anew, memory stays. -/
theorem Rel.swap (r : Rel c S env H K mk) {id : Nat} {b : SB} {p : Pl} (hb : bget S.heap id = some b) (hp : c.ψ id = some p) (b' : SB) (hb' : BOK c H p b') : Rel c { S with heap := hput S.heap id (some b') } env H K mk := by
  obtain ⟨p', q1, q2, q3, q4⟩ := r.blk hb
  rw [hp] at q1; cases q1
  refine r.mem (Cx.le.refl c) rfl (fun _ => False) (fun _ h => h.elim) (fun _ _ _ => rfl) (Nat.le_refl _) (fun i p h => by rw [hput_len]; exact r.hlen i p h) ?_ ?_ r.rt r.bnd (fun x sz rows h1 h2 => by rw [h1] at h2; cases h2)
  · intro i h hh
    rcases hput_at hh with ⟨e, g⟩ | ⟨rfl, rfl, hl⟩
    · exact r.heap i h g
    · exact ⟨p, hp, q2, fun b1 e => by cases e; exact ⟨hb', q4⟩⟩
  · intro i i' q q' y b1 b2 h1 h2 h3 h4 h5 h6
    have k1 : ∃ b, bget S.heap i = some b := by
      rcases bget_put h1 with ⟨-, g1⟩ | ⟨rfl, e⟩
      · exact ⟨_, g1⟩
      · exact ⟨_, hb⟩
    have k2 : ∃ b, bget S.heap i' = some b := by
      rcases bget_put h2 with ⟨-, g1⟩ | ⟨rfl, e⟩
      · exact ⟨_, g1⟩
      · exact ⟨_, hb⟩
    obtain ⟨_, k1⟩ := k1; obtain ⟨_, k2⟩ := k2
    exact r.inj _ _ _ _ _ _ _ k1 k2 h3 h4 h5 h6
def Cx.frz (c : Cx) (x : Nat) (o : Nat × List (List AV)) : Cx := { c with Φ := fun k => if k = x then some o else c.Φ k }
/-- A list that is written no more. -/
theorem Rel.freeze (r : Rel c S env H K mk) {id : Nat} {b : SB} {p : Pl} {x : Nat} (hb : bget S.heap id = some b) (hp : c.ψ id = some p) (hx : p.idc = some x) {sz : Nat} {rows : List (List AV)} (hr : hget H x = some (.row sz rows)) :
    c.le (c.frz x (sz, rows)) ∧ Rel (c.frz x (sz, rows)) { S with heap := hput S.heap id none } env H K mk := by
  obtain ⟨p', q1, q2, q3, q4⟩ := r.blk hb
  rw [hp] at q1; cases q1
  have hle : c.le (c.frz x (sz, rows)) := ⟨fun i y h => by
    simp only [Cx.frz]; split
    · rename_i e; subst e; rw [q4 _ hx] at h; cases h
    · exact h, rfl, fun _ _ h => h, rfl, [], by simp [Cx.frz]⟩
  refine ⟨hle, r.mem hle rfl (fun _ => False) (fun _ h => h.elim) (fun _ _ _ => rfl) (Nat.le_refl _) (fun i p h => by rw [hput_len]; exact r.hlen i p h) ?_ ?_ r.rt r.bnd (fun y sz' rows' h1 h2 => ?_)⟩
  · intro i h hh
    rcases hput_at hh with ⟨e, g⟩ | ⟨rfl, rfl, hl⟩
    · obtain ⟨q, g1, g2, g3⟩ := r.heap i h g
      refine ⟨q, g1, g2, fun b1 hb1 => ⟨(g3 b1 hb1).1.mono hle, fun y hy => ?_⟩⟩
      simp only [Cx.frz]
      split
      · rename_i e'; subst e'
        exact absurd (r.inj _ _ _ _ _ _ _ (bget_some.2 ⟨h, g, hb1⟩) hb g1 hp hy hx) e
      · exact (g3 b1 hb1).2 y hy
    · obtain ⟨p, g1, g2, g3⟩ := r.heap i _ (List.getElem?_eq_getElem hl)
      exact ⟨p, g1, by rw [g2]; simp [rtOf, List.getElem?_eq_getElem hl], fun b e => by cases e⟩
  · intro i i' p p' x b b' h1 h2 h3 h4 h5 h6
    rcases bget_put h1 with ⟨-, g1⟩ | ⟨-, e⟩
    · rcases bget_put h2 with ⟨-, g2⟩ | ⟨-, e⟩
      · exact r.inj _ _ _ _ _ _ _ g1 g2 h3 h4 h5 h6
      · cases e
    · cases e
  · simp only [Cx.frz] at h1
    split at h1
    · rename_i e; subst e; cases h1; exact ⟨hr, r.bnd _ _ _ hp hx⟩
    · rw [h1] at h2; cases h2
/-- More variables. -/
theorem Rel.var (r : Rel c S env H K mk) (d : D) : c.le { c with ρ := c.ρ ++ [d] } ∧ Rel { c with ρ := c.ρ ++ [d] } { S with n := S.n + 1 } env H K mk := by
  have hle : c.le { c with ρ := c.ρ ++ [d] } := ⟨fun _ _ h => h, rfl, fun _ _ h => h, rfl, [d], rfl⟩
  refine ⟨hle, by simp [r.n], Cv.monoL hle r.env, r.stk.mono fun _ _ => RF.mono hle, r.hlen, fun id h hh => ?_, r.inj, r.rt, r.bnd, r.frz, r.f0, r.rngs, r.mks⟩
  obtain ⟨p, g1, g2, g3⟩ := r.heap id h hh
  exact ⟨p, g1, g2, fun b hb => ⟨(g3 b hb).1.mono hle, (g3 b hb).2⟩⟩
/-- Other slots. -/
theorem Rel.slots (r : Rel c S env H K mk) {env' : List AV} {senv : List SV} (h : F2 (Cv c) senv env') : Rel c { S with env := senv } env' H K mk :=
  ⟨r.n, h, r.stk, r.hlen, r.heap, r.inj, r.rt, r.bnd, r.frz, r.f0, r.rngs, r.mks⟩
theorem Rel.set (r : Rel c S env H K mk) {dst : Option Nat} {v : SV} {a : AV} (h : Cv c v a) : Rel c { S with env := setS S.env dst v } (setD env dst a) H K mk := by
  refine r.slots ?_
  cases dst with
  | none => exact r.env
  | some d => rw [setS_eq]; show F2 (Cv c) (S.env.set d v) (setK env d a); rw [setK_eq]; exact r.env.set h d
end Go.Q
/- One operation: what is reckoned. -/
set_option linter.unusedVariables false
set_option linter.unusedSimpArgs false
namespace Go.Q
open Go.V
variable {c c' : Cx} {S : SS} {env : List AV} {H H' : Heap} {K : List FC} {mk : List Nat}

/-! Slots -/
theorem ofAV1_ok (v : AV) : Cv c (ofAV1 v) v := by
  unfold ofAV1
  split
  · exact .e rfl .int rfl
  · exact .e rfl .bool rfl
  · exact .e rfl .str rfl
  · exact .nil
  · exact .e rfl .nilP rfl
  · exact .e rfl .nilF rfl
  · exact .unk
theorem ofAV1_okL : ∀ (l : List AV), F2 (Cv c) (l.map ofAV1) l
  | [] => .nil
  | v :: l => .cons (ofAV1_ok v) (ofAV1_okL l)
theorem ofAVf_ok (v : AV) : Cv c (ofAVf v) v := by
  unfold ofAVf
  split
  · exact .fn .nil .nil
  · exact ofAV1_ok _
theorem ofAVf_okL : ∀ (l : List AV), F2 (Cv c) (l.map ofAVf) l
  | [] => .nil
  | v :: l => .cons (ofAVf_ok v) (ofAVf_okL l)
theorem ofAVg_ok (v : AV) : Cv c (ofAVg v) v := by
  unfold ofAVg
  split
  · split
    · rename_i h; exact .agg (ofAVf_okL _) h
    · exact .unk
  · exact ofAVf_ok _
theorem ofAVg_okL : ∀ (l : List AV), F2 (Cv c) (l.map ofAVg) l
  | [] => .nil
  | v :: l => .cons (ofAVg_ok v) (ofAVg_okL l)
theorem ofAV_ok (v : AV) : Cv c (ofAV v) v := by
  unfold ofAV
  split
  · exact .tup (ofAVg_okL _)
  · exact ofAVg_ok _
theorem sarg_ok {senv : List SV} (h : F2 (Cv c) senv env) (x : Arg) : Cv c (sarg senv x) (arg env x) := by
  cases x with
  | c v => exact ofAV_ok v
  | t n =>
    simp only [sarg, sget_eq, arg_t, List.getD_eq_getElem?_getD]
    cases e : senv[n]? with
    | none => exact .unk
    | some v => obtain ⟨a, h1, h2⟩ := h.get e; rw [h1]; exact h2
theorem sargL_ok {senv : List SV} (h : F2 (Cv c) senv env) : ∀ xs : List Arg, F2 (Cv c) (xs.map (sarg senv)) (xs.map (arg env))
  | [] => .nil
  | x :: xs => .cons (sarg_ok h x) (sargL_ok h xs)
theorem cells_one {a : AV} (h : a.one = true) : a.cells = [a] := by cases a <;> first | rfl | cases h
theorem cells_ok {v : SV} {a : AV} {cs : List SV} (h : Cv c v a) (hc : v.cells = some cs) : F2 (Cv c) cs a.cells ∧ a.cells.all AV.one = true := by
  cases h with
  | agg h h1 => cases hc; exact ⟨h, h1⟩
  | tup h => cases hc
  | unk => cases hc
  | e hx h h1 => cases hc; rw [cells_one h1]; exact ⟨.single (.e hx h h1), by simp [h1]⟩
  | fz hx h h1 => cases hc; rw [cells_one h1]; exact ⟨.single (.fz hx h h1), by simp [h1]⟩
  | own hp hx => cases hc; exact ⟨.single (.own hp hx), rfl⟩
  | ownE hp hl ha => cases hc; rcases ha with rfl | rfl <;> exact ⟨.single (.ownE hp hl (by simp)), rfl⟩
  | nil => cases hc; exact ⟨.single .nil, rfl⟩
  | ptr hp hx => cases hc; exact ⟨.single (.ptr hp hx), rfl⟩
  | ptrO a1 a2 a3 a4 a5 a6 => cases hc; exact ⟨.single (.ptrO a1 a2 a3 a4 a5 a6), rfl⟩
  | sufO a1 a2 a3 a4 a5 a6 => cases hc; rcases a6 with ⟨x, h1, rfl⟩ | ⟨h1, rfl | ⟨z, rfl⟩⟩ <;> exact ⟨.single (.sufO a1 a2 a3 a4 a5 (by simp [h1])), rfl⟩
  | ptrE a1 a2 a3 a4 a5 a6 a7 a8 => cases hc; exact ⟨.single (.ptrE a1 a2 a3 a4 a5 a6 a7 a8), rfl⟩
  | ptrF a1 a2 a3 a4 a5 a6 a7 a8 a9 a10 a11 => cases hc; exact ⟨.single (.ptrF a1 a2 a3 a4 a5 a6 a7 a8 a9 a10 a11), rfl⟩
  | fn h h' => cases hc; exact ⟨.single (.fn h h'), rfl⟩
  | yld h => cases hc; exact ⟨.single (.yld h), rfl⟩
  | km => cases hc; exact ⟨.single .km, rfl⟩

theorem Cv.inv_ptr {id j : Nat} {a : AV} (h : Cv c (.ptr id j) a) : ∃ p x, c.ψ id = some p ∧ p.idc = some x ∧ a = .ptr x 0 j := by
  cases h with | ptr hp hx => exact ⟨_, _, hp, hx, rfl⟩
theorem Cv.inv_ptrO {id j : Nat} {i : E} {a : AV} (h : Cv c (.ptrO id i j) a) : ∃ p x k n, c.ψ id = some p ∧ p.idc = some x ∧ i.upto c.ρ.length = true ∧ i.den c.ρ = .int k n ∧ 0 ≤ n ∧ n.toNat < p.len ∧ a = .ptr x (p.off + n.toNat) j := by
  cases h with | ptrO hp hx hi hn h0 hl => exact ⟨_, _, _, _, hp, hx, hi, hn, h0, hl, rfl⟩
theorem Cv.inv_sufO {id : Nat} {lo : E} {a : AV} (h : Cv c (.sufO id lo) a) : ∃ p k n, c.ψ id = some p ∧ lo.upto c.ρ.length = true ∧ lo.den c.ρ = .int k n ∧ 0 ≤ n ∧ n.toNat ≤ p.len ∧
    ((∃ x, p.idc = some x ∧ a = .own x (p.off + n.toNat) (p.len - n.toNat)) ∨ (n.toNat = p.len ∧ (a = .nilS ∨ ∃ z, a = .emp z))) := by
  cases h with | sufO hp hi hn h0 hl ha => exact ⟨_, _, _, hp, hi, hn, h0, hl, ha⟩
theorem Cv.inv_ptrE {x i : E} {j : Nat} {rs : Option (List Nat)} {a : AV} (h : Cv c (.ptrE x i j rs) a) :
    x.upto c.ρ.length = true ∧ i.upto c.ρ.length = true ∧ ∃ xs k n, x.den c.ρ = .list xs ∧ i.den c.ρ = .int k n ∧ 0 ≤ n ∧ n.toNat < xs.length ∧
    ((∃ sz rows, (∀ y ∈ rows, y.length = sz ∧ y.all AV.one = true) ∧ F2 (F2 RD) xs rows ∧ a = .ptrL sz rows n.toNat j) ∨
     ∃ r id off sz rows, rs = some r ∧ c.Φ id = some (sz, rows) ∧ c.okr r id ∧ off + xs.length ≤ rows.length ∧ (∀ y ∈ rows, y.length = sz ∧ y.all AV.one = true) ∧ F2 (F2 (RO c.Φ (c.okr r))) xs ((rows.drop off).take xs.length) ∧ a = .ptr id (off + n.toNat) j) := by
  cases h with
  | ptrE hx hi hd hn h0 hl hs h => exact ⟨hx, hi, _, _, _, hd, hn, h0, hl, .inl ⟨_, _, hs, h, rfl⟩⟩
  | ptrF hx hi hd hn h0 hl hΦ hA hl' hs h => exact ⟨hx, hi, _, _, _, hd, hn, h0, hl, .inr ⟨_, _, _, _, _, rfl, hΦ, hA, hl', hs, h, rfl⟩⟩
theorem Cv.inv_own {id : Nat} {a : AV} (h : Cv c (.own id) a) : ∃ p, c.ψ id = some p ∧ ((∃ x, p.idc = some x ∧ a = .own x p.off p.len) ∨ (p.len = 0 ∧ (a = .nilS ∨ a = .emp true))) := by
  cases h with
  | own hp hx => exact ⟨_, hp, .inl ⟨_, hx, rfl⟩⟩
  | ownE hp hl ha => exact ⟨_, hp, .inr ⟨hl, ha⟩⟩
theorem Cv.inv_e {x : E} {a : AV} (h : Cv c (.e x) a) : x.upto c.ρ.length = true ∧ RD (x.den c.ρ) a ∧ a.one = true := by
  cases h with | e h1 h2 h3 => exact ⟨h1, h2, h3⟩
theorem Cv.inv_fz {x : E} {rs : List Nat} {a : AV} (h : Cv c (.fz x rs) a) : x.upto c.ρ.length = true ∧ RO c.Φ (c.okr rs) (x.den c.ρ) a ∧ a.one = true := by
  cases h with | fz h1 h2 h3 => exact ⟨h1, h2, h3⟩
theorem Cv.inv_agg {cs : List SV} {a : AV} (h : Cv c (.agg cs) a) : ∃ as, a = .agg as ∧ F2 (Cv c) cs as ∧ as.all AV.one = true := by
  cases h with | agg h h1 => exact ⟨_, rfl, h, h1⟩
theorem Cv.inv_tup {cs : List SV} {a : AV} (h : Cv c (.tup cs) a) : ∃ as, a = .tup as ∧ F2 (Cv c) cs as := by
  cases h with | tup h => exact ⟨_, rfl, h⟩
theorem Cv.inv_nil {a : AV} (h : Cv c .nil a) : a = .nilS := by
  cases h; rfl
theorem Cv.inv_fn {f : FuncId} {x y : List SV} {a : AV} (h : Cv c (.fn f x y) a) : ∃ as bs, a = .fn f as bs ∧ F2 (Cv c) x as ∧ F2 (Cv c) y bs := by
  cases h with | fn h h' => exact ⟨_, _, rfl, h, h'⟩
theorem Cv.inv_yld {k : Nat} {a : AV} (h : Cv c (.yld k) a) : ∃ id, a = .yld id ∧ c.κ[k]? = some id := by
  cases h with | yld h => exact ⟨_, rfl, h⟩
/-! Data in slots -/
/-- Data wherever it lies. -/
def Dt (c : Cx) (d : D) (a : AV) : Prop := RO c.Φ (fun _ => True) d a ∧ a.one = true
theorem dat_ok {v : SV} {a : AV} {x : E} (h : Cv c v a) (hx : dat v = some x) : x.upto c.ρ.length = true ∧ Dt c (x.den c.ρ) a := by
  cases h with
  | e h1 h2 h3 => cases hx; exact ⟨h1, .b h2, h3⟩
  | fz h1 h2 h3 => cases hx; exact ⟨h1, h2.mono (fun _ _ h => h) (fun _ _ => trivial), h3⟩
  | _ => cases hx
theorem Dt.int {k : IntKind} {n : Int} {a : AV} (h : Dt c (.int k n) a) : a = .int k n := by
  obtain ⟨h, -⟩ := h
  cases h with
  | b h => cases h; rfl
theorem Dt.bool {b : Bool} {a : AV} (h : Dt c (.bool b) a) : a = .bool b := by
  obtain ⟨h, -⟩ := h
  cases h with
  | b h => cases h; rfl
theorem datL_ok {senv : List SV} (h : F2 (Cv c) senv env) : ∀ {xs : List Arg} {es : List E}, datL senv xs = some es → uptoL c.ρ.length es = true ∧ F2 (Dt c) (denL c.ρ es) (xs.map (arg env))
  | [], es, he => by cases he; exact ⟨rfl, .nil⟩
  | x :: xs, es, he => by
    simp only [datL] at he
    split at he
    · rename_i a b h1 h2
      cases he
      obtain ⟨g1, g2⟩ := dat_ok (sarg_ok h x) h1
      obtain ⟨g3, g4⟩ := datL_ok h h2
      exact ⟨by simp [uptoL, g1, g3], .cons g2 g4⟩
    · cases he
theorem datC_ok : ∀ {vs : List SV} {as : List AV} {es : List E}, F2 (Cv c) vs as → datC vs = some es → uptoL c.ρ.length es = true ∧ F2 (Dt c) (denL c.ρ es) as
  | [], _, es, h, he => by cases he; cases h; exact ⟨rfl, .nil⟩
  | v :: vs, _, es, h, he => by
    obtain ⟨a, t, rfl, ha, ht⟩ := F2.inv_cons h
    simp only [datC] at he
    split at he
    · rename_i x y h1 h2
      cases he
      obtain ⟨g1, g2⟩ := dat_ok ha h1
      obtain ⟨g3, g4⟩ := datC_ok ht h2
      exact ⟨by simp [uptoL, g1, g3], .cons g2 g4⟩
    · cases he

/-! What is reckoned -/
def emR (Fs : FuncId → List D → Option D) (em : Em) (ρ ρ' : List D) : Prop :=
  match em with
  | .none => ρ' = ρ
  | .prim p as => ∃ d, D.den1 p (denL ρ as) = some d ∧ ρ' = ρ ++ [d]
  | .call f as sh pre fl so => (∀ x ∈ sh, (x.den ρ).shal 4 = true) ∧ (∀ x ∈ pre, (x.den ρ).flat = true) ∧ ∃ d, Fs f (denL ρ as) = some d ∧ ρ' = ρ ++ [d] ∧ (∀ x ∈ fl, (x.den ρ').flat = true) ∧ ∀ x ∈ so, (x.den ρ').shal 1 = true
  | .callD g as sh pre fl so => (∀ x ∈ sh, (x.den ρ).shal 4 = true) ∧ (∀ x ∈ pre, (x.den ρ).flat = true) ∧ ∃ f a b d, g.den ρ = .fn f a b ∧ Fs f (a ++ denL ρ as ++ b) = some d ∧ ρ' = ρ ++ [d] ∧ (∀ x ∈ fl, (x.den ρ').flat = true) ∧ ∀ x ∈ so, (x.den ρ').shal 1 = true
theorem constL_den {ρ : List D} : ∀ {as : List E} {ds : List D}, constL as = some ds → denL ρ as = ds
  | [], ds, h => by cases h; rfl
  | x :: as, ds, h => by
    simp only [constL] at h
    split at h
    · rename_i d ds' h1 h2
      cases h
      cases x <;> simp [constE] at h1
      subst h1
      simp [denL, E.den, constL_den h2]
    · cases h
theorem emP_ok {Fs : FuncId → List D → Option D} {p : Prim} {as : List E} {n : Nat} {ρ ρ' : List D} (hn : n = ρ.length) (hr : emR Fs (emP p as n).1 ρ ρ') :
    ∃ d, D.den1 p (denL ρ as) = some d ∧ (emP p as n).2.den ρ' = d ∧ (emP p as n).2.upto ρ'.length = true ∧ emN (emP p as n).1 n = ρ'.length ∧ (ρ' = ρ ∨ ρ' = ρ ++ [d]) := by
  unfold emP at hr ⊢
  split at hr
  · rename_i d h
    simp only [emR] at hr; subst hr
    refine ⟨d, ?_, rfl, rfl, hn, .inl rfl⟩
    split at h
    · rename_i ds h1; rw [constL_den h1]; exact h
    · cases h
  · obtain ⟨d, h1, h2⟩ := hr
    subst h2; subst hn
    exact ⟨d, h1, by simp [E.den], by simp [E.upto], by simp [emN], .inr rfl⟩
/-- The state behind what was reckoned. -/
theorem Rel.em {em : Em} {ρ' : List D} {d : D} (r : Rel c S env H K mk) (hn : emN em S.n = ρ'.length) (hρ : ρ' = c.ρ ∨ ρ' = c.ρ ++ [d]) : c.le { c with ρ := ρ' } ∧ Rel { c with ρ := ρ' } { S with n := emN em S.n } env H K mk := by
  rcases hρ with rfl | rfl
  · refine ⟨Cx.le.refl c, ?_⟩
    rw [hn, ← r.n]; exact r
  · obtain ⟨h1, h2⟩ := r.var d
    refine ⟨h1, ?_⟩
    rw [hn]
    have : S.n + 1 = (c.ρ ++ [d]).length := by simp [r.n]
    rw [← this]; exact h2
/-- What an operation does. -/
def OpD (TT : FuncId → Option IFn) (cb : Cb) (c : Cx) (S : SS) (env : List AV) (H : Heap) (K : List FC) (mk : List Nat) (io : PO) (f : Ef) (ρ' : List D) : Prop :=
  ∃ v rd wr nx c', evalOp TT cb env H H.nx io = some (.eff v rd wr nx) ∧ c.le c' ∧ c'.ρ = ρ' ∧ Rel c' { S with heap := f.heap, n := emN f.em S.n } env (wrH H wr nx) K mk ∧ Cv c' f.v v ∧
    (∀ x ∈ rd, c'.okr f.rd x) ∧ ∀ x ∈ wr.map (·.1), ¬ c.F0 x ∧ ∃ s p, c'.ψ s = some p ∧ p.idc = some x ∧ p.rt ∈ f.wr
variable {TT : FuncId → Option IFn} {cb : Cb} {Fs : FuncId → List D → Option D}
theorem wrH_nil (H : Heap) : wrH H [] H.nx = H := by cases H; simp [wrH, wrL]
theorem OpD.plain (r : Rel c S env H K mk) {io : PO} {v : SV} {a : AV} {rs rd : List Nat} {ρ' : List D} (hr : ρ' = c.ρ) (he : evalOp TT cb env H H.nx io = some (.eff a rd [] H.nx)) (hv : Cv c v a) (hrd : ∀ x ∈ rd, c.okr rs x) :
    OpD TT cb c S env H K mk io ⟨.none, v, rs, [], S.heap⟩ ρ' :=
  ⟨a, rd, [], H.nx, c, he, Cx.le.refl c, hr.symm, by rw [wrH_nil]; exact r, hv, hrd, by simp⟩
/-- What is reckoned of data. -/
theorem OpD.emd (r : Rel c S env H K mk) {io : PO} {p : Prim} {as : List E} {rs rd : List Nat} {w : E → SV} {ρ' : List D} (hr : emR Fs (emP p as S.n).1 c.ρ ρ')
    (he : ∀ d, D.den1 p (denL c.ρ as) = some d → ∃ a, evalOp TT cb env H H.nx io = some (.eff a rd [] H.nx) ∧ ∀ (c' : Cx) x, c.le c' → x.den c'.ρ = d → x.upto c'.ρ.length = true → Cv c' (w x) a) (hrd : ∀ x ∈ rd, c.okr rs x) :
    OpD TT cb c S env H K mk io ⟨(emP p as S.n).1, w (emP p as S.n).2, rs, [], S.heap⟩ ρ' := by
  obtain ⟨d, h1, h2, h3, h4, h5⟩ := emP_ok r.n hr
  obtain ⟨a, g1, g2⟩ := he d h1
  obtain ⟨le, r'⟩ := r.em h4 h5
  exact ⟨a, rd, [], H.nx, _, g1, le, rfl, by rw [wrH_nil]; exact r', g2 _ _ le h2 h3, fun x hx => le.okr (hrd x hx), by simp⟩
theorem binD_ok {op : BinOp} {k k' : IntKind} {a b : Int} {d : D} (h : binD op (.int k a) (.int k' b) = some d) : ∃ r, binA op (.int k a) (.int k' b) = some r ∧ RD d r ∧ r.one = true := by
  cases op <;> simp only [binD, binA] at h ⊢ <;> (try (cases h; done)) <;> (repeat' split at h) <;> (try (cases h; done)) <;> cases h <;> simp_all <;> first | exact ⟨.int, rfl⟩ | exact ⟨.bool, rfl⟩
theorem bin_ok {op : BinOp} {d1 d2 d : D} {a1 a2 : AV} (h : binD op d1 d2 = some d) (h1 : Dt c d1 a1) (h2 : Dt c d2 a2) : ∃ r, binA op a1 a2 = some r ∧ RD d r ∧ r.one = true := by
  cases d1 <;> try (simp [binD] at h; done)
  cases d2 <;> try (simp [binD] at h; done)
  rw [h1.int, h2.int]; exact binD_ok h
theorem un_ok {op : UnOp} {d1 d : D} {a1 : AV} (h : unD op d1 = some d) (h1 : Dt c d1 a1) : ∃ r, unA op a1 = some r ∧ RD d r ∧ r.one = true := by
  cases d1 <;> try (simp [unD] at h; done)
  · rw [h1.int]; cases op <;> simp only [unD, reduceCtorEq] at h <;> cases h <;> exact ⟨_, rfl, .int, rfl⟩
  · rw [h1.bool]; cases op <;> simp only [unD, reduceCtorEq] at h <;> cases h <;> exact ⟨_, rfl, .bool, rfl⟩
theorem mx1_ok {b : Bool} {d1 d2 d : D} {a1 a2 : AV} (h : mxD b d1 d2 = some d) (h1 : Dt c d1 a1) (h2 : Dt c d2 a2) : ∃ r, mxA b a1 a2 = some r ∧ Dt c d r := by
  cases d1 <;> try (simp [mxD] at h; done)
  cases d2 <;> try (simp [mxD] at h; done)
  rw [h1.int, h2.int]; simp only [mxD] at h; cases h; exact ⟨_, rfl, .b .int, rfl⟩
theorem mxL_ok {b : Bool} : ∀ {ds : List D} {as : List AV} {d1 d : D} {a1 : AV}, mxLD b d1 ds = some d → Dt c d1 a1 → F2 (Dt c) ds as → ∃ r, mxL b a1 as = some r ∧ Dt c d r
  | [], _, d1, d, a1, h, h1, hs => by cases hs; cases h; exact ⟨_, rfl, h1⟩
  | y :: ys, _, d1, d, a1, h, h1, hs => by
    obtain ⟨a2, t, rfl, g1, g2⟩ := F2.inv_cons hs
    simp only [mxLD] at h
    cases e : mxD b d1 y with
    | none => rw [e] at h; cases h
    | some z =>
      rw [e] at h
      obtain ⟨r, q1, q2⟩ := mx1_ok e h1 g1
      obtain ⟨r', q3, q4⟩ := mxL_ok (d1 := z) h q2 g2
      exact ⟨r', by simp [mxL, q1, q3], q4⟩
theorem Dt.ofRD {d : D} {a : AV} (h : RD d a) (h1 : a.one = true) : Dt c d a := ⟨.b h, h1⟩
theorem eq1_ok {k : Bool} {d1 d2 : D} {a1 a2 : AV} {b : Bool} (h : eqD1 k d1 d2 = some b) (h1 : Dt c d1 a1) (h2 : Dt c d2 a2) : eqA k a1 a2 = some b := by
  cases d1 <;> try (simp [eqD1] at h; done)
  all_goals cases d2 <;> try (simp [eqD1] at h; done)
  · rw [h1.int, h2.int]; exact h
  · rw [h1.bool, h2.bool]; exact h
theorem eq_ok : ∀ {ks : List Bool} {ds es : List D} {as bs : List AV} {b : Bool}, eqDL ks ds es = some b → F2 (Dt c) ds as → F2 (Dt c) es bs → eqL ks as bs = some b
  | [], [], [], _, _, b, h, h1, h2 => by cases h1; cases h2; exact h
  | k :: ks, d :: ds, e :: es, _, _, b, h, h1, h2 => by
    obtain ⟨a1, t1, rfl, g1, g2⟩ := F2.inv_cons h1
    obtain ⟨a2, t2, rfl, g3, g4⟩ := F2.inv_cons h2
    simp only [eqDL] at h
    simp only [eqL]
    split at h
    · rename_i e1; rw [eq1_ok e1 g1 g3]; exact eq_ok h g2 g4
    · rename_i e1; cases h; rw [eq1_ok e1 g1 g3]
    · cases h
  | [], _ :: _, _, _, _, b, h, _, _ => by simp [eqDL] at h
  | [], [], _ :: _, _, _, b, h, _, _ => by simp [eqDL] at h
  | _ :: _, [], _, _, _, b, h, _, _ => by simp [eqDL] at h
  | _ :: _, _ :: _, [], _, _, b, h, _, _ => by simp [eqDL] at h
theorem idx_ok {d : D} {a : AV} {n i : Nat} (h : d.idx n = some i) (h1 : Dt c d a) : idx a n = some i ∧ ∃ k m, d = .int k m ∧ 0 ≤ m ∧ m.toNat < n ∧ i = m.toNat := by
  cases d <;> try (simp [D.idx] at h; done)
  rename_i k m
  rw [h1.int]
  refine ⟨h, k, m, rfl, ?_⟩
  simp only [D.idx] at h
  split at h
  · rename_i hc; cases h; exact ⟨hc.1, by omega, rfl⟩
  · cases h
end Go.Q
/- One operation: parts, places, what is loaded and stored. -/
set_option linter.unusedVariables false
set_option linter.unusedSimpArgs false
namespace Go.Q
open Go.V
variable {c c' : Cx} {S : SS} {env : List AV} {H H' : Heap} {K : List FC} {mk : List Nat}
variable {TT : FuncId → Option IFn} {cb : Cb} {Fs : FuncId → List D → Option D} {ρ' : List D}

theorem all_take {α : Type} {p : α → Bool} {l : List α} (h : l.all p = true) (n : Nat) : (l.take n).all p = true := by
  rw [List.all_eq_true] at h ⊢; exact fun x hx => h x (List.mem_of_mem_take hx)
theorem all_drop {α : Type} {p : α → Bool} {l : List α} (h : l.all p = true) (n : Nat) : (l.drop n).all p = true := by
  rw [List.all_eq_true] at h ⊢; exact fun x hx => h x (List.mem_of_mem_drop hx)
theorem part_ok {cs : List SV} {as : List AV} {n : Option Nat} {j : Nat} {v : SV} (h : F2 (Cv c) cs as) (h1 : as.all AV.one = true) (hp : partS n cs j = some v) : ∃ b, V.part n as j = some b ∧ Cv c v b := by
  cases n with
  | none => obtain ⟨b, g1, g2⟩ := h.get hp; exact ⟨b, g1, g2⟩
  | some k =>
    simp only [partS, subs] at hp
    split at hp
    · rename_i hl
      cases hp
      rw [h.len] at hl
      exact ⟨.agg ((as.drop j).take k), by simp [V.part, hl], .agg ((h.drop j).take k) (all_take (all_drop h1 j) k)⟩
    · cases hp
theorem put_ok {cs xs cs' : List SV} {as bs : List AV} {j : Nat} (h : F2 (Cv c) cs as) (h1 : as.all AV.one = true) (h' : F2 (Cv c) xs bs) (h1' : bs.all AV.one = true) (hp : putS cs j xs = some cs') :
    ∃ as', V.put as j bs = some as' ∧ F2 (Cv c) cs' as' ∧ as'.all AV.one = true ∧ cs'.length = cs.length := by
  simp only [putS] at hp
  split at hp
  · rename_i hl
    cases hp
    rw [h.len, h'.len] at hl
    refine ⟨as.take j ++ bs ++ as.drop (j + bs.length), by simp [V.put, hl], ((h.take j).append h').append (by rw [h'.len]; exact h.drop _), ?_, ?_⟩
    · rw [List.all_append, List.all_append, all_take h1, h1', all_drop h1]; rfl
    · simp [h.len, h'.len]; omega
  · cases hp
theorem denL_get {ρ : List D} : ∀ (xs : List E) (i : Nat), (denL ρ xs)[i]? = (xs[i]?).map (E.den ρ)
  | [], i => by simp [denL]
  | x :: xs, 0 => by simp [denL]
  | x :: xs, i + 1 => by simp [denL, denL_get xs i]
theorem denL_len {ρ : List D} : ∀ (xs : List E), (denL ρ xs).length = xs.length
  | [] => rfl
  | x :: xs => by simp [denL, denL_len xs]
theorem mkCell_den (ρ : List D) (x : E) (j : Nat) : (mkCell x j).den ρ = (x.den ρ).cells.getD j D.unit := by
  unfold mkCell
  split
  · rename_i xs
    simp only [E.den, D.cells, List.getD_eq_getElem?_getD, denL_get]
    cases e : xs[j]? with
    | none => simp [E.den, D.cells, denL_get, e]
    | some y => rfl
  · simp [E.den]
theorem uptoL_get {n : Nat} : ∀ {xs : List E}, uptoL n xs = true → ∀ {i : Nat} {x : E}, xs[i]? = some x → x.upto n = true
  | [], _, i, x, h => by simp at h
  | y :: ys, h, 0, x, e => by simp only [uptoL, Bool.and_eq_true] at h; cases e; exact h.1
  | y :: ys, h, i + 1, x, e => by simp only [uptoL, Bool.and_eq_true] at h; exact uptoL_get h.2 (by simpa using e)
theorem mkCell_upto {n : Nat} {x : E} {j : Nat} (h : x.upto n = true) : (mkCell x j).upto n = true := by
  unfold mkCell
  split
  · rename_i xs
    rw [List.getD_eq_getElem?_getD]
    cases e : xs[j]? with
    | none => exact h
    | some y => exact uptoL_get (xs := xs) h e
  · exact h
/-- A cell of an element. -/
theorem elem1_ok {dp : Option (List Nat)} {d : D} {b : AV} {e : E} (hk : Rk c dp d b) (h1 : b.one = true) (hd : e.den c.ρ = d) (hu : e.upto c.ρ.length = true) : Cv c (elem1 dp e) b := by
  subst hd
  cases dp with
  | none => exact .e hu hk h1
  | some rs => exact .fz hu hk h1
theorem elem_ok {dp : Option (List Nat)} {xd : List D} {row : List AV} {n : Option Nat} {j : Nat} {d : D} (h : F2 (Rk c dp) xd row) (h1 : row.all AV.one = true) (hp : partD n xd j = some d) :
    ∃ b, V.part n row j = some b ∧ ∀ (c' : Cx) e, c.le c' → e.den c'.ρ = d → e.upto c'.ρ.length = true → Cv c' (elemV dp e n) b := by
  cases n with
  | none =>
    obtain ⟨b, g1, g2⟩ := h.get (show xd[j]? = some d from hp)
    exact ⟨b, g1, fun c' e le hd hu => elem1_ok (g2.mono le) (List.all_eq_true.1 h1 b (List.mem_of_getElem? g1)) hd hu⟩
  | some k =>
    simp only [partD] at hp
    split at hp
    · rename_i hl
      cases hp
      have hl' := hl
      rw [h.len] at hl'
      refine ⟨.agg ((row.drop j).take k), by simp [V.part, hl'], fun c' e le hd hu => ?_⟩
      refine .agg (F2.of_get (by simp; omega) fun i v b hv hb => ?_) (all_take (all_drop h1 j) k)
      simp only [List.getElem?_map] at hv
      rw [List.getElem?_range (by
        have := (List.getElem?_eq_some_iff.1 hb).1
        simp at this; omega)] at hv
      cases hv
      obtain ⟨d, q1, q2⟩ := ((h.drop j).take k).getr hb
      refine elem1_ok (q2.mono le) (List.all_eq_true.1 (all_take (all_drop h1 j) k) b (List.mem_of_getElem? hb)) ?_ (mkCell_upto hu)
      rw [mkCell_den, hd]
      simp only [D.cells, List.getD_eq_getElem?_getD, q1]; rfl
    · cases hp
/-- A block that one has: where it lies. -/
theorem okr_of {id x : Nat} {p : Pl} {rs : List Nat} (hp : c.ψ id = some p) (hx : p.idc = some x) (h : p.rt ∈ rs) : c.okr rs x := .inr ⟨id, p, hp, hx, h⟩
theorem Rel.notF0 (r : Rel c S env H K mk) {id x : Nat} {b : SB} {p : Pl} (hb : bget S.heap id = some b) (hp : c.ψ id = some p) (hx : p.idc = some x) : ¬ c.F0 x := fun h => by
  obtain ⟨p', g1, -, -, g4⟩ := r.blk hb
  rw [hp] at g1; cases g1
  exact r.f0 x h (g4 x hx)
theorem getElem?_sub {α : Type} {l : List α} {off len i : Nat} (h : i < len) : ((l.drop off).take len)[i]? = l[off + i]? := by
  rw [List.getElem?_take_of_lt h, List.getElem?_drop]
theorem elemD {xs : List (List D)} {j : Nat} {n : Option Nat} {k : IntKind} {m : Int} {d : D} (h : D.den1 (.elem j n) [.list xs, .int k m] = some d) : ∃ xd, xs[m.toNat]? = some xd ∧ partD n xd j = some d := by
  simp only [D.den1, D.idx] at h
  split at h
  · simp only [Option.bind_some] at h
    cases e : xs[m.toNat]? with
    | none => rw [e] at h; cases h
    | some xd => rw [e] at h; exact ⟨xd, rfl, h⟩
  · cases h

/-! A row with one element -/
theorem OpD.block (r : Rel c S env H K mk) {io : PO} {cs : List SV} {as : List AV} (hr : ρ' = c.ρ) (h : F2 (Cv c) cs as) (h1 : as.all AV.one = true) (he : evalOp TT cb env H H.nx io = some (.eff (.ptr H.nx 0 0) [] [(H.nx, some (.row as.length [as]))] (H.nx + 1))) :
    OpD TT cb c S env H K mk io ⟨.none, .ptr S.heap.length 0, [], [S.heap.length], hnew S.heap (.cells cs)⟩ ρ' := by
  have r1 := r.alloc (some (.row as.length [as]))
  let p : Pl := ⟨some H.nx, 0, 1, S.heap.length⟩
  have hnew : ∀ i q, c.ψ i = some q → q.idc ≠ some H.nx := fun i q h1 h2 => by have := r.bnd i q _ h1 h2; omega
  have hΦ : c.Φ H.nx = none := by
    cases e : c.Φ H.nx with
    | none => rfl
    | some y => have := (r.frz _ _ _ e).2; omega
  have r2 := r1.add p (.cells cs) (fun x hx => by
    cases hx
    exact ⟨by simp [wrH], hΦ, fun i q b' _ hq => hnew i q hq, fun i q hq hq' => absurd hq' (hnew i q hq)⟩)
    ⟨H.nx, as, rfl, by rw [hget_wr1, h.len]; simp, h, h1⟩
  refine ⟨_, _, _, _, _, he, r.le_add p, hr.symm, r2, .ptr (p := p) (by simp [Cx.add]) rfl, by simp, fun x hx => ?_⟩
  simp only [List.map_cons, List.map_nil, List.mem_singleton] at hx
  subst hx
  exact ⟨fun h => r.f0 _ h hΦ, S.heap.length, p, by simp [Cx.add], rfl, by simp [p]⟩

/-! Loads, stores -/
theorem load_ok (r : Rel c S env H K mk) {n : Option Nat} {x : Arg} {f : Ef} (h : doOp S (.load n x) = some f) (hr : emR Fs f.em c.ρ ρ') : OpD TT cb c S env H K mk (.load n x) f ρ' := by
  have hv := sarg_ok r.env x
  simp only [doOp] at h
  split at h
  · rename_i id j e1
    rw [e1] at hv
    split at h
    · rename_i cs e2
      cases e3 : partS n cs j with
      | none => rw [e3] at h; cases h
      | some v =>
        rw [e3] at h; cases h
        obtain ⟨p, z, hp, hx, ha⟩ := hv.inv_ptr
        obtain ⟨p', g1, g2, g3, g4⟩ := r.blk e2
        rw [hp] at g1; cases g1
        obtain ⟨y, as, q1, q2, q3, q4⟩ := g3
        rw [hx] at q1; cases q1
        obtain ⟨b, k1, k2⟩ := part_ok q3 q4 e3
        exact OpD.plain r (rd := [z]) hr (by simp [evalOp, ha, q2, k1]) k2 (fun w hw => by
          simp only [List.mem_singleton] at hw; subst hw
          exact okr_of hp hx (by simp [g2]))
    · cases h
  · rename_i id i j e1
    rw [e1] at hv
    split at h
    · rename_i s y dp e2
      cases h
      obtain ⟨p, w, k, m, hp, hx, hi, hn, h0, hl, ha⟩ := hv.inv_ptrO
      obtain ⟨p', g1, g2, g3, g4⟩ := r.blk e2
      rw [hp] at g1; cases g1
      obtain ⟨xs, q1, q2, q3, q4, q5⟩ := g3
      obtain ⟨rows, t1, t2, t3, t4⟩ := q5 _ hx
      refine OpD.emd r (w := fun x => elemV dp x n) (rd := [w]) hr (fun d hd => ?_) (fun z hz => ?_)
      · simp only [denL, q2, hn] at hd
        obtain ⟨xd, u1, u2⟩ := elemD hd
        obtain ⟨row, u3, u4⟩ := t4.get u1
        rw [getElem?_sub hl] at u3
        obtain ⟨b, u5, u6⟩ := elem_ok u4 (t3 row (List.mem_of_getElem? u3)).2 u2
        exact ⟨b, by simp [evalOp, ha, t1, u3, u5], fun c' e le he hu => u6 c' e le he hu⟩
      · simp only [List.mem_singleton] at hz; subst hz
        exact okr_of hp hx (by simp [g2])
    · cases h
  · rename_i y i j rs e1
    rw [e1] at hv
    cases h
    obtain ⟨hx, hi, xs, k, m, hd, hn, h0, hl, hh⟩ := hv.inv_ptrE
    rcases hh with ⟨sz, rows, hs, h, ha⟩ | ⟨r0, id, off, sz, rows, rfl, hΦ, hA, hl', hs, h, ha⟩
    · refine OpD.emd r (w := fun x => elemV rs x n) (rd := []) hr (fun d hd' => ?_) (by simp)
      simp only [denL, hd, hn] at hd'
      obtain ⟨xd, u1, u2⟩ := elemD hd'
      obtain ⟨row, u3, u4⟩ := h.get u1
      have u4' : F2 (Rk c rs) xd row := by
        cases rs with
        | none => exact u4
        | some rs => exact u4.mono fun _ _ h => .b h
      obtain ⟨b, u5, u6⟩ := elem_ok u4' (hs row (List.mem_of_getElem? u3)).2 u2
      exact ⟨b, by simp [evalOp, ha, u3, u5], fun c' e le he hu => u6 c' e le he hu⟩
    · have hg := (r.frz _ _ _ hΦ).1
      refine OpD.emd r (w := fun x => elemV (some r0) x n) (rd := [id]) hr (fun d hd' => ?_) (fun z hz => by simp only [List.mem_singleton] at hz; subst hz; exact hA)
      simp only [denL, hd, hn] at hd'
      obtain ⟨xd, u1, u2⟩ := elemD hd'
      obtain ⟨row, u3, u4⟩ := h.get u1
      rw [getElem?_sub hl] at u3
      obtain ⟨b, u5, u6⟩ := elem_ok (dp := some r0) u4 (hs row (List.mem_of_getElem? u3)).2 u2
      exact ⟨b, by simp [evalOp, ha, hg, u3, u5], fun c' e le he hu => u6 c' e le he hu⟩
  · cases h
theorem plainL_ok : ∀ {vs : List SV} {as : List AV} {es : List E}, F2 (Cv c) vs as → plainL vs = some es → uptoL c.ρ.length es = true ∧ F2 RD (denL c.ρ es) as
  | [], _, es, h, he => by cases he; cases h; exact ⟨rfl, .nil⟩
  | v :: vs, _, es, h, he => by
    obtain ⟨a, t, rfl, ha, ht⟩ := F2.inv_cons h
    simp only [plainL] at he
    split at he
    · rename_i x y h1 h2
      cases he
      obtain ⟨g3, g4⟩ := plainL_ok ht h2
      cases v <;> simp only [plain1, reduceCtorEq] at h1 <;> cases h1
      · obtain ⟨hx, hd, h1⟩ := ha.inv_e
        exact ⟨by simp [uptoL, hx, g3], .cons hd g4⟩
      · have := ha.inv_nil
        subst this
        exact ⟨by simp [uptoL, E.upto, g3], .cons .nilS g4⟩
    · cases he
theorem putD_ok {dp : Option (List Nat)} {xd cs xd' : List D} {row bs : List AV} {j : Nat} (h : F2 (Rk c dp) xd row) (h1 : row.all AV.one = true) (h' : F2 (Rk c dp) cs bs) (h1' : bs.all AV.one = true) (hp : putD xd j cs = some xd') :
    ∃ row', V.put row j bs = some row' ∧ F2 (Rk c dp) xd' row' ∧ row'.all AV.one = true ∧ row'.length = row.length := by
  simp only [putD] at hp
  split at hp
  · rename_i hl
    cases hp
    rw [h.len, h'.len] at hl
    refine ⟨row.take j ++ bs ++ row.drop (j + bs.length), by simp [V.put, hl], ((h.take j).append h').append (by rw [h'.len]; exact h.drop _), ?_, ?_⟩
    · rw [List.all_append, List.all_append, all_take h1, h1', all_drop h1]; rfl
    · simp; omega
  · cases hp
theorem Rk.ofRD {dp : Option (List Nat)} {d : D} {a : AV} (h : RD d a) : Rk c dp d a := by
  cases dp with
  | none => exact h
  | some rs => exact .b h
theorem sub_set {α : Type} {l : List α} {off len i : Nat} {a : α} (h : i < len) : ((l.set (off + i) a).drop off).take len = ((l.drop off).take len).set i a := by
  apply List.ext_getElem?
  intro j
  by_cases hj : j < len
  · rw [getElem?_sub hj, List.getElem?_set, List.getElem?_set, getElem?_sub hj]
    by_cases e : i = j
    · subst e
      simp only [if_true, List.length_take, List.length_drop]
      by_cases q : off + i < l.length
      · rw [if_pos q, if_pos (by omega)]
      · rw [if_neg q, if_neg (by omega)]
    · rw [if_neg (by omega), if_neg e]
  · rw [List.getElem?_eq_none (by simp; omega), List.getElem?_eq_none (by simp; omega)]
end Go.Q
/- One operation: lists that are made. -/
set_option linter.unusedVariables false
set_option linter.unusedSimpArgs false
namespace Go.Q
open Go.V
variable {c c' : Cx} {S : SS} {env : List AV} {H H' : Heap} {K : List FC} {mk : List Nat}
variable {TT : FuncId → Option IFn} {cb : Cb} {Fs : FuncId → List D → Option D} {ρ' : List D}

theorem Rel.fresh (r : Rel c S env H K mk) : (∀ i q, c.ψ i = some q → q.idc ≠ some H.nx) ∧ c.Φ H.nx = none ∧ ¬ c.F0 H.nx := by
  have h1 : c.Φ H.nx = none := by
    cases e : c.Φ H.nx with
    | none => rfl
    | some y => have := (r.frz _ _ _ e).2; omega
  exact ⟨fun i q h1 h2 => by have := r.bnd i q _ h1 h2; omega, h1, fun h => r.f0 _ h h1⟩
/-- A block goes, whatever is written there. -/
theorem Rel.gone (r : Rel c S env H K mk) {id : Nat} {b : SB} {p : Pl} {x : Nat} (hb : bget S.heap id = some b) (hp : c.ψ id = some p) (hx : p.idc = some x) (o : Option Blk) :
    Rel c { S with heap := hput S.heap id none } env (wrH H [(x, o)] H.nx) K mk := by
  have hg : ∀ y, y ≠ x → hget (wrH H [(x, o)] H.nx) y = hget H y := fun y hy => by rw [hget_wr1]; simp only; rw [if_neg hy]
  have hn : (wrH H [(x, o)] H.nx).nx = H.nx := by simp [wrH]
  refine r.mem (Cx.le.refl c) rfl (fun y => y = x) (fun y h => ⟨id, p, b, hb, hp, by rw [h]; exact hx⟩) (fun y _ hy => hg y hy) (by rw [hn]; exact Nat.le_refl _) (fun i p h => by rw [hput_len]; exact r.hlen i p h) ?_ ?_ r.rt (by rw [hn]; exact r.bnd) (fun x sz rows h1 h2 => by rw [h1] at h2; cases h2)
  · intro i h hh
    rcases hput_at hh with ⟨e, g⟩ | ⟨rfl, rfl, hl⟩
    · obtain ⟨q, g1, g2, g3⟩ := r.heap i h g
      refine ⟨q, g1, g2, fun b1 hb1 => ⟨(g3 b1 hb1).1.mem fun y hy => hg y ?_, (g3 b1 hb1).2⟩⟩
      rintro rfl
      exact e (r.inj _ _ _ _ _ _ _ (bget_some.2 ⟨h, g, hb1⟩) hb g1 hp hy hx)
    · obtain ⟨p, g1, g2, g3⟩ := r.heap i _ (List.getElem?_eq_getElem hl)
      exact ⟨p, g1, by rw [g2]; simp [rtOf, List.getElem?_eq_getElem hl], fun b e => by cases e⟩
  · intro i i' p p' x b b' h1 h2 h3 h4 h5 h6
    rcases bget_put h1 with ⟨-, g1⟩ | ⟨-, e⟩
    · rcases bget_put h2 with ⟨-, g2⟩ | ⟨-, e⟩
      · exact r.inj _ _ _ _ _ _ _ g1 g2 h3 h4 h5 h6
      · cases e
    · cases e
/-- How a list that is made comes out. -/
inductive Made (c : Cx) (H : Heap) (sz : Nat) (dp : Option (List Nat)) (xs : List (List D)) : AV → Wr → Nat → Prop
  | fresh {rows : List (List AV)} (hl : xs.length ≤ rows.length) (hs : ∀ r ∈ rows, r.length = sz ∧ r.all AV.one = true) (h : F2 (F2 (Rk c dp)) xs (rows.take xs.length)) : Made c H sz dp xs (.own H.nx 0 xs.length) [(H.nx, some (.row sz rows))] (H.nx + 1)
  | none {a : AV} (h : xs = []) (ha : a = .nilS ∨ a = .emp true) : Made c H sz dp xs a [] H.nx
theorem OpD.mkL {c1 : Cx} {heap1 : List HB} {io : PO} {p : Prim} {as : List E} {sz : Nat} {dp : Option (List Nat)} {rs rd : List Nat} (hle : c.le c1) (hρ : c1.ρ = c.ρ) (r : Rel c1 { S with heap := heap1 } env H K mk) (hr : emR Fs (emP p as S.n).1 c.ρ ρ')
    (he : ∀ d, D.den1 p (denL c.ρ as) = some d → ∃ xs a wr nx, d = .list xs ∧ evalOp TT cb env H H.nx io = some (.eff a rd wr nx) ∧ Made c1 H sz dp xs a wr nx) (hrd : ∀ x ∈ rd, c1.okr rs x) :
    OpD TT cb c S env H K mk io (mkList S sz p as heap1 dp rs) ρ' := by
  rw [← hρ] at hr
  obtain ⟨d, h1, h2, h3, h4, h5⟩ := emP_ok (n := S.n) (show S.n = c1.ρ.length from r.n) hr
  rw [hρ] at h1
  obtain ⟨xs, a, wr, nx, g1, g2, g3⟩ := he d h1
  subst g1
  obtain ⟨le, r1⟩ := r.em (em := (emP p as S.n).1) h4 h5
  obtain ⟨f1, f2, f3⟩ := r1.fresh
  have hF0 : ¬ c.F0 H.nx := by rw [← hle.F0]; exact f3
  cases g3 with
  | fresh hl hs h =>
    rename_i rows
    have r2 := r1.alloc (some (.row sz rows))
    let q : Pl := ⟨some H.nx, 0, xs.length, heap1.length⟩
    have r3 := r2.add q (.list sz (emP p as S.n).2 dp) (fun x hx => by
      cases hx
      exact ⟨by simp [wrH], f2, fun i q b' _ hq => f1 i q hq, fun i q hq hq' => absurd hq' (f1 i q hq)⟩)
      ⟨xs, h3, h2, rfl, fun hh => (by cases hh), fun y hy => (by
        cases hy
        exact ⟨rows, by rw [hget_wr1]; simp, by simpa [q] using hl, hs, by simpa [q] using h.mono fun _ _ => F2.mono fun _ _ => Rk.mono le⟩)⟩
    have le3 := r2.le_add q
    refine ⟨_, rd, _, _, _, g2, hle.trans (le.trans le3), rfl, r3, .own (p := q) (by simp [Cx.add]) rfl, fun x hx => (le.trans le3).okr (hrd x hx), fun x hx => ?_⟩
    simp only [List.map_cons, List.map_nil, List.mem_singleton] at hx
    subst hx
    exact ⟨hF0, heap1.length, q, by simp [Cx.add], rfl, by simp [q, mkList]⟩
  | none h ha =>
    subst h
    let q : Pl := ⟨none, 0, 0, heap1.length⟩
    have r3 := r1.add q (.list sz (emP p as S.n).2 dp) (fun x hx => by cases hx) ⟨[], h3, h2, rfl, fun _ => rfl, fun y hy => (by cases hy)⟩
    have le3 := r1.le_add q
    exact ⟨_, rd, _, _, _, g2, hle.trans (le.trans le3), rfl, by rw [wrH_nil]; exact r3, .ownE (p := q) (by simp [Cx.add]) rfl ha, fun x hx => (le.trans le3).okr (hrd x hx), by simp⟩
/-- How a list comes out that takes the place of another one. -/
inductive Next (c : Cx) (H : Heap) (sz : Nat) (p : Pl) (dp : Option (List Nat)) (xs : List (List D)) : AV → Wr → Nat → Prop
  | fresh {x : Nat} {rows : List (List AV)} (hx : p.idc = some x) (hl : xs.length = rows.length) (hs : ∀ r ∈ rows, r.length = sz ∧ r.all AV.one = true) (h : F2 (F2 (Rk c dp)) xs rows) :
      Next c H sz p dp xs (.own H.nx 0 xs.length) [(x, none), (H.nx, some (.row sz rows))] (H.nx + 1)
  | new {rows : List (List AV)} (hl : xs.length = rows.length) (hs : ∀ r ∈ rows, r.length = sz ∧ r.all AV.one = true) (h : F2 (F2 (Rk c dp)) xs rows) : Next c H sz p dp xs (.own H.nx 0 xs.length) [(H.nx, some (.row sz rows))] (H.nx + 1)
  | same {x : Nat} {rows : List (List AV)} (hx : p.idc = some x) (hr : hget H x = some (.row sz rows)) (hl : p.off + xs.length ≤ rows.length) (hs : ∀ r ∈ rows, r.length = sz ∧ r.all AV.one = true) (h : F2 (F2 (Rk c dp)) xs ((rows.drop p.off).take xs.length)) :
      Next c H sz p dp xs (.own x p.off xs.length) [] H.nx
  | none {a : AV} (h : xs = []) (ha : a = .nilS ∨ a = .emp true) : Next c H sz p dp xs a [] H.nx
theorem OpD.nextL {io : PO} {p : Prim} {as : List E} {id sz : Nat} {b : SB} {q0 : Pl} {dp : Option (List Nat)} {rs rd : List Nat} (r : Rel c S env H K mk) (hr : emR Fs (emP p as S.n).1 c.ρ ρ') (hb : bget S.heap id = some b) (hq : c.ψ id = some q0)
    (he : ∀ d, D.den1 p (denL c.ρ as) = some d → ∃ xs a wr nx, d = .list xs ∧ evalOp TT cb env H H.nx io = some (.eff a rd wr nx) ∧ Next c H sz q0 dp xs a wr nx) (hrd : ∀ x ∈ rd, c.okr (rtOf S.heap id :: rs) x) :
    OpD TT cb c S env H K mk io (nextList S id sz p as dp rs) ρ' := by
  obtain ⟨d, h1, h2, h3, h4, h5⟩ := emP_ok r.n hr
  obtain ⟨xs, a, wr, nx, g1, g2, g3⟩ := he d h1
  subst g1
  obtain ⟨p', k1, k2, k3, k4⟩ := r.blk hb
  rw [hq] at k1; cases k1
  obtain ⟨le, r1⟩ := r.em (em := (emP p as S.n).1) h4 h5
  obtain ⟨f1, f2, f3⟩ := r1.fresh
  have hF0 : ¬ c.F0 H.nx := f3
  have hlen : (hput S.heap id none).length = S.heap.length := hput_len
  have e : nextList S id sz p as dp rs = ⟨(emP p as S.n).1, .own (hput S.heap id none).length, rtOf S.heap id :: rs, [rtOf S.heap id], hput S.heap id none ++ [⟨rtOf S.heap id, some (.list sz (emP p as S.n).2 dp)⟩]⟩ := by
    rw [hlen]; rfl
  rw [e]
  cases g3 with
  | fresh hx hl hs h =>
    rename_i x rows
    have r2 := (r1.gone (id := id) hb hq hx none).alloc (some (.row sz rows))
    let q : Pl := ⟨some H.nx, 0, xs.length, rtOf S.heap id⟩
    have r3 := r2.add q (.list sz (emP p as S.n).2 dp) (fun x hx => by
      cases hx
      exact ⟨by simp [wrH], f2, fun i q b' _ hq => f1 i q hq, fun i q hq hq' => absurd hq' (f1 i q hq)⟩)
      ⟨xs, h3, h2, rfl, fun hh => (by cases hh), fun y hy => (by
        cases hy
        refine ⟨rows, by rw [hget_wr1]; simp [wrH], by simp [q, hl], hs, ?_⟩
        have := h.mono (fun _ _ => F2.mono fun _ _ => Rk.mono (dp := dp) le)
        simpa [q, hl] using this)⟩
    have le3 := r2.le_add q
    have hw : wrH (wrH H [(x, none)] H.nx) [((wrH H [(x, none)] H.nx).nx, some (.row sz rows))] ((wrH H [(x, none)] H.nx).nx + 1) = wrH H [(x, none), (H.nx, some (.row sz rows))] (H.nx + 1) := by
      simp [wrH, wrL]
    rw [hw] at r3
    refine ⟨_, rd, _, _, _, g2, le.trans le3, rfl, r3, .own (p := q) (by simp [Cx.add]) rfl, fun x hx => (le.trans le3).okr (hrd x hx), fun y hy => ?_⟩
    simp only [List.map_cons, List.map_nil, List.mem_cons, List.not_mem_nil, or_false] at hy
    rcases hy with rfl | rfl
    · exact ⟨r.notF0 hb hq hx, id, q0, le3.ψ _ _ hq, hx, by simp [k2]⟩
    · exact ⟨hF0, (hput S.heap id none).length, q, by simp [Cx.add], rfl, by simp [q]⟩
  | new hl hs h =>
    rename_i rows
    have r2 := (r1.drop id).alloc (some (.row sz rows))
    let q : Pl := ⟨some H.nx, 0, xs.length, rtOf S.heap id⟩
    have r3 := r2.add q (.list sz (emP p as S.n).2 dp) (fun x hx => by
      cases hx
      exact ⟨by simp [wrH], f2, fun i q b' _ hq => f1 i q hq, fun i q hq hq' => absurd hq' (f1 i q hq)⟩)
      ⟨xs, h3, h2, rfl, fun hh => (by cases hh), fun y hy => (by
        cases hy
        refine ⟨rows, by rw [hget_wr1]; simp [wrH], by simp [q, hl], hs, ?_⟩
        have := h.mono (fun _ _ => F2.mono fun _ _ => Rk.mono (dp := dp) le)
        simpa [q, hl] using this)⟩
    have le3 := r2.le_add q
    refine ⟨_, rd, _, _, _, g2, le.trans le3, rfl, r3, .own (p := q) (by simp [Cx.add]) rfl, fun x hx => (le.trans le3).okr (hrd x hx), fun y hy => ?_⟩
    simp only [List.map_cons, List.map_nil, List.mem_singleton] at hy
    subst hy
    exact ⟨hF0, (hput S.heap id none).length, q, by simp [Cx.add], rfl, by simp [q]⟩
  | same hx hg hl hs h =>
    rename_i x rows
    have r2 := r1.drop id
    let q : Pl := ⟨some x, q0.off, xs.length, rtOf S.heap id⟩
    have r3 := r2.add q (.list sz (emP p as S.n).2 dp) (fun y hy => by
      cases hy
      refine ⟨r.bnd _ _ _ hq hx, k4 _ hx, fun i q b' hb' hi hi' => ?_, fun i q hi hi' => ?_⟩
      · rcases bget_put hb' with ⟨e, g⟩ | ⟨-, e⟩
        · exact e (r.inj _ _ _ _ _ _ _ g hb hi hq hi' hx)
        · cases e
      · exact (r.rt _ _ _ _ _ hi hq hi' hx).trans k2)
      ⟨xs, h3, h2, rfl, fun hh => (by cases hh), fun y hy => (by
        cases hy
        exact ⟨rows, hg, hl, hs, h.mono (fun _ _ => F2.mono fun _ _ => Rk.mono (dp := dp) le)⟩)⟩
    have le3 := r2.le_add q
    exact ⟨_, rd, _, _, _, g2, le.trans le3, rfl, by rw [wrH_nil]; exact r3, .own (p := q) (by simp [Cx.add]) rfl, fun x hx => (le.trans le3).okr (hrd x hx), by simp⟩
  | none h ha =>
    subst h
    let q : Pl := ⟨none, 0, 0, rtOf S.heap id⟩
    have r3 := (r1.drop id).add q (.list sz (emP p as S.n).2 dp) (fun x hx => by cases hx) ⟨[], h3, h2, rfl, fun _ => rfl, fun y hy => (by cases hy)⟩
    have le3 := (r1.drop id).le_add q
    exact ⟨_, rd, _, _, _, g2, le.trans le3, rfl, by rw [wrH_nil]; exact r3, .ownE (p := q) (by simp [Cx.add]) rfl ha, fun x hx => (le.trans le3).okr (hrd x hx), by simp⟩
theorem Rk.addL {a b : Option (List Nat)} {d : D} {v : AV} (h : Rk c a d v) : Rk c (addR a b) d v := by
  cases a with
  | none => exact Rk.ofRD h
  | some rs => cases b with
    | none => exact h
    | some rs' => exact RO.mono (fun _ _ h => h) (fun id hid => by
        rcases hid with h | ⟨s, p, h1, h2, h3⟩
        · exact .inl h
        · exact .inr ⟨s, p, h1, h2, by simp [h3]⟩) h
theorem Rk.addRr {a b : Option (List Nat)} {d : D} {v : AV} (h : Rk c b d v) : Rk c (addR a b) d v := by
  cases b with
  | none => exact Rk.ofRD h
  | some rs => cases a with
    | none => exact h
    | some rs' => exact RO.mono (fun _ _ h => h) (fun id hid => by
        rcases hid with h | ⟨s, p, h1, h2, h3⟩
        · exact .inl h
        · exact .inr ⟨s, p, h1, h2, by simp [h3]⟩) h
/-- What is appended: its elements. -/
structure Tail (c : Cx) (H : Heap) (sz : Nat) (dy : Option (List Nat)) (ya : AV) (ys : List (List D)) (rows : List (List AV)) (rd : List Nat) : Prop where
  he : elems H sz ya = some (rows, rd)
  h : F2 (F2 (Rk c dy)) ys rows
  hs : ∀ r ∈ rows, r.length = sz ∧ r.all AV.one = true
theorem elems_own {z off len s : Nat} {rows : List (List AV)} (h0 : len ≠ 0) (hg : hget H z = some (.row s rows)) (hl : off + len ≤ rows.length) : elems H s (.own z off len) = some ((rows.drop off).take len, [z]) := by
  cases len with
  | zero => exact absurd rfl h0
  | succ k => simp [elems, hg, hl]
theorem appD {sz bytes : Nat} {xs ys : List (List D)} {d : D} (h : D.den1 (.app sz bytes) [.list xs, .list ys] = some d) : d = .list (xs ++ ys) ∧ (ys.isEmpty = true ∨ (xs.length + ys.length + 1) * (bytes + 1) ≤ 1099511627776) := by
  simp only [D.den1] at h
  split at h
  · rename_i hc; cases h; exact ⟨rfl, hc.1⟩
  · cases h
theorem app_ok (r : Rel c S env H K mk) {sz bytes : Nat} {x y : Arg} {cy : E} {dy : Option (List Nat)} {ry rd : List Nat} {f : Ef} (hcy : cy.upto c.ρ.length = true) (h : appS S sz bytes (sarg S.env x) cy dy ry = some f) (hr : emR Fs f.em c.ρ ρ')
    (ht : ∀ ys, cy.den c.ρ = .list ys → ys.all (fun y => y.length == sz) = true → ∃ rows, Tail c H sz dy (arg env y) ys rows rd) (hrd : ∀ x ∈ rd, c.okr ry x) : OpD TT cb c S env H K mk (.app sz bytes x y) f ρ' := by
  have hv := sarg_ok r.env x
  have hall : ∀ {xs ys d}, D.den1 (.app sz bytes) [.list xs, .list ys] = some d → ys.all (fun y => y.length == sz) = true := fun {xs ys d} h => by
    simp only [D.den1] at h
    split at h
    · rename_i hc; exact hc.2
    · cases h
  unfold appS at h
  split at h
  · rename_i e1
    cases h
    rw [e1] at hv
    have ha := hv.inv_nil
    refine OpD.mkL (c1 := c) (heap1 := S.heap) (Cx.le.refl c) rfl r hr (fun d hd => ?_) hrd
    simp only [denL, E.den] at hd
    cases ed : E.den c.ρ cy <;> rw [ed] at hd <;> try (simp [D.den1] at hd; done)
    rename_i ys
    obtain ⟨rows, t1, t2, t3⟩ := ht ys ed (hall hd)
    obtain ⟨rfl, hb⟩ := appD hd
    cases rows with
    | nil =>
      have := t2.len
      have hys : ys = [] := by simpa using this
      subst hys
      exact ⟨[], .nilS, [], H.nx, rfl, by simp [evalOp, t1, ha], .none rfl (.inl rfl)⟩
    | cons r0 rs =>
      have hl := t2.len
      have hb' : (0 + ys.length + 1) * (bytes + 1) ≤ 1099511627776 := by
        rcases hb with hb | hb
        · rw [List.isEmpty_iff] at hb; subst hb; simp at hl
        · simpa using hb
      refine ⟨ys, _, _, _, rfl, ?_, .fresh (rows := r0 :: rs) (by omega) t3 (by rw [hl, List.take_length]; exact t2)⟩
      simp only [evalOp, t1, ha]
      rw [if_pos (by rw [← hl]; simpa using hb'), hl]
  · rename_i id e1
    rw [e1] at hv
    split at h
    · rename_i s cx dx e2
      split at h
      · rename_i hsz
        subst hsz
        cases h
        obtain ⟨p, hp, ha⟩ := hv.inv_own
        obtain ⟨p', g1, g2, g3, g4⟩ := r.blk e2
        rw [hp] at g1; cases g1
        obtain ⟨xs, q1, q2, q3, q4, q5⟩ := g3
        have main : ∀ d, D.den1 (.app s bytes) (denL c.ρ [cx, cy]) = some d → ∃ ys rows, Tail c H s dy (arg env y) ys rows rd ∧ d = .list (xs ++ ys) ∧ (ys = [] ∨ (xs.length + ys.length + 1) * (bytes + 1) ≤ 1099511627776) := fun d hd => by
          simp only [denL, q2] at hd
          cases ed : E.den c.ρ cy <;> rw [ed] at hd <;> try (simp [D.den1] at hd; done)
          rename_i ys
          obtain ⟨rows, t⟩ := ht ys ed (hall hd)
          obtain ⟨e, hb⟩ := appD hd
          exact ⟨ys, rows, t, e, hb.imp List.isEmpty_iff.1 (fun h => h)⟩
        rcases ha with ⟨z, hz, ha⟩ | ⟨hl0, ha⟩
        · obtain ⟨rows0, t1, t2, t3, t4⟩ := q5 _ hz
          by_cases hrow : ∃ ys, cy.den c.ρ = .list ys ∧ ys = []
          · -- nothing is appended
            obtain ⟨ys, hy1, hy2⟩ := hrow
            subst hy2
            refine OpD.nextL (rd := rd) r hr e2 hp (fun d hd => ?_) (fun w hw => by
              rcases hrd w hw with h | ⟨s, p, h1, h2, h3⟩
              · exact .inl h
              · exact .inr ⟨s, p, h1, h2, by simp [h3]⟩)
            obtain ⟨ys, rows, t, rfl, hb⟩ := main d hd
            simp only [denL, q2, hy1] at hd
            have hys : ys = [] := by
              have := (appD hd).1
              simpa using this
            subst hys
            have hrows : rows = [] := by have := t.h.len; simpa using this.symm
            subst hrows
            refine ⟨xs ++ [], .own z p.off p.len, [], H.nx, rfl, ?_, ?_⟩
            · simp [evalOp, t.he, ha]
            · rw [List.append_nil, ← q3]
              exact .same hz t1 (by rw [q3]; exact t2) t3 (by rw [q3]; exact t4.mono fun _ _ => F2.mono fun _ _ => Rk.addL)
          · refine OpD.nextL (rd := z :: rd) r hr e2 hp (fun d hd => ?_) (fun w hw => by
              rcases List.mem_cons.1 hw with rfl | hw
              · exact okr_of hp hz (by simp [g2])
              · rcases hrd w hw with h | ⟨s, p, h1, h2, h3⟩
                · exact .inl h
                · exact .inr ⟨s, p, h1, h2, by simp [h3]⟩)
            have hd0 := hd
            obtain ⟨ys, rows, t, rfl, hb⟩ := main d hd
            simp only [denL, q2] at hd0
            have hys : ys ≠ [] := fun e => hrow (by
              cases ed : E.den c.ρ cy <;> rw [ed] at hd0 <;> try (simp [D.den1] at hd0; done)
              rename_i ys'
              have := (appD hd0).1
              simp only [D.list.injEq, List.append_cancel_left_eq] at this
              exact ⟨ys', rfl, by rw [← this]; exact e⟩)
            have hb' := hb.resolve_left hys
            have hl := t.h.len
            cases rows with
            | nil => exact absurd (by simpa using hl) hys
            | cons r0 rs =>
              refine ⟨xs ++ ys, _, _, _, rfl, ?_, .fresh hz (rows := (rows0.drop p.off).take p.len ++ r0 :: rs) ?_ ?_ ?_⟩
              · simp only [evalOp, t.he, ha, t1]
                rw [if_pos ⟨trivial, t2, by rw [← hl, ← q3]; exact hb'⟩]
                simp [← hl, ← q3]
              · simp [← hl, q3]; omega
              · intro q hq
                rcases List.mem_append.1 hq with hq | hq
                · exact t3 q (List.mem_of_mem_drop (List.mem_of_mem_take hq))
                · exact t.hs q hq
              · exact (t4.mono fun _ _ => F2.mono fun _ _ => Rk.addL).append (t.h.mono fun _ _ => F2.mono fun _ _ => Rk.addRr)
        · have hxs : xs = [] := by rw [hl0] at q3; simpa using q3
          subst hxs
          refine OpD.nextL (rd := rd) r hr e2 hp (fun d hd => ?_) (fun w hw => by
            rcases hrd w hw with h | ⟨s, p, h1, h2, h3⟩
            · exact .inl h
            · exact .inr ⟨s, p, h1, h2, by simp [h3]⟩)
          obtain ⟨ys, rows, t, rfl, hb⟩ := main d hd
          have hl := t.h.len
          cases rows with
          | nil =>
            have hys : ys = [] := by simpa using hl
            subst hys
            refine ⟨[], arg env x, [], H.nx, rfl, ?_, .none rfl ha⟩
            rcases ha with ha | ha <;> simp [evalOp, t.he, ha]
          | cons r0 rs =>
            have hys : ys ≠ [] := fun e => by subst e; simp at hl
            have hb' := hb.resolve_left hys
            refine ⟨ys, .own H.nx 0 ys.length, _, _, rfl, ?_, .new hl t.hs (t.h.mono fun _ _ => F2.mono fun _ _ => Rk.addRr)⟩
            have hb'' : (((r0 :: rs).length + 1) * (bytes + 1) ≤ 1099511627776) := by rw [← hl]; simpa using hb'
            rcases ha with ha | ha <;> simp only [evalOp, t.he, ha] <;> rw [if_pos hb'', hl]
      · cases h
    · cases h
  · cases h
end Go.Q
/- One operation: all the others. -/
set_option linter.unusedVariables false
set_option linter.unusedSimpArgs false
namespace Go.Q
open Go.V
variable {c c' : Cx} {S : SS} {env : List AV} {H H' : Heap} {K : List FC} {mk : List Nat}
variable {TT : FuncId → Option IFn} {cb : Cb} {Fs : FuncId → List D → Option D} {ρ' : List D}

theorem okZero_ok {zero : List AV} (h : okZero zero = true) : F2 RD (zeroD zero) zero ∧ zero.all AV.one = true ∧ (zeroD zero).length = zero.length := by
  induction zero with
  | nil => exact ⟨.nil, rfl, rfl⟩
  | cons v zero ih =>
    simp only [okZero, List.all_cons, Bool.and_eq_true] at h
    obtain ⟨h1, h2, h3⟩ := ih h.2
    have : RD (match ofAV1 v with | .e (.c d) => d | .nil => .list [] | _ => .unit) v ∧ v.one = true := by
      cases v <;> simp [ofAV1] at h ⊢ <;> first | exact ⟨.int, rfl⟩ | exact ⟨.bool, rfl⟩ | exact ⟨.str, rfl⟩ | exact ⟨.nilS, rfl⟩ | exact ⟨.nilP, rfl⟩ | exact ⟨.nilF, rfl⟩ | skip
    exact ⟨.cons this.1 h1, by simp [this.2, h2], by simp [zeroD] at h3 ⊢⟩
theorem Rk.list {dp : Option (List Nat)} {xs : List D} {as : List AV} (h : F2 RD xs as) : F2 (Rk c dp) xs as := h.mono fun _ _ => Rk.ofRD
theorem fill_ok {senv : List SV} (he : F2 (Cv c) senv env) : ∀ {parts : List (Nat × Nat × Arg)} {cs cs' : List SV} {as : List AV}, F2 (Cv c) cs as → as.all AV.one = true → fillV senv parts cs = some cs' →
    ∃ as', fillA env parts as = some as' ∧ F2 (Cv c) cs' as' ∧ as'.all AV.one = true
  | [], cs, cs', as, h, h1, hf => by cases hf; exact ⟨as, rfl, h, h1⟩
  | (off, size, x) :: ps, cs, cs', as, h, h1, hf => by
    simp only [fillV] at hf
    split at hf
    · rename_i xs e1
      split at hf
      · rename_i hl
        obtain ⟨c1, c2⟩ := cells_ok (sarg_ok he x) e1
        cases e2 : putS cs off xs with
        | none => rw [e2] at hf; cases hf
        | some cs1 =>
          rw [e2] at hf
          obtain ⟨as1, k1, k2, k3, k4⟩ := put_ok h h1 c1 c2 e2
          obtain ⟨as', k5, k6, k7⟩ := fill_ok he k2 k3 hf
          refine ⟨as', ?_, k6, k7⟩
          simp only [fillA]
          rw [if_pos ⟨by rw [← c1.len]; exact hl, c2⟩, k1]
          exact k5
      · cases hf
    · cases hf
theorem idxD {sz : Nat} {xs : List (List D)} {d d' : D} (h : D.den1 (.idx sz) [.list xs, d] = some d') : ∃ k m x, d = .int k m ∧ 0 ≤ m ∧ m.toNat < xs.length ∧ xs[m.toNat]? = some x ∧ x.length = sz := by
  simp only [D.den1] at h
  cases e : d.idx xs.length with
  | none => rw [e] at h; cases h
  | some i =>
    rw [e] at h
    simp only [Option.bind_some] at h
    cases d <;> simp only [D.idx, reduceCtorEq] at e
    rename_i k m
    split at e
    · rename_i hc
      cases e
      cases e2 : xs[m.toNat]? with
      | none => rw [e2] at h; cases h
      | some x =>
        rw [e2] at h
        simp only [Option.bind_some] at h
        split at h
        · rename_i hl; exact ⟨k, m, x, rfl, hc.1, by omega, e2, hl⟩
        · cases h
    · cases e
theorem idx_at {a : AV} {k : IntKind} {m : Int} {n : Nat} (h : Dt c (.int k m) a) (h0 : 0 ≤ m) (hl : m.toNat < n) : idx a n = some m.toNat := by
  rw [h.int]; simp only [idx]; rw [if_pos ⟨h0, by omega⟩]
theorem indexS_ok (r : Rel c S env H K mk) {sz : Nat} {x i : Arg} {f : Ef} (h : doOp S (.indexS sz x i) = some f) (hr : emR Fs f.em c.ρ ρ') : OpD TT cb c S env H K mk (.indexS sz x i) f ρ' := by
  have hv := sarg_ok r.env x
  simp only [doOp] at h
  split at h
  · rename_i id i' e1 e2
    rw [e1] at hv
    obtain ⟨hi, hd⟩ := dat_ok (sarg_ok r.env i) e2
    split at h
    · rename_i s y dp e3
      split at h
      · rename_i hsz
        subst hsz
        cases h
        obtain ⟨p, hp, ha⟩ := hv.inv_own
        obtain ⟨p', g1, g2, g3, g4⟩ := r.blk e3
        rw [hp] at g1; cases g1
        obtain ⟨xs, q1, q2, q3, q4, q5⟩ := g3
        obtain ⟨d, d1, d2, d3, d4, d5⟩ := emP_ok r.n hr
        obtain ⟨le, r'⟩ := r.em d4 d5
        simp only [denL, q2] at d1
        obtain ⟨k, m, x', f1, f2, f3, f4, f5⟩ := idxD d1
        rw [f1] at hd
        rcases ha with ⟨z, hz, ha⟩ | ⟨hl0, -⟩
        · obtain ⟨rows, t1, t2, t3, t4⟩ := q5 _ hz
          have hix := idx_at (n := p.len) hd f2 (by omega)
          refine ⟨.ptr z (p.off + m.toNat) 0, [z], [], H.nx, _, ?_, le, rfl, by rw [wrH_nil]; exact r', .ptrO hp hz (le.upto hi) (by rw [le.den hi]; exact f1) f2 (by omega), fun w hw => ?_, by simp⟩
          · simp [evalOp, ha, t1, hix]
          · simp only [List.mem_singleton] at hw; subst hw
            exact okr_of hp hz (by simp [g2])
        · omega
      · cases h
    · cases h
  · rename_i y i' e1 e2
    rw [e1] at hv
    cases h
    obtain ⟨hi, hd⟩ := dat_ok (sarg_ok r.env i) e2
    obtain ⟨hx, hrd, h1⟩ := hv.inv_e
    obtain ⟨d, d1, d2, d3, d4, d5⟩ := emP_ok r.n hr
    obtain ⟨le, r'⟩ := r.em d4 d5
    simp only [denL] at d1
    cases ed : E.den c.ρ y <;> rw [ed] at d1 <;> try (simp [D.den1] at d1; done)
    rename_i xs
    obtain ⟨k, m, x', f1, f2, f3, f4, f5⟩ := idxD d1
    rw [f1] at hd
    rw [ed] at hrd
    generalize ha : arg env x = a at hrd
    cases hrd with
    | nilS => simp at f3
    | emp => simp at f3
    | lst hne hs h =>
      rename_i s rows
      obtain ⟨row, u1, u2⟩ := h.get f4
      have hs' : s = sz := by rw [← (hs row (List.mem_of_getElem? u1)).1, ← u2.len, f5]
      subst hs'
      have hix := idx_at (n := rows.length) hd f2 (by rw [← h.len]; omega)
      exact ⟨.ptrL s rows m.toNat 0, [], [], H.nx, _, by simp [evalOp, ha, hix], le, rfl, by rw [wrH_nil]; exact r', .ptrE (le.upto hx) (le.upto hi) (by rw [le.den hx]; exact ed) (by rw [le.den hi]; exact f1) f2 f3 hs h, by simp, by simp⟩
  · rename_i y rs i' e1 e2
    rw [e1] at hv
    cases h
    obtain ⟨hi, hd⟩ := dat_ok (sarg_ok r.env i) e2
    obtain ⟨hx, hro, h1⟩ := hv.inv_fz
    obtain ⟨d, d1, d2, d3, d4, d5⟩ := emP_ok r.n hr
    obtain ⟨le, r'⟩ := r.em d4 d5
    simp only [denL] at d1
    cases ed : E.den c.ρ y <;> rw [ed] at d1 <;> try (simp [D.den1] at d1; done)
    rename_i xs
    obtain ⟨k, m, x', f1, f2, f3, f4, f5⟩ := idxD d1
    rw [f1] at hd
    rw [ed] at hro
    generalize ha : arg env x = a at hro
    cases hro with
    | b hrd =>
      cases hrd with
      | nilS => simp at f3
      | emp => simp at f3
      | lst hne hs h =>
        rename_i s rows
        obtain ⟨row, u1, u2⟩ := h.get f4
        have hs' : s = sz := by rw [← (hs row (List.mem_of_getElem? u1)).1, ← u2.len, f5]
        subst hs'
        have hix := idx_at (n := rows.length) hd f2 (by rw [← h.len]; omega)
        exact ⟨.ptrL s rows m.toNat 0, [], [], H.nx, _, by simp [evalOp, ha, hix], le, rfl, by rw [wrH_nil]; exact r', .ptrE (le.upto hx) (le.upto hi) (by rw [le.den hx]; exact ed) (by rw [le.den hi]; exact f1) f2 f3 hs h, by simp, by simp⟩
    | own hΦ hA hl hs h =>
      rename_i id off s rows
      obtain ⟨row, u1, u2⟩ := h.get f4
      rw [getElem?_sub f3] at u1
      have hs' : s = sz := by rw [← (hs row (List.mem_of_getElem? u1)).1, ← u2.len, f5]
      subst hs'
      have hix := idx_at (n := xs.length) hd f2 f3
      have hg := (r.frz _ _ _ hΦ).1
      refine ⟨.ptr id (off + m.toNat) 0, [id], [], H.nx, _, by simp [evalOp, ha, hg, hix], le, rfl, by rw [wrH_nil]; exact r', .ptrF (le.upto hx) (le.upto hi) (by rw [le.den hx]; exact ed) (by rw [le.den hi]; exact f1) f2 f3 hΦ (le.okr hA) hl hs (RO.monoLL (fun _ _ h => h) (fun _ => le.okr) h), fun w hw => ?_, by simp⟩
      simp only [List.mem_singleton] at hw; subst hw
      exact le.okr hA
  · cases h
theorem constIx_ok {v : SV} {a : AV} {i n : Nat} (hv : Cv c v a) (h : constIx v = some i) (hl : i < n) : idx a n = some i := by
  unfold constIx at h
  split at h
  · rename_i k m
    split at h
    · rename_i h0
      cases h
      obtain ⟨-, hd, -⟩ := hv.inv_e
      simp only [E.den] at hd
      cases hd
      simp only [idx]; rw [if_pos ⟨h0, by omega⟩]
    · cases h
  · cases h
theorem uptoD {n : Nat} {d : D} {i : Nat} {a : AV} (h : d.upto n = some i) (hd : Dt c d a) : ∃ k m, a = .int k m ∧ 0 ≤ m ∧ m ≤ n ∧ i = m.toNat := by
  cases d <;> simp only [D.upto, reduceCtorEq] at h
  rename_i k m
  split at h
  · rename_i hc; cases h; exact ⟨k, m, hd.int, hc.1, hc.2, rfl⟩
  · cases h
theorem optS_ok {senv : List SV} (he : F2 (Cv c) senv env) {o : Option Arg} {l : List E} (h : optS senv o = some l) : (o = none ∧ l = []) ∨ ∃ x y, o = some x ∧ l = [y] ∧ y.upto c.ρ.length = true ∧ Dt c (y.den c.ρ) (arg env x) := by
  cases o with
  | none => cases h; exact .inl ⟨rfl, rfl⟩
  | some x =>
    simp only [optS] at h
    cases e : dat (sarg senv x) with
    | none => rw [e] at h; cases h
    | some y =>
      rw [e] at h; cases h
      obtain ⟨g1, g2⟩ := dat_ok (sarg_ok he x) e
      exact .inr ⟨x, y, rfl, rfl, g1, g2⟩
theorem bnd_none (env : List AV) (d m : Nat) : bnd env d m none = some d := rfl
theorem bnd_some {x : Arg} {d m i : Nat} {e : D} (h : e.upto m = some i) (hd : Dt c e (arg env x)) : bnd env d m (some x) = some i := by
  obtain ⟨k, n, h1, h2, h3, h4⟩ := uptoD h hd
  simp only [bnd, h1]; rw [if_pos ⟨h2, h3⟩, h4]
theorem upto_le {d : D} {n i : Nat} (h : d.upto n = some i) : i ≤ n := by
  cases d <;> simp only [D.upto, reduceCtorEq] at h
  split at h
  · cases h; omega
  · cases h
/-- Parts of a list that nobody writes. -/
theorem sub_RD {sz : Nat} {xs : List (List D)} {a : AV} (hall : xs.all (fun y => y.length == sz) = true) (h : RD (.list xs) a) :
    (xs = [] ∧ (a = .nilS ∨ ∃ z, a = .emp z)) ∨ ∃ rows, a = .lst sz rows ∧ xs ≠ [] ∧ xs.length = rows.length ∧ (∀ y ∈ rows, y.length = sz ∧ y.all AV.one = true) ∧ F2 (F2 RD) xs rows := by
  cases h with
  | nilS => exact .inl ⟨rfl, .inl rfl⟩
  | emp => exact .inl ⟨rfl, .inr ⟨_, rfl⟩⟩
  | lst hne hs h =>
    rename_i s rows
    cases xs with
    | nil => exact absurd rfl hne
    | cons x xs =>
      obtain ⟨row, t, rfl, h1, h2⟩ := F2.inv_cons h
      have h3 : x.length = sz := by simpa using (List.all_eq_true.1 hall x (by simp))
      have hs' : s = sz := by rw [← (hs row (by simp)).1, ← h1.len, h3]
      subst hs'
      exact .inr ⟨_, rfl, by simp, h.len, hs, h⟩
theorem sl_e (r : Rel c S env H K mk) {sz : Nat} {x : Arg} {lo hi : Option Arg} {l h : List E} {y : E} (hl : optS S.env lo = some l) (hh : optS S.env hi = some h) (e1 : sarg S.env x = .e y) (hr : emR Fs (emP (.sl sz (!l.isEmpty) (!h.isEmpty)) (y :: (l ++ h)) S.n).1 c.ρ ρ') :
    OpD TT cb c S env H K mk (.sl sz x lo hi) (pure1 S (.sl sz (!l.isEmpty) (!h.isEmpty)) (y :: (l ++ h))) ρ' := by
  have hv := sarg_ok r.env x
  rw [e1] at hv
  obtain ⟨hx, hrd, h1⟩ := hv.inv_e
  have main : ∀ (xs : List (List D)) (h' l' : Nat), E.den c.ρ y = .list xs → xs.all (fun y => y.length == sz) = true → l' ≤ h' → h' ≤ xs.length → bnd env xs.length xs.length hi = some h' → bnd env 0 h' lo = some l' →
      ∃ a, evalOp TT cb env H H.nx (.sl sz x lo hi) = some (.eff a [] [] H.nx) ∧ RD (.list ((xs.take h').drop l')) a ∧ a.one = true := by
    intro xs h' l' ed hall h1 h2 h3 h4
    rw [ed] at hrd
    rcases sub_RD hall hrd with ⟨rfl, ha⟩ | ⟨rows, ha, hne, hlen, hs, h⟩
    · have e1 : h' = 0 := by simpa using h2
      subst e1
      have e2 : l' = 0 := by omega
      subst e2
      rcases ha with ha | ⟨z, ha⟩
      · exact ⟨.nilS, by simp only [evalOp, ha]; simp [show bnd env 0 0 hi = some 0 from h3, h4], .nilS, rfl⟩
      · exact ⟨.emp z, by simp only [evalOp, ha]; simp [show bnd env 0 0 hi = some 0 from h3, h4], .emp, rfl⟩
    · have hrows : rows.isEmpty = false := by
        cases rows with
        | nil => simp at hlen; exact absurd hlen hne
        | cons => rfl
      rw [hlen] at h3 h2
      by_cases hc : l' < h'
      · refine ⟨.lst sz ((rows.drop l').take (h' - l')), by simp [evalOp, ha, h3, h4, hrows, hc], ?_, rfl⟩
        have : ((xs.take h').drop l') = ((xs.drop l').take (h' - l')) := by rw [List.drop_take]
        rw [this]
        refine .lst (fun e => ?_) (fun q hq => hs q (List.mem_of_mem_drop (List.mem_of_mem_take hq))) ((h.drop l').take (h' - l'))
        have := congrArg List.length e
        simp at this
        omega
      · refine ⟨.emp false, by simp [evalOp, ha, h3, h4, hrows, hc], ?_, rfl⟩
        have : (xs.take h').drop l' = [] := by rw [List.drop_eq_nil_iff]; simp; omega
        rw [this]; exact .emp
  refine OpD.emd r (w := fun x => .e x) (rd := []) hr (fun d hd => ?_) (by simp)
  have : ∃ a, evalOp TT cb env H H.nx (.sl sz x lo hi) = some (.eff a [] [] H.nx) ∧ RD d a ∧ a.one = true := by
    rcases optS_ok r.env hl with ⟨rfl, rfl⟩ | ⟨xl, yl, rfl, rfl, ul, dl⟩ <;> rcases optS_ok r.env hh with ⟨rfl, rfl⟩ | ⟨xh, yh, rfl, rfl, uh, dh⟩ <;>
      simp only [List.isEmpty_nil, List.isEmpty_cons, Bool.not_true, Bool.not_false, List.nil_append, List.append_nil, List.cons_append, denL] at hd <;>
      cases ed : E.den c.ρ y <;> rw [ed] at hd <;> (try (simp [D.den1] at hd; done)) <;> rename_i xs <;> simp only [D.den1] at hd <;> split at hd <;> (try (cases hd; done)) <;> rename_i hall
    · cases hd
      have := main xs xs.length 0 ed hall (by omega) (by omega) rfl rfl
      simpa using this
    · cases e2 : (E.den c.ρ yh).upto xs.length with
      | none => rw [e2] at hd; cases hd
      | some h' =>
        rw [e2] at hd; cases hd
        have := main xs h' 0 ed hall (by omega) (upto_le e2) (bnd_some e2 dh) rfl
        simpa using this
    · cases e2 : (E.den c.ρ yl).upto xs.length with
      | none => rw [e2] at hd; cases hd
      | some l' =>
        rw [e2] at hd; cases hd
        have := main xs xs.length l' ed hall (upto_le e2) (by omega) rfl (bnd_some e2 dl)
        simpa using this
    · cases e2 : (E.den c.ρ yh).upto xs.length with
      | none => rw [e2] at hd; cases hd
      | some h' =>
        rw [e2] at hd
        simp only [Option.bind_some] at hd
        cases e3 : (E.den c.ρ yl).upto h' with
        | none => rw [e3] at hd; cases hd
        | some l' =>
          rw [e3] at hd; cases hd
          exact main xs h' l' ed hall (upto_le e3) (upto_le e2) (bnd_some e2 dh) (bnd_some e3 dl)
  obtain ⟨a, g1, g2, g3⟩ := this
  exact ⟨a, g1, fun c' z le hz hu => .e hu (by rw [hz]; exact g2) g3⟩
theorem sl_own (r : Rel c S env H K mk) {sz id : Nat} {x : Arg} {lo hi : Option Arg} {l h : List E} {y : E} {dp : Option (List Nat)} (hl : optS S.env lo = some l) (hh : optS S.env hi = some h) (e1 : sarg S.env x = .own id) (e2 : bget S.heap id = some (.list sz y dp)) (hle : l.isEmpty = true)
    (hr : emR Fs (emP (.sl sz false (!h.isEmpty)) (y :: h) S.n).1 c.ρ ρ') : OpD TT cb c S env H K mk (.sl sz x lo hi) (nextList S id sz (.sl sz false (!h.isEmpty)) (y :: h) dp []) ρ' := by
  have hv := sarg_ok r.env x
  rw [e1] at hv
  have hlo : lo = none := by
    rcases optS_ok r.env hl with ⟨rfl, rfl⟩ | ⟨xl, yl, rfl, rfl, ul, dl⟩
    · rfl
    · simp at hle
  subst hlo
  obtain ⟨p, hp, ha⟩ := hv.inv_own
  obtain ⟨p', g1, g2, g3, g4⟩ := r.blk e2
  rw [hp] at g1; cases g1
  obtain ⟨xs, q1, q2, q3, q4, q5⟩ := g3
  have key : ∀ d, D.den1 (.sl sz false (!h.isEmpty)) (denL c.ρ (y :: h)) = some d → ∃ h', d = .list (xs.take h') ∧ h' ≤ xs.length ∧ bnd env xs.length xs.length hi = some h' := fun d hd => by
    rcases optS_ok r.env hh with ⟨rfl, rfl⟩ | ⟨xh, yh, rfl, rfl, uh, dh⟩ <;> simp only [List.isEmpty_nil, List.isEmpty_cons, Bool.not_true, Bool.not_false, denL, q2, D.den1] at hd <;> split at hd <;> (try (cases hd; done))
    · cases hd; exact ⟨xs.length, by simp, by omega, rfl⟩
    · cases e3 : (E.den c.ρ yh).upto xs.length with
      | none => rw [e3] at hd; cases hd
      | some h' => rw [e3] at hd; cases hd; exact ⟨h', rfl, upto_le e3, bnd_some e3 dh⟩
  rcases ha with ⟨z, hz, ha⟩ | ⟨hl0, ha⟩
  · obtain ⟨rows, t1, t2, t3, t4⟩ := q5 _ hz
    refine OpD.nextL (rd := [z]) r hr e2 hp (fun d hd => ?_) (fun w hw => by
      simp only [List.mem_singleton] at hw; subst hw; exact okr_of hp hz (by simp [g2]))
    obtain ⟨h', rfl, h2, h3⟩ := key d hd
    rw [q3] at h3
    refine ⟨xs.take h', .own z p.off h', [], H.nx, rfl, by simp [evalOp, ha, t1, h3, bnd_none], ?_⟩
    have hlen : (xs.take h').length = h' := by simp; omega
    have := Next.same (c := c) (sz := sz) (dp := dp) (xs := xs.take h') hz t1 (by rw [hlen]; omega) t3 (by
      rw [hlen]
      have := t4.take h'
      rwa [List.take_take, Nat.min_eq_left (by omega)] at this)
    rwa [hlen] at this
  · have hxs : xs = [] := by rw [hl0] at q3; simpa using q3
    subst hxs
    refine OpD.nextL (rd := []) r hr e2 hp (fun d hd => ?_) (by simp)
    obtain ⟨h', rfl, h2, h3⟩ := key d hd
    have : h' = 0 := by simpa using h2
    subst this
    refine ⟨[], arg env x, [], H.nx, by simp, ?_, .none rfl ha⟩
    rcases ha with ha | ha <;> simp only [evalOp, ha] <;> simp [show bnd env 0 0 hi = some 0 from h3, bnd_none]
theorem uptoE {n : Nat} {d : D} {i : Nat} (h : d.upto n = some i) : ∃ k m, d = .int k m ∧ 0 ≤ m ∧ m ≤ n ∧ i = m.toNat := by
  cases d <;> simp only [D.upto, reduceCtorEq] at h
  rename_i k m
  split at h
  · rename_i hc; cases h; exact ⟨k, m, rfl, hc.1, hc.2, rfl⟩
  · cases h
/-- The end of a list of one's own. -/
theorem sl_suf (r : Rel c S env H K mk) {sz id : Nat} {x : Arg} {lo hi : Option Arg} {yl y : E} {dp : Option (List Nat)} (hl : optS S.env lo = some [yl]) (hh : optS S.env hi = some []) (e1 : sarg S.env x = .own id) (e2 : bget S.heap id = some (.list sz y dp))
    (hr : emR Fs (emP (.sl sz true false) [y, yl] S.n).1 c.ρ ρ') : OpD TT cb c S env H K mk (.sl sz x lo hi) ⟨(emP (.sl sz true false) [y, yl] S.n).1, .sufO id yl, [rtOf S.heap id], [], S.heap⟩ ρ' := by
  have hv := sarg_ok r.env x
  rw [e1] at hv
  have hhi : hi = none := by
    rcases optS_ok r.env hh with ⟨rfl, -⟩ | ⟨xl, yl, rfl, h, ul, dl⟩
    · rfl
    · simp at h
  subst hhi
  rcases optS_ok r.env hl with ⟨-, h⟩ | ⟨xl, yl', rfl, h, ul, dl⟩
  · simp at h
  cases h
  obtain ⟨p, hp, ha⟩ := hv.inv_own
  obtain ⟨p', g1, g2, g3, g4⟩ := r.blk e2
  rw [hp] at g1; cases g1
  obtain ⟨xs, q1, q2, q3, q4, q5⟩ := g3
  have key : ∀ d, D.den1 (.sl sz true false) (denL c.ρ [y, yl]) = some d → ∃ l', (yl.den c.ρ).upto xs.length = some l' := fun d hd => by
    simp only [denL, q2, D.den1] at hd
    split at hd
    · cases e3 : (E.den c.ρ yl).upto xs.length with
      | none => rw [e3] at hd; cases hd
      | some l' => exact ⟨l', rfl⟩
    · cases hd
  rcases ha with ⟨z, hz, ha⟩ | ⟨hl0, ha⟩
  · obtain ⟨rows, t1, t2, t3, t4⟩ := q5 _ hz
    refine OpD.emd r (w := fun _ => .sufO id yl) (rd := [z]) hr (fun d hd => ?_) (fun w hw => by
      simp only [List.mem_singleton] at hw; subst hw; exact okr_of hp hz (by simp [g2]))
    obtain ⟨l', h3⟩ := key d hd
    have hb := bnd_some (d := 0) h3 dl
    obtain ⟨k, m, w1, w2, w3, rfl⟩ := uptoE h3
    rw [q3] at hb w3
    refine ⟨if m.toNat = 0 ∨ m.toNat < p.len then .own z (p.off + m.toNat) (p.len - m.toNat) else .emp false, by simp only [evalOp, ha, t1, hb, bnd_none, if_true, Option.bind_some, Option.map_some], fun c' e le he hu => ?_⟩
    refine .sufO (le.ψ _ _ hp) (le.upto ul) (by rw [le.den ul]; exact w1) w2 (by omega) ?_
    by_cases hc : m.toNat = 0 ∨ m.toNat < p.len
    · rw [if_pos hc]; exact .inl ⟨z, hz, rfl⟩
    · rw [if_neg hc]; exact .inr ⟨by omega, .inr ⟨_, rfl⟩⟩
  · have hxs : xs.length = 0 := by omega
    refine OpD.emd r (w := fun _ => .sufO id yl) (rd := []) hr (fun d hd => ?_) (by simp)
    obtain ⟨l', h3⟩ := key d hd
    rw [hxs] at h3
    have hb := bnd_some (d := 0) h3 dl
    obtain ⟨k, m, w1, w2, w3, rfl⟩ := uptoE h3
    have hm : m.toNat = 0 := by omega
    rw [hm] at hb
    refine ⟨arg env x, by rcases ha with ha | ha <;> simp [evalOp, ha, hb, bnd_none], fun c' e le he hu => ?_⟩
    exact .sufO (le.ψ _ _ hp) (le.upto ul) (by rw [le.den ul]; exact w1) w2 (by omega) (.inr ⟨by omega, by rcases ha with ha | ha <;> simp [ha]⟩)
theorem seg_put {α : Type} {rows : List α} {off len n : Nat} {z : α} (h : off + len ≤ rows.length) (hn : n ≤ len) :
    ((rows.take (off + n) ++ List.replicate (len - n) z ++ rows.drop (off + n + (len - n))).drop off).take len = ((rows.drop off).take len).take n ++ List.replicate (len - n) z := by
  rw [List.append_assoc, List.drop_append_of_le_length (by simp; omega), List.drop_take, show off + n - off = n by omega, List.take_take, Nat.min_eq_left hn]
  have hA : ((rows.drop off).take n).length = n := by simp; omega
  generalize (rows.drop off).take n = A at hA
  generalize rows.drop (off + n + (len - n)) = C
  have hl : len = (A ++ List.replicate (len - n) z).length := by simp; omega
  rw [← List.append_assoc]
  have := List.take_left (l₁ := A ++ List.replicate (len - n) z) (l₂ := C)
  rwa [← hl] at this
theorem clr_ok (r : Rel c S env H K mk) {sz : Nat} {zero : List AV} {x : Arg} {f : Ef} (h : doOp S (.clr sz zero x) = some f) (hr : emR Fs f.em c.ρ ρ') : OpD TT cb c S env H K mk (.clr sz zero x) f ρ' := by
  have hv := sarg_ok r.env x
  simp only [doOp] at h
  split at h
  · rename_i id lo e1
    rw [e1] at hv
    split at h
    · rename_i s y dp e3
      split at h
      · rename_i hc
        obtain ⟨rfl, hz⟩ := hc
        cases h
        obtain ⟨z1, z2, z3⟩ := okZero_ok hz
        obtain ⟨p, k, n, hp, hi, hn, h0, hl, ha⟩ := hv.inv_sufO
        obtain ⟨d, d1, d2, d3, d4, d5⟩ := emP_ok r.n hr
        obtain ⟨le, r1⟩ := r.em d4 d5
        obtain ⟨p', g1, g2, g3, g4⟩ := r.blk e3
        rw [hp] at g1; cases g1
        obtain ⟨xs, q1, q2, q3, q4, q5⟩ := g3
        simp only [denL, q2, hn, D.den1, D.upto] at d1
        split at d1
        rotate_left
        · cases d1
        rename_i hzl
        rw [if_pos ⟨h0, by omega⟩] at d1
        simp only [Option.map_some, Option.some.injEq] at d1
        subst d1
        have hlen : (xs.take n.toNat ++ List.replicate (xs.length - n.toNat) (zeroD zero)).length = p.len := by simp; omega
        rcases ha with ⟨w, hx, ha⟩ | ⟨hnl, ha⟩
        · obtain ⟨rows, t1, t2, t3, t4⟩ := q5 _ hx
          have hbnd : p.off + n.toNat + (p.len - n.toNat) ≤ rows.length := by omega
          have r' := r1.put e3 hp hx (.list s (emP (.clr s (zeroD zero)) [y, lo] S.n).2 dp) (some (.row s (rows.take (p.off + n.toNat) ++ List.replicate (p.len - n.toNat) zero ++ rows.drop (p.off + n.toNat + (p.len - n.toNat))))) (by
            refine ⟨_, d3, d2, hlen, fun hh => (by rw [hx] at hh; cases hh), fun w' hw' => ?_⟩
            rw [hx] at hw'; cases hw'
            refine ⟨rows.take (p.off + n.toNat) ++ List.replicate (p.len - n.toNat) zero ++ rows.drop (p.off + n.toNat + (p.len - n.toNat)), by rw [hget_wr1]; simp, by simp; omega, fun q hq => ?_, ?_⟩
            · simp only [List.mem_append] at hq
              rcases hq with (hq | hq) | hq
              · exact t3 q (List.mem_of_mem_take hq)
              · rw [List.eq_of_mem_replicate hq]; exact ⟨by rw [← z3, hzl], z2⟩
              · exact t3 q (List.mem_of_mem_drop hq)
            · have e := seg_put (z := zero) t2 hl
              rw [e, q3]
              refine F2.append ?_ (F2.replicate ?_ _)
              · exact (t4.mono fun _ _ => F2.mono fun _ _ => Rk.mono le).take _
              · exact z1.mono fun _ _ => Rk.ofRD)
          refine ⟨undefA, [w], [(w, some (.row s (rows.take (p.off + n.toNat) ++ List.replicate (p.len - n.toNat) zero ++ rows.drop (p.off + n.toNat + (p.len - n.toNat)))))], H.nx, _, ?_, le, rfl, r', .unk, fun z hz => ?_, fun z hz => ?_⟩
          · simp only [evalOp, ha, t1]
            rw [if_pos ⟨trivial, hbnd, z2⟩]
          · simp only [List.mem_singleton] at hz; subst hz
            exact okr_of hp hx (by simp [g2])
          · simp only [List.map_cons, List.map_nil, List.mem_singleton] at hz; subst hz
            exact ⟨r.notF0 e3 hp hx, id, p, hp, hx, by simp [g2]⟩
        · have hxs : xs.take n.toNat ++ List.replicate (xs.length - n.toNat) (zeroD zero) = xs := by
            rw [show xs.length - n.toNat = 0 by omega, List.replicate_zero, List.append_nil, List.take_of_length_le (by omega)]
          rw [hxs] at d2
          have r' := r1.swap e3 hp (.list s (emP (.clr s (zeroD zero)) [y, lo] S.n).2 dp) ⟨xs, d3, d2, q3, q4, fun w hw => by
            obtain ⟨rows, t1, t2, t3, t4⟩ := q5 _ hw
            exact ⟨rows, t1, t2, t3, t4.mono fun _ _ => F2.mono fun _ _ => Rk.mono le⟩⟩
          refine ⟨undefA, [], [], H.nx, _, ?_, le, rfl, by rw [wrH_nil]; exact r', .unk, by simp, by simp⟩
          rcases ha with ha | ⟨z, ha⟩ <;> simp only [evalOp, ha]
      · cases h
    · cases h
  · cases h
/-- No elements of a list that is read, and no room behind them. -/
theorem sl3_ok (r : Rel c S env H K mk) {sz : Nat} {x hi mx : Arg} {lo : Option Arg} {f : Ef} (h : doOp S (.sl3 sz x lo hi mx) = some f) (hr : emR Fs f.em c.ρ ρ') : OpD TT cb c S env H K mk (.sl3 sz x lo hi mx) f ρ' := by
  cases lo with
  | some l => cases h
  | none =>
    have hv := sarg_ok r.env x
    have hw := sarg_ok r.env hi
    have hu := sarg_ok r.env mx
    simp only [doOp] at h
    split at h
    · rename_i y k1 k2 e1 e2 e3
      cases h
      rw [e1] at hv; rw [e2] at hw; rw [e3] at hu
      obtain ⟨hx, hrd, h1⟩ := hv.inv_e
      obtain ⟨-, hw2, -⟩ := hw.inv_e
      obtain ⟨-, hu2, -⟩ := hu.inv_e
      simp only [E.den] at hw2 hu2
      have b1 : ∀ d m, bnd env d m (some hi) = some 0 := fun d m => by
        simp only [bnd]
        generalize arg env hi = a at hw2
        cases hw2
        simp
      have b2 : ∀ d m, bnd env d m (some mx) = some 0 := fun d m => by
        simp only [bnd]
        generalize arg env mx = a at hu2
        cases hu2
        simp
      refine OpD.mkL (c1 := c) (heap1 := S.heap) (rd := []) (Cx.le.refl c) rfl r hr (fun d hd => ?_) (by simp)
      simp only [denL, E.den] at hd
      cases ed : E.den c.ρ y <;> rw [ed] at hd <;> (try (simp [D.den1] at hd; done))
      rename_i xs
      simp only [D.den1] at hd
      split at hd
      rotate_left
      · cases hd
      rename_i hall
      have hd' : d = .list [] := by
        simp only [D.upto] at hd
        rw [if_pos ⟨by omega, by omega⟩] at hd
        simpa using hd.symm
      subst hd'
      rw [ed] at hrd
      rcases sub_RD hall hrd with ⟨rfl, ha⟩ | ⟨rows, ha, hne, hlen, hs, h⟩
      · rcases ha with ha | ⟨z, ha⟩
        · exact ⟨[], .nilS, [], H.nx, rfl, by simp [evalOp, ha, b1, b2, bnd_none], .none rfl (.inl rfl)⟩
        · exact ⟨[], .emp true, [], H.nx, rfl, by simp [evalOp, ha, b1, b2, bnd_none], .none rfl (.inr rfl)⟩
      · have hrows : rows.isEmpty = false := by
          cases rows with
          | nil => simp at hlen; exact absurd hlen hne
          | cons => rfl
        exact ⟨[], .emp true, [], H.nx, rfl, by simp [evalOp, ha, b1, b2, bnd_none, hrows], .none rfl (.inr rfl)⟩
    · cases h
end Go.Q
