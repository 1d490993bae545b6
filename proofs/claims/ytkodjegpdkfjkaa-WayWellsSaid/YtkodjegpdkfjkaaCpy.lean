/- A list that is appended to an empty one of one's own: a copy of it; over every program. (As in camel's texts.) Copies of draws. -/
import Derived.Test.YtkodjegpdkfjkaaWaB
import Derived.OwnWalk
import Derived.Laws.OwnMore
set_option linter.unusedVariables false
set_option linter.unusedSimpArgs false
namespace Go.Proofs.Ytkodjegpdkfjkaa
open Go.RowKit
open Go.Proofs

section
variable {P : Program}
theorem wpList_clone {ops : Array Oper} {rest : List Oper} {o : Oper} {a : Act} {w : World} {Q : Exit → Act → World → Prop} (hgd : o.guard = none) (s x : Operand) (t : TypeId) (ho : o.op = .call { callee := .builtin .append, args := #[s, x], argTypes := #[t, t] })
    (base : Nat) (e : TypeId) (i : TypeInfo) (z : Value) (size bytes : Nat) (ht : P.underlying t = some (.slice e)) (hi : P.info? e = some i) (hz : i.zero = some z) (hsize : i.size = size) (hby : i.bytes = bytes) (hzs : z.cells.size = size) (hsz : 0 < size)
    (g0 cap0 : Nat) (hs : a.eval s = .slice (some ⟨g0, 0, none⟩) 0 cap0) (hown : w.ownsRow base e size (.slice (some ⟨g0, 0, none⟩) 0 cap0) 0 []) (xa : Option Addr) (n c : Nat) (cells : List Value) (hx : a.eval x = .slice xa n c) (hl : cells.length = n * size)
    (hsrc : (xa = none ∧ n = 0 ∧ c = 0) ∨ ∃ ad, xa = some ad ∧ ∀ j u, cells[j]? = some u → w.cell? (ad.add j) = some u) (h1 : ∀ u ∈ cells, u.oneCell' = true) (b1 : n ≤ maxLen) (b2 : n * bytes ≤ 140737488355328) (b3 : base ≤ w.heap.size)
    (hK : ∀ g cap w1, w1.ownsRow base e size (.slice (some ⟨g, 0, none⟩) n cap) n cells → w.grownBy w1 (some g0) → wpList P ops Q rest (a.put o.dst (.slice (some ⟨g, 0, none⟩) n cap)) w1) : wpList P ops Q (o :: rest) a w := by
  rcases hsrc with ⟨rfl, rfl, rfl⟩ | ⟨ad, rfl, hsrc⟩
  · obtain rfl : cells = [] := List.eq_nil_of_length_eq_zero (by simpa using hl)
    refine wpList_plain hgd fun K hK' => ?_
    have hr := run_append_owned_none (P := P) (w := w) base t o.type e i size ht hi _ 0 [] hown
    unfold Oper.wp execOp
    simp only [ho, resolve, invoke, builtin, Sem.run_bind, Sem.run_pure, Result.andThen_ok, List.map_toArray, List.map_cons, List.map_nil, hs, hx, hr]
    exact hK' _ _ (hK g0 cap0 w hown ⟨rfl, rfl, rfl, Nat.le_refl _, fun _ _ _ => rfl⟩)
  · refine wpList_append_own w hgd s x t ho base e i z size bytes ht hi hz hsize hby hzs hsz _ 0 [] hs hown ad n c cells hx hl hsrc h1 (by omega) (by rw [Nat.zero_add]; exact b2) b3 ?_
    intro v' w1 hown' hgrow hnil
    rw [Nat.zero_add, List.nil_append] at hown'
    rcases hown'.2 with ⟨rfl, h0⟩ | ⟨g, cap, cur, rfl, _⟩
    · exact absurd (hnil.1 rfl).1 (by simp)
    · exact hK g cap w1 hown' hgrow
end

/-- Cells of a list of things of one width, one by one. -/
theorem flat_at {α : Type} (f : α → List Value) (s : Nat) (hf : ∀ x, (f x).length = s) : ∀ (xs : List α) (k i : Nat) (hk : k < xs.length), i < s → (xs.flatMap f)[k * s + i]? = (f xs[k])[i]?
  | [], k, i, hk, _ => by simp at hk
  | x :: xs, 0, i, hk, hi => by
    rw [List.flatMap_cons, Nat.zero_mul, Nat.zero_add, List.getElem?_append_left (by rw [hf]; exact hi)]
    simp
  | x :: xs, k + 1, i, hk, hi => by
    rw [List.flatMap_cons, Nat.add_mul, Nat.one_mul, List.getElem?_append_right (by rw [hf]; omega), hf, show k * s + s + i - s = k * s + i by omega, flat_at f s hf xs k i (by simpa using hk) hi]
    rfl
theorem flat_len {α : Type} (f : α → List Value) (s : Nat) (hf : ∀ x, (f x).length = s) : ∀ (xs : List α), (xs.flatMap f).length = xs.length * s
  | [] => by simp
  | x :: xs => by rw [List.flatMap_cons, List.length_append, hf, flat_len f s hf xs, List.length_cons, Nat.add_mul]; omega
theorem flat_all {α : Type} (f : α → List Value) (s : Nat) (hf : ∀ x, (f x).length = s) (hs : 0 < s) (P : Nat → Value → Prop) (xs : List α) (h : ∀ k (hk : k < xs.length) i u, (f xs[k])[i]? = some u → P (k * s + i) u) : ∀ j u, (xs.flatMap f)[j]? = some u → P j u := by
  intro j u hj
  have hjl : j < xs.length * s := by rw [← flat_len f s hf xs]; exact (List.getElem?_eq_some_iff.1 hj).1
  have hk : j / s < xs.length := Nat.div_lt_of_lt_mul (by rw [Nat.mul_comm]; exact hjl)
  have e : j / s * s + j % s = j := by rw [Nat.mul_comm]; exact Nat.div_add_mod j s
  have := h (j / s) hk (j % s) u (by rw [← flat_at f s hf xs (j / s) (j % s) hk (Nat.mod_lt _ hs), e]; exact hj)
  rw [e] at this
  exact this

theorem add_none (g o j : Nat) : (⟨g, o, none⟩ : Addr).add j = ⟨g, o + j, none⟩ := by unfold Addr.add; split <;> simp_all
theorem row_of_block {a b : World} {g : Nat} {cs : Array Value} (h : rowOf a g = some cs) (hb : b.heap[g]? = a.heap[g]?) : rowOf b g = some cs := by
  unfold rowOf at *; rw [hb]; exact h
theorem row_grownO {A A' : World} {g : Nat} {row : Option Nat} {cs : Array Value} (h : rowOf A g = some cs) (hg : A.grownBy A' row) (hne : ∀ i, row = some i → g ≠ i) : rowOf A' g = some cs :=
  row_of_block h (hg.block g (cell_of_rowOf h).2.2 (fun e => hne g e.symm rfl))
theorem owns_newD {w : World} {g base e size : Nat} (hg : w.heap.size = g) (hb : base ≤ g) : (w.alloc (.cells #[] e)).ownsRow base e size (.slice (some ⟨g, 0, none⟩) 0 0) 0 [] := by
  subst hg; exact World.ownsRow_made _ #[] 0 hb (by decide) (by simp)

def drCells (d : Dr) : List Value := [.int .i64 d.well, .int .i64 d.day, .int .i64 d.water]
theorem dr_len (d : Dr) : (drCells d).length = 3 := rfl
theorem dr_one {ds : List Dr} : ∀ u ∈ ds.flatMap drCells, u.oneCell' = true := by
  intro u hu
  obtain ⟨m, _, hu⟩ := List.mem_flatMap.1 hu
  simp only [drCells, List.mem_cons, List.not_mem_nil, or_false] at hu
  rcases hu with rfl | rfl | rfl <;> rfl
theorem dr_cell {w : World} {g o : Nat} {d : Dr} (h : DrawAt w g o d) : ∀ i u, (drCells d)[i]? = some u → w.cell? ⟨g, o + i, none⟩ = some u := by
  obtain ⟨c0, c1, c2⟩ := h
  intro i u hu
  match i with
  | 0 => simp [drCells] at hu; subst hu; exact c0
  | 1 => simp [drCells] at hu; subst hu; exact c1
  | 2 => simp [drCells] at hu; subst hu; exact c2
  | n + 3 => simp [drCells] at hu
theorem draws_src {w W : World} {a : Option Addr} {cap n : Nat} {ds : List Dr} (hn : n = ds.length) (h : DrawsIn w a ds) (ha : a = none → n = 0 ∧ cap = 0) (hE : Below w.heap.size w W) : (a = none ∧ n = 0 ∧ cap = 0) ∨ ∃ ad, a = some ad ∧ ∀ j u, (ds.flatMap drCells)[j]? = some u → W.cell? (ad.add j) = some u := by
  subst hn
  cases a with
  | none => exact .inl ⟨rfl, ha rfl⟩
  | some ad =>
    refine .inr ⟨ad, rfl, ?_⟩
    rcases h with h | ⟨b, off, h1, h2, h3⟩
    · subst h; intro j u hj; simp at hj
    · cases h1
      refine flat_all drCells 3 dr_len (by omega) (fun j u => W.cell? ((⟨b, off, none⟩ : Addr).add j) = some u) ds ?_
      intro k hk i u hu
      rw [add_none, ← Nat.add_assoc]
      exact dr_cell ((h2 k hk).below hE _ _ _ h3) i u hu
theorem draws_own {w : World} {base g n cap : Nat} {ds : List Dr} (hn : n = ds.length) (h : w.ownsRow base 54 3 (.slice (some ⟨g, 0, none⟩) n cap) n (ds.flatMap drCells)) : DrawsIn w (some ⟨g, 0, none⟩) ds ∧ base ≤ g := by
  subst hn
  have hb : base ≤ g ∧ g < w.heap.size := h.lt g rfl
  refine ⟨.inr ⟨g, 0, rfl, ?_, hb.2⟩, hb.1⟩
  intro k hk
  have key : ∀ i u, (drCells ds[k])[i]? = some u → w.cell? ⟨g, 0 + k * 3 + i, none⟩ = some u := by
    intro i u hu
    have hi : i < 3 := (List.getElem?_eq_some_iff.1 hu).1
    have h2 := h.cellAt (0 + k * 3 + i) (by have : (k + 1) * 3 ≤ ds.length * 3 := Nat.mul_le_mul_right 3 hk; omega)
    rw [h2, Nat.zero_add, flat_at drCells 3 dr_len ds k i hk hi]
    exact hu
  exact ⟨key 0 _ rfl, key 1 _ rfl, key 2 _ rfl⟩
theorem DrawsIn.ext {W W' : World} {a : Option Addr} {ds : List Dr} (h : DrawsIn W a ds) (hE : Ext W W') : DrawsIn W' a ds := ListIn.below (fun g o x hg hx => DrawAt.below hE g o x hg hx) h hE (Nat.le_refl _)
theorem info54y : (Try.prog.info? 54).map (fun i => (i.zero, i.size, i.bytes)) = some (some (.agg #[.int .i64 0, .int .i64 0, .int .i64 0]), 3, 24) := by kernel_rfl
end Go.Proofs.Ytkodjegpdkfjkaa
