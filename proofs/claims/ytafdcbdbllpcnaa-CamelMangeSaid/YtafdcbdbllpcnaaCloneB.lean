/- A list that is appended to an empty one of one's own: a copy of it; over every program. Copies of lists of days and animals. -/
import Derived.Test.YtafdcbdbllpcnaaLeafM
import Derived.Test.YtafdcbdbllpcnaaDayT
import Derived.Laws.OwnMore
namespace Go.Proofs.Ytafdcbdbllpcnaa
open Go.RowKit
open Go.Proofs

section
variable {P : Program}
theorem wpList_clone {ops : Array Oper} {rest : List Oper} {o : Oper} {a : Act} {w : World} {Q : Exit → Act → World → Prop} (hgd : o.guard = none) (s x : Operand) (t : TypeId) (ho : o.op = .call { callee := .builtin .append, args := #[s, x], argTypes := #[t, t] })
    (base : Nat) (e : TypeId) (i : TypeInfo) (z : Value) (size bytes : Nat) (ht : P.underlying t = some (.slice e)) (hi : P.info? e = some i) (hz : i.zero = some z) (hsize : i.size = size) (hby : i.bytes = bytes) (hzs : z.cells.size = size) (hsz : 0 < size)
    (g0 cap0 : Nat) (hs : a.eval s = .slice (some ⟨g0, 0, none⟩) 0 cap0) (hown : w.ownsRow base e size (.slice (some ⟨g0, 0, none⟩) 0 cap0) 0 []) (xa : Option Addr) (n c : Nat) (cells : List Value) (hx : a.eval x = .slice xa n c) (hl : cells.length = n * size)
    (hsrc : (xa = none ∧ n = 0 ∧ c = 0) ∨ ∃ ad, xa = some ad ∧ ∀ j u, cells[j]? = some u → w.cell? (ad.add j) = some u) (h1 : ∀ u ∈ cells, u.oneCell' = true) (b1 : n ≤ maxLen) (b2 : n * bytes ≤ 140737488355328) (b3 : base ≤ w.heap.size)
    (hK : ∀ g cap w1, w1.ownsRow base e size (.slice (some ⟨g, 0, none⟩) n cap) n cells → w.grownBy w1 (some g0) → wpList P ops Q rest (a.put o.dst (.slice (some ⟨g, 0, none⟩) n cap)) w1) : wpList P ops Q (o :: rest) a w := by
  rcases hsrc with ⟨rfl, rfl, rfl⟩ | ⟨ad, rfl, hsrc⟩
  · obtain rfl : cells = [] := List.eq_nil_of_length_eq_zero (by simpa using hl)
    refine wpList_plain hgd fun K hK' => ?_
    have hr := run_append_owned_none (P := P) (w := w) base t o.type e i size ht hi _ 0 [] hown
    unfold Oper.wp execOp
    simp only [ho, resolve, invoke, builtin, Sem.run_bind, Sem.run_pure, Result.andThen_ok, List.map_toArray, List.map_cons, List.map_nil, hs, hx, hr]
    exact hK' _ _ (hK g0 cap0 w hown ⟨rfl, rfl, rfl, Nat.le_refl _, fun _ _ _ => rfl⟩)
  · refine wpList_append_own w hgd s x t ho base e i z size bytes ht hi hz hsize hby hzs hsz _ 0 [] hs hown ad n c cells hx hl hsrc h1 (by omega) (by rw [Nat.zero_add]; exact b2) b3 ?_
    intro v' w1 hown' hgrow hnil
    rw [Nat.zero_add, List.nil_append] at hown'
    rcases hown'.2 with ⟨rfl, h0⟩ | ⟨g, cap, cur, rfl, _⟩
    · exact absurd (hnil.1 rfl).1 (by simp)
    · exact hK g cap w1 hown' hgrow
end

/-- Cells of a list of things of one width, one by one. -/
theorem flat_at {α : Type} (f : α → List Value) (s : Nat) (hf : ∀ x, (f x).length = s) : ∀ (xs : List α) (k i : Nat) (hk : k < xs.length), i < s → (xs.flatMap f)[k * s + i]? = (f xs[k])[i]?
  | [], k, i, hk, _ => by simp at hk
  | x :: xs, 0, i, hk, hi => by
    rw [List.flatMap_cons, Nat.zero_mul, Nat.zero_add, List.getElem?_append_left (by rw [hf]; exact hi)]
    simp
  | x :: xs, k + 1, i, hk, hi => by
    rw [List.flatMap_cons, Nat.add_mul, Nat.one_mul, List.getElem?_append_right (by rw [hf]; omega), hf, show k * s + s + i - s = k * s + i by omega, flat_at f s hf xs k i (by simpa using hk) hi]
    rfl
theorem flat_len {α : Type} (f : α → List Value) (s : Nat) (hf : ∀ x, (f x).length = s) : ∀ (xs : List α), (xs.flatMap f).length = xs.length * s
  | [] => by simp
  | x :: xs => by rw [List.flatMap_cons, List.length_append, hf, flat_len f s hf xs, List.length_cons, Nat.add_mul]; omega
theorem flat_all {α : Type} (f : α → List Value) (s : Nat) (hf : ∀ x, (f x).length = s) (hs : 0 < s) (P : Nat → Value → Prop) (xs : List α) (h : ∀ k (hk : k < xs.length) i u, (f xs[k])[i]? = some u → P (k * s + i) u) : ∀ j u, (xs.flatMap f)[j]? = some u → P j u := by
  intro j u hj
  have hjl : j < xs.length * s := by rw [← flat_len f s hf xs]; exact (List.getElem?_eq_some_iff.1 hj).1
  have hk : j / s < xs.length := Nat.div_lt_of_lt_mul (by rw [Nat.mul_comm]; exact hjl)
  have e : j / s * s + j % s = j := by rw [Nat.mul_comm]; exact Nat.div_add_mod j s
  have := h (j / s) hk (j % s) u (by rw [← flat_at f s hf xs (j / s) (j % s) hk (Nat.mod_lt _ hs), e]; exact hj)
  rw [e] at this
  exact this

theorem add_none (g o j : Nat) : (⟨g, o, none⟩ : Addr).add j = ⟨g, o + j, none⟩ := by unfold Addr.add; split <;> simp_all
theorem mar_len (m : Mr) : (marCells m).length = 8 := rfl
theorem mar_one {ms : List Mr} : ∀ u ∈ ms.flatMap marCells, u.oneCell' = true := by
  intro u hu
  obtain ⟨m, _, hu⟩ := List.mem_flatMap.1 hu
  simp only [marCells, List.mem_cons, List.not_mem_nil, or_false] at hu
  rcases hu with rfl | rfl | rfl | rfl | rfl | rfl | rfl | rfl <;> rfl
theorem mar_cell {w : World} {g o : Nat} {m : Mr} (h : MarchAt w g o m) : ∀ i u, (marCells m)[i]? = some u → w.cell? ⟨g, o + i, none⟩ = some u := by
  obtain ⟨c0, c1, c2, c3, c4, c5, c6, c7⟩ := h
  intro i u hu
  match i with
  | 0 => simp [marCells] at hu; subst hu; exact c0
  | 1 => simp [marCells] at hu; subst hu; exact c1
  | 2 => simp [marCells] at hu; subst hu; exact c2
  | 3 => simp [marCells] at hu; subst hu; exact c3
  | 4 => simp [marCells] at hu; subst hu; exact c4
  | 5 => simp [marCells] at hu; subst hu; exact c5
  | 6 => simp [marCells] at hu; subst hu; exact c6
  | 7 => simp [marCells] at hu; subst hu; exact c7
  | n + 8 => simp [marCells] at hu
theorem days_src {w : World} {a : Option Addr} {cap : Nat} {ms : List Mr} (h : DaysIn w a cap ms) : (a = none ∧ ms.length = 0 ∧ cap = 0) ∨ ∃ ad, a = some ad ∧ ∀ j u, (ms.flatMap marCells)[j]? = some u → w.cell? (ad.add j) = some u := by
  rcases h with ⟨h1, h2, h3⟩ | ⟨b, off, h1, h2, h3⟩
  · exact .inl ⟨h1, by rw [h3]; rfl, h2⟩
  · refine .inr ⟨_, h1, ?_⟩
    refine flat_all marCells 8 mar_len (by omega) (fun j u => w.cell? ((⟨b, off, none⟩ : Addr).add j) = some u) ms ?_
    intro k hk i u hu
    rw [add_none, ← Nat.add_assoc]
    exact mar_cell (h2 k hk) i u hu
theorem days_own {w : World} {base g n cap : Nat} {ms : List Mr} (hn : n = ms.length) (h : w.ownsRow base 45 8 (.slice (some ⟨g, 0, none⟩) n cap) n (ms.flatMap marCells)) : DaysIn w (some ⟨g, 0, none⟩) cap ms ∧ base ≤ g := by
  subst hn
  have hb : base ≤ g ∧ g < w.heap.size := h.lt g rfl
  refine ⟨.inr ⟨g, 0, rfl, ?_, hb.2⟩, hb.1⟩
  intro k hk
  have key : ∀ i u, (marCells ms[k])[i]? = some u → w.cell? ⟨g, 0 + k * 8 + i, none⟩ = some u := by
    intro i u hu
    have hi : i < 8 := (List.getElem?_eq_some_iff.1 hu).1
    have h2 := h.cellAt (0 + k * 8 + i) (by have : (k + 1) * 8 ≤ ms.length * 8 := Nat.mul_le_mul_right 8 hk; omega)
    rw [h2, Nat.zero_add, flat_at marCells 8 mar_len ms k i hk hi]
    exact hu
  exact ⟨key 0 _ rfl, key 1 _ rfl, key 2 _ rfl, key 3 _ rfl, key 4 _ rfl, key 5 _ rfl, key 6 _ rfl, key 7 _ rfl⟩
end Go.Proofs.Ytafdcbdbllpcnaa
