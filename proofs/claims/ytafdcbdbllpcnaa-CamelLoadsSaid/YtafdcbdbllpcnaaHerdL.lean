/- Copies of lists of animals; SameCamels of a list and its copy. -/
import Derived.Test.YtafdcbdbllpcnaaLeafO
import Derived.Test.YtafdcbdbllpcnaaCloneB
namespace Go.Proofs.Ytafdcbdbllpcnaa
open Go.RowKit
open Go.Proofs

theorem cam_len (c : Cm) : (camCells c).length = 7 := rfl
theorem cam_one {cs : List Cm} : ∀ u ∈ cs.flatMap camCells, u.oneCell' = true := by
  intro u hu
  obtain ⟨c, _, hu⟩ := List.mem_flatMap.1 hu
  simp only [camCells, List.mem_cons, List.not_mem_nil, or_false] at hu
  rcases hu with rfl | rfl | rfl | rfl | rfl | rfl | rfl <;> rfl
theorem cam_cell {w : World} {g o : Nat} {c : Cm} (h : CamelAt w g o c) : ∀ i u, (camCells c)[i]? = some u → w.cell? ⟨g, o + i, none⟩ = some u := by
  obtain ⟨c0, c1, c2, c3, c4, c5, c6⟩ := h
  intro i u hu
  match i with
  | 0 => simp [camCells] at hu; subst hu; exact c0
  | 1 => simp [camCells] at hu; subst hu; exact c1
  | 2 => simp [camCells] at hu; subst hu; exact c2
  | 3 => simp [camCells] at hu; subst hu; exact c3
  | 4 => simp [camCells] at hu; subst hu; exact c4
  | 5 => simp [camCells] at hu; subst hu; exact c5
  | 6 => simp [camCells] at hu; subst hu; exact c6
  | n + 7 => simp [camCells] at hu
theorem herd_src {w W : World} {a : Option Addr} {cap n : Nat} {cs : List Cm} (hn : n = cs.length) (h : HerdIn w a cap cs) (hE : Below w.heap.size w W) : (a = none ∧ n = 0 ∧ cap = 0) ∨ ∃ ad, a = some ad ∧ ∀ j u, (cs.flatMap camCells)[j]? = some u → W.cell? (ad.add j) = some u := by
  subst hn
  rcases h with ⟨h1, h2, h3⟩ | ⟨b, off, h1, h2, h3⟩
  · exact .inl ⟨h1, by rw [h3]; rfl, h2⟩
  · refine .inr ⟨_, h1, ?_⟩
    refine flat_all camCells 7 cam_len (by omega) (fun j u => W.cell? ((⟨b, off, none⟩ : Addr).add j) = some u) cs ?_
    intro k hk i u hu
    rw [add_none, ← Nat.add_assoc]
    exact cam_cell (camel_below hE h3 (h2 k hk)) i u hu
theorem herd_own {w : World} {base g n cap : Nat} {cs : List Cm} (hn : n = cs.length) (h : w.ownsRow base 39 7 (.slice (some ⟨g, 0, none⟩) n cap) n (cs.flatMap camCells)) : HerdIn w (some ⟨g, 0, none⟩) cap cs ∧ base ≤ g := by
  subst hn
  have hb : base ≤ g ∧ g < w.heap.size := h.lt g rfl
  refine ⟨.inr ⟨g, 0, rfl, ?_, hb.2⟩, hb.1⟩
  intro k hk
  have key : ∀ i u, (camCells cs[k])[i]? = some u → w.cell? ⟨g, 0 + k * 7 + i, none⟩ = some u := by
    intro i u hu
    have hi : i < 7 := (List.getElem?_eq_some_iff.1 hu).1
    have h2 := h.cellAt (0 + k * 7 + i) (by have : (k + 1) * 7 ≤ cs.length * 7 := Nat.mul_le_mul_right 7 hk; omega)
    rw [h2, Nat.zero_add, flat_at camCells 7 cam_len cs k i hk hi]
    exact hu
  exact ⟨key 0 _ rfl, key 1 _ rfl, key 2 _ rfl, key 3 _ rfl, key 4 _ rfl, key 5 _ rfl, key 6 _ rfl⟩
theorem HerdIn.ext {W W' : World} {a : Option Addr} {cap : Nat} {cs : List Cm} (h : HerdIn W a cap cs) (hE : Ext W W') : HerdIn W' a cap cs := by
  rcases h with h | ⟨g, off, h1, h2, h3⟩
  · exact .inl h
  · exact .inr ⟨g, off, h1, fun k hk => camel_below (B := W.heap.size) hE h3 (h2 k hk), Nat.lt_of_lt_of_le h3 hE.size⟩
theorem same_zero (a1 a2 : Option Addr) (p1 p2 : Nat) (w : World) :
    Calls Try.prog 39 #[.slice a1 0 p1, .slice a2 0 p2] w fun e w' => e = .returned (.bool true) ∧ Below w.heap.size w w' := by
  go_enter Try.func39, Try.ntmps39
  go_wp2
  go_rounds 1
  all_goals go_returns
  all_goals exact ⟨rfl, Below.refl _ _⟩
theorem same_herd {w : World} {a1 a2 : Option Addr} {p1 p2 n : Nat} {cs : List Cm} (hn : n = cs.length) (h1 : HerdIn w a1 p1 cs) (h2 : HerdIn w a2 p2 cs) (hl : cs.length ≤ 100000) :
    Calls Try.prog 39 #[.slice a1 n p1, .slice a2 n p2] w fun e w' => e = .returned (.bool true) ∧ Below w.heap.size w w' := by
  subst hn
  match cs, h1, h2, hl with
  | [], _, _, _ => exact same_zero a1 a2 p1 p2 w
  | c :: cs, h1, h2, hl =>
    rcases h1 with ⟨-, -, h⟩ | ⟨g1, o1, rfl, q1, l1⟩
    · cases h
    · rcases h2 with ⟨-, -, h⟩ | ⟨g2, o2, rfl, q2, l2⟩
      · cases h
      · exact sameCamels_some g1 o1 p1 g2 o2 p2 (c :: cs) w q1 q2 l1 l2 hl
end Go.Proofs.Ytafdcbdbllpcnaa
