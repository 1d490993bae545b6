/- TopThirsty: the law. -/
import Derived.Test.YtimbhebamjnfmaaPa4
import Derived.Test.YtimbhebamjnfmaaPg5
set_option linter.unusedVariables false
set_option linter.unusedSimpArgs false
set_option maxRecDepth 100000
namespace Go.Q
open Go.V
theorem ye13 : evL FN 31 [] = some (.bool true) := by
  refine evL_of (F := F31) rfl ?_
  simp [F31, Fn.denV, fits, T.denV, E.den]
def fsB (i : Nat) (s : G.Fs) : Prop := s.may ≤ i ∧ s.sure ≤ i ∧ (s.sure < 0 ∨ (0 ≤ s.may ∧ s.may ≤ s.sure))
theorem fgo_bd {x y f : Int} : ∀ (ts : List G.Tk) (i : Nat) (s s' : G.Fs), G.fGo x y f i s ts = .ok s' → fsB i s → fsB (i + ts.length) s'
  | [], i, s, s', h, hb => by cases h; exact hb
  | t :: ts, i, s, s', h, hb => by
    simp only [G.fGo, G.foldI] at h
    cases e : G.fStep x y f i s t with
    | error u => rw [e] at h; cases h
    | ok s1 =>
      rw [e] at h
      have := fgo_bd ts (i + 1) s1 s' h (by
        unfold G.fStep at e
        split at e
        · cases e
        · cases e
          obtain ⟨h1, h2, h3⟩ := hb
          rcases G.kn_cases (s.hs.map (G.Hf.mv t)) (G.nr x y f) with k | k | k
          all_goals
            simp only [fsB, k]
            by_cases c1 : s.may < 0 <;> by_cases c2 : s.sure < 0 <;> simp [c1, c2] <;> omega)
      rw [List.length_cons]
      simpa [Nat.add_assoc, Nat.add_comm 1] using this
theorem finds_bd (hs : List G.Hf) (ts : List G.Tk) (x y f : Int) : ∃ r0 r1 r2, G.findsS hs ts x y f = (r0, r1, r2) ∧ (r2 ≠ 0 → r0 = 0 ∧ r1 = 0) ∧ (r2 = 0 → r0 ≤ ts.length ∧ r1 ≤ ts.length ∧ (r1 < 0 ∨ (0 ≤ r0 ∧ r0 ≤ r1))) := by
  unfold G.findsS
  split
  · rename_i h; exact ⟨_, _, _, rfl, fun _ => ⟨rfl, rfl⟩, fun e => absurd e h⟩
  split
  · exact ⟨_, _, _, rfl, fun _ => ⟨rfl, rfl⟩, fun e => by omega⟩
  split
  · exact ⟨_, _, _, rfl, fun _ => ⟨rfl, rfl⟩, fun e => by omega⟩
  split
  · rename_i s e
    have := fgo_bd ts 0 _ _ e (by
      rcases G.kn_cases hs (G.nr x y f) with k | k | k <;> simp [fsB, G.f0, k])
    simp only [Nat.zero_add] at this
    exact ⟨_, _, _, rfl, fun h => absurd rfl h, fun _ => this⟩
  · exact ⟨_, _, _, rfl, fun _ => ⟨rfl, rfl⟩, fun e => by omega⟩
theorem e8 (hs : List G.Hf) (ts : List G.Tk) (x y f : Int) (b : Br) (c : Cm) (m : Mr) (n : Int) (hn : 0 ≤ n ∧ n ≤ 4294967295) :
    evL FN 8 [.node [G.hfs hs], G.tks ts, I x, I y, I f, .node b.d, .node c.d, .node m.d, .int .u32 n] = some (.bool true) := by
  refine evL_of (F := F8) rfl ?_
  have h31 := ye13
  have h32 := G.e32 hs
  have h34 := e34 b c
  have h35 := e35 m
  cases hg : decide (60 < hs.length) with
  | true =>
    rw [hg] at h32
    simp only [Br.d, Cm.d, Mr.d, G.hfs, G.tks, I] at h32 ⊢
    simp [F8, Fn.denV, fits, T.denV, denL, E.den, D.cells, D.den1, unD, binD, h31, h32, outOf, denVK]
  | false =>
  rw [hg] at h32
  by_cases hk : 60 < ts.length
  · have hk' : (60 : Int) < ts.length := by omega
    simp only [Br.d, Cm.d, Mr.d, G.hfs, G.tks, I] at h32 ⊢
    simp [F8, Fn.denV, fits, T.denV, denL, E.den, D.cells, D.den1, unD, binD, h31, h32, hk', outOf, denVK]
  have hk' : ¬ (60 : Int) < ts.length := by omega
  have hg' : ¬ 60 < hs.length := of_decide_eq_false hg
  have h38 := G.e38 hs ts x y f (by omega) (by omega)
  obtain ⟨r0, r1, r2, hr, hr1, hr2⟩ := finds_bd hs ts x y f
  rw [hr] at h38
  by_cases hE : cmE b c = 0
  rotate_left
  · simp only [Br.d, Cm.d, Mr.d, G.hfs, G.tks, I] at h32 h34 ⊢
    simp [F8, Fn.denV, fits, T.denV, denL, E.den, D.cells, D.den1, unD, binD, h31, h32, hk', h34, hE, outOf, denVK]
  rw [hE] at h34
  cases hm : mrOK m with
  | false =>
    rw [hm] at h35
    simp only [Br.d, Cm.d, Mr.d, G.hfs, G.tks, I] at h32 h34 h35 ⊢
    simp [F8, Fn.denV, fits, T.denV, denL, E.den, D.cells, D.den1, unD, binD, h31, h32, hk', h34, h35, outOf, denVK]
  | true =>
  rw [hm] at h35
  have hb : brOK b = true ∧ cmOK b c = true := by
    unfold cmE at hE
    cases h1 : brOK b <;> cases h2 : cmOK b c <;> rw [h1] at hE <;> simp [h2] at hE ⊢
  obtain ⟨hb, hc⟩ := hb
  have M := mr_ok hm
  let k : Mr := { m with l := m.l - n.tmod (m.l + 1) }
  have hl1 := M.l
  have t1 := Int.tmod_nonneg (m.l + 1) hn.1
  have t2 := Int.tmod_lt_of_pos n (show 0 < m.l + 1 by omega)
  have hkm : mrOK k = true := by
    simp only [mrOK, inR, inS, Bool.and_eq_true, decide_eq_true_eq, k] at hm ⊢
    omega
  have hlight : lighter m k := ⟨rfl, by simp only [k]; omega, by simp only [k]; omega, rfl, rfl, rfl, rfl, rfl, rfl⟩
  have h39 := e39 b c m hb hc hm
  have h39k := e39 b c k hb hc hkm
  obtain ⟨q1, q2⟩ := las_less (br_ok hb) M hlight (c := c)
  have w1 := wI (x := n) (by omega)
  have w2 := wI (x := m.l + 1) (by omega)
  have w3 := wI (x := m.l - n.tmod (m.l + 1)) (by omega)
  have hz : ¬ m.l + 1 = 0 := by omega
  have n1 : ¬ lasL b k c < lasL b m c := by omega
  have n2 : ¬ lasH b k c < lasH b m c := by omega
  simp only [Br.d, Cm.d, Mr.d, G.hfs, G.tks, I, k] at h32 h34 h35 h38 h39 h39k n1 n2 ⊢
  generalize hX : lasL b ⟨m.h, m.l - n.tmod (m.l + 1), m.t0, m.t1, m.e0, m.e1, m.q0, m.q1⟩ c = X at *
  generalize hY : lasH b ⟨m.h, m.l - n.tmod (m.l + 1), m.t0, m.t1, m.e0, m.e1, m.q0, m.q1⟩ c = Y at *
  by_cases hr0 : r2 = 0
  rotate_left
  · obtain ⟨rfl, rfl⟩ := hr1 hr0
    simp [F8, Fn.denV, fits, T.denV, denL, E.den, D.cells, D.den1, unD, binD, h31, h32, hk', h34, h35, h38, h39, h39k, w1, w2, w3, hz, n1, n2, hr0, outOf, denVK]
  subst hr0
  obtain ⟨b1, b2, b3⟩ := hr2 rfl
  have hd : decide (r1 ≤ lasL b m c) = true → decide (r1 ≤ X) = true := by simp only [decide_eq_true_eq]; omega
  by_cases c1 : r1 < 0
  · have c2 : ¬ 0 ≤ r1 := by omega
    simp [F8, Fn.denV, fits, T.denV, denL, E.den, D.cells, D.den1, unD, binD, h31, h32, hk', h34, h35, h38, h39, h39k, w1, w2, w3, hz, n1, n2, outOf, denVK, b1, b2, c1, c2]
  · obtain ⟨d1, d2⟩ := b3.resolve_left c1
    have c2 : 0 ≤ r1 := by omega
    by_cases c3 : r1 ≤ lasL b m c
    · have c4 : r1 ≤ X := by omega
      simp [F8, Fn.denV, fits, T.denV, denL, E.den, D.cells, D.den1, unD, binD, h31, h32, hk', h34, h35, h38, h39, h39k, w1, w2, w3, hz, n1, n2, outOf, denVK, b1, b2, c1, c2, d1, d2, c3, c4]
    · simp [F8, Fn.denV, fits, T.denV, denL, E.den, D.cells, D.den1, unD, binD, h31, h32, hk', h34, h35, h38, h39, h39k, w1, w2, w3, hz, n1, n2, outOf, denVK, b1, b2, c1, c2, d1, d2, c3]
end Go.Q
