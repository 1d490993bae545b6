/- Guide: the statement on treks. -/
import Derived.Test.YtpammdlgoeoeaaaGc6
set_option linter.unusedVariables false
set_option linter.unusedSimpArgs false
namespace Go.Q
open Go.V
/-- A loop that writes to a list of its own. -/
theorem iter_write {g : List D → Option (Option Nat × List D)} {n k : Nat} (h1 : ∀ (i : Nat) (s : List (List D)), i < n → s.length = n → (∀ y ∈ s, y.length = k) → ∃ s', s'.length = n ∧ (∀ y ∈ s', y.length = k) ∧ g [I i, .list s] = some (none, [I (i + 1 : Nat), .list s']))
    (h2 : ∀ s, s.length = n → g [I n, .list s] = some (some 0, [])) {s : List (List D)} (hs : s.length = n) (hk : ∀ y ∈ s, y.length = k) : iterL g [I 0, .list s] = some (0, []) := by
  have key : ∀ (m i : Nat) (s : List (List D)), m + i = n → s.length = n → (∀ y ∈ s, y.length = k) → iterL g [I i, .list s] = some (0, []) := by
    intro m
    induction m with
    | zero =>
      intro i s hi hs hk
      have : i = n := by omega
      subst this
      rw [iterL_eq, h2 s hs]
    | succ m ih =>
      intro i s hi hs hk
      obtain ⟨s', a1, a2, a3⟩ := h1 i s (by omega) hs hk
      rw [iterL_eq, a3]
      exact ih (i + 1) s' (by omega) a1 a2
  exact key n 0 s (by omega) hs hk
theorem cap49 {n : Nat} (h : n < 1000000) : (n + 1) * 49 ≤ 1099511627776 := by omega
theorem marchS_len {hs : List Hf} {t : Tk} : (marchS hs t).1.length ≤ 40 := by
  unfold marchS
  split
  · simp
  · split
    · simp
    · split
      · simp
      · split
        · simp
        · rename_i h _ _ _
          simp only [List.length_map]
          exact okA_len (by simpa using h)
set_option maxHeartbeats 3200000 in
theorem e6 (hs : List Hf) (t : Tk) (ts : List Tk) (x y f : Int) :
    evL FN 6 [.node [hfs hs], .node t.c, tks ts, I x, I y, I f] = some (.bool true) := by
  refine evL_of (F := F6) rfl ?_
  have h29 := e29 hs
  simp only [hfs] at h29
  by_cases k1 : 60 < hs.length
  · simp only [k1, decide_true] at h29
    simp [F6, Fn.denV, fits, T.denV, denVK, denL, E.den, D.cells, Tk.c, hfs, tks, D.den1, binD, unD, outOf, h29]
  simp only [k1, decide_false] at h29
  have hl : hs.length < 9223372036854775807 := by omega
  by_cases k2 : 70 < ts.length
  · have k2' : (70 : Int) < ts.length := by omega
    simp [F6, Fn.denV, fits, T.denV, denVK, denL, E.den, D.cells, Tk.c, hfs, tks, D.den1, binD, unD, outOf, h29, k2']
  have k2' : ¬ (70 : Int) < ts.length := by omega
  have hlt : ts.length < 9223372036854775807 := by omega
  have h30 := e30 hs (by omega)
  have hcap : (ts.length + 1) * 49 ≤ 1099511627776 := cap49 (by omega)
  have h25 := e25 hs t hl
  have h38 := e38 hs t hl
  have h21 := e21 hs ts x y f hl hlt
  have h39 := e39 hs ts x y f hl hlt
  have hml := marchS_len (hs := hs) (t := t)
  have h18 := e18 (marchS hs t).1 (by omega)
  have h18' := e18 hs hl
  have sh := shal_hfs (n := 0) (hs := (marchS hs t).1)
  generalize marchS hs t = m at *
  obtain ⟨ms, me⟩ := m
  generalize findsS hs ts x y f = r at *
  obtain ⟨r1, r2, r3⟩ := r
  simp only [hfs, tks, Tk.c, I] at *
  have hd : ∀ l : List Tk, (∀ z ∈ l, z.c.length = 6) := fun l z _ => rfl
  simp [F6, Fn.denV, fits, T.denV, denVK, denL, E.den, D.cells, Tk.c, D.den1, binD, unD, outOf, h29, k2', h30, hcap]
  simp [h25, h38, h21, h39, h18, sh, T.denV, denVK, denL, E.den, D.cells, D.den1, binD, outOf, D.flat, D.flat0]
  rw [iter_write (n := ms.length) (k := 3) (s := ms.map Hf.d)]
  · simp [denVK, T.denV, denL, E.den, D.cells, D.den1]
    rw [iter_all (p := fun _ => true) (t := 0) (u := 1) (xs := ts)]
    · simp [h18', denVK, T.denV, denL, E.den, D.cells, D.flat, D.flat0, outOf]
    · intro i z hi
      obtain ⟨hlt, rfl⟩ := List.getElem?_eq_some_iff.1 hi
      have hlt' : (i : Int) < ts.length := by omega
      simp [binD, hlt, hlt', idx_nat hlt, hi, Tk.c, partD, D.cells, eqDL, eqD1, outOf, denL, E.den, wrapN (show i < 9223372036854775807 by omega)]
    · simp [binD, outOf, denL]
  · intro i s hi hs' hk
    have hi' : (i : Int) < ms.length := by omega
    have his : i < s.length := by omega
    have hk' := hk s[i] (List.getElem_mem his)
    have hidx : D.idx (I i) s.length = some i := idx_nat his
    have hp : putD s[i] 2 [I (-7)] = some (s[i].take 2 ++ [I (-7)] ++ s[i].drop 3) := by
      simp [putD, hk']
    refine ⟨s.set i (s[i].take 2 ++ [I (-7)] ++ s[i].drop 3), by simpa using hs', fun z hz => ?_, ?_⟩
    · rcases List.mem_or_eq_of_mem_set hz with hz | rfl
      · exact hk z hz
      · simp [hk']
    · simp only [I] at hidx hp
      simp [binD, hi', hidx, his, hk', hp, outOf, denL, E.den, wrapN (show i < 9223372036854775807 by omega)]
  · intro s hs'
    simp [binD, outOf, denL]
  · simp
  · simp [Hf.d]
end Go.Q
