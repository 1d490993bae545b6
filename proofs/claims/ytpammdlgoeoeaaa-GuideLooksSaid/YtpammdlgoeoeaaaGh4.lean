/- Guide: the statement on looks. -/
import Derived.Test.YtpammdlgoeoeaaaGh3
set_option linter.unusedVariables false
set_option linter.unusedSimpArgs false
namespace Go.Q
open Go.V
theorem cap81 {n : Nat} (h : n < 1000000) : (n + 1) * 81 ≤ 1099511627776 := by omega
theorem seeS_len {hs : List Hf} {l : Lk} (h : hs.length ≤ 60) : (seeS hs l).1.length ≤ 64 := by
  have := l.hv_len
  unfold seeS
  split
  · simp
  · split
    · simp
    · split
      · simp
      · split
        · simp
        · simp only [List.length_append]; omega
theorem cFold_len {hs : List Hf} {ls : List Lk} : ∀ (l : List Lk) (i : Nat) (left : List Nat), (cFold hs ls i left l).length ≤ left.length
  | [], _, _ => Nat.le_refl _
  | _ :: l, i, left => by
    refine Nat.le_trans (cFold_len l _ _) ?_
    unfold cStep
    split
    · exact Nat.le_refl _
    · exact List.length_filter_le _ _
theorem clashS_len {hs : List Hf} {ls : List Lk} : (clashS hs ls).1.length ≤ ls.length := by
  unfold clashS
  split
  · simp
  · split
    · simp
    · split
      · simp
      · split
        · simp
        · exact Nat.le_trans (cFold_len _ _ _) (by simp)
set_option maxHeartbeats 3200000 in
theorem e5 (hs : List Hf) (l : Lk) (ls : List Lk) : evL FN 5 [.node [hfs hs], .node l.c, lks ls] = some (.bool true) := by
  refine evL_of (F := F5) rfl ?_
  have h29 := e29 hs
  simp only [hfs] at h29
  by_cases k1 : 60 < hs.length
  · simp only [k1, decide_true] at h29
    simp [F5, Fn.denV, fits, T.denV, denVK, denL, E.den, D.cells, Lk.c, hfs, lks, D.den1, binD, unD, outOf, h29]
  simp only [k1, decide_false] at h29
  by_cases k2 : 15 < ls.length
  · have k2' : (15 : Int) < ls.length := by omega
    simp [F5, Fn.denV, fits, T.denV, denVK, denL, E.den, D.cells, Lk.c, hfs, lks, D.den1, binD, unD, outOf, h29, k2']
  have k2' : ¬ (15 : Int) < ls.length := by omega
  have hl : hs.length < 9223372036854775807 := by omega
  have h30 := e30 hs (by omega)
  have hcap : (ls.length + 1) * 81 ≤ 1099511627776 := cap81 (by omega)
  have h15 := e15 hs l hl
  have h35 := e35 hs l hl
  have h26 := e26 hs ls hl
  have h36 := e36 hs ls hl
  have hsl := seeS_len (hs := hs) (l := l) (by omega)
  have hcl := clashS_len (hs := hs) (ls := ls)
  have h18 := e18 (seeS hs l).1 (by omega)
  have h18' := e18 hs hl
  have h37 := e37 ((clashS hs ls).1.map fun n : Nat => (n : Int)) (by rw [List.length_map]; omega)
  have sh := shal_hfs (n := 0) (hs := (seeS hs l).1)
  have sh2 := shal_nums (n := 0) (xs := (clashS hs ls).1.map fun n : Nat => (n : Int))
  change evL FN 37 [natsD (clashS hs ls).1, natsD (clashS hs ls).1] = _ at h37
  change D.shal 1 (natsD (clashS hs ls).1) = true at sh2
  generalize seeS hs l = m at *
  obtain ⟨ms, me⟩ := m
  generalize clashS hs ls = r at *
  obtain ⟨r1, r2⟩ := r
  simp only at h37 sh2 h15 h35 h26 h36 h18 sh hsl hcl
  generalize natsD r1 = nd at *
  have happ : D.den1 (.app 10 80) [.list [], .list (ls.map Lk.c)] = some (.list (ls.map Lk.c)) := by
    simp [D.den1, hcap, Lk.c]
  simp only [hfs, lks, Lk.c, I] at h29 h30 h15 h35 h26 h36 h18 h18' sh
  have hB : ∀ op (x y : D), D.den1 (.bin op) [x, y] = binD op x y := fun _ _ _ => rfl
  have hLen : ∀ xs : List (List D), D.den1 .len [.list xs] = some (.int .i64 xs.length) := fun _ => rfl
  simp [F5, Fn.denV, fits, T.denV, denVK, denL, E.den, D.cells, hfs, lks, hLen, hB, binD, outOf, h29, k2', h30, happ]
  simp [Lk.c, h15, h35, h26, h36, h18, h37, sh, sh2, T.denV, denVK, denL, E.den, D.cells, hLen, hB, binD, outOf, D.flat, D.flat0]
  rw [iter_write (n := ms.length) (k := 3) (s := ms.map Hf.d)]
  · simp [denVK, T.denV, denL, E.den, D.cells, hLen]
    rw [iter_all (p := fun _ => true) (t := 0) (u := 1) (xs := ls)]
    · simp [h18', denVK, T.denV, denL, E.den, D.cells, D.flat, D.flat0, outOf]
    · intro i z hi
      obtain ⟨hlt, rfl⟩ := List.getElem?_eq_some_iff.1 hi
      have hlt' : (i : Int) < ls.length := by omega
      simp [D.den1, binD, hlt, hlt', idx_nat hlt, hi, Lk.c, partD, D.cells, eqDL, eqD1, outOf, denL, E.den, wrapN (show i < 9223372036854775807 by omega)]
    · simp [hB, binD, outOf, denL]
  · intro i s hi hs' hk
    have hi' : (i : Int) < ms.length := by omega
    have his : i < s.length := by omega
    have hk' := hk s[i] (List.getElem_mem his)
    have hidx : D.idx (I i) s.length = some i := idx_nat his
    have hp : putD s[i] 2 [I (-7)] = some (s[i].take 2 ++ [I (-7)] ++ s[i].drop 3) := by
      simp [putD, hk']
    refine ⟨s.set i (s[i].take 2 ++ [I (-7)] ++ s[i].drop 3), by simpa using hs', fun z hz => ?_, ?_⟩
    · rcases List.mem_or_eq_of_mem_set hz with hz | rfl
      · exact hk z hz
      · simp [hk']
    · simp only [I] at hidx hp
      simp [D.den1, binD, hi', hidx, his, hk', hp, outOf, denL, E.den, wrapN (show i < 9223372036854775807 by omega)]
  · intro s hs'
    simp [hB, binD, outOf, denL]
  · simp
  · simp [Hf.d]
end Go.Q
