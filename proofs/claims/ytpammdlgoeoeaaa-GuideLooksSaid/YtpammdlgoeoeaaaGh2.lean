/- Guide: the reference's looks. -/
import Derived.Test.YtpammdlgoeoeaaaGh1
set_option linter.unusedVariables false
set_option linter.unusedSimpArgs false
namespace Go.Q
open Go.V
theorem e79 {l : Lk} (h : l.ok = true) : evL FN 79 [.node l.c] = some (hfs l.hv) := by
  refine evL_of (F := F79) rfl ?_
  unfold Lk.hv
  rcases l.okC h with ⟨k, h1, h2, h3, -⟩ | ⟨k, h1⟩ | ⟨k, h1⟩
  · have i0 := plIn h1
    have i1 := crsIn h2
    have i2 := crsIn h3
    have m1 := mulB i1.1 i0.2
    have m2 := mulB i1.2 i0.1
    have m3 := mulB i2.2 i0.1
    have m4 := mulB i2.1 i0.2
    have w1 := wrapI (x := l.fx * l.y) (by omega)
    have w2 := wrapI (x := l.fy * l.x) (by omega)
    have w3 := wrapI (x := l.ty * l.x) (by omega)
    have w4 := wrapI (x := l.tx * l.y) (by omega)
    have w5 := wrapI (x := l.fx * l.y - l.fy * l.x) (by omega)
    have w6 := wrapI (x := l.ty * l.x - l.tx * l.y) (by omega)
    have w7 := wrapI (x := -l.fy) (by omega)
    have w8 := wrapI (x := -l.tx) (by omega)
    simp [Lk.c, k, F79, Fn.denV, fits, T.denV, denVK, denL, E.den, D.cells, D.den1, binD, unD, w1, w2, w3, w4, w5, w6, w7, w8, fillD, hfs, Hf.d, outOf]
  · have i1 := inS_in1 h1
    have w1 := wrapI (x := -l.n) (by omega)
    simp [Lk.c, k, F79, Fn.denV, fits, T.denV, denVK, denL, E.den, D.cells, D.den1, binD, unD, w1, fillD, hfs, Hf.d, outOf]
  · have hA := askIn h1
    have h102 := e102 hA.1 hA.2.1 hA.2.2
    simp [Lk.c, k, F79, Fn.denV, fits, T.denV, denVK, denL, E.den, D.cells, D.den1, binD, unD, outOf, h102, nr]
theorem e35 (hs : List Hf) (l : Lk) (hl : hs.length < 9223372036854775807) : evL FN 35 [.node [hfs hs], .node l.c] = some (.node [.node [hfs (seeS hs l).1], I (seeS hs l).2]) := by
  refine evL_of (F := F35) rfl ?_
  have h74 := e74 hs hl
  have h42 := e42 l
  simp only [hfs, I, Lk.c] at h74 h42
  unfold seeS
  cases k1 : okA hs
  · rw [k1] at h74
    simp [F35, Fn.denV, fits, T.denV, denVK, denL, E.den, D.cells, hfs, Lk.c, D.den1, binD, unD, h74]
  rw [k1] at h74
  obtain ⟨hin, hlen⟩ := okA_in k1
  cases k2 : l.ok
  · rw [k2] at h42
    simp [F35, Fn.denV, fits, T.denV, denVK, denL, E.den, D.cells, hfs, Lk.c, D.den1, binD, unD, h74, h42]
  rw [k2] at h42
  have hv4 := l.hv_len
  have h79 := e79 k2
  have h72 := e72 hs l.hv (by omega)
  have hms : (hs ++ l.hv).length ≤ 44 := by rw [List.length_append]; omega
  have hmi : ∀ h ∈ hs ++ l.hv, h.In := by
    intro h hm
    rcases List.mem_append.1 hm with h1 | h1
    · exact hin h h1
    · exact l.hvIn k2 h h1
  have h75 := e75 (hs ++ l.hv) hmi (by omega)
  have hn := crn_nil (hs := hs ++ l.hv)
  have s2 := shal_hfs (n := 0) (hs := hs ++ l.hv)
  have s3 := shal_crs (n := 0) (cs := crnR (hs ++ l.hv) (hs ++ l.hv).length)
  generalize hs ++ l.hv = ms at *
  generalize crnR ms ms.length = cs at *
  simp only [hfs, Lk.c, I, crs] at h79 h72 h75 s2 s3
  by_cases k3 : 40 < ms.length
  · have k3' : (40 : Int) < ms.length := by omega
    simp [F35, Fn.denV, fits, T.denV, denVK, denL, E.den, D.cells, hfs, Lk.c, D.den1, binD, unD, h74, h42, h79, h72, s2, k3, k3']
  have k3' : ¬ (40 : Int) < ms.length := by omega
  have sN : D.shal 1 (.list []) = true := rfl
  cases k4 : hasPl ms <;> simp only [k4, reduceCtorEq, iff_false, iff_true] at hn <;>
    simp [F35, Fn.denV, fits, T.denV, denVK, denL, E.den, D.cells, hfs, Lk.c, D.den1, binD, unD, h74, h42, h79, h72, h75, s2, s3, sN, k3, k3', hn]
/-- The looks that are not out, up to a number. -/
def names (out : List Bool) (i : Nat) : List Nat := (List.range i).filter fun j => !(out.getD j true)
theorem names_succ {out : List Bool} {i : Nat} : names out (i + 1) = names out i ++ (if out.getD i true then [] else [i]) := by
  unfold names
  rw [List.range_succ, List.filter_append]
  simp only [List.filter_cons, List.filter_nil]
  cases out.getD i true <;> rfl
theorem names_lt {out : List Bool} {i : Nat} : ∀ n ∈ names out i, n < i := fun n hn => List.mem_range.1 (List.mem_filter.1 hn).1
theorem names_len {out : List Bool} {i : Nat} : (names out i).length ≤ i := Nat.le_trans (List.length_filter_le _ _) (by simp)
def boolsD (bs : List Bool) : D := .list (bs.map fun b => [.bool b])
set_option maxHeartbeats 1600000 in
theorem e80 (hs : List Hf) (ls : List Lk) (out : List Bool) (h1 : ∀ h ∈ hs, h.In) (h2 : ∀ l ∈ ls, l.ok = true) (ho : out.length = ls.length) (l1 : hs.length ≤ 40) (l2 : ls.length ≤ 10) :
    evL FN 80 [hfs hs, lks ls, boolsD out] = some (.bool (hasPl (hsum hs ls (names out ls.length)))) := by
  refine evL_of (F := F80) rfl ?_
  have h72 := e72 hs [] (by simp; omega)
  simp only [hfs, List.map_nil, List.append_nil] at h72
  simp [F80, Fn.denV, fits, T.denV, denVK, denL, E.den, D.cells, hfs, lks, boolsD, D.den1, h72]
  rw [iter_try (p := fun _ => true) (t := 0) (u := 0) (xs := ls) (r0 := []) (r := [hfs (hsum hs ls (names out ls.length))]) (st := fun i => [I i, hfs (hsum hs ls (names out i))])]
  · have hl := hsum_len (hs := hs) (ls := ls) (ns := names out ls.length)
    have hn := names_len (out := out) (i := ls.length)
    have h75 := e75 (hsum hs ls (names out ls.length)) (hsum_in h1 h2 names_lt) (by omega)
    have hc := crn_nil (hs := hsum hs ls (names out ls.length))
    have s3 := shal_crs (n := 0) (cs := crnR (hsum hs ls (names out ls.length)) (hsum hs ls (names out ls.length)).length)
    generalize hsum hs ls (names out ls.length) = ms at *
    generalize crnR ms ms.length = cs at *
    simp only [hfs, crs] at h75 s3
    cases k4 : hasPl ms <;> simp only [k4, reduceCtorEq, iff_false, iff_true] at hc
    · simp [denVK, T.denV, denL, E.den, D.den1, binD, hfs, h75, s3, hc]
      have s3 : D.shal 1 (.list []) = true := rfl
      simp [s3, E.den]
    · have hp : 0 < cs.length := List.length_pos_iff.2 hc
      have this : (0 : Int) < cs.length := by omega
      simp [denVK, T.denV, denL, E.den, D.den1, binD, hfs, h75, s3, hc, this, hp]
  · simp [names, hsum, hfs]
  · intro i l hi
    obtain ⟨hlt, rfl⟩ := List.getElem?_eq_some_iff.1 hi
    have hlt' : (i : Int) < ls.length := by omega
    have hio : i < out.length := by omega
    have hoi : out[i]? = some out[i] := List.getElem?_eq_getElem hio
    have hog : out.getD i true = out[i] := by simp [hio]
    have h79 := e79 (h2 _ (List.getElem_mem hlt))
    have hg : ls.getD i ⟨0, 0, 0, 0, 0, 0, 0, 0, 0, 0⟩ = ls[i] := by simp [hlt]
    have hlen := hsum_len (hs := hs) (ls := ls) (ns := names out i)
    have hn := names_len (out := out) (i := i)
    have hv4 := (ls[i]).hv_len
    have hidx := idx_nat hlt
    have hidx2 := idx_nat hio
    rw [names_succ, hog]
    simp only [I] at hidx hidx2
    cases hb : out[i]
    · simp only [Bool.false_eq_true, if_false]
      rw [hsum_snoc, hg]
      have h72 := e72 (hsum hs ls (names out i)) (ls[i]).hv (by omega)
      have sh := shal_hfs (n := 0) (hs := hsum hs ls (names out i) ++ (ls[i]).hv)
      generalize hsum hs ls (names out i) ++ (ls[i]).hv = R at *
      generalize hsum hs ls (names out i) = Q at *
      generalize (ls[i]).hv = V at *
      simp only [hfs, Lk.c, I] at h79 h72 sh
      simp [binD, hlt, hlt', hio, hidx, hidx2, hi, hoi, hb, Lk.c, hfs, partD, D.cells, h79, h72, sh, outOf, denVK, T.denV, denL, E.den, D.den1, unD, wrapN (show i < 9223372036854775807 by omega)]
    · simp only [if_true, List.append_nil]
      simp [binD, hlt, hlt', hio, hidx, hidx2, hi, hoi, hb, Lk.c, hfs, partD, D.cells, outOf, denVK, T.denV, denL, E.den, D.den1, unD, wrapN (show i < 9223372036854775807 by omega)]
  · simp [binD, outOf, denL, E.den]
theorem e37 (xs : List Int) (hl : xs.length < 9223372036854775807) : evL FN 37 [nums xs, nums xs] = some (.bool true) := by
  refine evL_of (F := F37) rfl ?_
  simp [F37, Fn.denV, fits, T.denV, denVK, denL, E.den, D.cells, nums, D.den1, binD, unD]
  rw [iter_all (p := fun _ => true) (t := 0) (u := 1) (xs := xs)]
  · simp [denVK, T.denV, E.den]
  · intro i h hi
    obtain ⟨hlt, rfl⟩ := List.getElem?_eq_some_iff.1 hi
    have hlt' : (i : Int) < xs.length := by omega
    simp [hlt, hlt', idx_nat hlt, hi, partD, D.cells, outOf, denL, E.den, wrapN (show i < 9223372036854775807 by omega)]
  · simp [outOf, denL]
end Go.Q
