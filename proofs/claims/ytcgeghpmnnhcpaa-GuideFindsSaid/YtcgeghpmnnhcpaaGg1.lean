/- Guide: looks. -/
import Derived.Test.YtcgeghpmnnhcpaaGc3
set_option linter.unusedVariables false
set_option linter.unusedSimpArgs false
namespace Go.Q
open Go.V
/-- The chapter's examples hold. -/
theorem e14 : evL FN 14 [] = some (.bool true) := evL_iff.2 ⟨100, 100, by kernel_rfl⟩
/-- A look. -/
structure Lk where
  k : Int
  x : Int
  y : Int
  fx : Int
  fy : Int
  tx : Int
  ty : Int
  n : Int
  n' : Int
  f : Int
  deriving DecidableEq
def Lk.c (l : Lk) : List D := [U8 l.k, I l.x, I l.y, I l.fx, I l.fy, I l.tx, I l.ty, I l.n, I l.n', I l.f]
def crs1 (x y : Int) : Bool := inR x (-1000) 1000 && inR y (-1000) 1000
def Lk.ok (l : Lk) : Bool :=
  if l.k = 1 then plOK l.x l.y && (crs1 l.fx l.fy && (crs1 l.tx l.ty && decide (l.fx * l.ty - l.fy * l.tx > 0)))
  else if l.k = 2 then inS l.n l.n' (-10000000) 10000000
  else if l.k = 3 then askOK l.x l.y l.f else false
theorem e85 (x y : Int) : evL FN 85 [.node [I x, I y]] = some (.bool (crs1 x y)) := by
  refine evL_of (F := F85) rfl ?_
  unfold crs1
  cases e1 : inR x (-1000) 1000 <;> simp [F85, Fn.denV, fits, T.denV, denVK, denL, E.den, D.cells, D.den1, binD, outOf, e87, e1]
theorem e83 (x y : Int) : evL FN 83 [.node [I x, I y]] = some (.bool (crs1 x y)) := by
  refine evL_of (F := F83) rfl ?_
  unfold crs1
  cases e1 : inR x (-1000) 1000 <;> simp [F83, Fn.denV, fits, T.denV, denVK, denL, E.den, D.cells, D.den1, binD, outOf, e82, e1]
theorem crsIn {x y : Int} (h : crs1 x y = true) : (-1000 ≤ x ∧ x ≤ 1000) ∧ (-1000 ≤ y ∧ y ≤ 1000) := by
  simp [crs1, inR] at h
  omega
theorem e86 {a b c d : Int} (h1 : crs1 a b = true) (h2 : crs1 c d = true) : evL FN 86 [.node [I a, I b], .node [I c, I d]] = some (.bool (decide (a * d - b * c > 0))) := by
  refine evL_of (F := F86) rfl ?_
  have i1 := crsIn h1
  have i2 := crsIn h2
  have m1 := mulB i1.1 i2.2
  have m2 := mulB i1.2 i2.1
  have w1 := wrapI (x := a * d) (by omega)
  have w2 := wrapI (x := b * c) (by omega)
  have w3 := wrapI (x := a * d - b * c) (by omega)
  simp [F86, Fn.denV, fits, T.denV, denVK, denL, E.den, D.cells, D.den1, binD, outOf, w1, w2, w3]
theorem e51 (l : Lk) : evL FN 51 [.node l.c] = some (.bool l.ok) := by
  refine evL_of (F := F51) rfl ?_
  unfold Lk.ok
  by_cases k1 : l.k = 1
  · rw [if_pos k1]
    cases e1 : plOK l.x l.y
    · simp [Lk.c, k1, F51, Fn.denV, fits, T.denV, denVK, denL, E.den, D.cells, D.den1, binD, outOf, e84, e1]
    cases e2 : crs1 l.fx l.fy
    · simp [Lk.c, k1, F51, Fn.denV, fits, T.denV, denVK, denL, E.den, D.cells, D.den1, binD, outOf, e84, e85, e1, e2]
    cases e3 : crs1 l.tx l.ty
    · simp [Lk.c, k1, F51, Fn.denV, fits, T.denV, denVK, denL, E.den, D.cells, D.den1, binD, outOf, e84, e85, e1, e2, e3]
    simp [Lk.c, k1, F51, Fn.denV, fits, T.denV, denVK, denL, E.den, D.cells, D.den1, binD, outOf, e84, e85, e86 e2 e3, e1, e2, e3]
  rw [if_neg k1]
  by_cases k2 : l.k = 2
  · simp [Lk.c, k1, k2, F51, Fn.denV, fits, T.denV, denVK, denL, E.den, D.cells, D.den1, binD, outOf, e63]
  rw [if_neg k2]
  by_cases k3 : l.k = 3
  · rw [if_pos k3]
    unfold askOK
    cases e1 : plOK l.x l.y <;>
      simp [Lk.c, k1, k2, k3, F51, Fn.denV, fits, T.denV, denVK, denL, E.den, D.cells, D.den1, binD, outOf, e84, e87, e1]
  · simp [Lk.c, k1, k2, k3, F51, Fn.denV, fits, T.denV, denVK, denL, E.den, D.cells, D.den1, binD, outOf]
/-- The halves of a look. -/
def Lk.hv (l : Lk) : List Hf :=
  if l.k = 1 then [⟨-l.fy, l.fx, l.fx * l.y - l.fy * l.x⟩, ⟨l.ty, -l.tx, l.ty * l.x - l.tx * l.y⟩]
  else if l.k = 2 then [⟨0, 1, l.n'⟩, ⟨0, -1, -l.n⟩] else nr l.x l.y l.f
theorem Lk.okC {l : Lk} (h : l.ok = true) : (l.k = 1 ∧ plOK l.x l.y = true ∧ crs1 l.fx l.fy = true ∧ crs1 l.tx l.ty = true ∧ l.fx * l.ty - l.fy * l.tx > 0) ∨ (l.k = 2 ∧ inS l.n l.n' (-10000000) 10000000 = true) ∨ (l.k = 3 ∧ askOK l.x l.y l.f = true) := by
  unfold Lk.ok at h
  split at h
  · rename_i k
    simp only [Bool.and_eq_true, decide_eq_true_eq] at h
    exact .inl ⟨k, h.1, h.2.1, h.2.2.1, h.2.2.2⟩
  · split at h
    · exact .inr (.inl ⟨‹_›, h⟩)
    · split at h
      · exact .inr (.inr ⟨‹_›, h⟩)
      · cases h
theorem plIn {x y : Int} (h : plOK x y = true) : (-10000000 ≤ x ∧ x ≤ 10000000) ∧ (-10000000 ≤ y ∧ y ≤ 10000000) := by
  simp [plOK, inR] at h
  omega
theorem inS_in1 {a b lo hi : Int} (h : inS a b lo hi = true) : lo ≤ a ∧ a ≤ b ∧ b ≤ hi := by
  simp [inS] at h
  omega
theorem Lk.hvIn {l : Lk} (h : l.ok = true) : ∀ k ∈ l.hv, k.In := by
  unfold Lk.hv
  rcases l.okC h with ⟨k, h1, h2, h3, -⟩ | ⟨k, h1⟩ | ⟨k, h1⟩
  · rw [if_pos k]
    have i0 := plIn h1
    have i1 := crsIn h2
    have i2 := crsIn h3
    have m1 := mulB i1.1 i0.2
    have m2 := mulB i1.2 i0.1
    have m3 := mulB i2.2 i0.1
    have m4 := mulB i2.1 i0.2
    intro g hg
    simp only [List.mem_cons, List.not_mem_nil, or_false] at hg
    rcases hg with rfl | rfl
    · exact ⟨by simp only; omega, by simp only; omega, by simp only; omega⟩
    · exact ⟨by simp only; omega, by simp only; omega, by simp only; omega⟩
  · rw [if_neg (by omega), if_pos k]
    have i1 := inS_in1 h1
    intro g hg
    simp only [List.mem_cons, List.not_mem_nil, or_false] at hg
    rcases hg with rfl | rfl
    · exact ⟨by simp only; omega, by simp only; omega, by simp only; omega⟩
    · exact ⟨by simp only; omega, by simp only; omega, by simp only; omega⟩
  · rw [if_neg (by omega), if_neg (by omega)]
    exact nrIn h1
theorem Lk.hv_len (l : Lk) : l.hv.length ≤ 4 := by
  unfold Lk.hv
  split
  · simp
  · split
    · simp
    · simp [nr, sides]
theorem e89 {l : Lk} (h0 : plOK l.x l.y = true) (h1 : crs1 l.fx l.fy = true) (h2 : crs1 l.tx l.ty = true) : evL FN 89 [.node l.c] = some (hfs [⟨-l.fy, l.fx, l.fx * l.y - l.fy * l.x⟩, ⟨l.ty, -l.tx, l.ty * l.x - l.tx * l.y⟩]) := by
  refine evL_of (F := F89) rfl ?_
  have i0 := plIn h0
  have i1 := crsIn h1
  have i2 := crsIn h2
  have m1 := mulB i1.1 i0.2
  have m2 := mulB i1.2 i0.1
  have m3 := mulB i2.2 i0.1
  have m4 := mulB i2.1 i0.2
  have w1 := wrapI (x := l.fx * l.y) (by omega)
  have w2 := wrapI (x := l.fy * l.x) (by omega)
  have w3 := wrapI (x := l.ty * l.x) (by omega)
  have w4 := wrapI (x := l.tx * l.y) (by omega)
  have w5 := wrapI (x := l.fx * l.y - l.fy * l.x) (by omega)
  have w6 := wrapI (x := l.ty * l.x - l.tx * l.y) (by omega)
  have w7 := wrapI (x := -l.fy) (by omega)
  have w8 := wrapI (x := -l.tx) (by omega)
  simp [Lk.c, F89, Fn.denV, fits, T.denV, denVK, denL, E.den, D.cells, D.den1, binD, unD, w1, w2, w3, w4, w5, w6, w7, w8, fillD, hfs, Hf.d]
theorem e90 {l : Lk} (h : inS l.n l.n' (-10000000) 10000000 = true) : evL FN 90 [.node l.c] = some (hfs [⟨0, 1, l.n'⟩, ⟨0, -1, -l.n⟩]) := by
  refine evL_of (F := F90) rfl ?_
  have i1 := inS_in1 h
  have w1 := wrapI (x := -l.n) (by omega)
  simp [Lk.c, F90, Fn.denV, fits, T.denV, denVK, denL, E.den, D.cells, D.den1, binD, unD, w1, fillD, hfs, Hf.d]
theorem e91l {l : Lk} (h : askOK l.x l.y l.f = true) : evL FN 91 [.node l.c] = some (hfs (nr l.x l.y l.f)) := by
  refine evL_of (F := F91) rfl ?_
  have hh := askIn h
  have w1 := wrapI (x := l.x - l.f) (by omega)
  have w2 := wrapI (x := l.x + l.f) (by omega)
  have w3 := wrapI (x := l.y - l.f) (by omega)
  have w4 := wrapI (x := l.y + l.f) (by omega)
  have h64 := e64 (a := l.x - l.f) (b := l.x + l.f) (c := l.y - l.f) (d := l.y + l.f) (by omega) (by omega) (by omega) (by omega)
  simp [Lk.c, nr, F91, Fn.denV, fits, T.denV, denVK, denL, E.den, D.cells, D.den1, binD, outOf, w1, w2, w3, w4, h64]
theorem e53 {l : Lk} (h : l.ok = true) : evL FN 53 [.node l.c] = some (hfs l.hv) := by
  refine evL_of (F := F53) rfl ?_
  unfold Lk.hv
  rcases l.okC h with ⟨k, h1, h2, h3, -⟩ | ⟨k, h1⟩ | ⟨k, h1⟩
  · have h := e89 h1 h2 h3
    simp only [Lk.c] at h
    rw [k] at h
    simp [Lk.c, k, F53, Fn.denV, fits, T.denV, denVK, denL, E.den, D.cells, D.den1, binD, outOf, h]
  · have h := e90 h1
    simp only [Lk.c] at h
    rw [k] at h
    simp [Lk.c, k, F53, Fn.denV, fits, T.denV, denVK, denL, E.den, D.cells, D.den1, binD, outOf, h]
  · have h := e91l h1
    simp only [Lk.c] at h
    rw [k] at h
    simp [Lk.c, k, F53, Fn.denV, fits, T.denV, denVK, denL, E.den, D.cells, D.den1, binD, outOf, h]
/-- An area with the halves of a look. -/
def seeS (hs : List Hf) (l : Lk) : List Hf × Int :=
  if okA hs = false then ([], 40) else if l.ok = false then ([], 41) else if 40 < (hs ++ l.hv).length then ([], 9) else if hasPl (hs ++ l.hv) = false then ([], 43) else (hs ++ l.hv, 0)
theorem shal_two {a b : List Hf} {n : Nat} : D.shal (n + 2) (.list [[hfs a], [hfs b]]) = true := by
  simp [D.shal, D.shal1, D.shal0, hfs, Hf.d, shal1_int]
theorem e15 (hs : List Hf) (l : Lk) (hl : hs.length < 9223372036854775807) : evL FN 15 [.node [hfs hs], .node l.c] = some (.node [.node [hfs (seeS hs l).1], I (seeS hs l).2]) := by
  refine evL_of (F := F15) rfl ?_
  have h28 := e28 hs hl
  have h51 := e51 l
  simp only [hfs, I, Lk.c] at h28 h51
  unfold seeS
  cases k1 : okA hs
  · rw [k1] at h28
    simp [F15, Fn.denV, fits, T.denV, denVK, denL, E.den, D.cells, hfs, Lk.c, D.den1, binD, unD, h28]
  rw [k1] at h28
  obtain ⟨hin, hlen⟩ := okA_in k1
  cases k2 : l.ok
  · rw [k2] at h51
    simp [F15, Fn.denV, fits, T.denV, denVK, denL, E.den, D.cells, hfs, Lk.c, D.den1, binD, unD, h28, h51]
  rw [k2] at h51
  have hv4 := l.hv_len
  have h53 := e53 k2
  have h52 := e52 hs l.hv (by omega)
  have hms : (hs ++ l.hv).length ≤ 44 := by rw [List.length_append]; omega
  have hmi : ∀ h ∈ hs ++ l.hv, h.In := by
    intro h hm
    rcases List.mem_append.1 hm with h1 | h1
    · exact hin h h1
    · exact l.hvIn k2 h h1
  have h54 := e54 (hs ++ l.hv) hmi (by omega)
  have s1 := shal_two (n := 2) (a := hs) (b := l.hv)
  have s2 := shal_hfs (n := 0) (hs := hs ++ l.hv)
  generalize hs ++ l.hv = ms at *
  simp only [hfs, Lk.c, I] at h53 h52 h54 s1 s2
  by_cases k3 : 40 < ms.length
  · have k3' : (40 : Int) < ms.length := by omega
    simp [F15, Fn.denV, fits, T.denV, denVK, denL, E.den, D.cells, hfs, Lk.c, D.den1, binD, unD, fillD, h28, h51, h53, h52, s1, s2, k3, k3']
  have k3' : ¬ (40 : Int) < ms.length := by omega
  cases k4 : hasPl ms <;> rw [k4] at h54 <;>
    simp [F15, Fn.denV, fits, T.denV, denVK, denL, E.den, D.cells, hfs, Lk.c, D.den1, binD, unD, fillD, h28, h51, h53, h52, h54, s1, s2, k3, k3', D.flat, D.flat0]
end Go.Q
