/- Guide: looks in any order. -/
import Derived.Test.YtcgeghpmnnhcpaaGg5
set_option linter.unusedVariables false
set_option linter.unusedSimpArgs false
namespace Go.Q
open Go.V
theorem e42 (l : Lk) : evL FN 42 [.node l.c] = some (.bool l.ok) := by
  refine evL_of (F := F42) rfl ?_
  unfold Lk.ok
  have hpl : ∀ b1 b2, inR l.x (-10000000) 10000000 = b1 → inR l.y (-10000000) 10000000 = b2 → plOK l.x l.y = (b1 && b2) := fun b1 b2 h1 h2 => by rw [plOK, h1, h2]
  cases p1 : inR l.x (-10000000) 10000000 <;> cases p2 : inR l.y (-10000000) 10000000 <;> have hp := hpl _ _ p1 p2 <;> simp only [Bool.and_false, Bool.false_and, Bool.and_self] at hp <;>
  (by_cases k1 : l.k = 1
   · rw [if_pos k1]
     cases q1 : crs1 l.fx l.fy
     · simp [Lk.c, k1, F42, Fn.denV, fits, T.denV, denVK, denL, E.den, D.cells, D.den1, binD, outOf, e82, p1, p2, hp, e83, q1]
     cases q2 : crs1 l.tx l.ty
     · simp [Lk.c, k1, F42, Fn.denV, fits, T.denV, denVK, denL, E.den, D.cells, D.den1, binD, outOf, e82, p1, p2, hp, e83, q1, q2]
     have i1 := crsIn q1
     have i2 := crsIn q2
     have m1 := mulB i1.1 i2.2
     have m2 := mulB i1.2 i2.1
     have w1 := wrapI (x := l.fx * l.ty) (by omega)
     have w2 := wrapI (x := l.fy * l.tx) (by omega)
     have w3 := wrapI (x := l.fx * l.ty - l.fy * l.tx) (by omega)
     simp [Lk.c, k1, F42, Fn.denV, fits, T.denV, denVK, denL, E.den, D.cells, D.den1, binD, outOf, e82, p1, p2, hp, e83, q1, q2, w1, w2, w3]
   · rw [if_neg k1]
     by_cases k2 : l.k = 2
     · simp [Lk.c, k1, k2, F42, Fn.denV, fits, T.denV, denVK, denL, E.den, D.cells, D.den1, binD, outOf, e82, p1, p2, hp, e73]
     rw [if_neg k2]
     by_cases k3 : l.k = 3
     · rw [if_pos k3]
       unfold askOK
       simp [Lk.c, k1, k2, k3, F42, Fn.denV, fits, T.denV, denVK, denL, E.den, D.cells, D.den1, binD, outOf, e82, p1, p2, hp]
     · simp [Lk.c, k1, k2, k3, F42, Fn.denV, fits, T.denV, denVK, denL, E.den, D.cells, D.den1, binD, outOf, e82, p1, p2, hp])
theorem e47 (a b c d : Int) : evL FN 47 [.node [I a, I b], .node [I c, I d]] = some (.bool (decide (c ≤ a) && decide (b ≤ d))) := by
  refine evL_of (F := F47) rfl ?_
  by_cases h1 : c ≤ a <;> simp [F47, Fn.denV, fits, T.denV, denVK, denL, E.den, D.cells, D.den1, binD, outOf, h1]
theorem seeS_of {hs : List Hf} {l : Lk} (h1 : okA hs = true) (h2 : l.ok = true) (h3 : hs.length ≤ 36) : seeS hs l = if hasPl (hs ++ l.hv) then (hs ++ l.hv, 0) else ([], 43) := by
  have := l.hv_len
  unfold seeS
  rw [h1, h2, if_neg (by simp), if_neg (by simp), if_neg (by rw [List.length_append]; omega)]
  cases hasPl (hs ++ l.hv) <;> simp
set_option maxHeartbeats 6400000 in
theorem e9 (hs : List Hf) (l m : Lk) : evL FN 9 [.node [hfs hs], .node l.c, .node m.c] = some (.bool true) := by
  refine evL_of (F := F9) rfl ?_
  have h34 := e34u hs
  have h42 := e42 l
  have h42' := e42 m
  simp only [hfs, I, Lk.c, U8] at h34 h42 h42'
  cases k1 : okA hs
  · rw [k1] at h34
    simp [F9, Fn.denV, fits, T.denV, denVK, denL, E.den, D.cells, hfs, Lk.c, D.den1, binD, unD, outOf, e14, h34]
  rw [k1] at h34
  cases k2 : l.ok <;> rw [k2] at h42
  · simp [F9, Fn.denV, fits, T.denV, denVK, denL, E.den, D.cells, hfs, Lk.c, D.den1, binD, unD, outOf, e14, h34, h42]
  cases k3 : m.ok <;> rw [k3] at h42'
  · simp [F9, Fn.denV, fits, T.denV, denVK, denL, E.den, D.cells, hfs, Lk.c, D.den1, binD, unD, outOf, e14, h34, h42, h42']
  by_cases k4 : 28 < hs.length
  · have k4' : (28 : Int) < hs.length := by omega
    simp [F9, Fn.denV, fits, T.denV, denVK, denL, E.den, D.cells, hfs, Lk.c, D.den1, binD, unD, outOf, e14, h34, h42, h42', k4']
  have k4' : ¬ (28 : Int) < hs.length := by omega
  have hlen : hs.length ≤ 28 := by omega
  obtain ⟨hin, -⟩ := okA_in k1
  have hS := okA_sided k1
  have ll := l.hv_len
  have lm := m.hv_len
  -- the areas
  obtain ⟨X, hX⟩ : ∃ X, hs ++ l.hv = X := ⟨_, rfl⟩
  obtain ⟨Y, hY⟩ : ∃ Y, hs ++ m.hv = Y := ⟨_, rfl⟩
  obtain ⟨Bt, hBt⟩ : ∃ B, X ++ m.hv = B := ⟨_, rfl⟩
  obtain ⟨Tu, hTu⟩ : ∃ T, Y ++ l.hv = T := ⟨_, rfl⟩
  obtain ⟨Ag, hAg⟩ : ∃ G, X ++ l.hv = G := ⟨_, rfl⟩
  have lX : X.length ≤ 32 := by rw [← hX, List.length_append]; omega
  have lY : Y.length ≤ 32 := by rw [← hY, List.length_append]; omega
  have lB : Bt.length ≤ 36 := by rw [← hBt, List.length_append]; omega
  have lT : Tu.length ≤ 36 := by rw [← hTu, List.length_append]; omega
  have lG : Ag.length ≤ 36 := by rw [← hAg, List.length_append]; omega
  have oX : okA X = true := by rw [← hX]; exact okA_append k1 (by omega) (Lk.hv_ok k2)
  have oY : okA Y = true := by rw [← hY]; exact okA_append k1 (by omega) (Lk.hv_ok k3)
  have oB : okA Bt = true := by rw [← hBt]; exact okA_append oX (by omega) (Lk.hv_ok k3)
  have oT : okA Tu = true := by rw [← hTu]; exact okA_append oY (by omega) (Lk.hv_ok k2)
  have oG : okA Ag = true := by rw [← hAg]; exact okA_append oX (by omega) (Lk.hv_ok k2)
  have subX : ∀ x ∈ hs, x ∈ X := fun x hx => by rw [← hX]; simp [hx]
  have subY : ∀ x ∈ hs, x ∈ Y := fun x hx => by rw [← hY]; simp [hx]
  have subB : ∀ x ∈ X, x ∈ Bt := fun x hx => by rw [← hBt]; simp [hx]
  have subG : ∀ x ∈ X, x ∈ Ag := fun x hx => by rw [← hAg]; simp [hx]
  have subG' : ∀ x ∈ Ag, x ∈ X := fun x hx => by
    rw [← hAg] at hx
    rcases List.mem_append.1 hx with hx | hx
    · exact hx
    · rw [← hX]; simp [hx]
  have subBT : ∀ x ∈ Bt, x ∈ Tu := fun x hx => by
    rw [← hBt, ← hX] at hx
    rw [← hTu, ← hY]
    simp only [List.mem_append] at hx ⊢
    rcases hx with (hx | hx) | hx
    · exact .inl (.inl hx)
    · exact .inr hx
    · exact .inl (.inr hx)
  have subTB : ∀ x ∈ Tu, x ∈ Bt := fun x hx => by
    rw [← hTu, ← hY] at hx
    rw [← hBt, ← hX]
    simp only [List.mem_append] at hx ⊢
    rcases hx with (hx | hx) | hx
    · exact .inl (.inl hx)
    · exact .inr hx
    · exact .inl (.inr hx)
  have SX := okA_sided oX
  have SB := okA_sided oB
  -- what the program tells of them
  have b0 := e19 hs (by omega)
  have bX := e19 X (by omega)
  have bB := e19 Bt (by omega)
  have bT := e19 Tu (by omega)
  have bG := e19 Ag (by omega)
  have s1 := e15 hs l (by omega)
  have s2 := e15 hs m (by omega)
  have s3 := e15 X m (by omega)
  have s4 := e15 Y l (by omega)
  have s5 := e15 X l (by omega)
  rw [seeS_of k1 k2 (by omega), hX] at s1
  rw [seeS_of k1 k3 (by omega), hY] at s2
  rw [seeS_of oX k3 (by omega), hBt] at s3
  rw [seeS_of oY k2 (by omega), hTu] at s4
  rw [seeS_of oX k2 (by omega), hAg] at s5
  have pG : hasPl X = hasPl Ag := pl_same SX subG subG'
  have pB : hasPl Bt = hasPl Tu := pl_same SB subBT subTB
  rw [← pG] at s5
  rw [← pB] at s4
  have shX := shal_hfs (n := 0) (hs := X)
  have shB := shal_hfs (n := 0) (hs := Bt)
  have shT := shal_hfs (n := 0) (hs := Tu)
  have shG := shal_hfs (n := 0) (hs := Ag)
  have shN : D.shal 1 (.list []) = true := rfl
  unfold bndD at b0 bX bB bT bG
  cases p0 : hasPl hs
  · have pX : hasPl X = false := by
      cases e : hasPl X
      · rfl
      · rw [hasPl_sub hS subX e] at p0; cases p0
    have pY : hasPl Y = false := by
      cases e : hasPl Y
      · rfl
      · rw [hasPl_sub hS subY e] at p0; cases p0
    rw [bndS_none k1 p0] at b0
    rw [pX] at s1
    rw [pY] at s2
    simp only [hfs, I, Lk.c, U8, if_false, Bool.false_eq_true] at b0 s1 s2
    simp [F9, Fn.denV, fits, T.denV, denVK, denL, E.den, D.cells, hfs, Lk.c, D.den1, binD, unD, outOf, e14, h34, h42, h42', k4', b0, s1, s2]
  rw [bndS_ok k1 p0] at b0
  cases pX : hasPl X <;> rw [pX] at s1 s5 <;> cases pY : hasPl Y <;> rw [pY] at s2 <;> simp only [hfs, I, Lk.c, U8, if_true, if_false, Bool.false_eq_true] at b0 s1 s2 s5
  · simp [F9, Fn.denV, fits, T.denV, denVK, denL, E.den, D.cells, hfs, Lk.c, D.den1, binD, unD, outOf, e14, h34, h42, h42', k4', b0, s1, s2]
  · simp [F9, Fn.denV, fits, T.denV, denVK, denL, E.den, D.cells, hfs, Lk.c, D.den1, binD, unD, outOf, e14, h34, h42, h42', k4', b0, s1, s2]
  · simp [F9, Fn.denV, fits, T.denV, denVK, denL, E.den, D.cells, hfs, Lk.c, D.den1, binD, unD, outOf, e14, h34, h42, h42', k4', b0, s1, s2]
  have pAg : hasPl Ag = true := by rw [← pG, pX]
  have i1 := bd_inner hS hin subX pX
  have eG := bd_same SX (okA_in oX).1 (okA_in oG).1 subG subG' pAg
  rw [bndS_ok oX pX] at bX
  rw [bndS_ok oG pAg, ← eG] at bG
  have t1 := e47 (bdS X).a (bdS X).b (bdS hs).a (bdS hs).b
  have t2 := e47 (bdS X).c (bdS X).d (bdS hs).c (bdS hs).d
  rw [show decide ((bdS hs).a ≤ (bdS X).a) = true by simp [i1.1], show decide ((bdS X).b ≤ (bdS hs).b) = true by simp [i1.2.1]] at t1
  rw [show decide ((bdS hs).c ≤ (bdS X).c) = true by simp [i1.2.2.1], show decide ((bdS X).d ≤ (bdS hs).d) = true by simp [i1.2.2.2]] at t2
  cases pBt : hasPl Bt <;> rw [pBt] at s3 s4
  · simp only [hfs, I, Lk.c, U8, if_true, if_false, Bool.false_eq_true, Bool.and_self] at bX bG t1 t2 s3 s4 shX shG
    simp [F9, Fn.denV, fits, T.denV, denVK, denL, E.den, D.cells, hfs, Lk.c, D.den1, binD, unD, outOf, e14, h34, h42, h42', k4', b0, s1, s2, bX, bG, t1, t2, s3, s4, s5, shX, shG, shN, D.flat, D.flat0, eqDL, eqD1]
  · have pTu : hasPl Tu = true := by rw [← pB, pBt]
    have i2 := bd_inner SX (okA_in oX).1 subB pBt
    have eT := bd_same SB (okA_in oB).1 (okA_in oT).1 subBT subTB pTu
    rw [bndS_ok oB pBt] at bB
    rw [bndS_ok oT pTu, ← eT] at bT
    have t3 := e47 (bdS Bt).a (bdS Bt).b (bdS X).a (bdS X).b
    have t4 := e47 (bdS Bt).c (bdS Bt).d (bdS X).c (bdS X).d
    rw [show decide ((bdS X).a ≤ (bdS Bt).a) = true by simp [i2.1], show decide ((bdS Bt).b ≤ (bdS X).b) = true by simp [i2.2.1]] at t3
    rw [show decide ((bdS X).c ≤ (bdS Bt).c) = true by simp [i2.2.2.1], show decide ((bdS Bt).d ≤ (bdS X).d) = true by simp [i2.2.2.2]] at t4
    simp only [hfs, I, Lk.c, U8, if_true, if_false, Bool.false_eq_true, Bool.and_self] at bX bG bB bT t1 t2 t3 t4 s3 s4 shX shG shB shT
    simp [F9, Fn.denV, fits, T.denV, denVK, denL, E.den, D.cells, hfs, Lk.c, D.den1, binD, unD, outOf, e14, h34, h42, h42', k4', b0, s1, s2, bX, bG, bB, bT, t1, t2, t3, t4, s3, s4, s5, shX, shG, shB, shT, shN, D.flat, D.flat0, eqDL, eqD1]
end Go.Q
