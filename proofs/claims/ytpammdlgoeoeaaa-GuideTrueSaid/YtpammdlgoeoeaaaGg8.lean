/- Guide: the statement that a trek is its parts. -/
import Derived.Test.YtpammdlgoeoeaaaGg6
import Derived.Test.YtpammdlgoeoeaaaGg7
set_option linter.unusedVariables false
set_option linter.unusedSimpArgs false
namespace Go.Q
open Go.V
def atS (ws : List Wd) (i : Nat) : Wd := if ws.length = 0 then ⟨0, by omega, by omega⟩ else ws.getD (i % ws.length) ⟨0, by omega, by omega⟩
theorem e44 (ws : List Wd) (i : Nat) : evL FN 44 [wds ws, I i] = some (U32 (atS ws i).n) := by
  refine evL_of (F := F44) rfl ?_
  unfold atS
  by_cases h : ws.length = 0
  · have h' : ws = [] := List.eq_nil_of_length_eq_zero h
    subst h'
    simp [F44, Fn.denV, fits, T.denV, denVK, denL, E.den, D.cells, D.den1, binD, wds]
  · have h0 : ¬ ws = [] := fun e => h (by rw [e]; rfl)
    have hz : ¬ (ws.length : Int) = 0 := by omega
    have hm : ((i : Int).tmod ws.length) = ((i % ws.length : Nat) : Int) := rfl
    have hlt : i % ws.length < ws.length := Nat.mod_lt _ (by omega)
    have hidx := idx_nat hlt
    simp only [I] at hidx
    simp [h, h0, hz, hm, F44, Fn.denV, fits, T.denV, denVK, denL, E.den, D.cells, D.den1, binD, wds, partD]
    have he : (i : Int) % (ws.length : Int) = ((i % ws.length : Nat) : Int) := by simp
    rw [he, hidx]
    simp [hlt, E.den]
/-- A number of a span. -/
def pickS (lo hi : Int) (w : Wd) : Int := lo + w.n.tmod (hi - lo + 1)
theorem pick_in {lo hi : Int} (w : Wd) (h : lo ≤ hi) : lo ≤ pickS lo hi w ∧ pickS lo hi w ≤ hi := by
  unfold pickS
  have h1 := Int.tmod_nonneg (hi - lo + 1) w.h0
  have h2 := Int.tmod_lt_of_pos w.n (show 0 < hi - lo + 1 by omega)
  omega
theorem e46 {lo hi : Int} (w : Wd) (h : lo ≤ hi) (hl : -1000000000 ≤ lo) (hh : hi ≤ 1000000000) : evL FN 46 [.node [I lo, I hi], U32 w.n] = some (I (pickS lo hi w)) := by
  refine evL_of (F := F46) rfl ?_
  have w0 := w.h0
  have w1 := w.h1
  have hp := pick_in w h
  have v1 := wrapI (x := w.n) (by omega)
  have v2 := wrapI (x := hi - lo) (by omega)
  have v3 := wrapI (x := hi - lo + 1) (by omega)
  have v4 := wrapI (x := pickS lo hi w) (by omega)
  have hz : ¬ hi - lo + 1 = 0 := by omega
  unfold pickS at v4 ⊢
  simp [F46, Fn.denV, fits, T.denV, denVK, denL, E.den, D.cells, D.den1, binD, v1, v2, v3, v4, hz]
theorem e23 (a b : Int) : evL FN 23 [I a, I b] = some (.node [I a, I b]) := by
  refine evL_of (F := F23) rfl ?_
  simp [F23, Fn.denV, fits, T.denV, denVK, denL, E.den, D.cells, D.den1]
theorem e49 {lo hi : Int} (u v : Wd) (h : lo ≤ hi) (hl : -1000000000 ≤ lo) (hh : hi ≤ 1000000000) : evL FN 49 [.node [I lo, I hi], U32 u.n, U32 v.n] = some (.node [I (pickS lo hi u), I (pickS (pickS lo hi u) hi v)]) := by
  refine evL_of (F := F49) rfl ?_
  have hp := pick_in u h
  have h1 := e46 u h hl hh
  have h2 := e46 (lo := pickS lo hi u) v hp.2 (by omega) hh
  have h3 := e23 (pickS lo hi u) hi
  have h4 := e23 (pickS lo hi u) (pickS (pickS lo hi u) hi v)
  simp only [I, U32] at h1 h2 h3 h4
  simp [F49, Fn.denV, fits, T.denV, denVK, denL, E.den, D.cells, D.den1, h1, h2, h3, h4]
theorem marchS_of {hs : List Hf} {t : Tk} (h1 : okA hs = true) (h2 : t.ok = true) (h3 : hasPl hs = true) : marchS hs t = if (hs.map (Hf.mv t)).all Hf.ok then (hs.map (Hf.mv t), 0) else ([], 9) := by
  unfold marchS
  rw [h1, h2, h3]
  cases (hs.map (Hf.mv t)).all Hf.ok <;> simp
set_option maxHeartbeats 6400000 in
theorem e12 (hs : List Hf) (t : Tk) (a b : Int) (ws : List Wd) (ha : -9223372036854775808 ≤ a ∧ a ≤ 9223372036854775807) (hb : -9223372036854775808 ≤ b ∧ b ≤ 9223372036854775807) : evL FN 12 [.node [hfs hs], .node t.c, .node [I a, I b], wds ws] = some (.bool true) := by
  refine evL_of (F := F12) rfl ?_
  have h34 := e34u hs
  have h45 := e45 t
  simp only [hfs, I, Tk.c] at h34 h45
  cases k1 : okA hs
  · rw [k1] at h34
    simp [F12, Fn.denV, fits, T.denV, denVK, denL, E.den, D.cells, hfs, Tk.c, wds, D.den1, binD, unD, outOf, e14, h34]
  rw [k1] at h34
  cases k2 : t.ok <;> rw [k2] at h45
  · simp [F12, Fn.denV, fits, T.denV, denVK, denL, E.den, D.cells, hfs, Tk.c, wds, D.den1, binD, unD, outOf, e14, h34, h45]
  obtain ⟨hin, hlen⟩ := okA_in k1
  have hS := okA_sided k1
  have h25 := e25 hs t (by omega)
  cases p0 : hasPl hs
  · have hm : (marchS hs t).2 = 9 ∨ (marchS hs t).2 = 43 := by
      unfold marchS
      rw [k1, k2, p0]
      cases (hs.map (Hf.mv t)).all Hf.ok <;> simp
    generalize marchS hs t = m at h25 hm
    obtain ⟨m1, m2⟩ := m
    simp only at hm
    simp only [hfs, I, Tk.c] at h25
    rcases hm with rfl | rfl <;>
      simp [F12, Fn.denV, fits, T.denV, denVK, denL, E.den, D.cells, hfs, Tk.c, wds, D.den1, binD, unD, outOf, e14, h34, h45, h25]
  rw [marchS_of k1 k2 p0] at h25
  cases o1 : (hs.map (Hf.mv t)).all Hf.ok <;> rw [o1] at h25
  · simp only [hfs, I, Tk.c, if_false, Bool.false_eq_true] at h25
    simp [F12, Fn.denV, fits, T.denV, denVK, denL, E.den, D.cells, hfs, Tk.c, wds, D.den1, binD, unD, outOf, e14, h34, h45, h25]
  have oX : okA (hs.map (Hf.mv t)) = true := by rw [mv_okA k1]; exact o1
  have pX : hasPl (hs.map (Hf.mv t)) = true := mv_hasPl k1 p0
  have tI : (0 ≤ t.d ∧ t.d ≤ t.d' ∧ t.d' ≤ 60) ∧ (-100000 ≤ t.e ∧ t.e ≤ t.e' ∧ t.e' ≤ 100000) ∧ (-100000 ≤ t.n ∧ t.n ≤ t.n' ∧ t.n' ≤ 100000) := by
    have := k2
    simp only [Tk.ok, inS, Bool.and_eq_true, decide_eq_true_eq] at this
    omega
  -- what is known better
  have a0 : evL FN 44 [wds ws, I 0] = some (U32 (atS ws 0).n) := e44 ws 0
  have a1 : evL FN 44 [wds ws, I 1] = some (U32 (atS ws 1).n) := e44 ws 1
  have a2 : evL FN 44 [wds ws, I 2] = some (U32 (atS ws 2).n) := e44 ws 2
  have a3 : evL FN 44 [wds ws, I 3] = some (U32 (atS ws 3).n) := e44 ws 3
  have a4 : evL FN 44 [wds ws, I 4] = some (U32 (atS ws 4).n) := e44 ws 4
  have a5 : evL FN 44 [wds ws, I 5] = some (U32 (atS ws 5).n) := e44 ws 5
  have g1 := e49 (lo := t.d) (hi := t.d') (atS ws 0) (atS ws 1) (by omega) (by omega) (by omega)
  have g2 := e49 (lo := t.e) (hi := t.e') (atS ws 2) (atS ws 3) (by omega) (by omega) (by omega)
  have g3 := e49 (lo := t.n) (hi := t.n') (atS ws 4) (atS ws 5) (by omega) (by omega) (by omega)
  have r1 := pick_in (lo := t.d) (hi := t.d') (atS ws 0) (by omega)
  have r2 := pick_in (lo := pickS t.d t.d' (atS ws 0)) (hi := t.d') (atS ws 1) (by omega)
  have r3 := pick_in (lo := t.e) (hi := t.e') (atS ws 2) (by omega)
  have r4 := pick_in (lo := pickS t.e t.e' (atS ws 2)) (hi := t.e') (atS ws 3) (by omega)
  have r5 := pick_in (lo := t.n) (hi := t.n') (atS ws 4) (by omega)
  have r6 := pick_in (lo := pickS t.n t.n' (atS ws 4)) (hi := t.n') (atS ws 5) (by omega)
  generalize atS ws 0 = w0 at *
  generalize atS ws 1 = w1 at *
  generalize atS ws 2 = w2 at *
  generalize atS ws 3 = w3 at *
  generalize atS ws 4 = w4 at *
  generalize atS ws 5 = w5 at *
  obtain ⟨s, hs'⟩ : ∃ s : Tk, s = ⟨pickS t.d t.d' w0, pickS (pickS t.d t.d' w0) t.d' w1, pickS t.e t.e' w2, pickS (pickS t.e t.e' w2) t.e' w3, pickS t.n t.n' w4, pickS (pickS t.n t.n' w4) t.n' w5⟩ := ⟨_, rfl⟩
  have sub : s.Sub t := by
    rw [hs']
    exact ⟨by simp only; omega, by simp only; omega, by simp only; omega⟩
  have sok : s.ok = true := by
    rw [hs']
    simp only [Tk.ok, inS, Bool.and_eq_true, decide_eq_true_eq]
    omega
  have hsc : [.int .i64 (pickS t.d t.d' w0), .int .i64 (pickS (pickS t.d t.d' w0) t.d' w1), .int .i64 (pickS t.e t.e' w2), .int .i64 (pickS (pickS t.e t.e' w2) t.e' w3), .int .i64 (pickS t.n t.n' w4), .int .i64 (pickS (pickS t.n t.n' w4) t.n' w5)] = s.c := by rw [hs']; rfl
  have m1 := e25 hs s (by omega)
  rw [marchS_of k1 sok p0] at m1
  rw [← hsc] at m1
  have b1 := e19 (hs.map (Hf.mv t)) (by rw [List.length_map]; omega)
  have b2 := e19 (hs.map (Hf.mv s)) (by rw [List.length_map]; omega)
  unfold bndD at b1 b2
  rw [bndS_ok oX pX] at b1
  have hle : (hs.map (Hf.mv s)).all Hf.ok = true → bndS (hs.map (Hf.mv s)) = (((bdS (hs.map (Hf.mv s))).a, (bdS (hs.map (Hf.mv s))).b), ((bdS (hs.map (Hf.mv s))).c, (bdS (hs.map (Hf.mv s))).d), 0) := fun o2 => bndS_ok (by rw [mv_okA k1]; exact o2) (mv_hasPl k1 p0)
  have i1 := bd_inner2 (ks := hs.map (Hf.mv s)) (okA_sided oX) (fun q hq => inA_sub sub hq) (mv_hasPl k1 p0)
  have t1 := e47 (bdS (hs.map (Hf.mv s))).a (bdS (hs.map (Hf.mv s))).b (bdS (hs.map (Hf.mv t))).a (bdS (hs.map (Hf.mv t))).b
  have t2 := e47 (bdS (hs.map (Hf.mv s))).c (bdS (hs.map (Hf.mv s))).d (bdS (hs.map (Hf.mv t))).c (bdS (hs.map (Hf.mv t))).d
  rw [decide_eq_true i1.1, decide_eq_true i1.2.1] at t1
  rw [decide_eq_true i1.2.2.1, decide_eq_true i1.2.2.2] at t2
  -- more days
  have two := fun (h : 0 ≤ a ∧ a ≤ b ∧ b ≤ 60 - t.d') => (show (⟨a, b, t.e, t.e', t.n, t.n'⟩ : Tk).ok = true ∧ (⟨t.d + a, t.d' + b, t.e, t.e', t.n, t.n'⟩ : Tk).ok = true by
    simp only [Tk.ok, inS, Bool.and_eq_true, decide_eq_true_eq]
    omega)
  have m2 := e25 (hs.map (Hf.mv t)) ⟨a, b, t.e, t.e', t.n, t.n'⟩ (by rw [List.length_map]; omega)
  have m3 := e25 hs ⟨t.d + a, t.d' + b, t.e, t.e', t.n, t.n'⟩ (by omega)
  have wz := wrapI (x := 60 - t.d') (by omega)
  have hmm : 0 ≤ a → a ≤ b → (hs.map (Hf.mv t)).map (Hf.mv ⟨a, b, t.e, t.e', t.n, t.n'⟩) = hs.map (Hf.mv ⟨t.d + a, t.d' + b, t.e, t.e', t.n, t.n'⟩) := fun q1 q2 => by
    rw [List.map_map]
    exact List.map_congr_left fun k _ => mv_mv k2 q1 q2 k
  have n23 := e23 (t.d + a) (t.d' + b)
  have h18 := fun (l : List Hf) (h : l.length ≤ 40) => e18 l (by omega)
  have lZ : (hs.map (Hf.mv ⟨t.d + a, t.d' + b, t.e, t.e', t.n, t.n'⟩)).length ≤ 40 := by rw [List.length_map]; exact hlen
  by_cases q : 0 ≤ a ∧ a ≤ b ∧ b ≤ 60 - t.d'
  · obtain ⟨z1, z2⟩ := two q
    rw [marchS_of oX z1 pX, hmm q.1 q.2.1] at m2
    rw [marchS_of k1 z2 p0] at m3
    have x1 : ¬ a < 0 := by omega
    have x2 : ¬ b < a := by omega
    have x3 : ¬ 60 - t.d' < b := by omega
    have x4 := wrapI (x := t.d + a) (by omega)
    have x5 := wrapI (x := t.d' + b) (by omega)
    have sZ := shal_hfs (n := 0) (hs := hs.map (Hf.mv ⟨t.d + a, t.d' + b, t.e, t.e', t.n, t.n'⟩))
    have hZ := h18 _ lZ
    have sN : D.shal 1 (.list []) = true := rfl
    simp only [Tk.c] at m2 m3
    generalize hs.map (Hf.mv ⟨t.d + a, t.d' + b, t.e, t.e', t.n, t.n'⟩) = Z at *
    generalize hs.map (Hf.mv t) = X at *
    generalize hs.map (Hf.mv s) = Y at *
    clear r1 r2 r3 r4 r5 r6 tI sub hsc hs'
    generalize pickS (pickS t.d t.d' w0) t.d' w1 = c1 at *
    generalize pickS (pickS t.e t.e' w2) t.e' w3 = c2 at *
    generalize pickS (pickS t.n t.n' w4) t.n' w5 = c3 at *
    generalize pickS t.d t.d' w0 = c4 at *
    generalize pickS t.e t.e' w2 = c5 at *
    generalize pickS t.n t.n' w4 = c6 at *
    cases o2 : Y.all Hf.ok <;> rw [o2] at m1 <;> cases o3 : Z.all Hf.ok <;> rw [o3] at m2 m3 <;> (try rw [hle o2] at b2) <;>
      simp only [hfs, I, Tk.c, wds, U32, if_true, if_false, Bool.false_eq_true, Bool.and_self] at h25 m1 m2 m3 b1 b2 t1 t2 a0 a1 a2 a3 a4 a5 g1 g2 g3 sZ hZ n23 <;>
      simp [F12, Fn.denV, fits, T.denV, denVK, denL, E.den, D.cells, hfs, Tk.c, wds, D.den1, binD, unD, outOf, e14, h34, h45, h25, a0, a1, a2, a3, a4, a5, g1, g2, g3, m1, m2, m3, b1, b2, t1, t2, wz, x1, x2, x3, x4, x5, n23, sZ, sN, hZ, D.flat, D.flat0]
  · generalize hs.map (Hf.mv t) = X at *
    generalize hs.map (Hf.mv s) = Y at *
    clear r1 r2 r3 r4 r5 r6 tI sub hsc hs' m2 m3 two
    generalize pickS (pickS t.d t.d' w0) t.d' w1 = c1 at *
    generalize pickS (pickS t.e t.e' w2) t.e' w3 = c2 at *
    generalize pickS (pickS t.n t.n' w4) t.n' w5 = c3 at *
    generalize pickS t.d t.d' w0 = c4 at *
    generalize pickS t.e t.e' w2 = c5 at *
    generalize pickS t.n t.n' w4 = c6 at *
    by_cases x1 : a < 0
    · cases o2 : Y.all Hf.ok <;> rw [o2] at m1 <;> (try rw [hle o2] at b2) <;>
        simp only [hfs, I, Tk.c, wds, U32, if_true, if_false, Bool.false_eq_true, Bool.and_self] at h25 m1 b1 b2 t1 t2 a0 a1 a2 a3 a4 a5 g1 g2 g3 <;>
        simp [F12, Fn.denV, fits, T.denV, denVK, denL, E.den, D.cells, hfs, Tk.c, wds, D.den1, binD, unD, outOf, e14, h34, h45, h25, a0, a1, a2, a3, a4, a5, g1, g2, g3, m1, b1, b2, t1, t2, wz, x1, D.flat, D.flat0]
    by_cases x2 : b < a
    · cases o2 : Y.all Hf.ok <;> rw [o2] at m1 <;> (try rw [hle o2] at b2) <;>
        simp only [hfs, I, Tk.c, wds, U32, if_true, if_false, Bool.false_eq_true, Bool.and_self] at h25 m1 b1 b2 t1 t2 a0 a1 a2 a3 a4 a5 g1 g2 g3 <;>
        simp [F12, Fn.denV, fits, T.denV, denVK, denL, E.den, D.cells, hfs, Tk.c, wds, D.den1, binD, unD, outOf, e14, h34, h45, h25, a0, a1, a2, a3, a4, a5, g1, g2, g3, m1, b1, b2, t1, t2, wz, x1, x2, D.flat, D.flat0]
    have x3 : 60 - t.d' < b := by omega
    cases o2 : Y.all Hf.ok <;> rw [o2] at m1 <;> (try rw [hle o2] at b2) <;>
      simp only [hfs, I, Tk.c, wds, U32, if_true, if_false, Bool.false_eq_true, Bool.and_self] at h25 m1 b1 b2 t1 t2 a0 a1 a2 a3 a4 a5 g1 g2 g3 <;>
      simp [F12, Fn.denV, fits, T.denV, denVK, denL, E.den, D.cells, hfs, Tk.c, wds, D.den1, binD, unD, outOf, e14, h34, h45, h25, a0, a1, a2, a3, a4, a5, g1, g2, g3, m1, b1, b2, t1, t2, wz, x1, x2, x3, D.flat, D.flat0]
end Go.Q
