/- Guide: a caravan on its way, step by step. -/
import Derived.Test.YtpammdlgoeoeaaaGt1
import Derived.Test.YtpammdlgoeoeaaaGc5
set_option linter.unusedVariables false
set_option linter.unusedSimpArgs false
namespace Go.Q
open Go.V
structure St7 where
  x : Int
  y : Int
  hs : List Hf
  tl : List Lk
/-- What stays on the way. -/
structure Inv7 (n i : Nat) (s : St7) : Prop where
  ok : okA s.hs = true
  pl : (pt s.x s.y).inA s.hs
  x : -10000000000 - 6000000 * (i : Int) ≤ s.x ∧ s.x ≤ 10000000000 + 6000000 * (i : Int)
  y : -10000000000 - 6000000 * (i : Int) ≤ s.y ∧ s.y ≤ 10000000000 + 6000000 * (i : Int)
  lk : ∀ l ∈ s.tl, l.ok = true ∧ ∀ k ∈ l.hv, k.a * s.x + k.b * s.y ≤ k.c
  l1 : s.tl.length ≤ n
def outsB : List (List E × Nat) := [([.c (.bool false)], 0), ([.c (.bool false)], 0), ([.c (.bool false)], 0), ([.c (.bool false)], 0), ([.v 45], 0), ([.v 45, .v 46, .v 47, .v 48], 1), ([.c (.bool false)], 0)]
theorem pt_hsum {hs : List Hf} {ls : List Lk} {x y : Int} (h : (pt x y).inA hs) (hl : ∀ l ∈ ls, ∀ k ∈ l.hv, k.a * x + k.b * y ≤ k.c) : (pt x y).inA (hsum hs ls (List.range ls.length)) := by
  refine ⟨by simp [pt], fun k hk => ?_⟩
  rcases List.mem_append.1 hk with hk | hk
  · exact h.2 k hk
  · obtain ⟨j, hj, hm⟩ := List.mem_flatMap.1 hk
    have hlt := List.mem_range.1 hj
    rw [show ls.getD j ⟨0, 0, 0, 0, 0, 0, 0, 0, 0, 0⟩ = ls[j] by simp [hlt]] at hm
    have := hl _ (List.getElem_mem hlt) k hm
    simp only [pt, Int.mul_one]
    exact this
theorem clash_none {hs : List Hf} {ls : List Lk} (ho : okA hs = true) (h1 : ls.length ≤ 10) (h2 : ∀ l ∈ ls, l.ok = true) {x y : Int} (h : (pt x y).inA hs) (hl : ∀ l ∈ ls, ∀ k ∈ l.hv, k.a * x + k.b * y ≤ k.c) : clashS hs ls = ([], 6) := by
  have hS : Sided (hsum hs ls (List.range ls.length)) := (okA_sided ho).mono fun x hx => by simp [hsum, hx]
  have hp : hasPl (hsum hs ls (List.range ls.length)) = true := (hasPl_sided hS).2 ⟨_, pt_hsum h hl⟩
  have ha : ls.all Lk.ok = true := List.all_eq_true.2 h2
  unfold clashS
  rw [ho, ha, hp, if_neg (by simp), if_neg (by omega), if_neg (by simp), if_pos rfl]
theorem mulP {x y : Int} (hx : 0 ≤ x ∧ x ≤ 60) (hy : -100000 ≤ y ∧ y ≤ 100000) : -6000000 ≤ x * y ∧ x * y ≤ 6000000 := by
  have h1 := Int.mul_le_mul_of_nonneg_left hy.1 hx.1
  have h2 := Int.mul_le_mul_of_nonneg_left hy.2 hx.1
  omega
set_option maxHeartbeats 6400000 in
theorem tail7 {d0 d1 d2 d8 d9 d10 d11 d12 d16 d17 d18 d19 : D} {ls : List Lk} {ts : List Tk} {ws : List Wd} {far : Int} {i n : Nat} {s : St7} (hi : i < 60) (h : Inv7 n (i + 1) s) (hx : -10000000000 - 6000000 * (i : Int) ≤ s.x ∧ s.x ≤ 10000000000 + 6000000 * (i : Int)) (hy : -10000000000 - 6000000 * (i : Int) ≤ s.y ∧ s.y ≤ 10000000000 + 6000000 * (i : Int))
    (hn : n ≤ 10) (hf : 0 ≤ far ∧ far ≤ 10000000) (ht : ts.length ≤ 60) :
    outOf outsB (tTAIL.denV (evL FN) [d0, d1, d2, lks ls, tks ts, wds ws, I far, .bool true, d8, d9, d10, d11, d12, I s.x, I s.y, I i, d16, d17, d18, d19, hfs s.hs, lks s.tl]) = some (0, [.bool true]) ∨
    ∃ s', Inv7 n (i + 1) s' ∧ outOf outsB (tTAIL.denV (evL FN) [d0, d1, d2, lks ls, tks ts, wds ws, I far, .bool true, d8, d9, d10, d11, d12, I s.x, I s.y, I i, d16, d17, d18, d19, hfs s.hs, lks s.tl]) = some (1, [I s'.x, I s'.y, hfs s'.hs, lks s'.tl]) := by
  obtain ⟨hin, hlen⟩ := okA_in h.ok
  have hS := okA_sided h.ok
  have hpl : hasPl s.hs = true := (hasPl_sided hS).2 ⟨_, h.pl⟩
  have h41 := e41 s.hs s.x s.y hin hlen (by omega) (by omega)
  rw [inP_iff.2 h.pl] at h41
  have h19 := e19 s.hs (by omega)
  unfold bndD at h19
  rw [bndS_ok h.ok hpl] at h19
  have hb : (bdS s.hs).a ≤ s.x ∧ s.x ≤ (bdS s.hs).b ∧ (bdS s.hs).c ≤ s.y ∧ s.y ≤ (bdS s.hs).d := by
    unfold bdS
    cases e : crnR s.hs s.hs.length with
    | nil => rw [crn_nil.1 e] at hpl; cases hpl
    | cons c cs =>
      have := in_bounds hS e h.pl
      simpa only [pt, Int.mul_one] using this
  have c1 : ¬ s.x < (bdS s.hs).a := by omega
  have c2 : ¬ (bdS s.hs).b < s.x := by omega
  have c3 : ¬ s.y < (bdS s.hs).c := by omega
  have c4 : ¬ (bdS s.hs).d < s.y := by omega
  have h44 := e44 ws i
  have w0 := (atS ws i).h0
  have w1 := (atS ws i).h1
  obtain ⟨r, hr⟩ : ∃ r, (atS ws i).n.tmod 100 = r := ⟨_, rfl⟩
  have r0 := Int.tmod_nonneg 100 w0
  have r1 := Int.tmod_lt_of_pos (atS ws i).n (show (0 : Int) < 100 by omega)
  rw [hr] at r0 r1
  have v0 := wrapI (x := r) (by omega)
  have v1 := wrapI (x := s.x + r) (by omega)
  obtain ⟨px, hpx⟩ : ∃ p, max (min (s.x + r) 10000000) (-10000000) = p := ⟨_, rfl⟩
  obtain ⟨py, hpy⟩ : ∃ p, max (min s.y 10000000) (-10000000) = p := ⟨_, rfl⟩
  have hask : askOK px py far = true := by
    simp [askOK, plOK, inR]
    omega
  have h20 := e20 s.hs px py far (by omega)
  rw [nearS_of h.ok hask hpl] at h20
  have v2 := wrapI (x := px - s.x) (by omega)
  have v3 := wrapI (x := s.x - px) (by omega)
  have v4 := wrapI (x := py - s.y) (by omega)
  have v5 := wrapI (x := s.y - py) (by omega)
  obtain ⟨k2, k0⟩ := kn_true (px := px) (py := py) (f := far) hin hS h.pl
  have hl1 := h.l1
  have h26 := e26 s.hs s.tl (by omega)
  rw [clash_none h.ok (by omega) (fun l hl => (h.lk l hl).1) h.pl (fun l hl => (h.lk l hl).2)] at h26
  have n1 : ∀ a b : Int, mxD false (.int .i64 a) (.int .i64 b) = some (.int .i64 (min a b)) := minD
  have n2 : ∀ a b : Int, mxD true (.int .i64 a) (.int .i64 b) = some (.int .i64 (max a b)) := maxD
  have s1 := shal_node_hfs (n := 3) (hs := s.hs)
  have sN : D.shal 1 (.list []) = true := rfl
  have kc := kn_cases s.hs (nr px py far)
  have natN : natsD [] = .list [] := rfl
  rw [natN] at h26
  generalize kn s.hs (nr px py far) = k at *
  generalize hM : max (px - s.x) (max (s.x - px) (max (py - s.y) (s.y - py))) = M at k2 k0
  -- the trek
  by_cases q1 : i < ts.length
  rotate_left
  · right
    refine ⟨s, h, ?_⟩
    have q1' : ¬ (i : Int) < ts.length := by omega
    simp only [hfs, lks, tks, wds, I, U8, U32] at h41 h19 h44 h20 h26 s1
    rcases kc with rfl | rfl | rfl
    · have hM' : ¬ M ≤ far := k0 rfl
      simp [outsB, tTAIL, tBD, tNR, tT0, tT1, T.denV, denVK, denL, E.den, D.cells, hfs, lks, tks, wds, D.den1, binD, unD, mxLD, n1, n2, outOf, s1, h41, h19, c1, c2, c3, c4, h44, hr, v0, v1, hpx, hpy, h20, v2, v3, v4, v5, hM, hM', sN, h26, q1', D.flat, D.flat0]
    · simp [outsB, tTAIL, tBD, tNR, tT0, tT1, T.denV, denVK, denL, E.den, D.cells, hfs, lks, tks, wds, D.den1, binD, unD, mxLD, n1, n2, outOf, s1, h41, h19, c1, c2, c3, c4, h44, hr, v0, v1, hpx, hpy, h20, v2, v3, v4, v5, hM, sN, h26, q1', D.flat, D.flat0]
    · have hM' : M ≤ far := k2 rfl
      simp [outsB, tTAIL, tBD, tNR, tT0, tT1, T.denV, denVK, denL, E.den, D.cells, hfs, lks, tks, wds, D.den1, binD, unD, mxLD, n1, n2, outOf, s1, h41, h19, c1, c2, c3, c4, h44, hr, v0, v1, hpx, hpy, h20, v2, v3, v4, v5, hM, hM', sN, h26, q1', D.flat, D.flat0]
  have q1' : (i : Int) < ts.length := by omega
  have hg := idx_nat q1
  have h45 := e45 ts[i]
  obtain ⟨t, ht⟩ : ∃ t, ts[i] = t := ⟨_, rfl⟩
  rw [ht] at h45
  cases q2 : t.ok <;> rw [q2] at h45
  · right
    refine ⟨s, h, ?_⟩
    simp only [hfs, lks, tks, wds, I, U8, U32, Tk.c] at h41 h19 h44 h20 h26 s1 h45 hg
    rcases kc with rfl | rfl | rfl
    · have hM' : ¬ M ≤ far := k0 rfl
      simp [outsB, tTAIL, tBD, tNR, tT0, tT1, T.denV, denVK, denL, E.den, D.cells, hfs, lks, tks, wds, D.den1, binD, unD, mxLD, n1, n2, outOf, s1, h41, h19, c1, c2, c3, c4, h44, hr, v0, v1, hpx, hpy, h20, v2, v3, v4, v5, hM, sN, h26, q1, q1', partD, Tk.c, hg, ht, h45, D.flat, D.flat0, hM']
    · simp [outsB, tTAIL, tBD, tNR, tT0, tT1, T.denV, denVK, denL, E.den, D.cells, hfs, lks, tks, wds, D.den1, binD, unD, mxLD, n1, n2, outOf, s1, h41, h19, c1, c2, c3, c4, h44, hr, v0, v1, hpx, hpy, h20, v2, v3, v4, v5, hM, sN, h26, q1, q1', partD, Tk.c, hg, ht, h45, D.flat, D.flat0]
    · have hM' : M ≤ far := k2 rfl
      simp [outsB, tTAIL, tBD, tNR, tT0, tT1, T.denV, denVK, denL, E.den, D.cells, hfs, lks, tks, wds, D.den1, binD, unD, mxLD, n1, n2, outOf, s1, h41, h19, c1, c2, c3, c4, h44, hr, v0, v1, hpx, hpy, h20, v2, v3, v4, v5, hM, sN, h26, q1, q1', partD, Tk.c, hg, ht, h45, D.flat, D.flat0, hM']
  have h25 := e25 s.hs t (by omega)
  rw [marchS_of h.ok q2 hpl] at h25
  cases q3 : (s.hs.map (Hf.mv t)).all Hf.ok <;> rw [q3] at h25
  · left
    simp only [hfs, lks, tks, wds, I, U8, U32, Tk.c, if_false, Bool.false_eq_true] at h41 h19 h44 h20 h26 s1 h45 h25 hg
    rcases kc with rfl | rfl | rfl
    · have hM' : ¬ M ≤ far := k0 rfl
      simp [outsB, tTAIL, tBD, tNR, tT0, tT1, T.denV, denVK, denL, E.den, D.cells, hfs, lks, tks, wds, D.den1, binD, unD, mxLD, n1, n2, outOf, s1, h41, h19, c1, c2, c3, c4, h44, hr, v0, v1, hpx, hpy, h20, v2, v3, v4, v5, hM, sN, h26, q1, q1', partD, Tk.c, hg, ht, h45, D.flat, D.flat0, hM', h25]
    · simp [outsB, tTAIL, tBD, tNR, tT0, tT1, T.denV, denVK, denL, E.den, D.cells, hfs, lks, tks, wds, D.den1, binD, unD, mxLD, n1, n2, outOf, s1, h41, h19, c1, c2, c3, c4, h44, hr, v0, v1, hpx, hpy, h20, v2, v3, v4, v5, hM, sN, h26, q1, q1', partD, Tk.c, hg, ht, h45, D.flat, D.flat0, h25]
    · have hM' : M ≤ far := k2 rfl
      simp [outsB, tTAIL, tBD, tNR, tT0, tT1, T.denV, denVK, denL, E.den, D.cells, hfs, lks, tks, wds, D.den1, binD, unD, mxLD, n1, n2, outOf, s1, h41, h19, c1, c2, c3, c4, h44, hr, v0, v1, hpx, hpy, h20, v2, v3, v4, v5, hM, sN, h26, q1, q1', partD, Tk.c, hg, ht, h45, D.flat, D.flat0, hM', h25]
  right
  have tI : (0 ≤ t.d ∧ t.d ≤ t.d' ∧ t.d' ≤ 60) ∧ (-100000 ≤ t.e ∧ t.e ≤ t.e' ∧ t.e' ≤ 100000) ∧ (-100000 ≤ t.n ∧ t.n ≤ t.n' ∧ t.n' ≤ 100000) := by
    have := q2
    simp only [Tk.ok, inS, Bool.and_eq_true, decide_eq_true_eq] at this
    omega
  have a0 : evL FN 44 [wds ws, I (3 * (i : Int))] = some (U32 (atS ws (3 * i)).n) := by
    have := e44 ws (3 * i)
    rw [show ((3 * i : Nat) : Int) = 3 * (i : Int) by omega] at this; exact this
  have a1 : evL FN 44 [wds ws, I (3 * (i : Int) + 1)] = some (U32 (atS ws (3 * i + 1)).n) := by
    have := e44 ws (3 * i + 1)
    rw [show ((3 * i + 1 : Nat) : Int) = 3 * (i : Int) + 1 by omega] at this; exact this
  have a2 : evL FN 44 [wds ws, I (3 * (i : Int) + 2)] = some (U32 (atS ws (3 * i + 2)).n) := by
    have := e44 ws (3 * i + 2)
    rw [show ((3 * i + 2 : Nat) : Int) = 3 * (i : Int) + 2 by omega] at this; exact this
  have g1 := e46 (lo := t.d) (hi := t.d') (atS ws (3 * i)) (by omega) (by omega) (by omega)
  have g2 := e46 (lo := t.e) (hi := t.e') (atS ws (3 * i + 1)) (by omega) (by omega) (by omega)
  have g3 := e46 (lo := t.n) (hi := t.n') (atS ws (3 * i + 2)) (by omega) (by omega) (by omega)
  have r1 := pick_in (lo := t.d) (hi := t.d') (atS ws (3 * i)) (by omega)
  have r2 := pick_in (lo := t.e) (hi := t.e') (atS ws (3 * i + 1)) (by omega)
  have r3 := pick_in (lo := t.n) (hi := t.n') (atS ws (3 * i + 2)) (by omega)
  generalize atS ws (3 * i) = b0 at *
  generalize atS ws (3 * i + 1) = b1 at *
  generalize atS ws (3 * i + 2) = b2 at *
  generalize pickS t.d t.d' b0 = pd at *
  generalize pickS t.e t.e' b1 = pe at *
  generalize pickS t.n t.n' b2 = pn at *
  have f1 := far_in r1.1 r1.2 r2.1 r2.2
  have f2 := far_in r1.1 r1.2 r3.1 r3.2
  have hmv := h.pl.mv f1.1 f1.2 f2.1 f2.2
  have z1 := mulP (x := pd) (y := pe) (by omega) (by omega)
  have z2 := mulP (x := pd) (y := pn) (by omega) (by omega)
  simp only [pt, Int.one_mul] at hmv
  have u1 := wrapI (x := 3 * (i : Int)) (by omega)
  have u2 := wrapI (x := 3 * (i : Int) + 1) (by omega)
  have u3 := wrapI (x := 3 * (i : Int) + 2) (by omega)
  have u4 := wrapI (x := pd * pe) (by omega)
  have u5 := wrapI (x := pd * pn) (by omega)
  have u6 := wrapI (x := s.x + pd * pe) (by omega)
  have u7 := wrapI (x := s.y + pd * pn) (by omega)
  have oX : okA (s.hs.map (Hf.mv t)) = true := by rw [mv_okA h.ok]; exact q3
  have b41 := e41 (s.hs.map (Hf.mv t)) (s.x + pd * pe) (s.y + pd * pn) (okA_in oX).1 (okA_in oX).2 (by omega) (by omega)
  rw [inP_iff.2 hmv] at b41
  refine ⟨⟨s.x + pd * pe, s.y + pd * pn, s.hs.map (Hf.mv t), []⟩, ⟨oX, hmv, by simp only; omega, by simp only; omega, (fun l hl => by cases hl), by simp⟩, ?_⟩
  have s2 := shal_hfs (n := 0) (hs := s.hs.map (Hf.mv t))
  simp only
  generalize s.hs.map (Hf.mv t) = X at *
  simp only [hfs, lks, tks, wds, I, U8, U32, Tk.c, if_true] at h41 h19 h44 h20 h26 s1 h45 h25 b41 a0 a1 a2 g1 g2 g3 s2 hg
  rcases kc with rfl | rfl | rfl
  · have hM' : ¬ M ≤ far := k0 rfl
    simp [outsB, tTAIL, tBD, tNR, tT0, tT1, T.denV, denVK, denL, E.den, D.cells, hfs, lks, tks, wds, D.den1, binD, unD, mxLD, n1, n2, outOf, s1, h41, h19, c1, c2, c3, c4, h44, hr, v0, v1, hpx, hpy, h20, v2, v3, v4, v5, hM, sN, h26, q1, q1', partD, Tk.c, hg, ht, h45, D.flat, D.flat0, hM', h25, b41, a0, a1, a2, g1, g2, g3, s2, u1, u2, u3, u4, u5, u6, u7]
  · simp [outsB, tTAIL, tBD, tNR, tT0, tT1, T.denV, denVK, denL, E.den, D.cells, hfs, lks, tks, wds, D.den1, binD, unD, mxLD, n1, n2, outOf, s1, h41, h19, c1, c2, c3, c4, h44, hr, v0, v1, hpx, hpy, h20, v2, v3, v4, v5, hM, sN, h26, q1, q1', partD, Tk.c, hg, ht, h45, D.flat, D.flat0, h25, b41, a0, a1, a2, g1, g2, g3, s2, u1, u2, u3, u4, u5, u6, u7]
  · have hM' : M ≤ far := k2 rfl
    simp [outsB, tTAIL, tBD, tNR, tT0, tT1, T.denV, denVK, denL, E.den, D.cells, hfs, lks, tks, wds, D.den1, binD, unD, mxLD, n1, n2, outOf, s1, h41, h19, c1, c2, c3, c4, h44, hr, v0, v1, hpx, hpy, h20, v2, v3, v4, v5, hM, sN, h26, q1, q1', partD, Tk.c, hg, ht, h45, D.flat, D.flat0, hM', h25, b41, a0, a1, a2, g1, g2, g3, s2, u1, u2, u3, u4, u5, u6, u7]
end Go.Q
