/- TopHome: the law. -/
import Derived.Test.YtimbhebamjnfmaaTqH1
set_option linter.unusedVariables false
set_option linter.unusedSimpArgs false
set_option maxRecDepth 100000
set_option maxHeartbeats 2000000
namespace Go.Q
open Go.V
theorem outOf_leafH {α : Type} {outs : List (List E × α)} {j : Nat} {ρ : List D} : outOf outs (some (j, ρ)) = (outs[j]?).map (fun p => (p.2, denL ρ p.1)) := rfl
theorem h2_end (b : Br) (m : Mr) (c : Cm) (by' : List Wd) (L : List G.Tk) (x y W F : Int) (d0 d1 d2 d3 d4 d5 d6 d11 d12 d13 d14 d15 d16 d17 d18 d19 d20 d21 d22 d23 d24 d25 d26 d27 : D) :
    outOf oH2 (T.denV (evL FN) [d0, d1, d2, d3, d4, d5, d6, .node b.d, .node c.d, .node m.d, wds by', d11, d12, d13, d14, d15, d16, d17, d18, d19, d20, d21, d22, d23, d24, d25, d26, d27, G.tks L, I L.length, I x, I y, I W, I F, I L.length] tH2) = some (some 1, [I x, I y]) := by
  simp [tH2, T.denV, denL, E.den, D.den1, binD, outOf, I]
structure HS where
  x : Int
  y : Int
  W : Int
  F : Int
def hst (b : Br) (m : Mr) (mk : Bool) (by' : List Wd) (L : List G.Tk) (s : HS) : Nat → HS
  | 0 => s
  | i + 1 => let t := (L[i]?).getD ⟨0, 0, 0, 0, 0, 0⟩
    let p := hst b m mk by' L s i
    ⟨p.x + pk by' i 2 t.e t.e', p.y + pk by' i 3 t.n t.n', wat2 b m mk by' i p.W, fat2 b m by' i p.F⟩
theorem hst_succ {b : Br} {m : Mr} {mk : Bool} {by' : List Wd} {L : List G.Tk} {s : HS} {i : Nat} (hi : i < L.length) : hst b m mk by' L s (i + 1) = ⟨(hst b m mk by' L s i).x + pk by' i 2 L[i].e L[i].e', (hst b m mk by' L s i).y + pk by' i 3 L[i].n L[i].n', wat2 b m mk by' i (hst b m mk by' L s i).W, fat2 b m by' i (hst b m mk by' L s i).F⟩ := by
  simp only [hst, List.getElem?_eq_getElem hi, Option.getD_some]
theorem mvs_succ {hs : List G.Hf} {L : List G.Tk} {i : Nat} (hi : i < L.length) : mvs hs (L.take (i + 1)) = (mvs hs (L.take i)).map (G.Hf.mv L[i]) := by
  unfold mvs
  rw [List.take_succ_eq_append_getElem hi, List.foldl_append]
  rfl
theorem hst_ok {b : Br} {m : Mr} {c : Cm} {hs : List G.Hf} (hB : BrOK b) (hb : brOK b = true) (hM : MrOK m) (hm : mrOK m = true) (hc : cmOK b c = true) (by' : List Wd) (L : List G.Tk) (s : HS) (hl : L.length ≤ 60)
    (hL : ∀ t ∈ L, t.ok = true ∧ t.d = 1 ∧ t.d' = 1) (hlas : (L.length : Int) ≤ lasL b m c) (hW : 100000 * c.x0 ≤ s.W ∧ s.W ≤ 100000 * c.x1) (hF : 100000 * c.x2 ≤ s.F ∧ s.F ≤ 100000 * c.x3)
    (hx : -20000000 ≤ s.x ∧ s.x ≤ 20000000) (hy : -20000000 ≤ s.y ∧ s.y ≤ 20000000) (hin : (G.pt s.x s.y).inA hs) :
    ∀ i, i ≤ L.length → (100000 * (cI b m c i).x0 ≤ (hst b m c.x6 by' L s i).W ∧ (hst b m c.x6 by' L s i).W ≤ 100000 * (cI b m c i).x1) ∧ (100000 * (cI b m c i).x2 ≤ (hst b m c.x6 by' L s i).F ∧ (hst b m c.x6 by' L s i).F ≤ 100000 * (cI b m c i).x3) ∧
      (-20000000 - 100000 * (i : Int) ≤ (hst b m c.x6 by' L s i).x ∧ (hst b m c.x6 by' L s i).x ≤ 20000000 + 100000 * i) ∧ (-20000000 - 100000 * (i : Int) ≤ (hst b m c.x6 by' L s i).y ∧ (hst b m c.x6 by' L s i).y ≤ 20000000 + 100000 * i) ∧
      (G.pt (hst b m c.x6 by' L s i).x (hst b m c.x6 by' L s i).y).inA (mvs hs (L.take i)) ∧ (i < L.length → 0 ≤ wat1 b m c.x6 by' i (hst b m c.x6 by' L s i).W ∧ 0 ≤ fat1 b m by' i (hst b m c.x6 by' L s i).F) ∧ (cI b m c i).x6 = c.x6
  | 0, _ => by
    have hd := (lasL_iff.1 hlas).2
    refine ⟨hW, hF, by simpa [hst] using hx, by simpa [hst] using hy, by simpa [hst, mvs] using hin, fun h0 => ?_, rfl⟩
    have := day_true hB hM (cm_ok hc) (hd 0 h0).2 (r := pk by' 0 0 b.c2 b.c3) (ht := pk by' 0 1 b.c4 b.c5) (tp := pk by' 0 2 m.t0 m.t1) (tl := pk by' 0 3 b.c6 b.c7) (mi := pk by' 0 4 b.c12 b.c13) (bu := pk by' 0 5 b.c8 b.c9) (dr := pk by' 0 6 m.q0 m.q1) (gr := pk by' 0 7 m.e0 m.e1)
      (pick_in _ hB.a.2.1) (pick_in _ hB.b.2.1) (pick_in _ hM.t.2.1) (pick_in _ hB.c.2.1) (pick_in _ hB.f.2.1) (pick_in _ hB.d.2.1) (pick_in _ hM.q.2.1) (pick_in _ hM.e.2.1) hW hF
    exact ⟨this.w1, this.f1⟩
  | i + 1, hi => by
    obtain ⟨i1, i2, i3, i4, i5, i6, i7⟩ := hst_ok hB hb hM hm hc by' L s hl hL hlas hW hF hx hy hin i (by omega)
    have hd := (lasL_iff.1 hlas).2
    have hok := fun j => cI_ok hb hm hc j
    have hday : ∀ j, j < L.length → ∀ W F, (100000 * (cI b m c j).x0 ≤ W ∧ W ≤ 100000 * (cI b m c j).x1) → (100000 * (cI b m c j).x2 ≤ F ∧ F ≤ 100000 * (cI b m c j).x3) → (cI b m c j).x6 = c.x6 →
        DayT b m (cI b m c j) W F (wat1 b m c.x6 by' j W) (fat1 b m by' j F) (wat2 b m c.x6 by' j W) (fat2 b m by' j F) := fun j hj W F h1 h2 h3 => by
      have := day_true hB hM (cm_ok (hok j)) (hd j hj).2 (r := pk by' j 0 b.c2 b.c3) (ht := pk by' j 1 b.c4 b.c5) (tp := pk by' j 2 m.t0 m.t1) (tl := pk by' j 3 b.c6 b.c7) (mi := pk by' j 4 b.c12 b.c13) (bu := pk by' j 5 b.c8 b.c9) (dr := pk by' j 6 m.q0 m.q1) (gr := pk by' j 7 m.e0 m.e1)
        (pick_in _ hB.a.2.1) (pick_in _ hB.b.2.1) (pick_in _ hM.t.2.1) (pick_in _ hB.c.2.1) (pick_in _ hB.f.2.1) (pick_in _ hB.d.2.1) (pick_in _ hM.q.2.1) (pick_in _ hM.e.2.1) h1 h2
      rw [h3] at this
      exact this
    have T := hday i (by omega) _ _ i1 i2 i7
    have hLi := List.getElem?_eq_getElem (show i < L.length by omega)
    obtain ⟨t1, t2, t3⟩ := hL _ (List.getElem_mem (show i < L.length by omega))
    have hse : hst b m c.x6 by' L s (i + 1) = ⟨(hst b m c.x6 by' L s i).x + pk by' i 2 L[i].e L[i].e', (hst b m c.x6 by' L s i).y + pk by' i 3 L[i].n L[i].n', wat2 b m c.x6 by' i (hst b m c.x6 by' L s i).W, fat2 b m by' i (hst b m c.x6 by' L s i).F⟩ := by simp only [hst, hLi, Option.getD_some]
    have tI : (-100000 ≤ L[i].e ∧ L[i].e ≤ L[i].e' ∧ L[i].e' ≤ 100000) ∧ (-100000 ≤ L[i].n ∧ L[i].n ≤ L[i].n' ∧ L[i].n' ≤ 100000) := by
      simp only [G.Tk.ok, G.inS, Bool.and_eq_true, decide_eq_true_eq] at t1
      omega
    have pe := pick_in (lo := L[i].e) (hi := L[i].e') (atS by' (8 * i + 2)) (by omega)
    have pn := pick_in (lo := L[i].n) (hi := L[i].n') (atS by' (8 * i + 3)) (by omega)
    have hmv := i5.mv (t := L[i]) (u := pk by' i 2 L[i].e L[i].e') (v := pk by' i 3 L[i].n L[i].n')
      (by rw [t2, t3]; unfold G.farLo pk; omega) (by rw [t2, t3]; unfold G.farHi pk; omega) (by rw [t2, t3]; unfold G.farLo pk; omega) (by rw [t2, t3]; unfold G.farHi pk; omega)
    have hin' : (G.pt ((hst b m c.x6 by' L s i).x + pk by' i 2 L[i].e L[i].e') ((hst b m c.x6 by' L s i).y + pk by' i 3 L[i].n L[i].n')).inA (mvs hs (L.take (i + 1))) := by
      rw [mvs_succ (by omega)]
      simpa [G.pt] using hmv
    have hx6 : (cI b m c (i + 1)).x6 = c.x6 := by simp only [cI, eve]; exact i7
    rw [hse]
    refine ⟨⟨T.wl, T.wh⟩, ⟨T.fl, T.fh⟩, ?_, ?_, hin', fun h => ?_, hx6⟩
    · simp only; unfold pk; omega
    · simp only; unfold pk; omega
    · have T' := hday (i + 1) h _ _ ⟨T.wl, T.wh⟩ ⟨T.fl, T.fh⟩ hx6
      exact ⟨T'.w1, T'.f1⟩
theorem e7 (hs : List G.Hf) (x y : Int) (ts : List G.Tk) (wx wy f : Int) (b : Br) (c : Cm) (m : Mr) (by' : List Wd) (hx : -9223372036854775808 ≤ x ∧ x ≤ 9223372036854775807) (hy : -9223372036854775808 ≤ y ∧ y ≤ 9223372036854775807) :
    evL FN 7 [.node [G.hfs hs], I x, I y, G.tks ts, I wx, I wy, I f, .node b.d, .node c.d, .node m.d, wds by'] = some (.bool true) := by
  refine evL_of (F := F7) rfl ?_
  rw [F7_eq]
  have h31 := ye13
  have h32 := G.e32 hs
  have h34 := e34 b c
  have h35 := e35 m
  have n1 : ∀ a b : Int, mxD false (.int .i64 a) (.int .i64 b) = some (.int .i64 (min a b)) := G.minD
  have n2 : ∀ a b : Int, mxD true (.int .i64 a) (.int .i64 b) = some (.int .i64 (max a b)) := G.maxD
  generalize hX : IntKind.i64.wrap (-x) = X
  generalize hY : IntKind.i64.wrap (-y) = Y
  cases k1 : decide (60 < hs.length) <;> rw [k1] at h32
  rotate_left
  · simp only [Br.d, Cm.d, Mr.d, G.hfs, G.tks, wds, I] at h32 ⊢
    simp [Fn.denV, fits, T.denV, denL, E.den, D.cells, D.den1, unD, binD, h31, h32, outOf_leafH, denVK]
  have hl : hs.length < 9223372036854775807 := by have := of_decide_eq_false k1; omega
  have h26 := G.e26 hs hl
  by_cases k2 : (60 : Int) < ts.length
  · simp only [Br.d, Cm.d, Mr.d, G.hfs, G.tks, wds, I] at h32 ⊢
    simp [Fn.denV, fits, T.denV, denL, E.den, D.cells, D.den1, unD, binD, h31, h32, k2, outOf_leafH, denVK]
  by_cases k3 : 20000000 < max x (max X (max y Y))
  · simp only [Br.d, Cm.d, Mr.d, G.hfs, G.tks, wds, I] at h32 ⊢
    simp [Fn.denV, fits, T.denV, denL, E.den, D.cells, D.den1, unD, binD, mxLD, n1, n2, hX, hY, h31, h32, k2, k3, outOf_leafH, denVK]
  by_cases k4 : min x y < -20000000
  · simp only [Br.d, Cm.d, Mr.d, G.hfs, G.tks, wds, I] at h32 ⊢
    simp [Fn.denV, fits, T.denV, denL, E.den, D.cells, D.den1, unD, binD, mxLD, n1, n2, hX, hY, h31, h32, k2, k3, k4, outOf_leafH, denVK]
  cases k5 : G.okA hs <;> rw [k5] at h26
  · simp only [Br.d, Cm.d, Mr.d, G.hfs, G.tks, wds, I] at h32 h26 ⊢
    simp [Fn.denV, fits, T.denV, denL, E.den, D.cells, D.den1, unD, binD, mxLD, n1, n2, hX, hY, h31, h32, h26, k2, k3, k4, outOf_leafH, denVK]
  obtain ⟨hin, hlen⟩ := G.okA_in k5
  have h33 := G.e33 hs x y hin hlen (by omega) (by omega)
  cases k6 : G.inP hs x y <;> rw [k6] at h33
  · simp only [Br.d, Cm.d, Mr.d, G.hfs, G.tks, wds, I] at h32 h26 h33 ⊢
    simp [Fn.denV, fits, T.denV, denL, E.den, D.cells, D.den1, unD, binD, mxLD, n1, n2, hX, hY, h31, h32, h26, h33, k2, k3, k4, outOf_leafH, denVK]
  by_cases hE : cmE b c = 0
  rotate_left
  · simp only [Br.d, Cm.d, Mr.d, G.hfs, G.tks, wds, I] at h32 h26 h33 h34 ⊢
    simp [Fn.denV, fits, T.denV, denL, E.den, D.cells, D.den1, unD, binD, mxLD, n1, n2, hX, hY, h31, h32, h26, h33, h34, hE, k2, k3, k4, outOf_leafH, denVK]
  rw [hE] at h34
  cases hm : mrOK m <;> rw [hm] at h35
  · simp only [Br.d, Cm.d, Mr.d, G.hfs, G.tks, wds, I] at h32 h26 h33 h34 h35 ⊢
    simp [Fn.denV, fits, T.denV, denL, E.den, D.cells, D.den1, unD, binD, mxLD, n1, n2, hX, hY, h31, h32, h26, h33, h34, h35, k2, k3, k4, outOf_leafH, denVK]
  have hb : brOK b = true ∧ cmOK b c = true := by
    unfold cmE at hE
    cases h1 : brOK b <;> cases h2 : cmOK b c <;> rw [h1] at hE <;> simp [h2] at hE ⊢
  obtain ⟨hb, hc⟩ := hb
  have hB := br_ok hb
  have hM := mr_ok hm
  have hC := cm_ok hc
  have hlt60 : ts.length ≤ 60 := by omega
  have hone : ∀ d0 d1 d2 d3 d4 d5 d6 d7 d8 d9 d10 d11 d12 d13 d14 : D, iterL (fun vals => outOf oH1 (T.denV (evL FN) ([d0, d1, d2, d3, d4, d5, d6, d7, d8, d9, d10, d11, d12, d13, d14, I ts.length] ++ vals) tH1)) [I ((0 : Nat) : Int), G.tks ts] =
      if allN (fun i => (ts[i]?).all fun t => (one1 t).ok) ts.length then some (1, [G.tks (ones ts ts.length)]) else some (0, []) := by
    intro d0 d1 d2 d3 d4 d5 d6 d7 d8 d9 d10 d11 d12 d13 d14
    rw [iter_allN ts.length (fun i => (ts[i]?).all fun t => (one1 t).ok) (fun i => [I i, G.tks (ones ts i)]) 0 1 [] [G.tks (ones ts ts.length)] (e0 := [I ((0 : Nat) : Int), G.tks ts]) rfl]
    · intro i hi _
      have := h1_go ts i hi hlt60 d0 d1 d2 d3 d4 d5 d6 d7 d8 d9 d10 d11 d12 d13 d14
      simp only [List.getElem?_eq_getElem hi, Option.all_some]
      exact this
    · intro _
      exact h1_end ts d0 d1 d2 d3 d4 d5 d6 d7 d8 d9 d10 d11 d12 d13 d14
  have a1 : (ts = [] ∨ (ts.length + 1) * 49 ≤ 1099511627776) ∧ ∀ t : G.Tk, t ∈ ts → t.c.length = 6 := ⟨.inr (by omega), fun _ _ => rfl⟩
  have L0 : I ((0 : Nat) : Int) = I 0 := rfl
  have h38 := G.e38 hs (ts.map one1) wx wy f hl (by rw [List.length_map]; omega)
  obtain ⟨r0, r1, r2, hr, hr1, hr2⟩ := finds_bd hs (ts.map one1) wx wy f
  rw [hr] at h38
  have h39 := e39 b c m hb hc hm
  have h41 := fun i => e41 by' i
  have p0 := e40 (lo := c.x0) (hi := c.x1) (atS by' 0) hC.a.2.1 (by have := hC.a; omega) (by have := hC.a; have := hB.f1; omega)
  have p1 := e40 (lo := c.x2) (hi := c.x3) (atS by' 1) hC.b.2.1 (by have := hC.b; omega) (by have := hC.b; have := hB.g1; omega)
  have q0 := pick_in (lo := c.x0) (hi := c.x1) (atS by' 0) hC.a.2.1
  have q1 := pick_in (lo := c.x2) (hi := c.x3) (atS by' 1) hC.b.2.1
  have g0 : evL FN 41 [wds by', I 0] = some (U32 (atS by' 0).n) := h41 0
  have g1 : evL FN 41 [wds by', I 1] = some (U32 (atS by' 1).n) := h41 1
  generalize atS by' 0 = s0 at *
  generalize atS by' 1 = s1 at *
  generalize pickS c.x0 c.x1 s0 = W0 at *
  generalize pickS c.x2 c.x3 s1 = F0 at *
  have hCa := hC.a; have hCb := hC.b; have hf1 := hB.f1; have hg1 := hB.g1
  have u0 := wI (x := 100000 * W0) (by omega)
  have u1 := wI (x := 100000 * F0) (by omega)
  -- the days
  have hdays : r2 = 0 → ¬ r1 < 0 → ¬ lasL b m c < r1 → ∃ k : Nat, r1 = k ∧ k ≤ ts.length ∧ ∃ xx yy : Int, (∀ d0 d1 d2 d3 d4 d5 d6 d11 d12 d13 d14 d15 d16 d17 d18 d19 d20 d21 d22 d23 d24 d25 d26 d27 : D,
      iterL (fun vals => outOf oH2 (T.denV (evL FN) ([d0, d1, d2, d3, d4, d5, d6, .node b.d, .node c.d, .node m.d, wds by', d11, d12, d13, d14, d15, d16, d17, d18, d19, d20, d21, d22, d23, d24, d25, d26, d27, G.tks ((ts.map one1).take k), I k] ++ vals) tH2)) [I x, I y, I (100000 * W0), I (100000 * F0), I ((0 : Nat) : Int)] = some (1, [I xx, I yy])) ∧
      max (wx - xx) (max (xx - wx) (max (wy - yy) (yy - wy))) ≤ f ∧ (-100000000 ≤ xx ∧ xx ≤ 100000000) ∧ (-100000000 ≤ yy ∧ yy ≤ 100000000) ∧ (-10000000 ≤ wx ∧ wx ≤ 10000000) ∧ (-10000000 ≤ wy ∧ wy ≤ 10000000) := by
    intro e2 e1 e3
    subst e2
    obtain ⟨-, ha, k, rfl, hk, hkn, hko, htok⟩ := finds_sure hr (by omega)
    rw [List.length_map] at hk
    have hLl : ((ts.map one1).take k).length = k := by simp; omega
    have hok := hst_ok (hs := hs) hB hb hM hm hc by' ((ts.map one1).take k) ⟨x, y, 100000 * W0, 100000 * F0⟩ (by omega) (fun t ht => by
      have h1 := List.mem_of_mem_take ht
      refine ⟨htok t h1, ?_⟩
      obtain ⟨t', -, rfl⟩ := List.mem_map.1 h1
      exact ⟨rfl, rfl⟩) (by rw [hLl]; omega) ⟨by simp only; omega, by simp only; omega⟩ ⟨by simp only; omega, by simp only; omega⟩ ⟨by simp only; omega, by simp only; omega⟩ ⟨by simp only; omega, by simp only; omega⟩ (G.inP_iff.1 k6)
    have hlast := hok k (by omega)
    rw [List.take_take, Nat.min_self] at hlast
    obtain ⟨-, -, l3, l4, l5, -⟩ := hlast
    obtain ⟨n1', -⟩ := G.kn_true (px := wx) (py := wy) (f := f) (G.okA_in hko).1 (G.okA_sided hko) l5
    have hnear := n1' hkn
    simp only [G.askOK, G.plOK, G.inR, Bool.and_eq_true, decide_eq_true_eq] at ha
    refine ⟨k, rfl, hk, _, _, ?_, hnear, by omega, by omega, ha.1.1, ha.1.2⟩
    intro d0 d1 d2 d3 d4 d5 d6 d11 d12 d13 d14 d15 d16 d17 d18 d19 d20 d21 d22 d23 d24 d25 d26 d27
    have htrue : firstN (fun _ => true) k 0 = none := firstN_none.2 fun _ _ _ => rfl
    rw [iter_nat k (fun _ => true) (fun i => [I (hst b m c.x6 by' ((ts.map one1).take k) ⟨x, y, 100000 * W0, 100000 * F0⟩ i).x, I (hst b m c.x6 by' ((ts.map one1).take k) ⟨x, y, 100000 * W0, 100000 * F0⟩ i).y, I (hst b m c.x6 by' ((ts.map one1).take k) ⟨x, y, 100000 * W0, 100000 * F0⟩ i).W, I (hst b m c.x6 by' ((ts.map one1).take k) ⟨x, y, 100000 * W0, 100000 * F0⟩ i).F, I i]) 0 1 (fun _ => []) [I (hst b m c.x6 by' ((ts.map one1).take k) ⟨x, y, 100000 * W0, 100000 * F0⟩ k).x, I (hst b m c.x6 by' ((ts.map one1).take k) ⟨x, y, 100000 * W0, 100000 * F0⟩ k).y] (e0 := [I x, I y, I (100000 * W0), I (100000 * F0), I ((0 : Nat) : Int)]) rfl]
    · rw [htrue]
    · intro i hi _
      obtain ⟨i1, i2, i3, i4, i5, i6, i7⟩ := hok i (by omega)
      have hCi := cm_ok (cI_ok hb hm hc i)
      have hCia := hCi.a; have hCib := hCi.b
      have hiL : i < ((ts.map one1).take k).length := by omega
      have hgo := h2_go b m c hB hM by' ((ts.map one1).take k) i hiL (by omega) _ rfl (htok _ (List.mem_of_mem_take (List.getElem_mem hiL))) (hst b m c.x6 by' ((ts.map one1).take k) ⟨x, y, 100000 * W0, 100000 * F0⟩ i).x (hst b m c.x6 by' ((ts.map one1).take k) ⟨x, y, 100000 * W0, 100000 * F0⟩ i).y (hst b m c.x6 by' ((ts.map one1).take k) ⟨x, y, 100000 * W0, 100000 * F0⟩ i).W (hst b m c.x6 by' ((ts.map one1).take k) ⟨x, y, 100000 * W0, 100000 * F0⟩ i).F
        ⟨by omega, by omega⟩ ⟨by omega, by omega⟩ ⟨by omega, by omega⟩ ⟨by omega, by omega⟩ (i6 hiL).1 (i6 hiL).2 d0 d1 d2 d3 d4 d5 d6 d11 d12 d13 d14 d15 d16 d17 d18 d19 d20 d21 d22 d23 d24 d25 d26 d27
      rw [hLl] at hgo
      rw [hst_succ hiL]
      exact hgo
    · intro _
      have := h2_end b m c by' ((ts.map one1).take k) (hst b m c.x6 by' ((ts.map one1).take k) ⟨x, y, 100000 * W0, 100000 * F0⟩ k).x (hst b m c.x6 by' ((ts.map one1).take k) ⟨x, y, 100000 * W0, 100000 * F0⟩ k).y (hst b m c.x6 by' ((ts.map one1).take k) ⟨x, y, 100000 * W0, 100000 * F0⟩ k).W (hst b m c.x6 by' ((ts.map one1).take k) ⟨x, y, 100000 * W0, 100000 * F0⟩ k).F d0 d1 d2 d3 d4 d5 d6 d11 d12 d13 d14 d15 d16 d17 d18 d19 d20 d21 d22 d23 d24 d25 d26 d27
      rw [hLl] at this
      exact this
  have hones := ones_all (ts := ts)
  rw [hones] at hone
  have hlm : (ts.map one1).length = ts.length := List.length_map ..
  have hsl : ∀ k : Nat, ∀ t : G.Tk, t ∈ ts.map one1 → t.c.length = 6 := fun _ _ _ => rfl
  generalize ts.map one1 = O at *
  simp only [L0] at hone hdays
  have sh1 : ∀ z : Int, D.flat (.int .i64 z) = true := fun z => rfl
  simp only [Br.d, Cm.d, Mr.d, G.hfs, G.tks, wds, I, U32] at h26 h32 h33 h34 h35 h38 h39 hone hdays g0 g1 p0 p1 ⊢
  simp only [List.cons_append, List.nil_append] at hone hdays
  simp [Fn.denV, fits, T.denV, denL, E.den, D.cells, D.den1, unD, binD, mxLD, n1, n2, hX, hY, h31, h32, h26, h33, h34, h35, k2, k3, k4, outOf_leafH, denVK]
  rw [if_pos a1]
  simp only [D.den1, List.length_map]
  rw [hone]
  cases hall : allN (fun i => (ts[i]?).all fun t => (one1 t).ok) ts.length
  · simp [denVK, T.denV, E.den, denL]
  simp only [if_true]
  by_cases c1 : r2 = 0
  rotate_left
  · simp [denVK, T.denV, denL, E.den, D.cells, D.den1, binD, h38, h39, outOf_leafH, D.flat, D.flat0, c1]
  by_cases c2 : r1 < 0
  · simp [denVK, T.denV, denL, E.den, D.cells, D.den1, binD, h38, h39, outOf_leafH, D.flat, D.flat0, c1, c2]
  by_cases c3 : lasL b m c < r1
  · simp [denVK, T.denV, denL, E.den, D.cells, D.den1, binD, h38, h39, outOf_leafH, D.flat, D.flat0, c1, c2, c3]
  obtain ⟨k, rfl, hk, xx, yy, hit, hnear, bx, by2, bwx, bwy⟩ := hdays c1 c2 c3
  have c4 : ¬ (O.length : Int) < k := by omega
  have hup : D.upto (.int .i64 (k : Int)) O.length = some k := by simp [D.upto]; omega
  have htk : min k O.length = k := by omega
  simp [denVK, T.denV, denL, E.den, D.cells, D.den1, binD, h38, h39, outOf_leafH, D.flat, D.flat0, c1, c2, c3, c4, g0, g1, p0, p1, u0, u1, hup, htk]
  rw [if_pos (hsl 0)]
  simp only [D.den1, List.length_take, List.length_map, htk, List.map_take.symm]
  rw [hit]
  have z1 := wI (x := xx - wx) (by omega)
  have z2 := wI (x := wx - xx) (by omega)
  have z3 := wI (x := yy - wy) (by omega)
  have z4 := wI (x := wy - yy) (by omega)
  have z5 : max (xx - wx) (max (wx - xx) (max (yy - wy) (wy - yy))) ≤ f := by omega
  simp [denVK, T.denV, denL, E.den, D.cells, D.den1, binD, mxLD, n1, n2, outOf, z1, z2, z3, z4, z5]
end Go.Q
