/- Guide: the way, and the law. -/
import Derived.Test.YtcgeghpmnnhcpaaGf2
set_option linter.unusedVariables false
set_option linter.unusedSimpArgs false
namespace Go.Q
open Go.V
structure Inv13 (hs0 : List Hf) (ts : List Tk) (x y far : Int) (inn : Bool) (i : Nat) (px py may sure : Int) (hs : List Hf) : Prop where
  ok : okA hs = true
  pl : hasPl hs = true
  pt : inn = true → (pt px py).inA hs ∧ (-10000000000 - 6000000 * (i : Int) ≤ px ∧ px ≤ 10000000000 + 6000000 * (i : Int)) ∧ (-10000000000 - 6000000 * (i : Int) ≤ py ∧ py ≤ 10000000000 + 6000000 * (i : Int))
  at0 : i = 0 → may = -1 ∧ sure = -1 ∧ hs = hs0
  go : ∀ j, i = j + 1 → fGo x y far j ⟨hs, may, sure⟩ (ts.drop j) = fGo x y far 0 (f0 hs0 x y far) ts
  m0 : may < i
  m1 : sure < i
theorem hr13 {hs : List Hf} {x y far px py r0 r1 r2 may sure : Int} {inn : Bool} {i : Nat} {l : List Tk} {R0 : Except Unit Fs} (ho : okA hs = true) (hpl : hasPl hs = true) (ha : askOK x y far = true) (hi : i ≤ 60)
    (hp : inn = true → (pt px py).inA hs ∧ (-20000000000 ≤ px ∧ px ≤ 20000000000) ∧ (-20000000000 ≤ py ∧ py ≤ 20000000000)) (m0 : may < i) (m1 : sure < i)
    (hgo : fGo x y far i ⟨hs, mayS (kn hs (nr x y far)) i may, sureS (kn hs (nr x y far)) i sure⟩ l = R0) (hok : ∀ sf, R0 = .ok sf → r0 = sf.may ∧ r1 = sf.sure ∧ r2 = 0) (herr : ∀ u, R0 = .error u → r2 = 9) :
    inn = true → r2 = 0 → (farM x y px py ≤ far → 0 ≤ r0 ∧ r0 ≤ i) ∧ (r1 = i → farM x y px py ≤ far) := by
  intro h1 h2
  obtain ⟨p1, p2, p3⟩ := hp h1
  cases hR : R0 with
  | error u => have := herr u hR; omega
  | ok sf =>
    obtain ⟨q1, q2, -⟩ := hok sf hR
    obtain ⟨a, b, c, d⟩ := fGo_fin _ _ _ _ (hgo.trans hR)
    obtain ⟨k2, k0⟩ := kn_true (px := x) (py := y) (f := far) (okA_in ho).1 (okA_sided ho) p1
    simp only [askOK, plOK, inR, Bool.and_eq_true, decide_eq_true_eq] at ha
    have v1 := wrapI (x := px - x) (by omega)
    have v2 := wrapI (x := x - px) (by omega)
    have v3 := wrapI (x := py - y) (by omega)
    have v4 := wrapI (x := y - py) (by omega)
    simp only [farM, v1, v2, v3, v4, mayS, sureS] at *
    generalize kn hs (nr x y far) = k at *
    refine ⟨fun hn => ?_, fun hr => ?_⟩
    · have hk : k ≠ 0 := fun h => k0 h (by omega)
      rw [q1]
      by_cases e : may < 0
      · rw [if_pos ⟨e, hk⟩] at a
        rw [a (by omega)]; omega
      · rw [if_neg (fun h => e h.1)] at a
        rw [a (by omega)]; omega
    · by_cases hk : k = 2
      · have := k2 hk; omega
      · exfalso
        rw [if_neg (fun h => hk h.2)] at c d
        by_cases e : sure < 0
        · rcases d e with h | h <;> omega
        · have := c (by omega); omega
theorem round13 {d0 d5 d6 d9 d10 d12 d13 d15 d16 d23 : D} {hs0 hs : List Hf} {ts : List Tk} {ws : List Wd} {x y far px py r0 r1 r2 may sure : Int} {inn : Bool} {i : Nat} (hi : i ≤ ts.length) (hl : ts.length ≤ 60) (ht : ts.all Tk.ok = true) (ha : askOK x y far = true)
    (hok : ∀ sf, fGo x y far 0 (f0 hs0 x y far) ts = .ok sf → r0 = sf.may ∧ r1 = sf.sure ∧ r2 = 0) (herr : ∀ u, fGo x y far 0 (f0 hs0 x y far) ts = .error u → r2 = 9) (h : Inv13 hs0 ts x y far inn i px py may sure hs) :
    outOf outs13 (tR13.denV (evL FN) [d0, tks ts, I x, I y, I far, d5, d6, wds ws, .bool true, d9, d10, .node [I r0, I r1, I r2], d12, d13, .bool inn, d15, d16, I px, I py, I may, I sure, I i, hfs hs, d23]) = some (0, [.bool true]) ∨
    ∃ px' py' may' sure' hs', Inv13 hs0 ts x y far inn (i + 1) px' py' may' sure' hs' ∧
      outOf outs13 (tR13.denV (evL FN) [d0, tks ts, I x, I y, I far, d5, d6, wds ws, .bool true, d9, d10, .node [I r0, I r1, I r2], d12, d13, .bool inn, d15, d16, I px, I py, I may, I sure, I i, hfs hs, d23]) = some (1, [I px', I py', I may', I sure', hfs hs']) := by
  cases i with
  | zero =>
    right
    obtain ⟨rfl, rfl, rfl⟩ := h.at0 rfl
    have hgo : fGo x y far 0 ⟨hs, mayS (kn hs (nr x y far)) 0 (-1), sureS (kn hs (nr x y far)) 0 (-1)⟩ (ts.drop 0) = fGo x y far 0 (f0 hs x y far) ts := by
      rw [List.drop_zero]; congr 1; unfold f0 mayS sureS; simp
    have hr := hr13 h.ok h.pl ha (Nat.zero_le 60) (fun h1 => by obtain ⟨p1, p2, p3⟩ := h.pt h1; exact ⟨p1, by omega, by omega⟩) h.m0 h.m1 hgo hok herr
    have hn := fun d17 d18 d22 d23 d24 => near13 (d0 := d0) (d1 := tks ts) (d5 := d5) (d6 := d6) (d7 := wds ws) (d9 := d9) (d10 := d10) (d12 := d12) (d13 := d13) (d15 := d15) (d16 := d16) (d17 := d17) (d18 := d18) (d22 := d22) (d23 := d23) (d24 := d24) (may := -1) (sure := -1) h.ok h.pl ha hr
    refine ⟨px, py, mayS (kn hs (nr x y far)) 0 (-1), sureS (kn hs (nr x y far)) 0 (-1), hs, ⟨h.ok, h.pl, fun h1 => ?_, fun h => by omega, fun j hj => ?_, ?_, ?_⟩, ?_⟩
    rotate_left 4
    · simp only [I, tks, wds, hfs, show ((0 : Nat) : Int) = 0 from rfl] at hn ⊢
      simp [tR13, T.denV, denL, E.den, D.den1, binD, march_0, denVK, hn]
    · obtain ⟨p1, p2, p3⟩ := h.pt h1; exact ⟨p1, by omega, by omega⟩
    · obtain rfl : j = 0 := by omega
      exact hgo
    · unfold mayS; split <;> omega
    · unfold sureS; split <;> omega
  | succ j =>
    have hj : j < ts.length := by omega
    obtain ⟨t, htj⟩ : ∃ t, ts[j] = t := ⟨_, rfl⟩
    have q2 : t.ok = true := by rw [← htj]; exact List.all_eq_true.1 ht _ (List.getElem_mem hj)
    have hgo := h.go j rfl
    rw [List.drop_eq_getElem_cons hj, htj] at hgo
    simp only [fGo, foldI] at hgo
    have hlen := (okA_in h.ok).2
    have hpos : (0 : Int) < (j : Int) + 1 := by omega
    have hc : ((j + 1 : Nat) : Int) = (j : Int) + 1 := by omega
    rcases step_all (x := x) (y := y) (f := far) (i := j) (s := ⟨hs, may, sure⟩) (t := t) ⟨h.ok, h.pl⟩ ha q2 with ⟨hm, hs1⟩ | ⟨s', hs1, hm, hI, hnr, e1, e2⟩
    · left
      rw [hs1] at hgo
      obtain rfl := herr _ hgo.symm
      have hme := fun d2 d3 d4 d5 d6 d7 d9 d10 d12 d13 d14 d15 d16 d17 d18 d19 d20 d23 => march_err (d0 := d0) (d2 := d2) (d3 := d3) (d4 := d4) (d5 := d5) (d6 := d6) (d7 := d7) (d9 := d9) (d10 := d10) (d12 := d12) (d13 := d13) (d14 := d14) (d15 := d15) (d16 := d16) (d17 := d17) (d18 := d18) (d19 := d19) (d20 := d20) (d23 := d23) (r0 := r0) (r1 := r1) hj (by omega) htj hlen hm
      simp only [I, tks, wds, hfs, hc] at hme ⊢
      simp [tR13, T.denV, denL, E.den, D.den1, binD, hpos, hme, denVK, outs13, outOf_leaf]
    · right
      rw [hs1] at hgo
      simp only at hgo
      obtain ⟨pd, pe, pn, w1, w2, w3, hmg⟩ := march_go (d0 := d0) (d2 := I x) (d3 := I y) (d4 := I far) (d5 := d5) (d6 := d6) (d9 := d9) (d10 := d10) (d11 := .node [I r0, I r1, I r2]) (d12 := d12) (d13 := d13) (d14 := .bool inn) (d15 := d15) (d16 := d16) (d19 := I may) (d20 := I sure) (d23 := d23) (ws := ws) (px := px) (py := py) hj (by omega) htj q2 hlen hm
      have tI : (0 ≤ t.d ∧ t.d ≤ t.d' ∧ t.d' ≤ 60) ∧ (-100000 ≤ t.e ∧ t.e ≤ t.e' ∧ t.e' ≤ 100000) ∧ (-100000 ≤ t.n ∧ t.n ≤ t.n' ∧ t.n' ≤ 100000) := by
        have := q2
        simp only [Tk.ok, inS, Bool.and_eq_true, decide_eq_true_eq] at this
        omega
      have z1 := mulP (x := pd) (y := pe) (by omega) (by omega)
      have z2 := mulP (x := pd) (y := pn) (by omega) (by omega)
      have hsm : s'.hs = hs.map (Hf.mv t) := by
        unfold fStep at hs1
        split at hs1
        · cases hs1
        · cases hs1; rfl
      have e1 : s'.may = mayS (kn s'.hs (nr x y far)) (j + 1) may := e1
      have e2 : s'.sure = sureS (kn s'.hs (nr x y far)) (j + 1) sure := e2
      have hpt : inn = true → (pt (IntKind.i64.wrap (px + pd * pe)) (IntKind.i64.wrap (py + pd * pn))).inA s'.hs ∧ (-10000000000 - 6000000 * ((j + 1 + 1 : Nat) : Int) ≤ IntKind.i64.wrap (px + pd * pe) ∧ IntKind.i64.wrap (px + pd * pe) ≤ 10000000000 + 6000000 * ((j + 1 + 1 : Nat) : Int)) ∧ (-10000000000 - 6000000 * ((j + 1 + 1 : Nat) : Int) ≤ IntKind.i64.wrap (py + pd * pn) ∧ IntKind.i64.wrap (py + pd * pn) ≤ 10000000000 + 6000000 * ((j + 1 + 1 : Nat) : Int)) := fun h1 => by
        obtain ⟨p1, p2, p3⟩ := h.pt h1
        have f1 := far_in w1.1 w1.2 w2.1 w2.2
        have f2 := far_in w1.1 w1.2 w3.1 w3.2
        have hmv := p1.mv f1.1 f1.2 f2.1 f2.2
        simp only [pt, Int.one_mul] at hmv
        rw [wrapI (x := px + pd * pe) (by omega), wrapI (x := py + pd * pn) (by omega), hsm]
        exact ⟨hmv, by omega, by omega⟩
      have hgo' : fGo x y far (j + 1) ⟨s'.hs, mayS (kn s'.hs (nr x y far)) (j + 1) may, sureS (kn s'.hs (nr x y far)) (j + 1) sure⟩ (ts.drop (j + 1)) = fGo x y far 0 (f0 hs0 x y far) ts := by
        rw [← e1, ← e2]; exact hgo
      have hr := hr13 hI.ok hI.pl ha (show j + 1 ≤ 60 by omega) (fun h1 => by obtain ⟨p1, p2, p3⟩ := hpt h1; exact ⟨p1, by omega, by omega⟩) h.m0 h.m1 hgo' hok herr
      have hn := fun d17 d18 d22 d23 d24 => near13 (d0 := d0) (d1 := tks ts) (d5 := d5) (d6 := d6) (d7 := wds ws) (d9 := d9) (d10 := d10) (d12 := d12) (d13 := d13) (d15 := d15) (d16 := d16) (d17 := d17) (d18 := d18) (d22 := d22) (d23 := d23) (d24 := d24) (may := may) (sure := sure) hI.ok hI.pl ha hr
      have hm0 := h.m0
      have hm1 := h.m1
      refine ⟨IntKind.i64.wrap (px + pd * pe), IntKind.i64.wrap (py + pd * pn), mayS (kn s'.hs (nr x y far)) (j + 1) may, sureS (kn s'.hs (nr x y far)) (j + 1) sure, s'.hs, ⟨hI.ok, hI.pl, hpt, fun h => by omega, fun k hk => ?_, ?_, ?_⟩, ?_⟩
      rotate_left 3
      · simp only [I, tks, wds, hfs, hc] at hn hmg ⊢
        simp [tR13, T.denV, denL, E.den, D.den1, binD, hpos, hmg, denVK, hn]
      · obtain rfl : k = j + 1 := by omega
        exact hgo'
      · unfold mayS; split <;> omega
      · unfold sureS; split <;> omega
end Go.Q
