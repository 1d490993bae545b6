/- TopStage: the law. -/
import Derived.Test.YtecgohommehdpaaRb5
set_option linter.unusedVariables false
set_option linter.unusedSimpArgs false
set_option maxRecDepth 100000
set_option maxHeartbeats 2000000
namespace Go.Q
open Go.V
theorem e38 : evL FN 38 [] = some (.bool true) := by
  refine evL_of (F := F38) rfl ?_
  simp [F38, Fn.denV, fits, T.denV, E.den]
def reps (m : Mr) (k : Nat) : List (List D) := List.replicate k m.d
theorem reps_succ {m : Mr} {k : Nat} : reps m (k + 1) = reps m k ++ [m.d] := List.replicate_succ'
theorem reps_len {m : Mr} {k : Nat} : (reps m k).length = k := List.length_replicate
theorem shal_evs {b : Br} {m : Mr} {c : Cm} {n k : Nat} : D.shal (k + 1) (.list (evs b m c n)) = true := by
  simp only [D.shal, D.shal1, D.shal0]
  rw [Bool.and_eq_true, List.all_eq_true]
  refine ⟨by simp, fun x hx => ?_⟩
  obtain ⟨j, -, rfl⟩ := List.mem_map.1 hx
  cases k <;> rfl
theorem evs_last {b : Br} {m : Mr} {c : Cm} {k : Nat} : (evs b m c (k + 1))[k]? = some (cI b m c (k + 1)).d := by
  rw [evs_succ, List.getElem?_append_right (by rw [evs_len]; omega), evs_len, Nat.sub_self]; rfl
theorem e9 (b : Br) (c : Cm) (m : Mr) (ws : List Wl) (ls : List Lg) (w0 day pl ph : Int) (ks : List Int) (hl : ls.length ≤ 9223372036854775807) :
    evL FN 9 [.node b.d, .node c.d, .node m.d, landD ws ls, I w0, I day, .node [I pl, I ph], ints ks] = some (.bool true) := by
  refine evL_of (F := F9) rfl ?_
  have h38 := e38
  have h39 := e39 b c
  have h40 := e40 m
  have h15 := e15 ws ls hl
  by_cases hE : cmE b c = 0
  rotate_left
  · simp only [Br.d, Cm.d, Mr.d, landD, wls, lgs, ints, I] at h39 ⊢
    simp [F9, Fn.denV, fits, T.denV, denL, E.den, D.cells, D.den1, unD, binD, h38, h39, hE, outOf, denVK]
  rw [hE] at h39
  cases hm : mrOK m with
  | false =>
    rw [hm] at h40
    simp only [Br.d, Cm.d, Mr.d, landD, wls, lgs, ints, I] at h39 h40 ⊢
    simp [F9, Fn.denV, fits, T.denV, denL, E.den, D.cells, D.den1, unD, binD, h38, h39, h40, outOf, denVK]
  | true =>
  rw [hm] at h40
  cases hG : greatL ws ls with
  | true =>
    rw [hG] at h15
    simp only [Br.d, Cm.d, Mr.d, landD, wls, lgs, ints, I] at h15 h39 h40 ⊢
    simp [F9, Fn.denV, fits, T.denV, denL, E.den, D.cells, D.den1, unD, binD, h38, h39, h40, h15, outOf, denVK]
  | false =>
  rw [hG] at h15
  simp only [greatL, Bool.or_eq_false_iff, decide_eq_false_iff_not, Bool.not_eq_false'] at hG
  obtain ⟨⟨g1, g2⟩, g3⟩ := hG
  have hw : ws.length ≤ 9223372036854775807 := by omega
  have hgs : ∀ l ∈ ls, l.gs.length ≤ 20 := fun l hm => by simpa using List.all_eq_true.1 g3 l hm
  have hbig : big ls := fun l hm => by have := hgs l hm; omega
  by_cases hk : 24 < ks.length
  · have hk' : (24 : Int) < ks.length := by omega
    simp only [Br.d, Cm.d, Mr.d, landD, wls, lgs, ints, I] at h15 h39 h40 ⊢
    simp [F9, Fn.denV, fits, T.denV, denL, E.den, D.cells, D.den1, unD, binD, h38, h39, h40, h15, outOf, denVK, hk']
  have hk' : ¬ (24 : Int) < ks.length := by omega
  obtain ⟨_, h28, ⟨ss, at', e, rfl, hne, hez⟩⟩ := e28s ws ls w0 day pl ph ks hw hl hbig (by omega)
  by_cases he : e = 0
  rotate_left
  · have := hne he
    subst this
    simp only [Br.d, Cm.d, Mr.d, landD, wls, lgs, ints, sps, I] at h15 h28 h39 h40 ⊢
    simp only [List.map_nil] at h28
    simp [F9, Fn.denV, fits, T.denV, denL, E.den, D.cells, D.den1, unD, binD, h38, h39, h40, h15, h28, outOf, denVK, hk', he]
  subst he
  obtain ⟨hL, hp, hsl, hss⟩ := hez rfl
  have hb : brOK b = true ∧ cmOK b c = true := by
    unfold cmE at hE
    cases h1 : brOK b <;> cases h2 : cmOK b c <;> rw [h1] at hE <;> simp [h2] at hE ⊢
  obtain ⟨hb, hc⟩ := hb
  have h17 := fun (s : Sp) => e17 ws ls s.leg pl ph hw hl hbig
  have h41 := fun i => e41 b (csI b m c ls pl ss i) m hb (csI_ok hb hm hc i) hm
  have h42 := fun i n hn hlv => e42 b (csI b m c ls pl ss i) m hb (csI_ok hb hm hc i) hm n hn hlv
  have h43 := e43 b.c0 b.c0
  simp only [Br.d, Cm.d, Mr.d, landD, wls, lgs, ints, I] at h15 h28 h39 h40 h43 ⊢
  simp [F9, Fn.denV, fits, T.denV, denL, E.den, D.cells, D.den1, unD, binD, h38, h39, h40, h15, h28, outOf, denVK, hk', sps, hsl]
  rw [iter_nat ks.length (goS b m c ls pl ss) (fun i => I i :: (csI b m c ls pl ss i).d) 0 1 (fun _ => [.bool true]) []]
  · cases firstN (goS b m c ls pl ss) ks.length 0 <;> simp [denVK, T.denV, E.den]
  · simp [csI, Cm.d, I]
  · intro i hi _
    have his : i < ss.length := by omega
    have hsi := List.getElem?_eq_getElem his
    have hstop := hss _ (List.getElem_mem his)
    generalize hs : ss[i] = s at *
    obtain ⟨lo, hd, b1, b2, b3, b4, b5, b6, b7, b8, b9, b10⟩ := stop_len hl hL hp hstop
    have h17 := h17 s
    rw [hd] at h17
    have h41 := h41 i
    have h42 := h42 i
    have hnext : csI b m c ls pl ss (i + 1) = rst b (cI b m (csI b m c ls pl ss i) (lenA ls pl ss i)) := rfl
    have hlen : lenA ls pl ss i = lenS ls pl s := by simp [lenA, hsi]
    have hgo : goS b m c ls pl ss i = decide ((lenS ls pl s : Int) ≤ lasL b m (csI b m c ls pl ss i)) := by unfold goS; rw [hlen]
    rw [hlen] at hnext
    rw [hnext, hgo]
    generalize lenS ls pl s = n at *
    have hw1 : IntKind.i64.wrap (s.ah - s.lh) = n := by rw [wI (by omega)]; omega
    have hw2 : IntKind.i64.wrap (s.al - s.ll) = lo := by rw [wI (by omega)]; omega
    have hw3 := wrapN (show i < 9223372036854775807 by omega)
    have n1 : ¬ lo < 1 := by omega
    have n2 : ¬ (n : Int) < lo := by omega
    have hidx := idx_nat (i := i) (n := ks.length) hi
    have live := fun j => las_live (b := b) (m := m) (c := csI b m c ls pl ss i) (i := j)
    generalize csI b m c ls pl ss i = c1 at *
    by_cases hq : (n : Int) ≤ lasL b m c1
    rotate_left
    · have hq' : lasL b m c1 < n := by omega
      simp only [landD, wls, lgs, Br.d, Cm.d, Mr.d, I] at h17 h41 hidx ⊢
      simp [outOf, denL, E.den, denVK, T.denV, D.cells, D.den1, binD, hi, hsl, hsi, hs, Sp.d, I, hidx, partD, h17, h41, hw1, hw2, n1, n2, hq, hq']
    obtain ⟨k, hk1⟩ : ∃ k, n = k + 1 := ⟨n - 1, by omega⟩
    have hk60 : k < 60 := (live k (by omega)).1
    have h42 := h42 n (by omega) (fun j hj => (live j (by omega)).2)
    have hq' : ¬ lasL b m c1 < (n : Int) := by omega
    have ha : allN (fun _ => true) n = true := allN_iff.2 fun _ _ => rfl
    have hrep : List.replicate n m.d = reps m n := rfl
    rw [hrep] at h42
    have hw4 : IntKind.i64.wrap ((n : Int) - 1) = k := by rw [wI (by omega)]; omega
    have hlast : (evs b m c1 n)[k]? = some (cI b m c1 n).d := by rw [hk1]; exact evs_last
    have hel := evs_len (b := b) (m := m) (c := c1) (n := n)
    have hsh := shal_evs (b := b) (m := m) (c := c1) (n := n) (k := 0)
    have hidk := idx_nat (i := k) (n := n) (by omega)
    simp only [landD, wls, lgs, Br.d, Cm.d, Mr.d, I] at h17 h41 h42 hidx hidk hlast ⊢
    generalize cI b m c1 n = c2 at *
    generalize evs b m c1 n = E2 at *
    simp [outOf, denL, E.den, denVK, T.denV, D.cells, D.den1, binD, hi, hsl, hsi, hs, Sp.d, I, hidx, partD, h17, h41, hw1, hw2, n1, n2, hq, hq']
    rw [iter_allN n (fun _ => true) (fun k => [I k, .list (reps m k)]) 1 0 [] [.list (reps m n)]]
    · simp [ha, outOf, denL, E.den, denVK, T.denV, D.cells, D.den1, binD, h42, h43, hsh, hel, hw4, hidk, hlast, partD, D.flat, D.flat0, hw3, rst, I]
    · simp [reps, I]
    · intro k2 hk2 _
      have hrl := reps_len (m := m) (k := k2)
      have hwk := wrapN (show k2 < 9223372036854775807 by omega)
      have hcap := cap65 (n := k2 + 1) (by omega)
      rw [reps_succ]
      generalize reps m k2 = L2 at *
      simp [outOf, denL, E.den, denVK, T.denV, D.cells, D.den1, binD, hk2, fillD, hrl, hcap, hwk, I, Mr.d]
    · simp [outOf, denL, E.den, denVK, T.denV, D.cells, D.den1, binD, I]
  · simp [D.den1, binD, outOf, denL, E.den, Cm.d]
end Go.Q
