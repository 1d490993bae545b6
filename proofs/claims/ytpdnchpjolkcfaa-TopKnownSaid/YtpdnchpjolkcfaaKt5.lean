/- Wells are landmarks: the loop. -/
import Derived.Test.YtpdnchpjolkcfaaKt4
set_option linter.unusedVariables false
set_option linter.unusedSimpArgs false
set_option maxRecDepth 100000
namespace Go.Q
open Go.V
theorem inR_iff {n lo hi : Int} : inR n lo hi = true ↔ lo ≤ n ∧ n ≤ hi := by simp [inR]
def outs4 : List (List E × Option Nat) := [([.v 29, .v 28], none), ([.v 26], some 0), ([], some 1), ([.v 26], some 0)]
theorem wl_xy {w : Wl} (h : w.ok = true) : (-10000000 ≤ w.x ∧ w.x ≤ 10000000) ∧ (-10000000 ≤ w.y ∧ w.y ≤ 10000000) := by
  simp only [Wl.ok, Bool.and_eq_true] at h
  exact ⟨inR_iff.1 h.1.1.1.1.1.1, inR_iff.1 h.1.1.1.1.1.2⟩
theorem l4_ok (hs : List Hf) (us : List Wd) (bs : List By) (ws : List Wl) (ls : List Lg) (hL : landOK ws ls = true) (k : Nat) (hk : k < ws.length) (i : Nat) (hi : i < bs.length) (hbl : bs.length ≤ 9223372036854775807) (hA : Ar hs ws[k].x ws[k].y)
    (x1 x4 x5 x6 x7 x8 x9 x10 x12 x13 x14 x15 x16 x17 x18 x19 x20 x21 x22 x23 : D) :
    (∃ hs', outOf outs4 (T.denV (evL FN) [.node [wls ws, lgs ls], x1, bys bs, wds us, x4, x5, x6, x7, x8, x9, x10, .node ws[k].d, x12, x13, x14, x15, x16, x17, x18, x19, x20, x21, x22, x23, I bs.length, I i, hfs hs] l4) = some (some 0, [hfs hs']) ∧ Ar hs' ws[k].x ws[k].y) ∨
    (∃ hs', outOf outs4 (T.denV (evL FN) [.node [wls ws, lgs ls], x1, bys bs, wds us, x4, x5, x6, x7, x8, x9, x10, .node ws[k].d, x12, x13, x14, x15, x16, x17, x18, x19, x20, x21, x22, x23, I bs.length, I i, hfs hs] l4) = some (none, [I (i + 1), hfs hs']) ∧ Ar hs' ws[k].x ws[k].y) := by
  have hWs : ∀ j, (h : j < ws.length) → (-10000000 ≤ ws[j].x ∧ ws[j].x ≤ 10000000) ∧ (-10000000 ≤ ws[j].y ∧ ws[j].y ≤ 10000000) := fun j h => by
    simp only [landOK, Bool.and_eq_true] at hL
    exact wl_xy (List.all_eq_true.1 hL.1.2 _ (List.getElem_mem h))
  have hlen : 0 < ws.length := by omega
  have hlen2 : ws.length ≤ 12 := by
    simp only [landOK, Bool.and_eq_true] at hL
    have := inR_iff.1 hL.1.1.1
    omega
  obtain ⟨m, em⟩ : ∃ m, m = bs[i].n % ws.length := ⟨_, rfl⟩
  have hm : m < ws.length := by rw [em]; exact Nat.mod_lt _ hlen
  have hbn := bs[i].h
  have hW := hWs k hk
  have hO := hWs m hm
  have w0 : IntKind.i64.wrap (bs[i].n : Int) = bs[i].n := wrapI (by omega)
  have hz : ¬ (ws.length : Int) = 0 := by omega
  have hne : ¬ ws = [] := fun e => by rw [e] at hlen; simp at hlen
  have he : ((bs[i].n : Int)).tmod (ws.length : Int) = (m : Int) := by rw [em]; rfl
  have he' : ((bs[i].n : Int)) % (ws.length : Int) = (m : Int) := by rw [em]; simp
  have hgt : ws[m]? = some ws[m] := List.getElem?_eq_getElem hm
  have hii : D.idx (.int .i64 (m : Int)) ws.length = some m := idx_nat hm
  have w1 : IntKind.i64.wrap (ws[m].x - ws[k].x) = ws[m].x - ws[k].x := wrapI (by omega)
  have w2 : IntKind.i64.wrap (ws[m].y - ws[k].y) = ws[m].y - ws[k].y := wrapI (by omega)
  have wi := wrapN (show i < 9223372036854775807 by omega)
  have hil : (i : Int) < bs.length := by omega
  have hb4 := b4_ok (ws[m].x - ws[k].x) (ws[m].y - ws[k].y) (by omega) (by omega) [.node [wls ws, lgs ls], x1, bys bs, wds us, x4, x5, x6, x7, x8, x9, x10, .node ws[k].d, x12, x13, x14, x15, x16, x17, x18, x19, x20, x21, x22, x23, I bs.length, I i, hfs hs, .bool true, .unit, U8 bs[i].n, I bs[i].n, I ws.length, I m, .unit, .node ws[m].d] rfl
  simp only [List.cons_append, List.nil_append] at hb4
  cases hq : skipS (ws[m].x - ws[k].x) (ws[m].y - ws[k].y) with
  | true =>
    rw [hq] at hb4
    refine .inr ⟨hs, ?_, hA⟩
    simp only [wls, lgs, bys, I, U8, Wl.d] at hb4 ⊢
    simp [l4, outs4, T.denV, denL, E.den, D.cells, D.den1, binD, hi, hil, idx_nat hi, partD, w0, w1, w2, wi, hz, hne, he, he', hgt, hii, Wl.d, hb4, outOf_leaf, denVK]
  | false =>
    rw [hq] at hb4
    have hq2 := of_decide_eq_false (Bool.or_eq_false_iff.1 hq).2
    unfold max4 at hq2
    obtain ⟨j, ρ, r1, r2⟩ := t4_ok hs us i (by omega) ws[k] ws[m] hA hW.1 hW.2 hO.1 hO.2 (by omega) (by omega) (.node [wls ws, lgs ls]) x1 (bys bs) x4 x5 x6 x7 x8 x9 x10 x12 x13 x14 x15 x16 x17 x18 x19 x20 x21 x22 x23 (I bs.length) (.bool true) .unit (U8 bs[i].n) (I bs[i].n) (I ws.length) (I m) .unit (.bool false)
    rcases r2 with ⟨rfl, r2⟩ | rfl | ⟨rfl, hs', r2, hA'⟩
    · refine .inr ⟨hs, ?_, hA⟩
      simp only [wls, lgs, bys, I, U8, Wl.d] at hb4 r1 ⊢
      simp [l4, outs4, T.denV, denL, E.den, D.cells, D.den1, binD, hi, hil, idx_nat hi, partD, w0, w1, w2, wi, hz, hne, he, he', hgt, hii, Wl.d, hb4, r1, outOf_leaf, denVK]
      simpa [E.den] using r2
    · refine .inl ⟨hs, ?_, hA⟩
      simp only [wls, lgs, bys, I, U8, Wl.d] at hb4 r1 ⊢
      simp [l4, outs4, T.denV, denL, E.den, D.cells, D.den1, binD, hi, hil, idx_nat hi, partD, w0, w1, w2, wi, hz, hne, he, he', hgt, hii, Wl.d, hb4, r1, outOf_leaf, denVK]
    · refine .inr ⟨hs', ?_, hA'⟩
      simp only [wls, lgs, bys, I, U8, Wl.d] at hb4 r1 ⊢
      simp [l4, outs4, T.denV, denL, E.den, D.cells, D.den1, binD, hi, hil, idx_nat hi, partD, w0, w1, w2, wi, hz, hne, he, he', hgt, hii, Wl.d, hb4, r1, outOf_leaf, denVK]
      simpa [E.den, D.cells] using r2
end Go.Q
