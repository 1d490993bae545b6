/- Camel: Days of one march, on which it lives. -/
import Derived.Test.YtecgohommehdpaaRb2
set_option linter.unusedVariables false
set_option linter.unusedSimpArgs false
set_option maxRecDepth 100000
namespace Go.Q
open Go.V
def evs (b : Br) (m : Mr) (c : Cm) (n : Nat) : List (List D) := (List.range n).map fun j => (cI b m c (j + 1)).d
theorem evs_succ {b : Br} {m : Mr} {c : Cm} {n : Nat} : evs b m c (n + 1) = evs b m c n ++ [(cI b m c (n + 1)).d] := by
  unfold evs; rw [List.range_succ, List.map_append]; rfl
theorem evs_len {b : Br} {m : Mr} {c : Cm} {n : Nat} : (evs b m c n).length = n := by simp [evs]
def stD (b : Br) (m : Mr) (c : Cm) (i : Nat) : List D := I i :: (b.d ++ (cI b m c i).d ++ [.int .u8 0, .list (evs b m c i)])
theorem cap57 {n : Nat} (h : n ≤ 1000) : (n + 1) * 57 ≤ 1099511627776 := Nat.le_trans (Nat.mul_le_mul_right 57 (show n + 1 ≤ 1001 by omega)) (by decide)
theorem e42 (b : Br) (c : Cm) (m : Mr) (hb : brOK b = true) (hc : cmOK b c = true) (hm : mrOK m = true) (n : Nat) (hn : n ≤ 60) (hl : ∀ i, i < n → dead b m (cI b m c i) = false ∧ weak b m (cI b m c i) = false) :
    evL FN 42 [.node b.d, .node c.d, .list (List.replicate n m.d)] = some (.node [.list (evs b m c n), .int .u8 0, I 0, I 0]) := by
  refine evL_of (F := F42) rfl ?_
  have h105 := e105 b c (List.replicate n m) hb hc (by simpa using hn) (fun x hx => by rw [List.eq_of_mem_replicate hx]; exact hm)
  rw [List.map_replicate] at h105
  have h107 := e107 b c
  have hlen : (List.replicate n m.d).length = n := List.length_replicate
  have hget : ∀ i, i < n → (List.replicate n m.d)[i]? = some m.d := fun i hi => by rw [List.getElem?_replicate, if_pos hi]
  generalize List.replicate n m.d = L at *
  have hstep : ∀ i, i < n → evL FN 127 [.node (b.d ++ (cI b m c i).d), .node m.d] = some (.node [.node (b.d ++ (cI b m c (i + 1)).d), .int .u8 0]) := fun i hi => by
    rw [e127 b (cI b m c i) m hb (cI_ok hb hm hc i) hm, (hl i hi).1, (hl i hi).2]; rfl
  have h110 : ∀ i, evL FN 110 [.node (b.d ++ (cI b m c (i + 1)).d)] = some (.node (cI b m c (i + 1)).d) := fun i => e110 b _
  have ha : allN (fun _ => true) n = true := allN_iff.2 fun _ _ => rfl
  simp only [Br.d, Cm.d, Mr.d, I, List.cons_append, List.nil_append] at h105 h107 hget ⊢
  simp [F42, Fn.denV, fits, T.denV, denL, E.den, D.cells, D.den1, binD, h105, h107, fillD, D.flat, D.flat0, hlen]
  rw [iter_allN n (fun _ => true) (stD b m c) 1 2 [] [.int .u8 0, .list (evs b m c n)]]
  · simp [ha, outOf, denL, E.den, denVK, T.denV, I]
  · simp [stD, Br.d, Cm.d, I, cI, evs]
  · intro i hi _
    have h127 := hstep i hi
    have h110 := h110 i
    have hw := wrapN (show i < 9223372036854775807 by omega)
    have hg := hget i hi
    have hgl : i < L.length := by omega
    have hg2 := List.getElem?_eq_getElem hgl
    rw [hg] at hg2
    have hg3 := (Option.some.inj hg2).symm
    have hidx := idx_nat (i := i) (n := n) hi
    have hel : (evs b m c i).length = i := evs_len
    have hcap := cap57 (n := i + 1) (by omega)
    unfold stD
    rw [evs_succ]
    generalize evs b m c i = xs at *
    generalize cI b m c i = c1 at *
    generalize cI b m c (i + 1) = c2 at *
    simp only [Br.d, Cm.d, Mr.d, I, List.cons_append, List.nil_append] at h127 h110 hidx ⊢
    simp [outOf, denL, E.den, denVK, T.denV, D.cells, D.den1, binD, hi, hlen, hidx, hg, hg3, partD, h127, h110, mxLD, mxD, hw, fillD, hel, hcap]
  · simp [stD, Br.d, Cm.d, outOf, denL, E.den, denVK, T.denV, D.cells, D.den1, binD, I]
end Go.Q
