/- Camel: Lasts, reckoned. -/
import Derived.Test.YtecgohommehdpaaRb1
set_option linter.unusedVariables false
set_option linter.unusedSimpArgs false
set_option maxRecDepth 100000
namespace Go.Q
open Go.V
def stL (b : Br) (m : Mr) (c : Cm) (i : Nat) : List D := I i :: (b.d ++ (cI b m c i).d ++ [I (loS b m c i), I 60])
theorem e41 (b : Br) (c : Cm) (m : Mr) (hb : brOK b = true) (hc : cmOK b c = true) (hm : mrOK m = true) : evL FN 41 [.node b.d, .node c.d, .node m.d] = some (.node [.node [I (lasL b m c), I (lasH b m c)], I 0]) := by
  refine evL_of (F := F41) rfl ?_
  have h105 := e105 b c [m] hb hc (by simp) (by simpa using hm)
  have h106 := e106 60
  have h107 := e107 b c
  have h109 := e109 m
  have hsh : D.shal 1 (.list (List.replicate 60 m.d)) = true := by
    have := shal_mr (n := 0) (xs := List.replicate 60 m)
    rwa [List.map_replicate] at this
  have hlen : (List.replicate 60 m.d).length = 60 := List.length_replicate
  have hget : ∀ i, i < 60 → (List.replicate 60 m.d)[i]? = some m.d := fun i hi => by rw [List.getElem?_replicate, if_pos hi]
  generalize List.replicate 60 m.d = L at *
  have hstep : ∀ i, i < 60 → evL FN 127 [.node (b.d ++ (cI b m c i).d), .node m.d] = some (if dead b m (cI b m c i) then .node [.node zw, .int .u8 2] else .node [.node (b.d ++ (cI b m c (i + 1)).d), .int .u8 (if weak b m (cI b m c i) then 1 else 0)]) := fun i _ => e127 b (cI b m c i) m hb (cI_ok hb hm hc i) hm
  have hlo : ∀ i, loS b m c (i + 1) = if weak b m (cI b m c i) then min (loS b m c i) i else loS b m c i := fun i => rfl
  simp only [Br.d, Cm.d, Mr.d, I, List.map_cons, List.map_nil, List.cons_append, List.nil_append] at h105 h106 h107 h109 hget ⊢
  simp [F41, Fn.denV, fits, T.denV, denL, E.den, D.cells, D.den1, binD, h105, h106, h107, h109, fillD, D.flat, D.flat0, hsh, hlen]
  rw [iter_nat 60 (liv b m c) (stL b m c) 0 1 (fun i => [I (min (loS b m c i) i), I i]) [I (loS b m c 60), I 60]]
  · unfold lasL lasH
    cases firstN (liv b m c) 60 0 <;> simp [outOf, denL, E.den, denVK, T.denV, I]
  · simp [stL, Br.d, Cm.d, I, cI, loS]
  · intro i hi _
    have h127 := hstep i hi
    have hlo := hlo i
    have hw := wrapN (show i < 9223372036854775807 by omega)
    have hi' : (i : Int) < 60 := by omega
    have hg := hget i hi
    have hidx := idx_nat (i := i) (n := 60) hi
    have hmin : (if (i : Int) < loS b m c i then (i : Int) else loS b m c i) = min (loS b m c i) i := by split <;> omega
    unfold stL liv
    rw [hlo]
    generalize cI b m c i = c1 at *
    generalize cI b m c (i + 1) = c2 at *
    generalize loS b m c i = lo at *
    simp only [Br.d, Cm.d, Mr.d, I, List.cons_append, List.nil_append] at h127 ⊢
    cases hd : dead b m c1 <;> cases hwk : weak b m c1 <;> rw [hd] at h127 <;> rw [hwk] at h127 <;>
      simp [zw, I] at h127 <;>
      simp [outOf, denL, E.den, denVK, T.denV, D.cells, D.den1, binD, hi', hlen, hidx, hg, partD, h127, mxLD, mxD, hw, hmin]
  · simp [stL, Br.d, Cm.d, outOf, denL, E.den, denVK, T.denV, D.cells, D.den1, binD, I]
end Go.Q
