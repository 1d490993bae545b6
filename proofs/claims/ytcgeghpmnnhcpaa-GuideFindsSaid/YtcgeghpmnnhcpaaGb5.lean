/- Guide: March. -/
import Derived.Test.YtcgeghpmnnhcpaaGb4
set_option linter.unusedVariables false
set_option linter.unusedSimpArgs false
namespace Go.Q
open Go.V
theorem okA_in {hs : List Hf} (h : okA hs = true) : (∀ x ∈ hs, x.In) ∧ hs.length ≤ 40 := by
  simp [okA] at h
  exact ⟨fun x hx => .of (h.1.2 x hx), by omega⟩
/-- An area after a trek. -/
def marchS (hs : List Hf) (t : Tk) : List Hf × Int :=
  if okA hs = false then ([], 40) else if t.ok = false then ([], 42) else if (hs.map (Hf.mv t)).all Hf.ok = false then ([], 9) else if hasPl hs = false then ([], 43) else (hs.map (Hf.mv t), 0)
theorem e25 (hs : List Hf) (t : Tk) (hl : hs.length < 9223372036854775807) : evL FN 25 [.node [hfs hs], .node t.c] = some (.node [.node [hfs (marchS hs t).1], I (marchS hs t).2]) := by
  refine evL_of (F := F25) rfl ?_
  have h28 := e28 hs hl
  have h61 := e61 t
  simp only [hfs, Tk.c, I] at h28 h61
  unfold marchS
  cases k1 : okA hs
  · rw [k1] at h28
    simp [F25, Fn.denV, fits, T.denV, denVK, denL, E.den, D.cells, Tk.c, hfs, D.den1, binD, unD, h28]
  rw [k1] at h28
  obtain ⟨hin, hlen⟩ := okA_in k1
  cases k2 : t.ok
  · rw [k2] at h61
    simp [F25, Fn.denV, fits, T.denV, denVK, denL, E.den, D.cells, Tk.c, hfs, D.den1, binD, unD, h28, h61]
  rw [k2] at h61
  have h65 := e65 hs t (.of k2) hin (by omega)
  have h66 := e66 (hs.map (Hf.mv t)) (by rw [List.length_map]; omega)
  have h54 := e54 hs hin hl
  simp only [hfs, Tk.c, I] at h65 h66 h54
  generalize hs.map (Hf.mv t) = ms at *
  cases k3 : ms.all Hf.ok <;> rw [k3] at h66 <;> cases k4 : hasPl hs <;> rw [k4] at h54 <;>
    simp [F25, Fn.denV, fits, T.denV, denVK, denL, E.den, D.cells, Tk.c, hfs, D.den1, binD, unD, h28, h61, h65, h66, h54, D.flat, D.flat0]
end Go.Q
