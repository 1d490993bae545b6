/- Guide: the reference's March; areas that are compared and copied. -/
import Derived.Test.YtcgeghpmnnhcpaaGc3
set_option linter.unusedVariables false
set_option linter.unusedSimpArgs false
namespace Go.Q
open Go.V
theorem e38 (hs : List Hf) (t : Tk) (hl : hs.length < 9223372036854775807) : evL FN 38 [.node [hfs hs], .node t.c] = some (.node [.node [hfs (marchS hs t).1], I (marchS hs t).2]) := by
  refine evL_of (F := F38) rfl ?_
  have h74 := e74 hs hl
  have h45 := e45 t
  simp only [hfs, Tk.c, I] at h74 h45
  unfold marchS
  cases k1 : okA hs
  · rw [k1] at h74
    simp [F38, Fn.denV, fits, T.denV, denVK, denL, E.den, D.cells, Tk.c, hfs, D.den1, binD, unD, h74]
  rw [k1] at h74
  obtain ⟨hin, hlen⟩ := okA_in k1
  cases k2 : t.ok
  · rw [k2] at h45
    simp [F38, Fn.denV, fits, T.denV, denVK, denL, E.den, D.cells, Tk.c, hfs, D.den1, binD, unD, h74, h45]
  rw [k2] at h45
  have h81 := e81 hs t (.of k2) hin (by omega)
  have hok : hs.all Hf.ok = true := by
    simp only [okA, Bool.and_eq_true] at k1
    exact k1.1.2
  rw [mv_mok hok]
  have h75 := e75 hs hin (by omega)
  have hn := crn_nil (hs := hs)
  simp only [hfs, Tk.c, I, crs] at h81 h75
  generalize crnR hs hs.length = cs at h75 hn
  cases k3 : hs.all (Hf.mok t) <;> rw [k3] at h81 <;> cases k4 : hasPl hs <;> simp only [k4, reduceCtorEq, iff_false, iff_true] at hn <;>
    simp [F38, Fn.denV, fits, T.denV, denVK, denL, E.den, D.cells, Tk.c, hfs, D.den1, binD, unD, h74, h45, h81, h75, hn]
theorem e18 (hs : List Hf) (hl : hs.length < 9223372036854775807) : evL FN 18 [.node [hfs hs], .node [hfs hs]] = some (.bool true) := by
  refine evL_of (F := F18) rfl ?_
  simp [F18, Fn.denV, fits, T.denV, denVK, denL, E.den, D.cells, hfs, D.den1, binD, unD]
  rw [iter_all (p := fun _ => true) (t := 0) (u := 1) (xs := hs)]
  · simp [denVK, T.denV, E.den]
  · intro i h hi
    obtain ⟨hlt, rfl⟩ := List.getElem?_eq_some_iff.1 hi
    have hlt' : (i : Int) < hs.length := by omega
    simp [hlt, hlt', idx_nat hlt, hi, Hf.d, partD, D.cells, eqDL, eqD1, outOf, denL, E.den, wrapN (show i < 9223372036854775807 by omega)]
  · simp [outOf, denL]
theorem e29 (hs : List Hf) : evL FN 29 [.node [hfs hs]] = some (.bool (decide (60 < hs.length))) := by
  refine evL_of (F := F29) rfl ?_
  have : decide ((hs.length : Int) > 60) = decide (60 < hs.length) := by rw [decide_eq_decide]; omega
  simp [F29, Fn.denV, fits, T.denV, denVK, denL, E.den, D.cells, hfs, D.den1, binD, unD, this]
theorem e30 (hs : List Hf) (hl : hs.length < 1000000) : evL FN 30 [.node [hfs hs]] = some (.node [hfs hs]) := by
  refine evL_of (F := F30) rfl ?_
  have h72 := e72 hs [] (by simp; omega)
  simp only [hfs, List.map_nil, List.append_nil] at h72
  simp [F30, Fn.denV, fits, T.denV, denVK, denL, E.den, D.cells, hfs, h72]
/-! Loops with an index -/
def foldI {σ α ε : Type} (step : Nat → σ → α → Except ε σ) : Nat → σ → List α → Except ε σ
  | _, s, [] => .ok s
  | i, s, x :: xs => match step i s x with
    | .ok s' => foldI step (i + 1) s' xs
    | .error e => .error e
theorem iter_idx {σ α : Type} {f : List D → Option (Option Nat × List D)} {enc : Nat → σ → List D} {step : Nat → σ → α → Except (Nat × List D) σ} {u : Nat} {fin : σ → List D} {xs : List α} (Inv : Nat → σ → Prop)
    (hstep : ∀ (i : Nat) x s, xs[i]? = some x → Inv i s → f (enc i s) = match step i s x with
      | .ok s' => some (none, enc (i + 1) s')
      | .error r => some (some r.1, r.2))
    (hinv : ∀ (i : Nat) x s s', xs[i]? = some x → Inv i s → step i s x = .ok s' → Inv (i + 1) s')
    (hend : ∀ s, Inv xs.length s → f (enc xs.length s) = some (some u, fin s)) {s : σ} (h0 : Inv 0 s) :
    iterL f (enc 0 s) = match foldI step 0 s xs with
      | .ok s' => some (u, fin s')
      | .error r => some r := by
  have key : ∀ (l pre : List α) (s : σ), xs = pre ++ l → Inv pre.length s → iterL f (enc pre.length s) = match foldI step pre.length s l with
      | .ok s' => some (u, fin s')
      | .error r => some r := by
    intro l
    induction l with
    | nil =>
      intro pre s hx hs
      rw [iterL_eq]
      have : pre.length = xs.length := by rw [hx]; simp
      rw [this] at hs ⊢
      rw [hend s hs]; rfl
    | cons x l ih =>
      intro pre s hx hs
      have hget : xs[pre.length]? = some x := by rw [hx]; simp
      rw [iterL_eq, hstep _ x s hget hs]
      simp only [foldI]
      cases e : step pre.length s x with
      | error r => rfl
      | ok s' =>
        simp only
        have := ih (pre ++ [x]) s' (by rw [hx]; simp) (by rw [List.length_append]; exact hinv _ x s s' hget hs e)
        rw [List.length_append] at this
        exact this
  exact key xs [] s rfl h0
end Go.Q
