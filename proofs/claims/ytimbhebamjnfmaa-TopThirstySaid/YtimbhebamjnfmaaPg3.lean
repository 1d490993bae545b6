/- Ported: guide (Gc2, Gc3, Gg1) -/
import Derived.Test.YtimbhebamjnfmaaPg2
set_option linter.unusedVariables false
set_option linter.unusedSimpArgs false
set_option maxRecDepth 100000
namespace Go.Q.G
open Go.V
/-- What is known: not, open, for sure. -/
def kn (hs os : List Hf) : Int := if hasPl (hs ++ os) = false then 0 else if (crnR hs hs.length).all (fun c => os.all c.isIn) then 2 else 1
def evil (hs os : List Hf) (g h : Hf) : Bool := good hs g h && !(os.all (cross g h).isIn)
theorem kn_crn {hs os : List Hf} : (crnR hs hs.length).all (fun c => os.all c.isIn) = (List.range hs.length).all fun i => (hs.take i).all fun h => !evil hs os (hs.getD i ⟨0, 0, 0⟩) h := crn_all
set_option maxHeartbeats 1600000 in
theorem e150 (hs os : List Hf) (hh : ∀ h ∈ hs, h.In) (ho : ∀ h ∈ os, h.In) (hl : hs.length < 1000) (hlo : os.length < 1000) : evL FN 150 [hfs hs, hfs os] = some (U8 (kn hs os)) := by
  refine evL_of (F := F150) rfl ?_
  have h52 := e106 hs os (by omega)
  have h54 := e108 (hs ++ os) (by intro h hm; rcases List.mem_append.1 hm with h1 | h1; exact hh h h1; exact ho h h1) (by rw [List.length_append]; omega)
  have hsh := shal_hfs (n := 0) (hs := hs ++ os)
  unfold kn
  generalize hs ++ os = ms at h52 h54 hsh ⊢
  simp only [hfs] at h52 h54 hsh
  cases e : hasPl ms <;> rw [e] at h54
  · simp [F150, Fn.denV, fits, T.denV, denVK, denL, E.den, D.cells, hfs, D.den1, binD, unD, outOf, fillD, h52, h54, hsh, D.flat, D.flat0]
  simp [F150, Fn.denV, fits, T.denV, denVK, denL, E.den, D.cells, hfs, D.den1, binD, unD, outOf, fillD, h52, h54, hsh, D.flat, D.flat0, -List.all_eq_true]
  rw [kn_crn, iter_all (p := fun i => (hs.take i).all fun h => !evil hs os (hs.getD i ⟨0, 0, 0⟩) h) (t := 0) (u := 1) (xs := List.range hs.length)]
  · cases (List.range hs.length).all fun i => (hs.take i).all fun h => !evil hs os (hs.getD i ⟨0, 0, 0⟩) h <;> simp [denVK, T.denV, E.den, denL]
  · intro i x hi
    obtain ⟨hlt, rfl⟩ := List.getElem?_eq_some_iff.1 hi
    simp only [List.length_range] at hlt
    simp only [List.getElem_range]
    have hle : (i : Int) < (hs.length : Int) := by omega
    have hx : hs.getD i ⟨0, 0, 0⟩ = hs[i] := by simp [hlt]
    rw [hx]
    have h3 : ∀ l : List Hf, l.all ((fun y => y.length == 3) ∘ Hf.d) = true := fun l => by simp [Hf.d]
    simp [-List.map_take, ← List.map_take, h3, Function.comp_def, binD, hlt, idx_nat hlt, upto_nat (Nat.le_of_lt hlt), Hf.d, partD, D.cells, D.flat, D.flat0, unD, wrapN (show i < 9223372036854775807 by omega)]
    rw [iter_all (p := fun h => !evil hs os hs[i] h) (t := 0) (u := 1) (xs := hs.take i)]
    · by_cases e : ((List.take i hs).all fun h => !evil hs os hs[i] h) = true
      · have e' := e
        simp only [List.all_eq_true, Bool.not_eq_true'] at e'
        rw [if_pos e, if_pos e']
        simp [outOf, denVK, T.denV, denL, E.den, D.den1, binD, wrapN (show i < 9223372036854775807 by omega)]
      · have e' := e
        simp only [List.all_eq_true, Bool.not_eq_true'] at e'
        rw [if_neg e, if_neg e']
        simp [outOf, denVK, T.denV, denL, E.den]
    · intro j h hj
      obtain ⟨hlj, rfl⟩ := List.getElem?_eq_some_iff.1 hj
      have hji : j < i := by rw [List.length_take] at hlj; omega
      have hjs : j < hs.length := by omega
      have hcI := crossIn (hh hs[i] (List.getElem_mem hlt)) (hh hs[j] (List.getElem_mem hjs))
      have e166' := e166 (hh hs[i] (List.getElem_mem hlt)) (hh hs[j] (List.getElem_mem hjs))
      have e148' := e148c (cross hs[i] hs[j]) hs hcI hh (by omega)
      simp only [Hf.d, Cr.d, hfs] at e166' e148'
      have hjm : j < min i hs.length := by omega
      have hj' : (List.take i hs)[j]? = some hs[j] := by rw [hj, List.getElem_take]
      simp only [List.getElem_take, evil, good]
      generalize hs.all (cross hs[i] hs[j]).isIn = b at e148' ⊢
      simp [-List.map_take, ← List.map_take, h3, Function.comp_def, binD, hji, hjs, hlt, hjm, idx_nat hjm, hj', Hf.d, partD, D.cells, D.flat, D.flat0, unD, wrapN (show j < 9223372036854775807 by omega), e166', e148', -List.all_eq_true]
      by_cases hp : 0 < (cross hs[i] hs[j]).p
      · cases b
        · simp [hp, outOf, denL, E.den, D.cells, denVK, T.denV, D.den1, binD, wrapN (show j < 9223372036854775807 by omega)]
        · simp [hp, outOf, denL, E.den, D.cells, denVK, T.denV, D.den1, binD, -List.all_eq_true]
          rw [iter_all (p := (cross hs[i] hs[j]).isIn) (t := 0) (u := 1) (xs := os)]
          · cases os.all (cross hs[i] hs[j]).isIn <;>
              simp [hp, outOf, denL, E.den, D.cells, denVK, T.denV, D.den1, binD, wrapN (show j < 9223372036854775807 by omega)]
          · intro k g hk
            obtain ⟨hlk, rfl⟩ := List.getElem?_eq_some_iff.1 hk
            have h94 := e167 hcI (ho os[k] (List.getElem_mem hlk))
            simp only [Hf.d, Cr.d] at h94
            cases e : (cross hs[i] hs[j]).isIn os[k] <;> rw [e] at h94 <;>
              simp [binD, hlk, idx_nat hlk, hk, Hf.d, partD, D.cells, h94, D.flat, D.flat0, unD, wrapN (show k < 9223372036854775807 by omega), outOf, denL, E.den]
          · simp [binD, outOf, denL]
      · simp [hp, outOf, denL, E.den, D.cells, denVK, T.denV, D.den1, binD, wrapN (show j < 9223372036854775807 by omega)]
    · simp [binD, outOf, denL]
  · simp [binD, outOf, denL]
/-- Near: what is known, and the error. -/
def nearS (hs : List Hf) (x y f : Int) : Int × Int :=
  if okA hs = false then (0, 40) else if askOK x y f = false then (0, 2) else if hasPl hs = false then (0, 43) else (kn hs (nr x y f), 0)
theorem e96 (hs : List Hf) (x y f : Int) (hl : hs.length < 9223372036854775807) : evL FN 96 [.node [hfs hs], I x, I y, I f] = some (.node [U8 (nearS hs x y f).1, I (nearS hs x y f).2]) := by
  refine evL_of (F := F96) rfl ?_
  have h28 := e101 hs hl
  have h51 := e103n x y f
  simp only [hfs, I, nearD] at h28 h51
  unfold nearS
  cases k1 : okA hs
  · rw [k1] at h28
    simp [F96, Fn.denV, fits, T.denV, denVK, denL, E.den, D.cells, hfs, D.den1, binD, unD, h28]
  rw [k1] at h28
  obtain ⟨hin, hlen⟩ := okA_in k1
  cases k2 : askOK x y f
  · rw [k2] at h51
    simp [F96, Fn.denV, fits, T.denV, denVK, denL, E.den, D.cells, hfs, D.den1, binD, unD, h28, h51]
  rw [k2] at h51
  have h54 := e108 hs hin hl
  simp only [hfs] at h54
  cases k3 : hasPl hs <;> rw [k3] at h54
  · simp [F96, Fn.denV, fits, T.denV, denVK, denL, E.den, D.cells, hfs, D.den1, binD, unD, h28, h51, h54]
  have h53 := e107n k2
  have h59 := e150 hs (nr x y f) hin (nrIn k2) (by omega) (by simp [nr, sides])
  simp only [hfs, nearD] at h53 h59
  simp [F96, Fn.denV, fits, T.denV, denVK, denL, E.den, D.cells, hfs, D.den1, binD, unD, h28, h51, h54, h53, h59, D.flat, D.flat0]
/-- A look. -/
structure Lk where
  k : Int
  x : Int
  y : Int
  fx : Int
  fy : Int
  tx : Int
  ty : Int
  n : Int
  n' : Int
  f : Int
  deriving DecidableEq
def Lk.c (l : Lk) : List D := [U8 l.k, I l.x, I l.y, I l.fx, I l.fy, I l.tx, I l.ty, I l.n, I l.n', I l.f]
def crs1 (x y : Int) : Bool := inR x (-1000) 1000 && inR y (-1000) 1000
def Lk.ok (l : Lk) : Bool :=
  if l.k = 1 then plOK l.x l.y && (crs1 l.fx l.fy && (crs1 l.tx l.ty && decide (l.fx * l.ty - l.fy * l.tx > 0)))
  else if l.k = 2 then inS l.n l.n' (-10000000) 10000000
  else if l.k = 3 then askOK l.x l.y l.f else false
/-- The halves of a look. -/
def Lk.hv (l : Lk) : List Hf :=
  if l.k = 1 then [⟨-l.fy, l.fx, l.fx * l.y - l.fy * l.x⟩, ⟨l.ty, -l.tx, l.ty * l.x - l.tx * l.y⟩]
  else if l.k = 2 then [⟨0, 1, l.n'⟩, ⟨0, -1, -l.n⟩] else nr l.x l.y l.f
end Go.Q.G
