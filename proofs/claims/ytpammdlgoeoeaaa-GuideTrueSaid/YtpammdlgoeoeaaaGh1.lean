/- Guide: looks that contradict each other. -/
import Derived.Test.YtpammdlgoeoeaaaGh0
import Derived.Test.YtpammdlgoeoeaaaGg6
set_option linter.unusedVariables false
set_option linter.unusedSimpArgs false
namespace Go.Q
open Go.V
theorem iter_idxe {σ α : Type} {f : List D → Option (Option Nat × List D)} {enc : Nat → σ → List D} {step : Nat → σ → α → Except (Nat × List D) σ} {u : Nat} {fin : σ → List D} {xs : List α} (Inv : Nat → σ → Prop) {s : σ} {e0 : List D} (he : e0 = enc 0 s)
    (hstep : ∀ (i : Nat) x s, xs[i]? = some x → Inv i s → f (enc i s) = match step i s x with
      | .ok s' => some (none, enc (i + 1) s')
      | .error r => some (some r.1, r.2))
    (hinv : ∀ (i : Nat) x s s', xs[i]? = some x → Inv i s → step i s x = .ok s' → Inv (i + 1) s')
    (hend : ∀ s, Inv xs.length s → f (enc xs.length s) = some (some u, fin s)) (h0 : Inv 0 s) :
    iterL f e0 = match foldI step 0 s xs with
      | .ok s' => some (u, fin s')
      | .error r => some r := by rw [he]; exact iter_idx Inv hstep hinv hend h0
def cStep (hs : List Hf) (ls : List Lk) (i : Nat) (left : List Nat) : List Nat := if hasPl (hsum hs ls (left.filter fun j => j != i)) then left else left.filter fun j => j != i
def cGo (hs : List Hf) (ls : List Lk) (i : Nat) (left : List Nat) (_ : Lk) : Except (Nat × List D) (List Nat) := .ok (cStep hs ls i left)
def cFold (hs : List Hf) (ls : List Lk) : Nat → List Nat → List Lk → List Nat
  | _, left, [] => left
  | i, left, _ :: l => cFold hs ls (i + 1) (cStep hs ls i left) l
theorem cFold_eq {hs : List Hf} {ls : List Lk} : ∀ (l : List Lk) (i : Nat) (left : List Nat), foldI (cGo hs ls) i left l = .ok (cFold hs ls i left l)
  | [], _, _ => rfl
  | _ :: l, i, left => by
    simp only [foldI, cGo, cFold]
    exact cFold_eq l _ _
/-- Which looks contradict each other. -/
def clashS (hs : List Hf) (ls : List Lk) : List Nat × Int :=
  if okA hs = false then ([], 40) else if 10 < ls.length then ([], 4) else if ls.all Lk.ok = false then ([], 41)
  else if hasPl (hsum hs ls (List.range ls.length)) then ([], 6) else (cFold hs ls 0 (List.range ls.length) ls, 0)
theorem natsD_filter {left : List Nat} {i : Nat} : nums ((left.map fun n : Nat => (n : Int)).filter fun x => x != (i : Int)) = natsD (left.filter fun j => j != i) := by
  unfold natsD
  congr 1
  rw [List.filter_map]
  congr 1
  apply List.filter_congr
  intro x _
  simp only [Function.comp]
  rw [Bool.eq_iff_iff]
  simp only [bne_iff_ne]
  omega
theorem cStep_in {hs : List Hf} {ls : List Lk} {i m : Nat} {left : List Nat} (h : (∀ n ∈ left, n < m) ∧ left.length ≤ 10) : (∀ n ∈ cStep hs ls i left, n < m) ∧ (cStep hs ls i left).length ≤ 10 := by
  unfold cStep
  split
  · exact h
  · exact ⟨fun n hn => h.1 n ((List.mem_filter.1 hn).1), Nat.le_trans (List.length_filter_le _ _) h.2⟩
theorem capn {n : Nat} (h : n < 1000000) : (n + 1) * 9 ≤ 1099511627776 := by omega
theorem shal_nums {n : Nat} {xs : List Int} : D.shal (n + 1) (nums xs) = true := by
  simp [D.shal, D.shal1, D.shal0, nums, shal1_int]
set_option maxHeartbeats 3200000 in
theorem e26 (hs : List Hf) (ls : List Lk) (hl : hs.length < 9223372036854775807) : evL FN 26 [.node [hfs hs], lks ls] = some (.node [natsD (clashS hs ls).1, I (clashS hs ls).2]) := by
  refine evL_of (F := F26) rfl ?_
  have h28 := e28 hs hl
  simp only [hfs, I] at h28
  unfold clashS
  cases k1 : okA hs
  · rw [k1] at h28
    simp [F26, Fn.denV, fits, T.denV, denVK, denL, E.den, D.cells, hfs, lks, natsD, nums, D.den1, binD, unD, h28]
  rw [k1] at h28
  obtain ⟨hin, hlen⟩ := okA_in k1
  by_cases k2 : 10 < ls.length
  · have k2' : (10 : Int) < ls.length := by omega
    simp [F26, Fn.denV, fits, T.denV, denVK, denL, E.den, D.cells, hfs, lks, natsD, nums, D.den1, binD, unD, h28, k2, k2']
  have k2' : ¬ (10 : Int) < ls.length := by omega
  have h68 := e68 ls (by omega)
  simp only [lks] at h68
  cases k3 : ls.all Lk.ok <;> rw [k3] at h68
  · simp [F26, Fn.denV, fits, T.denV, denVK, denL, E.den, D.cells, hfs, lks, natsD, nums, D.den1, binD, unD, h28, k2, k2', h68]
  have hok : ∀ l ∈ ls, l.ok = true := by simpa using k3
  simp [F26, Fn.denV, fits, T.denV, denVK, denL, E.den, D.cells, hfs, lks, D.den1, binD, unD, h28, k2, k2', h68]
  rw [iter_try (p := fun _ => true) (t := 0) (u := 0) (xs := ls) (r0 := []) (r := [natsD (List.range ls.length)]) (st := fun i => [I i, natsD (List.range i)])]
  rotate_left
  · simp [natsD, nums]
  · intro i l hi
    obtain ⟨hlt, rfl⟩ := List.getElem?_eq_some_iff.1 hi
    have hlt' : (i : Int) < ls.length := by omega
    have hcap : (i + 1 + 1) * 9 ≤ 1099511627776 := capn (by omega)
    simp [hlt', natsD, nums, hcap, fillD, outOf, denL, E.den, List.range_succ, wrapN (show i < 9223372036854775807 by omega)]
  · simp [outOf, denL, E.den]
  have h69 := e69 hs ls (List.range ls.length) hin hok (fun n hn => List.mem_range.1 hn) hlen (by omega) (by simp; omega)
  simp only [hfs, lks] at h69
  simp [denVK, T.denV, denL, E.den, D.cells, h69, D.flat, D.flat0, D.den1, unD]
  cases k4 : hasPl (hsum hs ls (List.range ls.length))
  rotate_left
  · simp [natsD, nums, T.denV, denVK, E.den, denL]
  simp [denVK, T.denV, denL, E.den, D.cells, D.den1]
  rw [iter_idxe (σ := List Nat) (α := Lk) (enc := fun i left => [I i, natsD left]) (step := cGo hs ls) (u := 0) (fin := fun left => [natsD left]) (xs := ls) (fun _ left => (∀ n ∈ left, n < ls.length) ∧ left.length ≤ 10) (s := List.range ls.length)]
  · rw [cFold_eq]
    simp [denVK, T.denV, denL, E.den]
  · rfl
  · intro i l left hi hI
    obtain ⟨hlt, rfl⟩ := List.getElem?_eq_some_iff.1 hi
    have hlt' : (i : Int) < ls.length := by omega
    have h70 := e70 (left.map fun n : Nat => (n : Int)) i (by rw [List.length_map]; omega)
    rw [natsD_filter] at h70
    have hI2 : (∀ n ∈ left.filter (fun j => j != i), n < ls.length) ∧ (left.filter fun j => j != i).length ≤ 10 := ⟨fun n hn => hI.1 n ((List.mem_filter.1 hn).1), Nat.le_trans (List.length_filter_le _ _) hI.2⟩
    have h69 := e69 hs ls (left.filter fun j => j != i) hin hok hI2.1 hlen (by omega) hI2.2
    have sh := shal_nums (n := 0) (xs := (left.filter fun j => j != i).map fun n : Nat => (n : Int))
    simp only [cGo, cStep]
    change D.shal 1 (natsD (left.filter fun j => j != i)) = true at sh
    change evL FN 70 [natsD left, I i] = _ at h70
    simp only [hfs, lks, I] at h69 h70
    generalize left.filter (fun j => j != i) = oth at *
    cases k5 : hasPl (hsum hs ls oth) <;> rw [k5] at h69 <;>
      simp [hlt', h70, h69, sh, D.flat, D.flat0, outOf, denVK, T.denV, denL, E.den, D.cells, D.den1, binD, wrapN (show i < 9223372036854775807 by omega)]
  · intro i l left left' hi hI e
    cases e
    exact cStep_in hI
  · intro left _
    simp [binD, outOf, denL, E.den]
  · exact ⟨fun n hn => List.mem_range.1 hn, by simp; omega⟩
end Go.Q
