/- Guide: the statement on looks. -/
import Derived.Test.YtpammdlgoeoeaaaGh2
import Derived.Test.YtpammdlgoeoeaaaGc7
set_option linter.unusedVariables false
set_option linter.unusedSimpArgs false
namespace Go.Q
open Go.V
theorem getD_set {out : List Bool} {i j : Nat} {b : Bool} (hi : i < out.length) : (out.set i b).getD j true = if j = i then b else out.getD j true := by
  simp only [List.getD_eq_getElem?_getD, List.getElem?_set]
  by_cases e : i = j
  · subst e; simp [hi]
  · rw [if_neg e, if_neg (by omega)]
theorem names_set_le {out : List Bool} {i k : Nat} {b : Bool} (hi : i < out.length) (hk : k ≤ i) : names (out.set i b) k = names out k := by
  unfold names
  apply List.filter_congr
  intro j hj
  have := List.mem_range.1 hj
  rw [getD_set hi, if_neg (by omega)]
theorem names_set {out : List Bool} {i n : Nat} (hi : i < out.length) : names (out.set i true) n = (names out n).filter fun j => j != i := by
  unfold names
  rw [List.filter_filter]
  apply List.filter_congr
  intro j hj
  rw [getD_set hi]
  by_cases e : j = i
  · subst e; simp
  · rw [if_neg e]
    have : (j != i) = true := by simpa using e
    rw [this, Bool.true_and]
def rStep (hs : List Hf) (ls : List Lk) (i : Nat) (out : List Bool) : List Bool := if hasPl (hsum hs ls (names (out.set i true) ls.length)) then out else out.set i true
def rGo (hs : List Hf) (ls : List Lk) (i : Nat) (out : List Bool) (_ : Lk) : Except (Nat × List D) (List Bool) := .ok (rStep hs ls i out)
def rFold (hs : List Hf) (ls : List Lk) : Nat → List Bool → List Lk → List Bool
  | _, out, [] => out
  | i, out, _ :: l => rFold hs ls (i + 1) (rStep hs ls i out) l
theorem rFold_eq {hs : List Hf} {ls : List Lk} : ∀ (l : List Lk) (i : Nat) (out : List Bool), foldI (rGo hs ls) i out l = .ok (rFold hs ls i out l)
  | [], _, _ => rfl
  | _ :: l, i, out => by
    simp only [foldI, rGo, rFold]
    exact rFold_eq l _ _
structure RInv (n i : Nat) (out : List Bool) : Prop where
  len : out.length = n
  no : ∀ j, i ≤ j → j < n → out.getD j true = false
theorem RInv.step {hs : List Hf} {ls : List Lk} {i : Nat} {out : List Bool} (h : RInv ls.length i out) (hi : i < ls.length) : RInv ls.length (i + 1) (rStep hs ls i out) := by
  unfold rStep
  split
  · exact ⟨h.len, fun j h1 h2 => h.no j (by omega) h2⟩
  · refine ⟨by simp [h.len], fun j h1 h2 => ?_⟩
    rw [getD_set (by rw [h.len]; exact hi), if_neg (by omega)]
    exact h.no j (by omega) h2
theorem fold_same {hs : List Hf} {ls : List Lk} : ∀ (l : List Lk) (i : Nat) (out : List Bool), RInv ls.length i out → i + l.length = ls.length → cFold hs ls i (names out ls.length) l = names (rFold hs ls i out l) ls.length
  | [], _, _, _, _ => rfl
  | x :: l, i, out, h, hl => by
    simp only [List.length_cons] at hl
    have hi : i < ls.length := by omega
    have hio : i < out.length := by rw [h.len]; exact hi
    simp only [cFold, rFold]
    have : cStep hs ls i (names out ls.length) = names (rStep hs ls i out) ls.length := by
      unfold cStep rStep
      rw [← names_set hio]
      split <;> rfl
    rw [this]
    exact fold_same l (i + 1) _ (h.step hi) (by omega)
theorem names_false {n : Nat} : ∀ {m : Nat}, m ≤ n → names (List.replicate n false) m = List.range m := by
  intro m hm
  unfold names
  rw [List.filter_eq_self]
  intro j hj
  have := List.mem_range.1 hj
  simp [show j < n by omega]
theorem shal_boolsD {n : Nat} {bs : List Bool} : D.shal (n + 1) (boolsD bs) = true := by
  have : ∀ (n : Nat) (b : Bool), D.shal1 n (.bool b) = true := fun n b => by cases n <;> rfl
  simp [D.shal, D.shal1, D.shal0, boolsD, this]
set_option maxHeartbeats 3200000 in
theorem e36 (hs : List Hf) (ls : List Lk) (hl : hs.length < 9223372036854775807) : evL FN 36 [.node [hfs hs], lks ls] = some (.node [natsD (clashS hs ls).1, I (clashS hs ls).2]) := by
  refine evL_of (F := F36) rfl ?_
  have h74 := e74 hs hl
  simp only [hfs, I] at h74
  unfold clashS
  cases k1 : okA hs
  · rw [k1] at h74
    simp [F36, Fn.denV, fits, T.denV, denVK, denL, E.den, D.cells, hfs, lks, natsD, nums, D.den1, binD, unD, h74]
  rw [k1] at h74
  obtain ⟨hin, hlen⟩ := okA_in k1
  by_cases k2 : 10 < ls.length
  · have k2' : (10 : Int) < ls.length := by omega
    simp [F36, Fn.denV, fits, T.denV, denVK, denL, E.den, D.cells, hfs, lks, natsD, nums, D.den1, binD, unD, h74, k2, k2']
  have k2' : ¬ (10 : Int) < ls.length := by omega
  obtain ⟨b, k3⟩ : ∃ b, ls.all Lk.ok = b := ⟨_, rfl⟩
  rw [k3]
  simp [F36, Fn.denV, fits, T.denV, denVK, denL, E.den, D.cells, hfs, lks, D.den1, binD, unD, h74, k2, k2', -List.all_eq_true]
  rw [iter_all (p := Lk.ok) (t := 0) (u := 1) (xs := ls), k3]
  rotate_left
  · intro i l hi
    obtain ⟨hlt, rfl⟩ := List.getElem?_eq_some_iff.1 hi
    have hlt' : (i : Int) < ls.length := by omega
    have h42 := e42 ls[i]
    simp only [Lk.c] at h42
    cases e : ls[i].ok <;> rw [e] at h42 <;>
      simp [hlt, hlt', idx_nat hlt, hi, Lk.c, partD, D.cells, h42, unD, outOf, denL, E.den, wrapN (show i < 9223372036854775807 by omega)]
  · simp [outOf, denL]
  cases b
  · simp [denVK, T.denV, denL, E.den, natsD, nums]
  have hok : ∀ l ∈ ls, l.ok = true := by simpa using k3
  have hmk : D.den1 (.mkS 1 1 [.bool false]) [I ls.length, I ls.length] = some (boolsD (List.replicate ls.length false)) := by
    simp only [D.den1]
    rw [if_pos ⟨by omega, by omega, by omega, rfl⟩]
    simp [boolsD]
  have h80 := e80 hs ls (List.replicate ls.length false) hin hok (by simp) hlen (by omega)
  rw [names_false (Nat.le_refl _)] at h80
  have hB : ∀ op (x y : D), D.den1 (.bin op) [x, y] = binD op x y := fun _ _ _ => rfl
  have hLen : ∀ xs : List (List D), D.den1 .len [.list xs] = some (.int .i64 xs.length) := fun _ => rfl
  simp only [hfs, lks, I] at h80 hmk
  simp [denVK, T.denV, denL, E.den, D.cells, hLen, hmk, h80, D.flat, D.flat0]
  cases k4 : hasPl (hsum hs ls (List.range ls.length))
  rotate_left
  · simp [natsD, nums, E.den, denL]
  simp [denVK, T.denV, denL, E.den, D.cells]
  rw [iter_idxe (σ := List Bool) (α := Lk) (enc := fun i out => [I i, boolsD out, natsD (names out i)]) (step := rGo hs ls) (u := 0) (fin := fun out => [natsD (names out ls.length)]) (xs := ls) (RInv ls.length) (s := List.replicate ls.length false)]
  · rw [rFold_eq, ← names_false (n := ls.length) (Nat.le_refl _), fold_same ls 0 _ ⟨by simp, fun j _ h => by simp [h]⟩ (by simp)]
    simp [denVK, T.denV, denL, E.den]
  · simp [names, natsD, nums]
  · intro i l out hi hI
    obtain ⟨hlt, rfl⟩ := List.getElem?_eq_some_iff.1 hi
    have hlt' : (i : Int) < ls.length := by omega
    have hio : i < out.length := by rw [hI.len]; exact hlt
    have hoi : out[i]? = some out[i] := List.getElem?_eq_getElem hio
    have hof : out[i] = false := by have := hI.no i (Nat.le_refl _) hlt; simpa [hio] using this
    have h80 := e80 hs ls (out.set i true) hin hok (by simp [hI.len]) hlen (by omega)
    have hidx := idx_nat hio
    have hset : ∀ b : Bool, (out.set i b).set i false = out := fun b => by
      rw [List.set_set]
      apply List.ext_getElem (by simp)
      intro j h1 h2
      by_cases e : i = j
      · subst e; simp [hof]
      · simp [e]
    have hn : names out (i + 1) = names out i ++ [i] := by rw [names_succ, show out.getD i true = false by simp [hio, hof]]; rfl
    have hn2 : names (out.set i true) (i + 1) = names out i := by rw [names_succ, getD_set hio, if_pos rfl, names_set_le hio (Nat.le_refl _)]; simp
    have hs1 : D.den1 (.set 0) [boolsD out, I i, .bool true] = some (boolsD (out.set i true)) := by
      simp [D.den1, boolsD, hidx, hio, putD, hoi, List.map_set]
    have hs2 : D.den1 (.set 0) [boolsD (out.set i true), I i, .bool false] = some (boolsD out) := by
      have hh : (out.set i true)[i]? = some true := by simp [hio]
      have : D.den1 (.set 0) [boolsD (out.set i true), I i, .bool false] = some (boolsD ((out.set i true).set i false)) := by
        simp [D.den1, boolsD, hidx, hio, putD, hh, List.map_set]
      rw [this, hset]
    have hi1 : D.den1 (.idx 1) [boolsD out, I i] = some .unit := by simp [D.den1, boolsD, hidx, hio, hoi]
    have hi2 : D.den1 (.idx 1) [boolsD (out.set i true), I i] = some .unit := by simp [D.den1, boolsD, hidx, hio]
    have hnl := names_len (out := out) (i := i)
    have hcap : ((names out i).length + 1 + 1) * 9 ≤ 1099511627776 := capn (by omega)
    have happ : D.den1 (.app 1 8) [natsD (names out i), .list [[I i]]] = some (natsD (names out i ++ [i])) := by
      simp [D.den1, natsD, nums, hcap]
    have hlo : D.den1 (.listOf 1 1 [.int .i64 (0)] [0]) [I i] = some (.list [[I i]]) := by simp [D.den1, fillD]
    simp only [rGo, rStep]
    simp only [hfs, lks, I] at h80 hs1 hs2 hi1 hi2 happ hlo
    cases k5 : hasPl (hsum hs ls (names (out.set i true) ls.length)) <;> rw [k5] at h80
    · simp [hlt', hLen, hB, binD, hs1, hs2, hi1, hi2, h80, D.flat, D.flat0, outOf, denVK, T.denV, denL, E.den, D.cells, hn2, wrapN (show i < 9223372036854775807 by omega)]
    · simp [hlt', hLen, hB, binD, hs1, hs2, hi1, hi2, h80, happ, hlo, D.flat, D.flat0, outOf, denVK, T.denV, denL, E.den, D.cells, hn, wrapN (show i < 9223372036854775807 by omega)]
  · intro i l out out' hi hI e
    obtain ⟨hlt, -⟩ := List.getElem?_eq_some_iff.1 hi
    cases e
    exact hI.step hlt
  · intro out hI
    simp [hLen, hB, binD, outOf, denL, E.den]
  · exact ⟨by simp, fun j _ h => by simp [h]⟩
end Go.Q
