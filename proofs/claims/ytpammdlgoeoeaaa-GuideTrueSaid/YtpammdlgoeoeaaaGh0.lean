/- Guide: looks that are named. -/
import Derived.Test.YtpammdlgoeoeaaaGsi
import Derived.Test.YtpammdlgoeoeaaaGc4
set_option linter.unusedVariables false
set_option linter.unusedSimpArgs false
namespace Go.Q
open Go.V
theorem e98 (hs : List Hf) (hl : hs.length < 1000000) : evL FN 98 [hfs hs] = some (hfs hs) := by
  refine evL_of (F := F98) rfl ?_
  have c := cap25 hl
  simp [F98, Fn.denV, fits, T.denV, denVK, denL, E.den, D.cells, hfs, D.den1, c, Hf.d]
theorem e100 (xs : List Int) (hl : xs.length < 1000000) : evL FN 100 [nums xs] = some (nums xs) := by
  refine evL_of (F := F100) rfl ?_
  have c : (xs.length + 1) * 9 ≤ 1099511627776 := by omega
  simp [F100, Fn.denV, fits, T.denV, denVK, denL, E.den, D.cells, nums, D.den1, c]
theorem e68 (ls : List Lk) (hl : ls.length < 9223372036854775807) : evL FN 68 [lks ls, .fn 51 [] []] = some (.bool (ls.all Lk.ok)) := by
  refine evL_of (F := F68) rfl ?_
  simp only [F68, Fn.denV, fits, T.denV, denVK, denL, E.den, lks, D.den1, List.getD_cons_zero, List.getD_cons_succ, Bool.and_true, Bool.and_self, if_true, List.cons_append, List.nil_append, List.length_map]
  rw [iter_all (p := Lk.ok) (t := 0) (u := 1) (xs := ls)]
  · cases ls.all Lk.ok <;> simp [denVK, T.denV, E.den]
  · intro i l hi
    obtain ⟨hlt, rfl⟩ := List.getElem?_eq_some_iff.1 hi
    have h51 := e51 (ls[i])
    simp only [Lk.c] at h51
    cases e : ls[i].ok <;> rw [e] at h51 <;>
      simp [binD, hlt, idx_nat hlt, hi, Lk.c, partD, D.cells, h51, D.flat, D.flat0, unD, wrapN (show i < 9223372036854775807 by omega), outOf, denL, E.den]
  · simp [binD, outOf, denL]
/-- The halves of an area and of the looks that are named. -/
def hsum (hs : List Hf) (ls : List Lk) (ns : List Nat) : List Hf := hs ++ ns.flatMap fun j => (ls.getD j ⟨0, 0, 0, 0, 0, 0, 0, 0, 0, 0⟩).hv
def natsD (ns : List Nat) : D := nums (ns.map fun n : Nat => (n : Int))
theorem hsum_len {hs : List Hf} {ls : List Lk} : ∀ {ns : List Nat}, (hsum hs ls ns).length ≤ hs.length + 4 * ns.length := by
  intro ns
  unfold hsum
  rw [List.length_append]
  induction ns with
  | nil => simp
  | cons n ns ih =>
    have := (ls.getD n ⟨0, 0, 0, 0, 0, 0, 0, 0, 0, 0⟩).hv_len
    simp only [List.flatMap_cons, List.length_append, List.length_cons]
    omega
theorem hsum_in {hs : List Hf} {ls : List Lk} {ns : List Nat} (h1 : ∀ h ∈ hs, h.In) (h2 : ∀ l ∈ ls, l.ok = true) (h3 : ∀ n ∈ ns, n < ls.length) : ∀ h ∈ hsum hs ls ns, h.In := by
  intro h hm
  rcases List.mem_append.1 hm with hm | hm
  · exact h1 h hm
  · obtain ⟨j, hj, hm⟩ := List.mem_flatMap.1 hm
    have hlt := h3 j hj
    have : ls.getD j ⟨0, 0, 0, 0, 0, 0, 0, 0, 0, 0⟩ = ls[j] := by simp [hlt]
    rw [this] at hm
    exact Lk.hvIn (h2 _ (List.getElem_mem hlt)) h hm
theorem hsum_snoc {hs : List Hf} {ls : List Lk} {ns : List Nat} {n : Nat} : hsum hs ls (ns ++ [n]) = hsum hs ls ns ++ (ls.getD n ⟨0, 0, 0, 0, 0, 0, 0, 0, 0, 0⟩).hv := by
  simp [hsum]
theorem e69 (hs : List Hf) (ls : List Lk) (ns : List Nat) (h1 : ∀ h ∈ hs, h.In) (h2 : ∀ l ∈ ls, l.ok = true) (h3 : ∀ n ∈ ns, n < ls.length) (l1 : hs.length ≤ 40) (l2 : ls.length ≤ 10) (l3 : ns.length ≤ 10) :
    evL FN 69 [.node [hfs hs], lks ls, natsD ns] = some (.bool (!hasPl (hsum hs ls ns))) := by
  refine evL_of (F := F69) rfl ?_
  have h98 := e98 hs (by omega)
  simp only [hfs] at h98
  simp [F69, Fn.denV, fits, T.denV, denVK, denL, E.den, D.cells, hfs, lks, natsD, nums, D.den1, h98]
  rw [iter_try (p := fun _ => true) (t := 0) (u := 0) (xs := ns) (r0 := []) (r := [hfs (hsum hs ls ns)]) (st := fun i => [I i, hfs (hsum hs ls (ns.take i))])]
  · have h54 := e54 (hsum hs ls ns) (hsum_in h1 h2 h3) (by have := hsum_len (hs := hs) (ls := ls) (ns := ns); omega)
    simp [denVK, T.denV, denL, E.den, h54, D.flat, D.flat0, D.den1, unD]
  · simp [hsum, hfs]
  · intro i n hi
    obtain ⟨hlt, rfl⟩ := List.getElem?_eq_some_iff.1 hi
    have hlt' : (i : Int) < ns.length := by omega
    have hn := h3 _ (List.getElem_mem hlt)
    have h53 := e53 (h2 _ (List.getElem_mem hn))
    have htk : ns.take (i + 1) = ns.take i ++ [ns[i]] := by rw [List.take_add_one, hi]; rfl
    have hg : ls.getD ns[i] ⟨0, 0, 0, 0, 0, 0, 0, 0, 0, 0⟩ = ls[ns[i]] := by simp [hn]
    rw [htk, hsum_snoc, hg]
    have hlen := hsum_len (hs := hs) (ls := ls) (ns := ns.take i)
    have hv4 := (ls[ns[i]]).hv_len
    have hti : (ns.take i).length ≤ 10 := by rw [List.length_take]; omega
    have hcap : ((hsum hs ls (ns.take i)).length + (ls[ns[i]]).hv.length + 1) * 25 ≤ 1099511627776 := cap25 (by omega)
    have hidx := idx_nat hlt
    have hidx2 := idx_nat hn
    have hl2 : ls[ns[i]]? = some ls[ns[i]] := List.getElem?_eq_getElem hn
    generalize hsum hs ls (ns.take i) = Q at hcap ⊢
    generalize (ls[ns[i]]).hv = V at hcap h53 ⊢
    simp only [hfs, Lk.c, I] at h53 hidx hidx2
    simp [binD, hlt, hlt', hidx, hidx2, hn, hi, hl2, Lk.c, hfs, partD, D.cells, h53, hcap, outOf, denL, E.den, Hf.d, wrapN (show i < 9223372036854775807 by omega)]
  · simp [binD, outOf, denL, E.den]
/-- What is left over when a list is gone through. -/
structure Del (xs : List Int) (k : Int) (j i : Nat) (cur : List Int) : Prop where
  len : cur.length = xs.length
  pre : cur.take i = (xs.take j).filter fun x => x != k
  cnt : i = ((xs.take j).filter fun x => x != k).length
  post : cur.drop j = xs.drop j
  lt : i < j
theorem Del.step {xs : List Int} {k : Int} {j i : Nat} {cur : List Int} (h : Del xs k j i cur) (hj : j < xs.length) :
    cur[j]? = some xs[j] ∧ if xs[j] = k then Del xs k (j + 1) i cur else Del xs k (j + 1) (i + 1) (cur.set i xs[j]) := by
  have hc : cur[j]? = some xs[j] := by
    have := congrArg (fun l => l[0]?) h.post
    simpa [hj] using this
  refine ⟨hc, ?_⟩
  have htk : xs.take (j + 1) = xs.take j ++ [xs[j]] := by rw [List.take_add_one, List.getElem?_eq_getElem hj]; rfl
  have hd : cur.drop (j + 1) = xs.drop (j + 1) := by
    have := congrArg (fun l => l.drop 1) h.post
    simpa [List.drop_drop, Nat.add_comm] using this
  have hl := h.lt
  split
  · rename_i e
    refine ⟨h.len, ?_, ?_, hd, by omega⟩
    · rw [htk, List.filter_append, h.pre]; simp [e]
    · rw [htk, List.filter_append, List.length_append, ← h.cnt]; simp [e]
  · rename_i e
    have hi : i < cur.length := by rw [h.len]; omega
    refine ⟨by simp [h.len], ?_, ?_, ?_, by omega⟩
    · rw [htk, List.filter_append, ← h.pre, List.take_add_one, List.getElem?_set_self hi, List.take_set_of_le (Nat.le_refl _)]
      simp [e]
    · rw [htk, List.filter_append, List.length_append, ← h.cnt]; simp [e]
    · rw [List.drop_set_of_lt (by omega)]; exact hd
theorem del_loop {xs : List Int} {k : Int} {g : List D → Option (Option Nat × List D)}
    (h1 : ∀ (i j : Nat) (cur : List Int), j < xs.length → i < j → cur.length = xs.length → cur[j]? = some (xs.getD j 0) → g [I i, I j, nums cur] = some (none, if xs.getD j 0 = k then [I i, I (j + 1 : Nat), nums cur] else [I (i + 1 : Nat), I (j + 1 : Nat), nums (cur.set i (xs.getD j 0))]))
    (h2 : ∀ (i : Nat) (cur : List Int), cur.length = xs.length → g [I i, I xs.length, nums cur] = some (some 0, [I i, nums cur])) :
    ∀ (m j i : Nat) (cur : List Int), m + j = xs.length → Del xs k j i cur → ∃ i' cur', Del xs k xs.length i' cur' ∧ iterL g [I i, I j, nums cur] = some (0, [I i', nums cur'])
  | 0, j, i, cur, hm, hd => by
    have : j = xs.length := by omega
    subst this
    exact ⟨i, cur, hd, by rw [iterL_eq, h2 i cur hd.len]⟩
  | m + 1, j, i, cur, hm, hd => by
    have hj : j < xs.length := by omega
    obtain ⟨s1, s2⟩ := hd.step hj
    have hg : xs.getD j 0 = xs[j] := by simp [hj]
    have := h1 i j cur hj hd.lt hd.len (by rw [hg]; exact s1)
    rw [hg] at this
    rw [iterL_eq, this]
    by_cases e : xs[j] = k
    · rw [if_pos e] at s2
      simp only [if_pos e]
      exact del_loop h1 h2 m (j + 1) i cur (by omega) s2
    · rw [if_neg e] at s2
      simp only [if_neg e]
      exact del_loop h1 h2 m (j + 1) (i + 1) _ (by omega) s2
/-- Where a number is first. -/
theorem find_loop {xs : List Int} {k : Int} {g : List D → Option (Option Nat × List D)}
    (h1 : ∀ (i : Nat), i < xs.length → g [I i] = if xs.getD i 0 = k then some (some 0, [I i]) else some (none, [I (i + 1 : Nat)]))
    (h2 : g [I xs.length] = some (some 1, [])) :
    (iterL g [I 0] = some (1, []) ∧ ∀ x ∈ xs, x ≠ k) ∨ ∃ p : Nat, ∃ hp : p < xs.length, xs[p] = k ∧ (∀ x ∈ xs.take p, x ≠ k) ∧ iterL g [I 0] = some (0, [I p]) := by
  have key : ∀ (m i : Nat), m + i = xs.length → (∀ x ∈ xs.take i, x ≠ k) → (iterL g [I i] = some (1, []) ∧ ∀ x ∈ xs, x ≠ k) ∨ ∃ p : Nat, ∃ hp : p < xs.length, xs[p] = k ∧ (∀ x ∈ xs.take p, x ≠ k) ∧ iterL g [I i] = some (0, [I p]) := by
    intro m
    induction m with
    | zero =>
      intro i hi ha
      have : i = xs.length := by omega
      subst this
      left
      rw [List.take_length] at ha
      exact ⟨by rw [iterL_eq, h2], ha⟩
    | succ m ih =>
      intro i hi ha
      have hlt : i < xs.length := by omega
      have hg : xs.getD i 0 = xs[i] := by simp [hlt]
      have hs := h1 i hlt
      rw [hg] at hs
      by_cases e : xs[i] = k
      · right
        rw [if_pos e] at hs
        exact ⟨i, hlt, e, ha, by rw [iterL_eq, hs]⟩
      · rw [if_neg e] at hs
        have := ih (i + 1) (by omega) (by
          intro x hx
          rw [List.take_add_one, List.getElem?_eq_getElem hlt] at hx
          simp only [Option.toList, List.mem_append, List.mem_singleton] at hx
          rcases hx with hx | rfl
          · exact ha x hx
          · exact e)
        rw [iterL_eq, hs]
        exact this
  exact key xs.length 0 (by omega) (by simp)
def nums0 (xs : List Int) : List (List D) := xs.map fun n => [I n]
set_option maxHeartbeats 1600000 in
theorem e70 (xs : List Int) (k : Int) (hl : xs.length < 1000) : evL FN 70 [nums xs, I k] = some (nums (xs.filter fun x => x != k)) := by
  refine evL_of (F := F70) rfl ?_
  have h100 := e100 xs (by omega)
  simp only [nums, I] at h100
  simp [F70, Fn.denV, fits, T.denV, denVK, denL, E.den, D.cells, nums, D.den1, h100]
  have hgd : ∀ i (h : i < xs.length), xs.getD i 0 = xs[i] := fun i h => by simp [h]
  generalize hG : iterL _ [D.int .i64 0] = r
  have hr : (r = some (1, []) ∧ ∀ x ∈ xs, x ≠ k) ∨ ∃ p : Nat, ∃ hp : p < xs.length, xs[p] = k ∧ (∀ x ∈ xs.take p, x ≠ k) ∧ r = some (0, [I p]) := by
    rw [← hG]
    clear hG
    refine find_loop ?_ ?_
    · intro i hi
      have hi' : (i : Int) < xs.length := by omega
      have hx : xs[i]? = some xs[i] := List.getElem?_eq_getElem hi
      have hidx := idx_nat hi
      simp only [I] at hidx
      rw [hgd i hi]
      by_cases e : xs[i] = k
      · simp [binD, hi, hi', hidx, hx, partD, e, outOf, denL, E.den]
      · simp [binD, hi, hi', hidx, hx, partD, e, outOf, denL, E.den, wrapN (show i < 9223372036854775807 by omega)]
    · simp [binD, outOf, denL]
  clear hG
  rcases hr with ⟨rfl, ha⟩ | ⟨p, hp, e, ha, rfl⟩
  · have hf : xs.filter (fun x => x != k) = xs := List.filter_eq_self.2 fun x hx => by simpa using ha x hx
    simp [hf, outOf, denVK, T.denV, denL, E.den, D.den1, binD]
  · have hne : ¬ ((p : Int) = -1) := by omega
    have hpw := wrapN (show p < 9223372036854775807 by omega)
    simp [outOf, denVK, T.denV, denL, E.den, D.den1, binD, unD, hne, hpw]
    generalize hG : iterL _ _ = r
    have htp : (xs.take p).filter (fun x => x != k) = xs.take p := List.filter_eq_self.2 fun x hx => by simpa using ha x hx
    have hD0 : Del xs k (p + 1) p xs := ⟨rfl, by rw [List.take_add_one, List.getElem?_eq_getElem hp, List.filter_append, htp]; simp [e], by rw [List.take_add_one, List.getElem?_eq_getElem hp, List.filter_append, htp]; simp [e]; omega, rfl, by omega⟩
    have hr : ∃ i' cur', Del xs k xs.length i' cur' ∧ r = some (0, [I i', nums cur']) := by
      rw [← hG]
      clear hG
      refine del_loop ?_ ?_ (xs.length - (p + 1)) (p + 1) p xs (by omega) hD0
      · intro i j cur hj hij hlen hcj
        have hj' : (j : Int) < cur.length := by omega
        have hjc : j < cur.length := by omega
        have hic : i < cur.length := by omega
        have hidx := idx_nat hjc
        have hidx2 := idx_nat hic
        have hci : cur[i]? = some cur[i] := List.getElem?_eq_getElem hic
        simp only [I] at hidx hidx2
        generalize xs.getD j 0 = x at hcj ⊢
        obtain ⟨_, rfl⟩ := List.getElem?_eq_some_iff.1 hcj
        by_cases e : cur[j] = k
        · simp [nums, hjc, hj', hidx, hcj, partD, e, outOf, denVK, T.denV, denL, E.den, D.den1, binD, unD, wrapN (show j < 9223372036854775807 by omega)]
        · simp [nums, hjc, hic, hj', hidx, hidx2, hcj, hci, partD, putD, e, outOf, denVK, T.denV, denL, E.den, D.den1, binD, unD, wrapN (show j < 9223372036854775807 by omega), wrapN (show i < 9223372036854775807 by omega)]
      · intro i cur hlen
        simp [nums, hlen, outOf, denVK, T.denV, denL, E.den, D.den1, binD]
    clear hG
    obtain ⟨i', cur', hD, rfl⟩ := hr
    have hlt := hD.lt
    have hlen := hD.len
    have hpre := hD.pre
    rw [List.take_length] at hpre
    have hu : D.upto (.int .i64 i') cur'.length = some i' := upto_nat (by omega)
    have hu2 : D.upto (.int .i64 i') (i' + (cur'.length - i')) = some i' := upto_nat (by omega)
    have hmin : min i' cur'.length = i' := by omega
    have hA : ∀ l : List Int, (l.map fun n => [I n]).all (fun y => y.length == 1) = true := fun l => by simp
    have d1 : D.den1 (.sl 1 true false) [nums cur', I i'] = some (nums (cur'.drop i')) := by
      simp only [nums, D.den1]
      rw [if_pos (hA _), List.length_map, hu]
      simp [nums]
    have d2 : D.den1 (.clr 1 [.int .i64 (0)]) [nums cur', I i'] = some (.list ((nums0 (cur'.take i')) ++ List.replicate (cur'.length - i') [.int .i64 0])) := by
      simp only [nums, D.den1]
      rw [if_pos (show [D.int .i64 0].length = 1 from rfl), List.length_map, hu]
      simp [nums0]
    have d3 : D.den1 (.sl 1 false true) [.list ((nums0 (cur'.take i')) ++ List.replicate (cur'.length - i') [.int .i64 0]), I i'] = some (nums (cur'.take i')) := by
      simp only [D.den1]
      have hl : (nums0 (cur'.take i') ++ List.replicate (cur'.length - i') [D.int .i64 0]).length = i' + (cur'.length - i') := by simp [nums0]; omega
      rw [if_pos, hl, hu2]
      · have : (nums0 (cur'.take i')).length = i' := by simp [nums0]; omega
        simp only [Option.map_some]
        rw [List.take_append_of_le_length (by omega), List.take_of_length_le (by omega)]
        rfl
      · rw [List.all_append, show (nums0 (cur'.take i')).all (fun y => y.length == 1) = true from hA _]
        simp
    rw [hpre] at d2 d3
    simp only [I] at d1 d2 d3
    simp [denVK, T.denV, denL, E.den, d1, d2, d3, outOf]
    rfl
end Go.Q
