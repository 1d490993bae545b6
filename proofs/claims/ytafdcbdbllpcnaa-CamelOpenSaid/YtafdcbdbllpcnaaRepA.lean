/- An element of an array of two pairs. -/
import Derived.Test.YtafdcbdbllpcnaaLeafX
import Derived.Test.YtafdcbdbllpcnaaMtCl
import Derived.Test.YtafdcbdbllpcnaaDayT
import Derived.Test.YtafdcbdbllpcnaaLate
import Derived.Laws.MakeOwn
namespace Go.Proofs.Ytafdcbdbllpcnaa
open Go.RowKit
set_option maxRecDepth 100000 in
theorem index146_0 (a b c d : Value) (W : World) : (Instr.index 146 (.agg #[a, b, c, d]) (.int .i64 0)).run Try.prog W = .ok (.agg #[a, b]) W := by
  kernel_rfl
set_option maxRecDepth 100000 in
theorem index146_1 (a b c d : Value) (W : World) : (Instr.index 146 (.agg #[a, b, c, d]) (.int .i64 1)).run Try.prog W = .ok (.agg #[c, d]) W := by
  kernel_rfl
end Go.Proofs.Ytafdcbdbllpcnaa
/- The sweep of the meetings by their days, plain. -/
namespace Go.Proofs.Ytafdcbdbllpcnaa

/-- Lists of spans of days as functions of the animal. -/
def fL (ss : List (Int × Int)) (i : Int) : Int := if 0 ≤ i then (ss.getD i.toNat (0, 0)).1 else 0
def fH (ss : List (Int × Int)) (i : Int) : Int := if 0 ≤ i then (ss.getD i.toNat (0, 0)).2 else 0
theorem fL_nat (ss : List (Int × Int)) (k : Nat) : fL ss (k : Int) = (ss.getD k (0, 0)).1 := by simp [fL]
theorem fH_nat (ss : List (Int × Int)) (k : Nat) : fH ss (k : Int) = (ss.getD k (0, 0)).2 := by simp [fH]
theorem getD_set_ne {ss : List (Int × Int)} {j k : Nat} {v : Int × Int} (h : k ≠ j) : (ss.set j v).getD k (0, 0) = ss.getD k (0, 0) := by
  simp [List.getD, List.getElem?_set_ne (fun e => h e.symm)]
theorem getD_set_eq {ss : List (Int × Int)} {j : Nat} {v : Int × Int} (h : j < ss.length) : (ss.set j v).getD j (0, 0) = v := by simp [h]
theorem fL_set {ss : List (Int × Int)} {j : Nat} {v : Int × Int} (h : j < ss.length) : fL (ss.set j v) = upd (fL ss) (j : Int) v.1 := by
  funext i
  unfold fL upd
  by_cases e : i = (j : Int)
  · subst e
    simp [h]
  · rw [if_neg e]
    by_cases hi : 0 ≤ i
    · simp only [hi, if_true, getD_set_ne (show i.toNat ≠ j by omega)]
    · simp only [hi, if_false]
theorem fH_set {ss : List (Int × Int)} {j : Nat} {v : Int × Int} (h : j < ss.length) : fH (ss.set j v) = upd (fH ss) (j : Int) v.2 := by
  funext i
  unfold fH upd
  by_cases e : i = (j : Int)
  · subst e
    simp [h]
  · rw [if_neg e]
    by_cases hi : 0 ≤ i
    · simp only [hi, if_true, getD_set_ne (show i.toNat ≠ j by omega)]
    · simp only [hi, if_false]

/-- One direction of a meeting, early and late. -/
def dir (D : Int) (wt : Int × Int) (c : Bool) (i j : Nat) (ss : List (Int × Int)) : List (Int × Int) :=
  ss.set j (if (ss.getD i (0, 0)).1 ≤ D then mn (ss.getD j (0, 0)).1 (D + wt.1) else (ss.getD j (0, 0)).1, if c = true ∧ (ss.getD i (0, 0)).2 ≤ D then mn (ss.getD j (0, 0)).2 (D + wt.2) else (ss.getD j (0, 0)).2)
theorem dir_len (D : Int) (wt : Int × Int) (c : Bool) (i j : Nat) (ss : List (Int × Int)) : (dir D wt c i j ss).length = ss.length := by simp [dir]
theorem dir_L {D : Int} {wt : Int × Int} {c : Bool} {i j : Nat} {ss : List (Int × Int)} (hj : j < ss.length) : fL (dir D wt c i j ss) = passOn true D wt.1 (i : Int) (j : Int) (fL ss) := by
  unfold dir
  rw [fL_set hj]
  unfold passOn
  rw [fL_nat, fL_nat]
  by_cases h : (ss.getD i (0, 0)).1 ≤ D
  · rw [if_pos (show true = true ∧ (ss.getD i (0, 0)).1 ≤ D from ⟨rfl, h⟩)]; simp only [h, if_true]
  · rw [if_neg (show ¬ (true = true ∧ (ss.getD i (0, 0)).1 ≤ D) from fun hh => h hh.2)]
    simp only [h, if_false]
    funext k
    unfold upd
    by_cases e : k = (j : Int)
    · subst e; rw [if_pos rfl, fL_nat]
    · rw [if_neg e]
theorem dir_H {D : Int} {wt : Int × Int} {c : Bool} {i j : Nat} {ss : List (Int × Int)} (hj : j < ss.length) : fH (dir D wt c i j ss) = passOn c D wt.2 (i : Int) (j : Int) (fH ss) := by
  unfold dir
  rw [fH_set hj]
  unfold passOn
  rw [fH_nat, fH_nat]
  by_cases h : c = true ∧ (ss.getD i (0, 0)).2 ≤ D
  · simp only [if_pos h]
  · simp only [if_neg h]
    funext k
    unfold upd
    by_cases e : k = (j : Int)
    · subst e; rw [if_pos rfl, fH_nat]
    · rw [if_neg e]

/-- The same in two steps. -/
def dirL (D : Int) (wt : Int × Int) (i j : Nat) (ss : List (Int × Int)) : List (Int × Int) := ss.set j (if (ss.getD i (0, 0)).1 ≤ D then mn (ss.getD j (0, 0)).1 (D + wt.1) else (ss.getD j (0, 0)).1, (ss.getD j (0, 0)).2)
def dirH (D : Int) (wt : Int × Int) (c : Bool) (i j : Nat) (ss : List (Int × Int)) : List (Int × Int) := ss.set j ((ss.getD j (0, 0)).1, if c = true ∧ (ss.getD i (0, 0)).2 ≤ D then mn (ss.getD j (0, 0)).2 (D + wt.2) else (ss.getD j (0, 0)).2)
theorem dirL_len (D : Int) (wt : Int × Int) (i j : Nat) (ss : List (Int × Int)) : (dirL D wt i j ss).length = ss.length := by simp [dirL]
theorem dirH_len (D : Int) (wt : Int × Int) (c : Bool) (i j : Nat) (ss : List (Int × Int)) : (dirH D wt c i j ss).length = ss.length := by simp [dirH]
theorem dir_split {D : Int} {wt : Int × Int} {c : Bool} {i j : Nat} {ss : List (Int × Int)} (hj : j < ss.length) (hne : i ≠ j) : dir D wt c i j ss = dirH D wt c i j (dirL D wt i j ss) := by
  unfold dir dirH dirL
  rw [getD_set_eq hj, getD_set_ne hne, List.set_set]
theorem set_same {ss : List (Int × Int)} {j : Nat} (hj : j < ss.length) : ss.set j ((ss.getD j (0, 0)).1, (ss.getD j (0, 0)).2) = ss := by
  apply List.ext_getElem
  · simp
  · intro k h1 h2
    by_cases e : k = j
    · subst e
      simp [h2]
    · simp [List.getElem_set_ne (fun h => e h.symm)]
theorem dirL_yes {D : Int} {wt : Int × Int} {i j : Nat} {ss : List (Int × Int)} (h : (ss.getD i (0, 0)).1 ≤ D) : dirL D wt i j ss = ss.set j (mn (ss.getD j (0, 0)).1 (D + wt.1), (ss.getD j (0, 0)).2) := by unfold dirL; rw [if_pos h]
theorem dirL_no {D : Int} {wt : Int × Int} {i j : Nat} {ss : List (Int × Int)} (hj : j < ss.length) (h : ¬ (ss.getD i (0, 0)).1 ≤ D) : dirL D wt i j ss = ss := by unfold dirL; rw [if_neg h, set_same hj]
theorem dirH_yes {D : Int} {wt : Int × Int} {c : Bool} {i j : Nat} {ss : List (Int × Int)} (hc : c = true) (h : (ss.getD i (0, 0)).2 ≤ D) : dirH D wt c i j ss = ss.set j ((ss.getD j (0, 0)).1, mn (ss.getD j (0, 0)).2 (D + wt.2)) := by unfold dirH; rw [if_pos ⟨hc, h⟩]
theorem dirH_no {D : Int} {wt : Int × Int} {c : Bool} {i j : Nat} {ss : List (Int × Int)} (hj : j < ss.length) (h : ¬ (c = true ∧ (ss.getD i (0, 0)).2 ≤ D)) : dirH D wt c i j ss = ss := by unfold dirH; rw [if_neg h, set_same hj]

/-- What stands behind the meetings P. -/
structure Swp (first : List Int) (ms : List Mt) (wt : Int × Int) (n : Int) (P : List Mt) (ss : List (Int × Int)) : Prop where
  len : (ss.length : Int) = n
  sl : Snd first (fun x => x ∈ ms) wt.1 n 100001 (fL ss)
  bl : ∀ i ∈ first, fL ss i ≤ 0
  rl : Reck (fun x => x ∈ ms) (fun x => x ∈ P) wt.1 (fL ss)
  sh : Snd first (fun x => x ∈ ms ∧ x.close = true) wt.2 n 100001 (fH ss)
  bh : ∀ i ∈ first, fH ss i ≤ 0
  rh : Reck (fun x => x ∈ ms ∧ x.close = true) (fun x => x ∈ P) wt.2 (fH ss)
theorem Swp.step {first : List Int} {ms : List Mt} {wt : Int × Int} {n : Int} {P : List Mt} {ss : List (Int × Int)} (h : Swp first ms wt n P ss) {x : Mt} (hx : x ∈ ms) (ho : okMt n x) (hd : ∀ y ∈ P, y.day ≤ x.day) (hw : 1 ≤ wt.1) (hw2 : 1 ≤ wt.2) {i j : Nat} (hi : x.a = (i : Int)) (hj : x.b = (j : Int)) :
    Swp first ms wt n (P ++ [x]) (dir x.day wt x.close j i (dir x.day wt x.close i j ss)) := by
  obtain ⟨o1, o2, o3, o4, -⟩ := id ho
  have hlen := h.len
  have li : i < ss.length := by omega
  have lj : j < ss.length := by omega
  have eL : fL (dir x.day wt x.close j i (dir x.day wt x.close i j ss)) = both true x wt.1 (fL ss) := by
    rw [dir_L (by rw [dir_len]; exact li), dir_L lj, both, hi, hj]
  have eH : fH (dir x.day wt x.close j i (dir x.day wt x.close i j ss)) = both x.close x wt.2 (fH ss) := by
    rw [dir_H (by rw [dir_len]; exact li), dir_H lj, both, hi, hj]
  have hP : (fun y => y ∈ P ++ [x]) = fun y => y ∈ P ∨ y = x := by funext y; simp
  refine ⟨by rw [dir_len, dir_len]; exact hlen, ?_, ?_, ?_, ?_, ?_, ?_⟩
  · rw [eL]; exact h.sl.passes (fun _ => hx) ho (by omega)
  · rw [eL]; exact fun q hq => Int.le_trans (both_le ..) (h.bl q hq)
  · rw [eL, hP]; exact h.rl.passes (n := n) (fun _ => rfl) ho hd hw
  · rw [eH]; exact h.sh.passes (fun hc => ⟨hx, hc⟩) ho (by omega)
  · rw [eH]; exact fun q hq => Int.le_trans (both_le ..) (h.bh q hq)
  · rw [eH, hP]; exact h.rh.passes (n := n) (fun hx => hx.2) ho hd hw2
/-- At the end, or where the rest is too late. -/
theorem Swp.known {first : List Int} {ms : List Mt} {wt : Int × Int} {n d : Int} {P : List Mt} {ss : List (Int × Int)} (h : Swp first ms wt n P ss) (hf : ∀ i ∈ first, 0 ≤ i ∧ i < n) (ho : ∀ x ∈ ms, okMt n x) (hp : ∀ x ∈ ms, x ∈ P ∨ d < x.day + wt.1) (hw : 1 ≤ wt.1) (hw2 : wt.1 ≤ wt.2) (hd : d ≤ 100000) {k : Nat} (hk : (k : Int) < n) :
    Knw first ms wt d (k : Int) (if (ss.getD k (0, 0)).2 ≤ d then 2 else if (ss.getD k (0, 0)).1 ≤ d then 1 else 0) := by
  have e1 := reckoned (d := d) h.sl h.bl h.rl hf ho hp hw (by omega) (i := (k : Int)) ⟨by omega, hk⟩
  have e2 := reckoned (d := d) h.sh h.bh h.rh hf (fun x hx => ho x hx.1) (fun x hx => (hp x hx.1).imp id (fun h => by omega)) (by omega) (by omega) (i := (k : Int)) ⟨by omega, hk⟩
  rw [fL_nat] at e1
  rw [fH_nat] at e2
  exact Knw.told hw2 e1 e2
/-- At the beginning. -/
structure Sw0 (first L : List Int) (n : Int) (ss : List (Int × Int)) : Prop where
  len : (ss.length : Int) = n
  all : ∀ k, k < ss.length → ss.getD k (0, 0) = (100001, 100001) ∨ ((k : Int) ∈ first ∧ ss.getD k (0, 0) = (0, 0))
  fst : ∀ i ∈ L, fL ss i ≤ 0 ∧ fH ss i ≤ 0
theorem Sw0.start {first : List Int} {n : Nat} : Sw0 first [] (n : Int) (List.replicate n (100001, 100001)) :=
  ⟨by simp, fun k hk => .inl (by have : k < n := by simpa using hk
                                 simp [this]), fun i hi => by simp at hi⟩
theorem Sw0.step {first L : List Int} {n : Int} {ss : List (Int × Int)} (h : Sw0 first L n ss) {q : Nat} (hq : q < ss.length) (hm : (q : Int) ∈ first) : Sw0 first (L ++ [(q : Int)]) n (ss.set q (0, 0)) := by
  refine ⟨by simpa using h.len, fun k hk => ?_, fun i hi => ?_⟩
  · by_cases e : k = q
    · subst e
      exact .inr ⟨hm, getD_set_eq hq⟩
    · rw [getD_set_ne e]
      exact h.all k (by simpa using hk)
  · rw [fL_set hq, fH_set hq]
    unfold upd
    by_cases e : i = (q : Int)
    · simp [e]
    · rw [if_neg e, if_neg e]
      rw [List.mem_append] at hi
      rcases hi with hi | hi
      · exact h.fst i hi
      · simp at hi; exact absurd hi e
theorem Sw0.swp {first : List Int} {ms : List Mt} {wt : Int × Int} {n : Int} {ss : List (Int × Int)} (h : Sw0 first first n ss) : Swp first ms wt n [] ss := by
  have key : ∀ i, 0 ≤ i → i < n → (fL ss i = 100001 ∧ fH ss i = 100001) ∨ (i ∈ first ∧ fL ss i = 0 ∧ fH ss i = 0) := by
    intro i h1 h2
    have hl := h.len
    have hk := h.all i.toNat (by omega)
    rw [show ((i.toNat : Nat) : Int) = i by omega] at hk
    unfold fL fH
    rw [if_pos h1, if_pos h1]
    rcases hk with hk | ⟨hm, hk⟩
    · left; rw [hk]; exact ⟨rfl, rfl⟩
    · right; rw [hk]; exact ⟨hm, rfl, rfl⟩
  refine ⟨h.len, fun i h1 h2 => ?_, fun i hi => (h.fst i hi).1, fun x hx => by simp at hx, fun i h1 h2 => ?_, fun i hi => (h.fst i hi).2, fun x hx => by simp at hx⟩
  · rcases key i h1 h2 with hk | ⟨hm, hk, -⟩
    · exact .inl hk.1
    · rw [hk]; exact .inr (.start hm)
  · rcases key i h1 h2 with hk | ⟨hm, -, hk⟩
    · exact .inl hk.2
    · rw [hk]; exact .inr (.start hm)
end Go.Proofs.Ytafdcbdbllpcnaa
/- Contracts of math/bits.Mul at two small numbers. -/
namespace Go.Proofs.Ytafdcbdbllpcnaa
open Go.RowKit
open Go.Proofs

theorem Mul64_1 (w : World) :
    Calls Try.prog 97 #[.int .u64 1, .int .u64 60] w fun e w' => e = .returned (.tuple #[.int .u64 0, .int .u64 60]) ∧ Below w.heap.size w w' := by
  go_enter Try.func97, Try.ntmps97
  go_wp2
  go_returns
  exact ⟨rfl, by go_grown⟩
theorem Mul_1 (w : World) :
    Calls Try.prog 91 #[.int .u64 1, .int .u64 60] w fun e w' => e = .returned (.tuple #[.int .u64 0, .int .u64 60]) ∧ Below w.heap.size w w' := by
  go_enter Try.func91, Try.ntmps91
  go_wp2_with fail
  refine (Mul64_1 _).mono ?_
  rintro e W ⟨rfl, hB⟩
  go_wp2
  go_returns
  exact ⟨rfl, hB⟩

/-- A list of cells, again and again. -/
def rep (cs : List Value) (n : Nat) : List Value := (List.replicate n cs).flatten
theorem rep_length (cs : List Value) (n : Nat) : (rep cs n).length = n * cs.length := by simp [rep]
theorem rep_succ (cs : List Value) (n : Nat) : rep cs (n + 1) = cs ++ rep cs n := by simp [rep, List.replicate_succ]
theorem rep_add (cs : List Value) : ∀ (n k : Nat), rep cs (n + k) = rep cs n ++ rep cs k
  | 0, k => by simp [rep]
  | n + 1, k => by rw [show n + 1 + k = (n + k) + 1 by omega, rep_succ, rep_succ, rep_add cs n k, List.append_assoc]
theorem rep_mem {cs : List Value} {n : Nat} {u : Value} (h : u ∈ rep cs n) : u ∈ cs := by
  simp only [rep, List.mem_flatten] at h
  obtain ⟨l, h1, h2⟩ := h
  rw [List.eq_of_mem_replicate h1] at h2
  exact h2

section
variable {P : Program}
theorem run_copyW (w : World) (dT sT ty elem : TypeId) (g o dLen dCap : Nat) (a : Addr) (sLen sCap : Nat) (cur : Array Value) (cs : List Value) (size n : Nat)
    (hu : P.underlying dT = some (.slice elem)) (hs : (P.info? elem).map (·.size) = some size) (hr : rowOf w g = some cur) (hn : Nat.min sLen dLen = n) (hcl : cs.length = n * size)
    (hsrc : ∀ j v, cs[j]? = some v → w.cell? (a.add j) = some v) (hfit : o + cs.length ≤ cur.size) (h1 : ∀ v ∈ cs, v.oneCell' = true) :
    (Builtin.copy_ #[dT, sT] ty #[.slice (some ⟨g, o, none⟩) dLen dCap, .slice (some a) sLen sCap]).run P w =
      .ok (goInt n) (w.setRow g (cur.toList.take o ++ cs ++ cur.toList.drop (o + cs.length)).toArray) := by
  obtain ⟨t, hg⟩ := rowOf_some hr
  have hl := run_loadCells_list (P := P) w a cs hsrc
  have hst := run_storeCells_at P g o t cs 0 cur w hg (by simpa using hfit) h1
  rw [hcl] at hl
  cases hq : P.info? elem with
  | none => simp [hq] at hs
  | some i =>
    have hi : i.size = size := by simpa [hq] using hs
    simp [Builtin.copy_, run_underlying hu, Builtin.lenOf, Builtin.firstCells, sizeOf, typeInfo, hq, hi, hn, hl, hst]
end

/-- The elements k of n of a row that begins with n times the same go behind them. -/
theorem run_copyRep {P : Program} (w : World) (dT sT ty elem : TypeId) (g : Nat) (cs : List Value) (N n k c1 c2 : Nat) (S fin : List Value) (hu : P.underlying dT = some (.slice elem)) (hs : (P.info? elem).map (·.size) = some cs.length)
    (hr : rowOf w g = some (rep cs n ++ S).toArray) (hk : Nat.min n (N - n) = k) (hS : k * cs.length ≤ S.length) (hf : rep cs (n + k) ++ S.drop (k * cs.length) = fin) (h1 : ∀ v ∈ cs, v.oneCell' = true) :
    (Builtin.copy_ #[dT, sT] ty #[.slice (some ⟨g, n * cs.length, none⟩) (N - n) c1, .slice (some ⟨g, 0, none⟩) n c2]).run P w = .ok (goInt k) (w.setRow g fin.toArray) := by
  have hkn : k ≤ n := by rw [← hk]; exact Nat.min_le_left _ _
  have h := run_copyW (P := P) w dT sT ty elem g (n * cs.length) (N - n) c1 ⟨g, 0, none⟩ n c2 _ (rep cs k) cs.length k hu hs hr hk (rep_length cs k) (fun j v hj => ?_) (by simp [rep_length]; omega) (fun v hv => h1 v (rep_mem hv))
  · rw [h]
    have e : (rep cs n ++ S).toArray.toList.take (n * cs.length) ++ rep cs k ++ (rep cs n ++ S).toArray.toList.drop (n * cs.length + (rep cs k).length) = fin := by
      rw [← hf, rep_add, rep_length]
      simp only [List.toList_toArray]
      rw [List.take_left' (rep_length cs n), List.drop_append, List.drop_eq_nil_of_le (by rw [rep_length]; omega), rep_length]
      simp
    rw [e]
  · have e : (⟨g, 0, none⟩ : Addr).add j = ⟨g, j, none⟩ := by unfold Addr.add; split <;> simp_all
    have hjl : j < (rep cs k).length := (List.getElem?_eq_some_iff.1 hj).1
    rw [e, (cell_of_rowOf hr).1 j, ← hj]
    have : rep cs n = rep cs k ++ rep cs (n - k) := by rw [← rep_add, Nat.add_sub_cancel' hkn]
    rw [this, List.append_assoc, List.getElem?_toArray, List.getElem?_append_left hjl]
theorem info45z : (Try.prog.info? 45).map (fun i => (i.zero, i.size, i.bytes)) = some (some (.agg #[.int .i64 0, .int .i64 0, .int .i64 0, .int .i64 0, .int .i64 0, .int .i64 0, .int .i64 0, .int .i64 0]), 8, 64) := by kernel_rfl

set_option maxRecDepth 100000 in
set_option maxHeartbeats 2000000 in
theorem Repeat_m (m : Mr) (g cap : Nat) (w : World) (hr : rowOf w g = some #[.int .i64 m.hours, .int .i64 m.load, .int .i64 m.heat.1, .int .i64 m.heat.2, .int .i64 m.grass.1, .int .i64 m.grass.2, .int .i64 m.drinks.1, .int .i64 m.drinks.2]) :
    Calls Try.prog 78 #[.slice (some ⟨g, 0, none⟩) 1 cap, .int .i64 60] w fun e w' => (∃ r, e = .returned (.slice (some ⟨r, 0, none⟩) 60 60) ∧ w.heap.size ≤ r ∧ rowOf w' r = some (rep (marCells m) 60).toArray) ∧ Below w.heap.size w w' := by
  go_enter Try.func78, Try.ntmps78
  go_wp2_with fail
  refine (Mul_1 _).mono ?_
  rintro e W1 ⟨rfl, hB⟩
  obtain ⟨rsW1, csW1, gsW1, zsW1⟩ := keep_row hB hr
  obtain ⟨i0, hi0, hz0, hz1, hz2⟩ := info_parts info45z
  have hmk := run_make (P := Try.prog) W1 47 45 i0 _ Try.underlying47 hi0 hz0 .i64 .i64 60 60 (by omega) (by omega) (by rw [hz2]; decide) (by omega)
  obtain ⟨cur, hcur⟩ : ∃ cur, madeCells (Value.agg #[.int .i64 0, .int .i64 0, .int .i64 0, .int .i64 0, .int .i64 0, .int .i64 0, .int .i64 0, .int .i64 0]).cells (Int.toNat 60 * i0.size) = cur := ⟨_, rfl⟩
  have hcs : cur.size = 480 := by rw [← hcur, size_madeCells, hz1]; rfl
  rw [hcur] at hmk
  have hsrc : ∀ j v, (marCells m)[j]? = some v → (W1.alloc (.cells cur 45)).cell? ((⟨g, 0, none⟩ : Addr).add j) = some v := by
    intro j v hj
    have e : (⟨g, 0, none⟩ : Addr).add j = ⟨g, j, none⟩ := by unfold Addr.add; split <;> simp_all
    rw [e, (cell_of_rowOf (rowSkip rsW1)).1 j, ← hj]
    simp [marCells]
  have hone : ∀ v ∈ marCells m, v.oneCell' = true := by
    intro u hu
    simp only [marCells, List.mem_cons, List.not_mem_nil, or_false] at hu
    rcases hu with rfl | rfl | rfl | rfl | rfl | rfl | rfl | rfl <;> rfl
  have hcp := run_copyW (P := Try.prog) (W1.alloc (.cells cur 45)) 47 47 3 45 W1.heap.size 0 60 60 ⟨g, 0, none⟩ 1 cap cur (marCells m) 8 1 Try.underlying47 info45 (row_here0 _ _ _) rfl rfl hsrc (by simp [marCells, hcs]) hone
  have HO := Lib.hid hone
  clear hi0 hz0 hz1 hz2 hcur hsrc hone
  go_wp2_with fail
  have hg1 : Below w.heap.size w ((W1.alloc (.cells cur 45)).setRow W1.heap.size (marCells m ++ List.drop (marCells m).length cur.toList).toArray) := Below_setRow (hB.alloc hB.size _) hB.size _
  have hr1 : rowOf ((W1.alloc (.cells cur 45)).setRow W1.heap.size (marCells m ++ List.drop (marCells m).length cur.toList).toArray) W1.heap.size = some (rep (marCells m) 1 ++ List.drop 8 cur.toList).toArray := by
    rw [(stored_setRow (row_here0 _ _ _) _).row]
    simp [rep, marCells]
  have hl1 : (List.drop 8 cur.toList).length = (60 - 1) * 8 := by simp [hcs]
  generalize (W1.alloc (.cells cur 45)).setRow W1.heap.size (marCells m ++ List.drop (marCells m).length cur.toList).toArray = W2 at hg1 hr1 ⊢
  generalize List.drop 8 cur.toList = S0 at hr1 hl1
  have zR := hB.size
  clear rsW1 csW1 gsW1 hmk hcp hr
  generalize W1.heap.size = rb at *
  go_loopw [8] (fun i wr => ∃ n : Nat, 1 ≤ n ∧ n ≤ 60 ∧ i = .int .i64 (n : Int) ∧ (∃ S : List Value, rowOf wr rb = some (rep (marCells m) n ++ S).toArray ∧ S.length = (60 - n) * 8) ∧ Below w.heap.size w wr) (fun i _ => 60 - (intOf i).toNat)
  case atStart => exact ⟨1, by omega, by omega, rfl, ⟨S0, hr1, hl1⟩, hg1⟩
  case round =>
    obtain ⟨n, hn1, hn2, rfl, ⟨S, hrS, hlS⟩, hBr⟩ := hrel
    by_cases hlt : n < 60
    · have hlt' : (n : Int) < 60 := by omega
      go_wp2_with fail
      obtain ⟨k, hk⟩ : ∃ k, Nat.min n (60 - n) = k := ⟨_, rfl⟩
      have hk1 : 1 ≤ k := by rw [← hk]; exact Nat.le_min.2 ⟨hn1, by omega⟩
      have hk2 : k ≤ 60 - n := by rw [← hk]; exact Nat.min_le_right _ _
      obtain ⟨z, hz⟩ : ∃ z, (rep (marCells m) n ++ S).toArray = z := ⟨_, rfl⟩
      obtain ⟨r, hr⟩ : ∃ r, (rep (marCells m) (n + k) ++ S.drop (k * 8)).toArray = r := ⟨_, rfl⟩
      have hc8 : (marCells m).length = 8 := rfl
      have hcopy : ∀ W, (rowOf W rb = some z ∨ rowOf W rb = some r) → (Builtin.copy_ #[47, 47] 3 #[.slice (some ⟨rb, n * 8, none⟩) (60 - n) (60 - n), .slice (some ⟨rb, 0, none⟩) n 60]).run Try.prog W = .ok (.int .i64 (k : Int)) (W.setRow rb r) := by
        intro W hW
        have hfin : rep (marCells m) (n + k) ++ (rep (marCells m) k ++ S.drop (k * 8)).drop (k * 8) = rep (marCells m) (n + k) ++ S.drop (k * 8) := by
          rw [List.drop_left' (by rw [rep_length, hc8])]
        rcases hW with h | h
        · rw [← hz] at h
          have := run_copyRep (P := Try.prog) W 47 47 3 45 rb (marCells m) 60 n k (60 - n) 60 S _ Try.underlying47 info45 h hk (by rw [hlS, hc8]; omega) rfl HO.out
          rw [← hr]; exact this
        · rw [← hr, rep_add, List.append_assoc] at h
          have := run_copyRep (P := Try.prog) W 47 47 3 45 rb (marCells m) 60 n k (60 - n) 60 _ _ Try.underlying47 info45 h hk (by rw [hc8]; simp [rep_length, hc8]) rfl HO.out
          rw [hc8, hfin, hr] at this
          exact this
      have HC := Lib.hid hcopy
      have HR := Lib.hid hr
      rw [hz] at hrS
      clear hcopy hr hz hk
      refine wp_drawy (by kernel_rfl) (XN (rb) z r) (fun j => match j with  | _ => 0) XN.refl (fun _ _ _ => XN.trans) [some 38, some 39, some 40, some 41, some 42, some 43, some 44, some 45, some 46] (by kernel_rfl) (by kernel_rfl) (fun ix v W => match ix with
        | 0 => v = .int .i64 (n : Int)
        | 1 => v = .slice (some ⟨rb, 0, none⟩) 60 60
        | 2 => v = .int .i64 (n : Int)
        | 3 => v = .slice (some ⟨rb, n * 8, none⟩) (60 - n) (60 - n)
        | 4 => v = .slice (some ⟨rb, 0, none⟩) 60 60
        | 5 => v = .int .i64 (n : Int)
        | 6 => v = .slice (some ⟨rb, 0, none⟩) n 60
        | 7 => v = .int .i64 (k : Int) ∧ rowOf W (rb) = some r
        | 8 => v = .int .i64 ((n + k : Nat) : Int)
        | _ => True) ⟨⟨?_, ?_⟩, ⟨?_, ?_⟩, ⟨?_, ?_⟩, ⟨?_, ?_⟩, ⟨?_, ?_⟩, ⟨?_, ?_⟩, ⟨?_, ?_⟩, ⟨?_, ?_⟩, ⟨?_, ?_⟩, ?_⟩
      · intro g h; cases h
      · intro b' W hE hb hdep K hK
        have e8 : b'.tmps[8]?.getD undef = .int .i64 (n : Int) := hb 8 (by decide)
        clear hdep hb
        go_wp2
        exact hK _ _ (XN.refl _) rfl
      · intro g h; cases h
      · intro b' W hE hb hdep K hK
        have e7 : b'.tmps[7]?.getD undef = .slice (some ⟨rb, 0, none⟩) 60 60 := hb 7 (by decide)
        clear hdep hb
        go_wp2
        exact hK _ _ (XN.refl _) rfl
      · intro g h; cases h
      · intro b' W hE hb hdep K hK
        have e8 : b'.tmps[8]?.getD undef = .int .i64 (n : Int) := hb 8 (by decide)
        clear hdep hb
        go_wp2
        exact hK _ _ (XN.refl _) rfl
      · intro g h; cases h
      · intro b' W hE hb hdep K hK
        have e39 : b'.tmps[39]?.getD undef = .slice (some ⟨rb, 0, none⟩) 60 60 := pureN (hdep 1 (some 39) (by kernel_rfl) rfl)
        have e40 : b'.tmps[40]?.getD undef = .int .i64 (n : Int) := pureN (hdep 2 (some 40) (by kernel_rfl) rfl)
        clear hdep hb
        go_wp2
        exact hK _ _ (XN.refl _) rfl
      · intro g h; cases h
      · intro b' W hE hb hdep K hK
        have e7 : b'.tmps[7]?.getD undef = .slice (some ⟨rb, 0, none⟩) 60 60 := hb 7 (by decide)
        clear hdep hb
        go_wp2
        exact hK _ _ (XN.refl _) rfl
      · intro g h; cases h
      · intro b' W hE hb hdep K hK
        have e8 : b'.tmps[8]?.getD undef = .int .i64 (n : Int) := hb 8 (by decide)
        clear hdep hb
        go_wp2
        exact hK _ _ (XN.refl _) rfl
      · intro g h; cases h
      · intro b' W hE hb hdep K hK
        have e42 : b'.tmps[42]?.getD undef = .slice (some ⟨rb, 0, none⟩) 60 60 := pureN (hdep 4 (some 42) (by kernel_rfl) rfl)
        have e43 : b'.tmps[43]?.getD undef = .int .i64 (n : Int) := pureN (hdep 5 (some 43) (by kernel_rfl) rfl)
        clear hdep hb
        go_wp2
        exact hK _ _ (XN.refl _) rfl
      · intro g h; cases h
      · intro b' W hE hb hdep K hK
        have e41 : b'.tmps[41]?.getD undef = .slice (some ⟨rb, n * 8, none⟩) (60 - n) (60 - n) := pureN (hdep 3 (some 41) (by kernel_rfl) rfl)
        have e44 : b'.tmps[44]?.getD undef = .slice (some ⟨rb, 0, none⟩) n 60 := pureN (hdep 6 (some 44) (by kernel_rfl) rfl)
        clear hdep hb
        have hW := hE.fresh rb ((rowOf_drew _ _).trans hrS)
        have hrun := HC.out W hW
        go_wp2
        rcases hW with h | h
        · exact hK _ _ (xn_setRow h (Nat.le_refl _)) ⟨rfl, (stored_setRow h r).row⟩
        · exact hK _ _ (xn_setRow_same h) ⟨rfl, (stored_setRow h r).row⟩
      · intro g h; cases h
      · intro b' W hE hb hdep K hK
        have e38 : b'.tmps[38]?.getD undef = .int .i64 (n : Int) := pureN (hdep 0 (some 38) (by kernel_rfl) rfl)
        have e45 : b'.tmps[45]?.getD undef = .int .i64 (k : Int) := (let ⟨_, _, h⟩ := (hdep 7 (some 45) (by kernel_rfl) rfl); h.1)
        clear hdep hb
        go_wp2
        have e : (n : Int) + (k : Int) = ((n + k : Nat) : Int) := by omega
        exact hK _ _ (XN.refl _) (by rw [e])
      intro f W hE hR
      have e38 : f 38 = .int .i64 (n : Int) := pureN (hR 0 (some 38) rfl)
      have e39 : f 39 = .slice (some ⟨rb, 0, none⟩) 60 60 := pureN (hR 1 (some 39) rfl)
      have e40 : f 40 = .int .i64 (n : Int) := pureN (hR 2 (some 40) rfl)
      have e41 : f 41 = .slice (some ⟨rb, n * 8, none⟩) (60 - n) (60 - n) := pureN (hR 3 (some 41) rfl)
      have e42 : f 42 = .slice (some ⟨rb, 0, none⟩) 60 60 := pureN (hR 4 (some 42) rfl)
      have e43 : f 43 = .int .i64 (n : Int) := pureN (hR 5 (some 43) rfl)
      have e44 : f 44 = .slice (some ⟨rb, 0, none⟩) n 60 := pureN (hR 6 (some 44) rfl)
      obtain ⟨e45, l45⟩ : f 45 = .int .i64 (k : Int) ∧ rowOf W (rb) = some r := (let ⟨_, e, h⟩ := hR 7 (some 45) rfl; ⟨h.1, e.last h.2⟩)
      have e46 : f 46 = .int .i64 ((n + k : Nat) : Int) := pureN (hR 8 (some 46) rfl)
      clear hR
      simp only [List.filterMap_cons, List.filterMap_nil, id, puts, Act.put, List.setIfInBounds_toArray, List.set_cons_succ, List.set_cons_zero, e38, e39, e40, e41, e42, e43, e44, e45, e46]
      go_wp2
      exact ⟨⟨n + k, by omega, by omega, rfl, ⟨S.drop (k * 8), by rw [HR.out]; exact l45, by rw [List.length_drop, hlS, Nat.sub_mul, Nat.sub_mul, Nat.add_mul]; omega⟩, hE.below hBr.drew hBr.size zR⟩, by simp only [intOf]; omega⟩
    · obtain rfl : n = 60 := by omega
      obtain rfl : S = [] := List.eq_nil_of_length_eq_zero (by omega)
      go_wp2
      go_returns
      exact ⟨⟨rb, rfl, zR, by simpa using hrS⟩, hBr⟩
end Go.Proofs.Ytafdcbdbllpcnaa
