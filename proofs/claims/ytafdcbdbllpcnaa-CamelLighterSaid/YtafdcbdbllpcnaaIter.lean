/- Contracts of math/bits.Mul at two small numbers. -/
import Derived.Test.YtafdcbdbllpcnaaRefA
import Derived.Test.YtafdcbdbllpcnaaLate
import Derived.Laws.MakeOwn
import Derived.RangeFuncIn
import Derived.RangeFuncRecord
import Derived.RangeFuncSeq
import Derived.RangeFuncBox
import Derived.RangeFuncLeaves
import Derived.OrdersIn
import Derived.TacticsIn
import Derived.Deep.QuietTactic
import Derived.BigQuiet
import Derived.Test.YtafdcbdbllpcnaaPart
set_option linter.unusedVariables false
set_option linter.unusedSimpArgs false
namespace Go.Proofs.Ytafdcbdbllpcnaa
open Go.RowKit
open Go.Proofs

theorem Mul64_1 (w : World) :
    Calls Try.prog 97 #[.int .u64 1, .int .u64 60] w fun e w' => e = .returned (.tuple #[.int .u64 0, .int .u64 60]) ∧ Below w.heap.size w w' := by
  go_enter Try.func97, Try.ntmps97
  go_wp2
  go_returns
  exact ⟨rfl, by go_grown⟩
theorem Mul_1 (w : World) :
    Calls Try.prog 91 #[.int .u64 1, .int .u64 60] w fun e w' => e = .returned (.tuple #[.int .u64 0, .int .u64 60]) ∧ Below w.heap.size w w' := by
  go_enter Try.func91, Try.ntmps91
  go_wp2_with fail
  refine (Mul64_1 _).mono ?_
  rintro e W ⟨rfl, hB⟩
  go_wp2
  go_returns
  exact ⟨rfl, hB⟩

/-- A list of cells, again and again. -/
def rep (cs : List Value) (n : Nat) : List Value := (List.replicate n cs).flatten
theorem rep_length (cs : List Value) (n : Nat) : (rep cs n).length = n * cs.length := by simp [rep]
theorem rep_succ (cs : List Value) (n : Nat) : rep cs (n + 1) = cs ++ rep cs n := by simp [rep, List.replicate_succ]
theorem rep_add (cs : List Value) : ∀ (n k : Nat), rep cs (n + k) = rep cs n ++ rep cs k
  | 0, k => by simp [rep]
  | n + 1, k => by rw [show n + 1 + k = (n + k) + 1 by omega, rep_succ, rep_succ, rep_add cs n k, List.append_assoc]
theorem rep_mem {cs : List Value} {n : Nat} {u : Value} (h : u ∈ rep cs n) : u ∈ cs := by
  simp only [rep, List.mem_flatten] at h
  obtain ⟨l, h1, h2⟩ := h
  rw [List.eq_of_mem_replicate h1] at h2
  exact h2

section
variable {P : Program}
theorem run_copyW (w : World) (dT sT ty elem : TypeId) (g o dLen dCap : Nat) (a : Addr) (sLen sCap : Nat) (cur : Array Value) (cs : List Value) (size n : Nat)
    (hu : P.underlying dT = some (.slice elem)) (hs : (P.info? elem).map (·.size) = some size) (hr : rowOf w g = some cur) (hn : Nat.min sLen dLen = n) (hcl : cs.length = n * size)
    (hsrc : ∀ j v, cs[j]? = some v → w.cell? (a.add j) = some v) (hfit : o + cs.length ≤ cur.size) (h1 : ∀ v ∈ cs, v.oneCell' = true) :
    (Builtin.copy_ #[dT, sT] ty #[.slice (some ⟨g, o, none⟩) dLen dCap, .slice (some a) sLen sCap]).run P w =
      .ok (goInt n) (w.setRow g (cur.toList.take o ++ cs ++ cur.toList.drop (o + cs.length)).toArray) := by
  obtain ⟨t, hg⟩ := rowOf_some hr
  have hl := run_loadCells_list (P := P) w a cs hsrc
  have hst := run_storeCells_at P g o t cs 0 cur w hg (by simpa using hfit) h1
  rw [hcl] at hl
  cases hq : P.info? elem with
  | none => simp [hq] at hs
  | some i =>
    have hi : i.size = size := by simpa [hq] using hs
    simp [Builtin.copy_, run_underlying hu, Builtin.lenOf, Builtin.firstCells, sizeOf, typeInfo, hq, hi, hn, hl, hst]
end

/-- The elements k of n of a row that begins with n times the same go behind them. -/
theorem run_copyRep {P : Program} (w : World) (dT sT ty elem : TypeId) (g : Nat) (cs : List Value) (N n k c1 c2 : Nat) (S fin : List Value) (hu : P.underlying dT = some (.slice elem)) (hs : (P.info? elem).map (·.size) = some cs.length)
    (hr : rowOf w g = some (rep cs n ++ S).toArray) (hk : Nat.min n (N - n) = k) (hS : k * cs.length ≤ S.length) (hf : rep cs (n + k) ++ S.drop (k * cs.length) = fin) (h1 : ∀ v ∈ cs, v.oneCell' = true) :
    (Builtin.copy_ #[dT, sT] ty #[.slice (some ⟨g, n * cs.length, none⟩) (N - n) c1, .slice (some ⟨g, 0, none⟩) n c2]).run P w = .ok (goInt k) (w.setRow g fin.toArray) := by
  have hkn : k ≤ n := by rw [← hk]; exact Nat.min_le_left _ _
  have h := run_copyW (P := P) w dT sT ty elem g (n * cs.length) (N - n) c1 ⟨g, 0, none⟩ n c2 _ (rep cs k) cs.length k hu hs hr hk (rep_length cs k) (fun j v hj => ?_) (by simp [rep_length]; omega) (fun v hv => h1 v (rep_mem hv))
  · rw [h]
    have e : (rep cs n ++ S).toArray.toList.take (n * cs.length) ++ rep cs k ++ (rep cs n ++ S).toArray.toList.drop (n * cs.length + (rep cs k).length) = fin := by
      rw [← hf, rep_add, rep_length]
      simp only [List.toList_toArray]
      rw [List.take_left' (rep_length cs n), List.drop_append, List.drop_eq_nil_of_le (by rw [rep_length]; omega), rep_length]
      simp
    rw [e]
  · have e : (⟨g, 0, none⟩ : Addr).add j = ⟨g, j, none⟩ := by unfold Addr.add; split <;> simp_all
    have hjl : j < (rep cs k).length := (List.getElem?_eq_some_iff.1 hj).1
    rw [e, (cell_of_rowOf hr).1 j, ← hj]
    have : rep cs n = rep cs k ++ rep cs (n - k) := by rw [← rep_add, Nat.add_sub_cancel' hkn]
    rw [this, List.append_assoc, List.getElem?_toArray, List.getElem?_append_left hjl]
theorem info45z : (Try.prog.info? 45).map (fun i => (i.zero, i.size, i.bytes)) = some (some (.agg #[.int .i64 0, .int .i64 0, .int .i64 0, .int .i64 0, .int .i64 0, .int .i64 0, .int .i64 0, .int .i64 0]), 8, 64) := by kernel_rfl

set_option maxRecDepth 100000 in
set_option maxHeartbeats 2000000 in
theorem Repeat_m (m : Mr) (g cap : Nat) (w : World) (hr : rowOf w g = some #[.int .i64 m.hours, .int .i64 m.load, .int .i64 m.heat.1, .int .i64 m.heat.2, .int .i64 m.grass.1, .int .i64 m.grass.2, .int .i64 m.drinks.1, .int .i64 m.drinks.2]) :
    Calls Try.prog 78 #[.slice (some ⟨g, 0, none⟩) 1 cap, .int .i64 60] w fun e w' => (∃ r, e = .returned (.slice (some ⟨r, 0, none⟩) 60 60) ∧ w.heap.size ≤ r ∧ rowOf w' r = some (rep (marCells m) 60).toArray) ∧ Below w.heap.size w w' := by
  go_enter Try.func78, Try.ntmps78
  go_wp2_with fail
  refine (Mul_1 _).mono ?_
  rintro e W1 ⟨rfl, hB⟩
  obtain ⟨rsW1, csW1, gsW1, zsW1⟩ := keep_row hB hr
  obtain ⟨i0, hi0, hz0, hz1, hz2⟩ := info_parts info45z
  have hmk := run_make (P := Try.prog) W1 47 45 i0 _ Try.underlying47 hi0 hz0 .i64 .i64 60 60 (by omega) (by omega) (by rw [hz2]; decide) (by omega)
  obtain ⟨cur, hcur⟩ : ∃ cur, madeCells (Value.agg #[.int .i64 0, .int .i64 0, .int .i64 0, .int .i64 0, .int .i64 0, .int .i64 0, .int .i64 0, .int .i64 0]).cells (Int.toNat 60 * i0.size) = cur := ⟨_, rfl⟩
  have hcs : cur.size = 480 := by rw [← hcur, size_madeCells, hz1]; rfl
  rw [hcur] at hmk
  have hsrc : ∀ j v, (marCells m)[j]? = some v → (W1.alloc (.cells cur 45)).cell? ((⟨g, 0, none⟩ : Addr).add j) = some v := by
    intro j v hj
    have e : (⟨g, 0, none⟩ : Addr).add j = ⟨g, j, none⟩ := by unfold Addr.add; split <;> simp_all
    rw [e, (cell_of_rowOf (rowSkip rsW1)).1 j, ← hj]
    simp [marCells]
  have hone : ∀ v ∈ marCells m, v.oneCell' = true := by
    intro u hu
    simp only [marCells, List.mem_cons, List.not_mem_nil, or_false] at hu
    rcases hu with rfl | rfl | rfl | rfl | rfl | rfl | rfl | rfl <;> rfl
  have hcp := run_copyW (P := Try.prog) (W1.alloc (.cells cur 45)) 47 47 3 45 W1.heap.size 0 60 60 ⟨g, 0, none⟩ 1 cap cur (marCells m) 8 1 Try.underlying47 info45 (row_here0 _ _ _) rfl rfl hsrc (by simp [marCells, hcs]) hone
  have HO := Lib.hid hone
  clear hi0 hz0 hz1 hz2 hcur hsrc hone
  go_wp2_with fail
  have hg1 : Below w.heap.size w ((W1.alloc (.cells cur 45)).setRow W1.heap.size (marCells m ++ List.drop (marCells m).length cur.toList).toArray) := Below_setRow (hB.alloc hB.size _) hB.size _
  have hr1 : rowOf ((W1.alloc (.cells cur 45)).setRow W1.heap.size (marCells m ++ List.drop (marCells m).length cur.toList).toArray) W1.heap.size = some (rep (marCells m) 1 ++ List.drop 8 cur.toList).toArray := by
    rw [(stored_setRow (row_here0 _ _ _) _).row]
    simp [rep, marCells]
  have hl1 : (List.drop 8 cur.toList).length = (60 - 1) * 8 := by simp [hcs]
  generalize (W1.alloc (.cells cur 45)).setRow W1.heap.size (marCells m ++ List.drop (marCells m).length cur.toList).toArray = W2 at hg1 hr1 ⊢
  generalize List.drop 8 cur.toList = S0 at hr1 hl1
  have zR := hB.size
  clear rsW1 csW1 gsW1 hmk hcp hr
  generalize W1.heap.size = rb at *
  go_loopw [8] (fun i wr => ∃ n : Nat, 1 ≤ n ∧ n ≤ 60 ∧ i = .int .i64 (n : Int) ∧ (∃ S : List Value, rowOf wr rb = some (rep (marCells m) n ++ S).toArray ∧ S.length = (60 - n) * 8) ∧ Below w.heap.size w wr) (fun i _ => 60 - (intOf i).toNat)
  case atStart => exact ⟨1, by omega, by omega, rfl, ⟨S0, hr1, hl1⟩, hg1⟩
  case round =>
    obtain ⟨n, hn1, hn2, rfl, ⟨S, hrS, hlS⟩, hBr⟩ := hrel
    by_cases hlt : n < 60
    · have hlt' : (n : Int) < 60 := by omega
      go_wp2_with fail
      obtain ⟨k, hk⟩ : ∃ k, Nat.min n (60 - n) = k := ⟨_, rfl⟩
      have hk1 : 1 ≤ k := by rw [← hk]; exact Nat.le_min.2 ⟨hn1, by omega⟩
      have hk2 : k ≤ 60 - n := by rw [← hk]; exact Nat.min_le_right _ _
      obtain ⟨z, hz⟩ : ∃ z, (rep (marCells m) n ++ S).toArray = z := ⟨_, rfl⟩
      obtain ⟨r, hr⟩ : ∃ r, (rep (marCells m) (n + k) ++ S.drop (k * 8)).toArray = r := ⟨_, rfl⟩
      have hc8 : (marCells m).length = 8 := rfl
      have hcopy : ∀ W, (rowOf W rb = some z ∨ rowOf W rb = some r) → (Builtin.copy_ #[47, 47] 3 #[.slice (some ⟨rb, n * 8, none⟩) (60 - n) (60 - n), .slice (some ⟨rb, 0, none⟩) n 60]).run Try.prog W = .ok (.int .i64 (k : Int)) (W.setRow rb r) := by
        intro W hW
        have hfin : rep (marCells m) (n + k) ++ (rep (marCells m) k ++ S.drop (k * 8)).drop (k * 8) = rep (marCells m) (n + k) ++ S.drop (k * 8) := by
          rw [List.drop_left' (by rw [rep_length, hc8])]
        rcases hW with h | h
        · rw [← hz] at h
          have := run_copyRep (P := Try.prog) W 47 47 3 45 rb (marCells m) 60 n k (60 - n) 60 S _ Try.underlying47 info45 h hk (by rw [hlS, hc8]; omega) rfl HO.out
          rw [← hr]; exact this
        · rw [← hr, rep_add, List.append_assoc] at h
          have := run_copyRep (P := Try.prog) W 47 47 3 45 rb (marCells m) 60 n k (60 - n) 60 _ _ Try.underlying47 info45 h hk (by rw [hc8]; simp [rep_length, hc8]) rfl HO.out
          rw [hc8, hfin, hr] at this
          exact this
      have HC := Lib.hid hcopy
      have HR := Lib.hid hr
      rw [hz] at hrS
      clear hcopy hr hz hk
      refine wp_drawy (by kernel_rfl) (XN (rb) z r) (fun j => match j with  | _ => 0) XN.refl (fun _ _ _ => XN.trans) [some 38, some 39, some 40, some 41, some 42, some 43, some 44, some 45, some 46] (by kernel_rfl) (by kernel_rfl) (fun ix v W => match ix with
        | 0 => v = .int .i64 (n : Int)
        | 1 => v = .slice (some ⟨rb, 0, none⟩) 60 60
        | 2 => v = .int .i64 (n : Int)
        | 3 => v = .slice (some ⟨rb, n * 8, none⟩) (60 - n) (60 - n)
        | 4 => v = .slice (some ⟨rb, 0, none⟩) 60 60
        | 5 => v = .int .i64 (n : Int)
        | 6 => v = .slice (some ⟨rb, 0, none⟩) n 60
        | 7 => v = .int .i64 (k : Int) ∧ rowOf W (rb) = some r
        | 8 => v = .int .i64 ((n + k : Nat) : Int)
        | _ => True) ⟨⟨?_, ?_⟩, ⟨?_, ?_⟩, ⟨?_, ?_⟩, ⟨?_, ?_⟩, ⟨?_, ?_⟩, ⟨?_, ?_⟩, ⟨?_, ?_⟩, ⟨?_, ?_⟩, ⟨?_, ?_⟩, ?_⟩
      · intro g h; cases h
      · intro b' W hE hb hdep K hK
        have e8 : b'.tmps[8]?.getD undef = .int .i64 (n : Int) := hb 8 (by decide)
        clear hdep hb
        go_wp2
        exact hK _ _ (XN.refl _) rfl
      · intro g h; cases h
      · intro b' W hE hb hdep K hK
        have e7 : b'.tmps[7]?.getD undef = .slice (some ⟨rb, 0, none⟩) 60 60 := hb 7 (by decide)
        clear hdep hb
        go_wp2
        exact hK _ _ (XN.refl _) rfl
      · intro g h; cases h
      · intro b' W hE hb hdep K hK
        have e8 : b'.tmps[8]?.getD undef = .int .i64 (n : Int) := hb 8 (by decide)
        clear hdep hb
        go_wp2
        exact hK _ _ (XN.refl _) rfl
      · intro g h; cases h
      · intro b' W hE hb hdep K hK
        have e39 : b'.tmps[39]?.getD undef = .slice (some ⟨rb, 0, none⟩) 60 60 := pureN (hdep 1 (some 39) (by kernel_rfl) rfl)
        have e40 : b'.tmps[40]?.getD undef = .int .i64 (n : Int) := pureN (hdep 2 (some 40) (by kernel_rfl) rfl)
        clear hdep hb
        go_wp2
        exact hK _ _ (XN.refl _) rfl
      · intro g h; cases h
      · intro b' W hE hb hdep K hK
        have e7 : b'.tmps[7]?.getD undef = .slice (some ⟨rb, 0, none⟩) 60 60 := hb 7 (by decide)
        clear hdep hb
        go_wp2
        exact hK _ _ (XN.refl _) rfl
      · intro g h; cases h
      · intro b' W hE hb hdep K hK
        have e8 : b'.tmps[8]?.getD undef = .int .i64 (n : Int) := hb 8 (by decide)
        clear hdep hb
        go_wp2
        exact hK _ _ (XN.refl _) rfl
      · intro g h; cases h
      · intro b' W hE hb hdep K hK
        have e42 : b'.tmps[42]?.getD undef = .slice (some ⟨rb, 0, none⟩) 60 60 := pureN (hdep 4 (some 42) (by kernel_rfl) rfl)
        have e43 : b'.tmps[43]?.getD undef = .int .i64 (n : Int) := pureN (hdep 5 (some 43) (by kernel_rfl) rfl)
        clear hdep hb
        go_wp2
        exact hK _ _ (XN.refl _) rfl
      · intro g h; cases h
      · intro b' W hE hb hdep K hK
        have e41 : b'.tmps[41]?.getD undef = .slice (some ⟨rb, n * 8, none⟩) (60 - n) (60 - n) := pureN (hdep 3 (some 41) (by kernel_rfl) rfl)
        have e44 : b'.tmps[44]?.getD undef = .slice (some ⟨rb, 0, none⟩) n 60 := pureN (hdep 6 (some 44) (by kernel_rfl) rfl)
        clear hdep hb
        have hW := hE.fresh rb ((rowOf_drew _ _).trans hrS)
        have hrun := HC.out W hW
        go_wp2
        rcases hW with h | h
        · exact hK _ _ (xn_setRow h (Nat.le_refl _)) ⟨rfl, (stored_setRow h r).row⟩
        · exact hK _ _ (xn_setRow_same h) ⟨rfl, (stored_setRow h r).row⟩
      · intro g h; cases h
      · intro b' W hE hb hdep K hK
        have e38 : b'.tmps[38]?.getD undef = .int .i64 (n : Int) := pureN (hdep 0 (some 38) (by kernel_rfl) rfl)
        have e45 : b'.tmps[45]?.getD undef = .int .i64 (k : Int) := (let ⟨_, _, h⟩ := (hdep 7 (some 45) (by kernel_rfl) rfl); h.1)
        clear hdep hb
        go_wp2
        have e : (n : Int) + (k : Int) = ((n + k : Nat) : Int) := by omega
        exact hK _ _ (XN.refl _) (by rw [e])
      intro f W hE hR
      have e38 : f 38 = .int .i64 (n : Int) := pureN (hR 0 (some 38) rfl)
      have e39 : f 39 = .slice (some ⟨rb, 0, none⟩) 60 60 := pureN (hR 1 (some 39) rfl)
      have e40 : f 40 = .int .i64 (n : Int) := pureN (hR 2 (some 40) rfl)
      have e41 : f 41 = .slice (some ⟨rb, n * 8, none⟩) (60 - n) (60 - n) := pureN (hR 3 (some 41) rfl)
      have e42 : f 42 = .slice (some ⟨rb, 0, none⟩) 60 60 := pureN (hR 4 (some 42) rfl)
      have e43 : f 43 = .int .i64 (n : Int) := pureN (hR 5 (some 43) rfl)
      have e44 : f 44 = .slice (some ⟨rb, 0, none⟩) n 60 := pureN (hR 6 (some 44) rfl)
      obtain ⟨e45, l45⟩ : f 45 = .int .i64 (k : Int) ∧ rowOf W (rb) = some r := (let ⟨_, e, h⟩ := hR 7 (some 45) rfl; ⟨h.1, e.last h.2⟩)
      have e46 : f 46 = .int .i64 ((n + k : Nat) : Int) := pureN (hR 8 (some 46) rfl)
      clear hR
      simp only [List.filterMap_cons, List.filterMap_nil, id, puts, Act.put, List.setIfInBounds_toArray, List.set_cons_succ, List.set_cons_zero, e38, e39, e40, e41, e42, e43, e44, e45, e46]
      go_wp2
      exact ⟨⟨n + k, by omega, by omega, rfl, ⟨S.drop (k * 8), by rw [HR.out]; exact l45, by rw [List.length_drop, hlS, Nat.sub_mul, Nat.sub_mul, Nat.add_mul]; omega⟩, hE.below hBr.drew hBr.size zR⟩, by simp only [intOf]; omega⟩
    · obtain rfl : n = 60 := by omega
      obtain rfl : S = [] := List.eq_nil_of_length_eq_zero (by omega)
      go_wp2
      go_returns
      exact ⟨⟨rb, rfl, zR, by simpa using hrS⟩, hBr⟩
end Go.Proofs.Ytafdcbdbllpcnaa
/- Contract of slices.Repeat at one span. -/
namespace Go.Proofs.Ytafdcbdbllpcnaa
open Go.RowKit
open Go.Proofs

set_option maxHeartbeats 8000000 in
theorem Mul64_n (N : Nat) (h1 : 1 ≤ N) (h2 : N ≤ 30) (w : World) :
    Calls Try.prog 97 #[.int .u64 1, .int .u64 (N : Int)] w fun e w' => e = .returned (.tuple #[.int .u64 0, .int .u64 (N : Int)]) ∧ Below w.heap.size w w' := by
  obtain rfl | rfl | rfl | rfl | rfl | rfl | rfl | rfl | rfl | rfl | rfl | rfl | rfl | rfl | rfl | rfl | rfl | rfl | rfl | rfl | rfl | rfl | rfl | rfl | rfl | rfl | rfl | rfl | rfl | rfl : N = 1 ∨ N = 2 ∨ N = 3 ∨ N = 4 ∨ N = 5 ∨ N = 6 ∨ N = 7 ∨ N = 8 ∨ N = 9 ∨ N = 10 ∨ N = 11 ∨ N = 12 ∨ N = 13 ∨ N = 14 ∨ N = 15 ∨ N = 16 ∨ N = 17 ∨ N = 18 ∨ N = 19 ∨ N = 20 ∨ N = 21 ∨ N = 22 ∨ N = 23 ∨ N = 24 ∨ N = 25 ∨ N = 26 ∨ N = 27 ∨ N = 28 ∨ N = 29 ∨ N = 30 := by omega
  all_goals
    go_enter Try.func97, Try.ntmps97
    go_wp2
    go_returns
    exact ⟨rfl, by go_grown⟩
theorem Mul_n (N : Nat) (h1 : 1 ≤ N) (h2 : N ≤ 30) (w : World) :
    Calls Try.prog 91 #[.int .u64 1, .int .u64 (N : Int)] w fun e w' => e = .returned (.tuple #[.int .u64 0, .int .u64 (N : Int)]) ∧ Below w.heap.size w w' := by
  go_enter Try.func91, Try.ntmps91
  go_wp2_with fail
  refine (Mul64_n N h1 h2 _).mono ?_
  rintro e W ⟨rfl, hB⟩
  go_wp2
  go_returns
  exact ⟨rfl, hB⟩
def spCells (s : Int × Int) : List Value := [.int .i64 s.1, .int .i64 s.2]
theorem info31s : (Try.prog.info? 31).map (·.size) = some 2 := by kernel_rfl
theorem info31z : (Try.prog.info? 31).map (fun i => (i.zero, i.size, i.bytes)) = some (some (.agg #[.int .i64 0, .int .i64 0]), 2, 16) := by kernel_rfl

set_option maxRecDepth 100000 in
set_option maxHeartbeats 2000000 in
theorem Repeat_s (s : Int × Int) (N : Nat) (hN1 : 1 ≤ N) (hN2 : N ≤ 30) (g cap : Nat) (w : World) (hr : rowOf w g = some #[.int .i64 s.1, .int .i64 s.2]) :
    Calls Try.prog 83 #[.slice (some ⟨g, 0, none⟩) 1 cap, .int .i64 (N : Int)] w fun e w' => (∃ r, e = .returned (.slice (some ⟨r, 0, none⟩) N N) ∧ w.heap.size ≤ r ∧ rowOf w' r = some (rep (spCells s) N).toArray) ∧ Below w.heap.size w w' := by
  go_enter Try.func83, Try.ntmps83
  go_wp2_with fail
  refine (Mul_n N hN1 hN2 _).mono ?_
  rintro e W1 ⟨rfl, hB⟩
  obtain ⟨rsW1, csW1, gsW1, zsW1⟩ := keep_row hB hr
  obtain ⟨i0, hi0, hz0, hz1, hz2⟩ := info_parts info31z
  have hmk := run_make (P := Try.prog) W1 107 31 i0 _ Try.underlying107 hi0 hz0 .i64 .i64 (N : Int) (N : Int) (by omega) (by omega) (by rw [hz2]; omega) (by omega)
  obtain ⟨cur, hcur⟩ : ∃ cur, madeCells (Value.agg #[.int .i64 0, .int .i64 0]).cells ((N : Int).toNat * i0.size) = cur := ⟨_, rfl⟩
  have hcs : cur.size = N * 2 := by rw [← hcur, size_madeCells, hz1]; rfl
  rw [hcur] at hmk
  simp only [Int.toNat_natCast] at hmk
  have hsrc : ∀ j v, (spCells s)[j]? = some v → (W1.alloc (.cells cur 31)).cell? ((⟨g, 0, none⟩ : Addr).add j) = some v := by
    intro j v hj
    have e : (⟨g, 0, none⟩ : Addr).add j = ⟨g, j, none⟩ := by unfold Addr.add; split <;> simp_all
    rw [e, (cell_of_rowOf (rowSkip rsW1)).1 j, ← hj]
    simp [spCells]
  have hone : ∀ v ∈ spCells s, v.oneCell' = true := by
    intro u hu
    simp only [spCells, List.mem_cons, List.not_mem_nil, or_false] at hu
    rcases hu with rfl | rfl <;> rfl
  have hcp := run_copyW (P := Try.prog) (W1.alloc (.cells cur 31)) 107 107 3 31 W1.heap.size 0 N N ⟨g, 0, none⟩ 1 cap cur (spCells s) 2 1 Try.underlying107 info31s (row_here0 _ _ _) (Nat.min_eq_left hN1) rfl hsrc (by simp [spCells, hcs]; omega) hone
  have HO := Lib.hid hone
  clear hi0 hz0 hz1 hz2 hcur hsrc hone
  go_wp2_with fail
  have hg1 : Below w.heap.size w ((W1.alloc (.cells cur 31)).setRow W1.heap.size (spCells s ++ List.drop (spCells s).length cur.toList).toArray) := Below_setRow (hB.alloc hB.size _) hB.size _
  have hr1 : rowOf ((W1.alloc (.cells cur 31)).setRow W1.heap.size (spCells s ++ List.drop (spCells s).length cur.toList).toArray) W1.heap.size = some (rep (spCells s) 1 ++ List.drop 2 cur.toList).toArray := by
    rw [(stored_setRow (row_here0 _ _ _) _).row]
    simp [rep, spCells]
  have hl1 : (List.drop 2 cur.toList).length = (N - 1) * 2 := by simp [hcs]; omega
  generalize (W1.alloc (.cells cur 31)).setRow W1.heap.size (spCells s ++ List.drop (spCells s).length cur.toList).toArray = W2 at hg1 hr1 ⊢
  generalize List.drop 2 cur.toList = S0 at hr1 hl1
  have zR := hB.size
  clear rsW1 csW1 gsW1 hmk hcp hr
  generalize W1.heap.size = rb at *
  go_loopw [8] (fun i wr => ∃ n : Nat, 1 ≤ n ∧ n ≤ N ∧ i = .int .i64 (n : Int) ∧ (∃ S : List Value, rowOf wr rb = some (rep (spCells s) n ++ S).toArray ∧ S.length = (N - n) * 2) ∧ Below w.heap.size w wr) (fun i _ => N - (intOf i).toNat)
  case atStart => exact ⟨1, by omega, by omega, rfl, ⟨S0, hr1, hl1⟩, hg1⟩
  case round =>
    obtain ⟨n, hn1, hn2, rfl, ⟨S, hrS, hlS⟩, hBr⟩ := hrel
    by_cases hlt : n < N
    · have hlt' : (n : Int) < (N : Int) := by omega
      go_wp2_with fail
      obtain ⟨k, hk⟩ : ∃ k, Nat.min n (N - n) = k := ⟨_, rfl⟩
      have hk1 : 1 ≤ k := by rw [← hk]; exact Nat.le_min.2 ⟨hn1, by omega⟩
      have hk2 : k ≤ N - n := by rw [← hk]; exact Nat.min_le_right _ _
      obtain ⟨z, hz⟩ : ∃ z, (rep (spCells s) n ++ S).toArray = z := ⟨_, rfl⟩
      obtain ⟨r, hr⟩ : ∃ r, (rep (spCells s) (n + k) ++ S.drop (k * 2)).toArray = r := ⟨_, rfl⟩
      have hc8 : (spCells s).length = 2 := rfl
      have hcopy : ∀ W, (rowOf W rb = some z ∨ rowOf W rb = some r) → (Builtin.copy_ #[107, 107] 3 #[.slice (some ⟨rb, n * 2, none⟩) (N - n) (N - n), .slice (some ⟨rb, 0, none⟩) n N]).run Try.prog W = .ok (.int .i64 (k : Int)) (W.setRow rb r) := by
        intro W hW
        have hfin : rep (spCells s) (n + k) ++ (rep (spCells s) k ++ S.drop (k * 2)).drop (k * 2) = rep (spCells s) (n + k) ++ S.drop (k * 2) := by
          rw [List.drop_left' (by rw [rep_length, hc8])]
        rcases hW with h | h
        · rw [← hz] at h
          have := run_copyRep (P := Try.prog) W 107 107 3 31 rb (spCells s) N n k (N - n) N S _ Try.underlying107 info31s h hk (by rw [hlS, hc8]; omega) rfl HO.out
          rw [← hr]; exact this
        · rw [← hr, rep_add, List.append_assoc] at h
          have := run_copyRep (P := Try.prog) W 107 107 3 31 rb (spCells s) N n k (N - n) N _ _ Try.underlying107 info31s h hk (by rw [hc8]; simp [rep_length, hc8]) rfl HO.out
          rw [hc8, hfin, hr] at this
          exact this
      have HC := Lib.hid hcopy
      have HR := Lib.hid hr
      rw [hz] at hrS
      clear hcopy hr hz hk
      refine wp_drawy (by kernel_rfl) (XN (rb) z r) (fun j => match j with  | _ => 0) XN.refl (fun _ _ _ => XN.trans) [some 38, some 39, some 40, some 41, some 42, some 43, some 44, some 45, some 46] (by kernel_rfl) (by kernel_rfl) (fun ix v W => match ix with
        | 0 => v = .int .i64 (n : Int)
        | 1 => v = .slice (some ⟨rb, 0, none⟩) N N
        | 2 => v = .int .i64 (n : Int)
        | 3 => v = .slice (some ⟨rb, n * 2, none⟩) (N - n) (N - n)
        | 4 => v = .slice (some ⟨rb, 0, none⟩) N N
        | 5 => v = .int .i64 (n : Int)
        | 6 => v = .slice (some ⟨rb, 0, none⟩) n N
        | 7 => v = .int .i64 (k : Int) ∧ rowOf W (rb) = some r
        | 8 => v = .int .i64 ((n + k : Nat) : Int)
        | _ => True) ⟨⟨?_, ?_⟩, ⟨?_, ?_⟩, ⟨?_, ?_⟩, ⟨?_, ?_⟩, ⟨?_, ?_⟩, ⟨?_, ?_⟩, ⟨?_, ?_⟩, ⟨?_, ?_⟩, ⟨?_, ?_⟩, ?_⟩
      · intro g h; cases h
      · intro b' W hE hb hdep K hK
        have e8 : b'.tmps[8]?.getD undef = .int .i64 (n : Int) := hb 8 (by decide)
        clear hdep hb
        go_wp2
        exact hK _ _ (XN.refl _) rfl
      · intro g h; cases h
      · intro b' W hE hb hdep K hK
        have e7 : b'.tmps[7]?.getD undef = .slice (some ⟨rb, 0, none⟩) N N := hb 7 (by decide)
        clear hdep hb
        go_wp2
        exact hK _ _ (XN.refl _) rfl
      · intro g h; cases h
      · intro b' W hE hb hdep K hK
        have e8 : b'.tmps[8]?.getD undef = .int .i64 (n : Int) := hb 8 (by decide)
        clear hdep hb
        go_wp2
        exact hK _ _ (XN.refl _) rfl
      · intro g h; cases h
      · intro b' W hE hb hdep K hK
        have e39 : b'.tmps[39]?.getD undef = .slice (some ⟨rb, 0, none⟩) N N := pureN (hdep 1 (some 39) (by kernel_rfl) rfl)
        have e40 : b'.tmps[40]?.getD undef = .int .i64 (n : Int) := pureN (hdep 2 (some 40) (by kernel_rfl) rfl)
        clear hdep hb
        go_wp2
        exact hK _ _ (XN.refl _) rfl
      · intro g h; cases h
      · intro b' W hE hb hdep K hK
        have e7 : b'.tmps[7]?.getD undef = .slice (some ⟨rb, 0, none⟩) N N := hb 7 (by decide)
        clear hdep hb
        go_wp2
        exact hK _ _ (XN.refl _) rfl
      · intro g h; cases h
      · intro b' W hE hb hdep K hK
        have e8 : b'.tmps[8]?.getD undef = .int .i64 (n : Int) := hb 8 (by decide)
        clear hdep hb
        go_wp2
        exact hK _ _ (XN.refl _) rfl
      · intro g h; cases h
      · intro b' W hE hb hdep K hK
        have e42 : b'.tmps[42]?.getD undef = .slice (some ⟨rb, 0, none⟩) N N := pureN (hdep 4 (some 42) (by kernel_rfl) rfl)
        have e43 : b'.tmps[43]?.getD undef = .int .i64 (n : Int) := pureN (hdep 5 (some 43) (by kernel_rfl) rfl)
        clear hdep hb
        go_wp2
        exact hK _ _ (XN.refl _) rfl
      · intro g h; cases h
      · intro b' W hE hb hdep K hK
        have e41 : b'.tmps[41]?.getD undef = .slice (some ⟨rb, n * 2, none⟩) (N - n) (N - n) := pureN (hdep 3 (some 41) (by kernel_rfl) rfl)
        have e44 : b'.tmps[44]?.getD undef = .slice (some ⟨rb, 0, none⟩) n N := pureN (hdep 6 (some 44) (by kernel_rfl) rfl)
        clear hdep hb
        have hW := hE.fresh rb ((rowOf_drew _ _).trans hrS)
        have hrun := HC.out W hW
        go_wp2
        rcases hW with h | h
        · exact hK _ _ (xn_setRow h (Nat.le_refl _)) ⟨rfl, (stored_setRow h r).row⟩
        · exact hK _ _ (xn_setRow_same h) ⟨rfl, (stored_setRow h r).row⟩
      · intro g h; cases h
      · intro b' W hE hb hdep K hK
        have e38 : b'.tmps[38]?.getD undef = .int .i64 (n : Int) := pureN (hdep 0 (some 38) (by kernel_rfl) rfl)
        have e45 : b'.tmps[45]?.getD undef = .int .i64 (k : Int) := (let ⟨_, _, h⟩ := (hdep 7 (some 45) (by kernel_rfl) rfl); h.1)
        clear hdep hb
        go_wp2
        have e : (n : Int) + (k : Int) = ((n + k : Nat) : Int) := by omega
        exact hK _ _ (XN.refl _) (by rw [e])
      intro f W hE hR
      have e38 : f 38 = .int .i64 (n : Int) := pureN (hR 0 (some 38) rfl)
      have e39 : f 39 = .slice (some ⟨rb, 0, none⟩) N N := pureN (hR 1 (some 39) rfl)
      have e40 : f 40 = .int .i64 (n : Int) := pureN (hR 2 (some 40) rfl)
      have e41 : f 41 = .slice (some ⟨rb, n * 2, none⟩) (N - n) (N - n) := pureN (hR 3 (some 41) rfl)
      have e42 : f 42 = .slice (some ⟨rb, 0, none⟩) N N := pureN (hR 4 (some 42) rfl)
      have e43 : f 43 = .int .i64 (n : Int) := pureN (hR 5 (some 43) rfl)
      have e44 : f 44 = .slice (some ⟨rb, 0, none⟩) n N := pureN (hR 6 (some 44) rfl)
      obtain ⟨e45, l45⟩ : f 45 = .int .i64 (k : Int) ∧ rowOf W (rb) = some r := (let ⟨_, e, h⟩ := hR 7 (some 45) rfl; ⟨h.1, e.last h.2⟩)
      have e46 : f 46 = .int .i64 ((n + k : Nat) : Int) := pureN (hR 8 (some 46) rfl)
      clear hR
      simp only [List.filterMap_cons, List.filterMap_nil, id, puts, Act.put, List.setIfInBounds_toArray, List.set_cons_succ, List.set_cons_zero, e38, e39, e40, e41, e42, e43, e44, e45, e46]
      go_wp2
      exact ⟨⟨n + k, by omega, by omega, rfl, ⟨S.drop (k * 2), by rw [HR.out]; exact l45, by rw [List.length_drop, hlS, Nat.sub_mul, Nat.sub_mul, Nat.add_mul]; omega⟩, hE.below hBr.drew hBr.size zR⟩, by simp only [intOf]; omega⟩
    · obtain rfl : n = N := by omega
      obtain rfl : S = [] := List.eq_nil_of_length_eq_zero (by omega)
      go_wp2
      go_returns
      exact ⟨⟨rb, rfl, zR, by simpa using hrS⟩, hBr⟩
end Go.Proofs.Ytafdcbdbllpcnaa
/- A law for a range over an iterator that keeps a block of its own and yields items by their numbers; a drawing region in a round. Over every program. -/
namespace Go.Proofs.Ytafdcbdbllpcnaa
open Go.RowKit

/-- What a round leaves as it lay: some blocks; three from B on; what is newer than s0. -/
structure Kept (Kb : Nat → Prop) (B s0 : Nat) (W W' : World) : Prop where
  size : W.heap.size ≤ W'.heap.size
  same : ∀ b, b < W.heap.size → (Kb b ∨ (B ≤ b ∧ b < B + 3) ∨ s0 ≤ b) → W'.heap[b]? = W.heap[b]?
theorem Kept.refl (Kb : Nat → Prop) (B s0 : Nat) (W : World) : Kept Kb B s0 W W := ⟨Nat.le_refl _, fun _ _ _ => rfl⟩
theorem Kept.trans {Kb : Nat → Prop} {B s0 : Nat} {a b c : World} (h : Kept Kb B s0 a b) (k : Kept Kb B s0 b c) : Kept Kb B s0 a c :=
  ⟨Nat.le_trans h.size k.size, fun i hi hc => (k.same i (Nat.lt_of_lt_of_le hi h.size) hc).trans (h.same i hi hc)⟩
theorem Kept.ofExt {Kb : Nat → Prop} {B s0 : Nat} {a b : World} (h : Ext a b) : Kept Kb B s0 a b := ⟨h.size, fun i hi _ => h.block i hi⟩
theorem Kept.ofGrown {Kb : Nat → Prop} {B s0 : Nat} {a b : World} {row : Option Nat} (h : a.grownBy b row) (hr : ∀ r, row = some r → ¬ Kb r ∧ r < s0 ∧ (r < B ∨ B + 3 ≤ r)) : Kept Kb B s0 a b :=
  ⟨h.size, fun i hi hc => h.block i hi (fun e => by
    obtain ⟨h1, h2, h3⟩ := hr i e.symm
    rcases hc with hc | hc | hc
    · exact h1 hc
    · omega
    · omega)⟩

/-- The iterator's word, in the world w: it yields items 0, 1, .. by their numbers, fewer than N; S: so many have come and it ended; Sp: so many have come and a round said 'no more'. M, the heap's size when its closure is called, is its own block. -/
def IterAt {P : Program} (gf : Nat) (lb : Array Value) (encs : Nat → Array Value) (Kb : Nat → Prop) (N : Nat) (S Sp : Nat → Prop) (w : World) : Prop :=
  ∀ (l : Nat) (J Jx : Nat → World → Prop) (W : World), Below w.heap.size w W → w.heap.size ≤ W.heap.size →
    (∀ k A A', J k A → A.grownBy A' (some W.heap.size) → J k A') → (∀ k A A', Jx k A → A.grownBy A' (some W.heap.size) → Jx k A') →
    (∀ k W0 W1, k < N → J k W0 → W.heap.size < W0.heap.size → W0.grownBy W1 (some W.heap.size) → YieldAt Fence.wide 0 P l (encs k) W1 fun e W' =>
      (e = .returned (.bool true) ∧ J (k + 1) W' ∧ W1.heap.size ≤ W'.heap.size ∧ ∀ b, b < W1.heap.size → (Kb b ∨ b = W.heap.size ∨ W0.heap.size ≤ b) → W'.heap[b]? = W1.heap[b]?) ∨ (e = .returned (.bool false) ∧ Jx (k + 1) W')) →
    J 0 W →
    CallsIn Fence.wide 0 P gf (#[.func (.yield l) #[] #[]] ++ lb) W fun e W' => (∃ v, e = .returned v) ∧ ((∃ k, S k ∧ J k W') ∨ (∃ k, Sp k ∧ Jx k W'))

/-- How a round's body may be left. -/
def iterPost (Kb : Nat → Prop) (B s0 : Nat) (I : Nat → World → Prop) (Ix : Code → Nat → World → Prop) (k : Nat) (W : World) : Exit → Act → World → Prop
  | .normal, _, W' => Kept Kb B s0 W W' ∧ I k W'
  | .ret, _, W' => Kept Kb B s0 W W' ∧ Ix .ret k W'
  | .exit id, _, W' => Kept Kb B s0 W W' ∧ Ix (.exit id) k W'
  | .goto t, _, W' => Kept Kb B s0 W W' ∧ Ix (.goto t) k W'
  | .panic _, _, _ => False
  | .outgrown, _, _ => False

section
variable {P : Program}
theorem grown_put (W : World) {l k : Nat} (o : Obj) (h : l ≠ k) : (W.putObj l o).heap[k]? = W.heap[k]? := World.putObj_heap_other (fun e => h e.symm)

theorem wpIn_iter {g : Operand} {ps : Array Tmp} {assign body : Code} {Q : Exit → Act → World → Prop} {a : Act} {w : World}
    {gf : Nat} {lb : Array Value} (hg : a.eval g = .func (.func gf) #[] lb) (eg : ∀ args w, (callFunc gf args).run P w = .ok (.enter gf args) w)
    {encs : Nat → Array Value} (hps : ∀ k, (encs k).size = ps.size) {Kb : Nat → Prop} {N : Nat} {S Sp : Nat → Prop} (hit : IterAt (P := P) gf lb encs Kb N S Sp w) (hn : ∀ i, Kb i → i < w.heap.size)
    (I : Nat → World → Prop) (Ix : Code → Nat → World → Prop) (hI : ∀ k A A' r, I k A → A.grownBy A' (some r) → w.heap.size ≤ r → r < w.heap.size + 3 → I k A')
    (hIx : ∀ c k A A' r, Ix c k A → A.grownBy A' (some r) → w.heap.size ≤ r → r < w.heap.size + 3 → Ix c k A') (h0 : I 0 w)
    (o : Nat → Obj) (av : Nat → Nat → Act)
    (hassign : ∀ (l k : Nat) (W : World) (K : Act → World → Prop), K (av k W.heap.size) (W.alloc (o k)) → assign.wpIn (Fence.wide.inRound l) 0 P (Exit.then K (fun _ _ _ => False)) { tmps := (ps.zip (encs k)).foldl (fun t (p, v) => t.setIfInBounds p v) a.tmps, defers := [] } W)
    (hbody : ∀ (l k : Nat) (W0 W1 W2 : World), k < N → w.heap.size + 3 ≤ W0.heap.size → W0.heap.size ≤ W1.heap.size → I k W0 → I k W2 → (W1.alloc (o k)).grownBy W2 (some (w.heap.size + 1)) → (∀ i, i < W0.heap.size → i ≠ w.heap.size + 1 → i ≠ w.heap.size + 2 → W2.heap[i]? = W0.heap[i]?) → body.wpIn (Fence.wide.inRound l) 0 P (iterPost Kb w.heap.size W0.heap.size I Ix (k + 1) W2) (av k W1.heap.size) W2)
    (hdone : ∀ (k : Nat) (W : World), S k → I k W → W.heap[w.heap.size]? = some (.deferred (some [])) → Q .normal { a with defers := { target := .collected w.heap.size, args := #[] } :: a.defers } W)
    (hstop : ∀ (c : Code) (k : Nat) (W : World), Sp k → Ix c k W → W.heap[w.heap.size]? = some (.deferred (some [])) → c.wpIn Fence.wide 0 P Q { a with defers := { target := .collected w.heap.size, args := #[] } :: a.defers } W) :
    (Code.rangeFunc g ps assign body).wpIn Fence.wide 0 P Q a w := by
  refine wpIn_rangeFunc fun fn _ => ?_
  obtain ⟨rec, hrec⟩ : ∃ rec : LoopState → Option Code → Obj, rec = fun st pe => .loop { state := st, pending := pe, fn, tmps := a.tmps, params := ps, assign, body, defers := w.heap.size } := ⟨_, rfl⟩
  obtain ⟨W1, hW1⟩ : ∃ W1, (w.alloc (.deferred (some []))).alloc (rec .ready none) = W1 := ⟨_, rfl⟩
  have z1 : W1.heap.size = w.heap.size + 2 := by rw [← hW1]; simp
  have gr : ∀ (o : Obj) (W : World) (r : Nat), W.grownBy (W.alloc o) (some r) := fun o W r => World.grownBy_alloc W o _
  have I1 : I 0 W1 := by
    rw [← hW1]
    exact hI 0 _ _ w.heap.size (hI 0 _ _ w.heap.size h0 (gr _ _ _) (Nat.le_refl _) (by omega)) (gr _ _ _) (Nat.le_refl _) (by omega)
  have B1 : Below w.heap.size w W1 := by
    rw [← hW1]
    exact ((Below.refl _ w).alloc (Nat.le_refl _) _).alloc (by simp) _
  have L1 : W1.heap[w.heap.size + 1]? = some (rec .ready none) := by
    have := World.alloc_heap_new (w.alloc (.deferred (some []))) (rec .ready none)
    rw [World.size_alloc, hW1] at this
    exact this
  have D1 : W1.heap[w.heap.size]? = some (.deferred (some [])) := by
    rw [← hW1]
    exact (Below.heap_alloc _ _ _ (by simp)).trans (World.alloc_heap_new w _)
  refine ⟨w.heap.size + 1, [{ target := .collected w.heap.size, args := #[] }], W1, { target := .fn (.func gf) lb, args := #[.func (.yield (w.heap.size + 1)) #[] #[]] }, W1, gf,
    #[.func (.yield (w.heap.size + 1)) #[] #[]] ++ lb, W1, ?_, ?_, fun _ _ => trivial, ?_, fun h => by simp [Fence.wide] at h, ?_⟩
  · rw [← hW1, hrec]
    exact run_enterLoop_outer _ _ _ _ _
  · simp only [resolve, hg]
    simp [go_sem]
  · simp [invoke, go_sem, eg]
  · refine (hit (w.heap.size + 1)
      (fun k W => I k W ∧ W.heap[w.heap.size + 1]? = some (rec .ready none) ∧ W.heap[w.heap.size]? = some (.deferred (some [])))
      (fun k W => ∃ c, Ix c k W ∧ W.heap[w.heap.size + 1]? = some (rec .done (some c)) ∧ W.heap[w.heap.size]? = some (.deferred (some [])))
      W1 B1 (by omega) ?_ ?_ ?_ ⟨I1, L1, D1⟩).mono ?_
    · rintro k A A' ⟨h1, h2, h3⟩ hgr
      have hlt := (Array.getElem?_eq_some_iff.1 h2).1
      exact ⟨hI k A A' _ h1 hgr (by omega) (by omega), (hgr.block _ hlt (by rw [z1]; simp)).trans h2, (hgr.block _ (by omega) (by rw [z1]; simp)).trans h3⟩
    · rintro k A A' ⟨c, h1, h2, h3⟩ hgr
      have hlt := (Array.getElem?_eq_some_iff.1 h2).1
      exact ⟨c, hIx c k A A' _ h1 hgr (by omega) (by omega), (hgr.block _ hlt (by rw [z1]; simp)).trans h2, (hgr.block _ (by omega) (by rw [z1]; simp)).trans h3⟩
    · rintro k W0 W2 hk ⟨h1, h2, h3⟩ hlt hgr
      have l2 := (Array.getElem?_eq_some_iff.1 h2).1
      have e2 : W2.heap[w.heap.size + 1]? = some (rec .ready none) := (hgr.block _ l2 (by rw [z1]; simp)).trans h2
      have e3 : W2.heap[w.heap.size]? = some (.deferred (some [])) := (hgr.block _ (by omega) (by rw [z1]; simp)).trans h3
      have i2 : I k W2 := hI k W0 W2 _ h1 hgr (by omega) (by omega)
      have s2 := hgr.size
      rw [hrec] at e2
      refine ⟨fn, _, assign, body, run_yield (P := P) (args := encs k) e2 (hps k), roundIn_of_wpIn trivial (hassign (w.heap.size + 1) k W2 _ ?_)⟩
      have e2' : (W2.alloc (o k)).heap[w.heap.size + 1]? = some (rec .ready none) := by rw [hrec]; exact (Below.heap_alloc _ _ _ (by omega)).trans e2
      have e3' : (W2.alloc (o k)).heap[w.heap.size]? = some (.deferred (some [])) := (Below.heap_alloc _ _ _ (by omega)).trans e3
      have i2' : I k (W2.alloc (o k)) := hI k _ _ w.heap.size i2 (gr _ _ _) (Nat.le_refl _) (by omega)
      refine ⟨_, run_beginRound (by rw [hrec] at e2'; exact e2') rfl, ?_⟩
      obtain ⟨W3, hW3⟩ : ∃ W3, (W2.alloc (o k)).putObj (w.heap.size + 1) (rec .busy none) = W3 := ⟨_, rfl⟩
      have g3 : (W2.alloc (o k)).grownBy W3 (some (w.heap.size + 1)) := by rw [← hW3]; exact grownBy_putObj' _ _ _
      have s3 : W3.heap.size = W2.heap.size + 1 := by rw [← hW3]; simp
      have e4 : W3.heap[w.heap.size + 1]? = some (rec .busy none) := by rw [← hW3]; exact World.putObj_heap_same (by simp; omega)
      have e5 : W3.heap[w.heap.size]? = some (.deferred (some [])) := by rw [← hW3]; exact (World.putObj_heap_other (by omega)).trans e3'
      have i3 : I k W3 := hI k _ _ _ i2' g3 (by omega) (by omega)
      have hb := hbody (w.heap.size + 1) k W0 W2 W3 hk (by omega) s2 h1 i3 g3 (fun i hi n1 n2 => (g3.block i (by simp; omega) (by simpa using n1)).trans ((Below.heap_alloc _ _ _ (by omega)).trans (hgr.block i hi (by rw [z1]; simpa using n2))))
      rw [hrec] at hW3
      simp only at hW3
      rw [hW3]
      refine wpIn_mono hb ?_
      have fin : ∀ (jump : Option Code) (W4 : World), Kept Kb w.heap.size W0.heap.size W3 W4 →
          ∃ W5, (Instr.endRound (w.heap.size + 1) jump).run P W4 = .ok (.bool jump.isNone) W5 ∧ W4.grownBy W5 (some (w.heap.size + 1)) ∧
            W5.heap[w.heap.size + 1]? = some (rec (if jump.isNone then .ready else .done) jump) ∧ W5.heap[w.heap.size]? = some (.deferred (some [])) := fun jump W4 hk4 => by
        have e6 := (hk4.same (w.heap.size + 1) (by omega) (.inr (.inl ⟨by omega, by omega⟩))).trans e4
        have e7 := (hk4.same w.heap.size (by omega) (.inr (.inl ⟨by omega, by omega⟩))).trans e5
        have := hk4.size
        have hr := run_endRound (P := P) jump (by rw [hrec] at e6; exact e6)
        refine ⟨_, hr, grownBy_putObj' _ _ _, ?_, (World.putObj_heap_other (by omega)).trans e7⟩
        rw [hrec]
        exact World.putObj_heap_same (by omega)
      rintro e a3 W4 hp
      cases e with
      | normal =>
        obtain ⟨hk4, hi4⟩ := hp
        obtain ⟨W5, hr, hg5, hl5, hd5⟩ := fin none W4 hk4
        have s5 := hg5.size
        have s4 := hk4.size
        refine ⟨_, _, hr, .inl ⟨rfl, ⟨hI _ _ _ _ hi4 hg5 (by omega) (by omega), hl5, hd5⟩, by omega, fun b hb hc => ?_⟩⟩
        have n1 : b ≠ w.heap.size + 1 := by
          rcases hc with hc | hc | hc
          · have := hn b hc; omega
          · omega
          · omega
        have hc' : Kb b ∨ (w.heap.size ≤ b ∧ b < w.heap.size + 3) ∨ W0.heap.size ≤ b := by
          rcases hc with hc | hc | hc
          · exact .inl hc
          · exact .inr (.inl ⟨by omega, by omega⟩)
          · exact .inr (.inr hc)
        refine (hg5.block b (by omega) (by simpa using n1)).trans ((hk4.same b (by omega) hc').trans ((g3.block b (by simp; omega) (by simpa using n1)).trans (Below.heap_alloc _ _ _ hb)))
      | ret =>
        obtain ⟨hk4, hi4⟩ := hp
        obtain ⟨W5, hr, hg5, hl5, hd5⟩ := fin (some .ret) W4 hk4
        exact ⟨_, _, hr, .inr ⟨rfl, _, hIx _ _ _ _ _ hi4 hg5 (by omega) (by omega), hl5, hd5⟩⟩
      | exit id =>
        obtain ⟨hk4, hi4⟩ := hp
        obtain ⟨W5, hr, hg5, hl5, hd5⟩ := fin (some (.exit id)) W4 hk4
        exact ⟨_, _, hr, .inr ⟨rfl, _, hIx _ _ _ _ _ hi4 hg5 (by omega) (by omega), hl5, hd5⟩⟩
      | goto t =>
        obtain ⟨hk4, hi4⟩ := hp
        obtain ⟨W5, hr, hg5, hl5, hd5⟩ := fin (some (.goto t)) W4 hk4
        exact ⟨_, _, hr, .inr ⟨rfl, _, hIx _ _ _ _ _ hi4 hg5 (by omega) (by omega), hl5, hd5⟩⟩
      | panic ch => exact hp.elim
      | outgrown => exact hp.elim
    · rintro e W2 ⟨⟨v, rfl⟩, (⟨k, hS, hi, hl, hd⟩ | ⟨k, hSp, c, hi, hl, hd⟩)⟩
      · rw [hrec] at hl
        exact ⟨none, _, run_endLoop (P := P) hl (by simp), hdone k _ hS (hI _ _ _ _ hi (grownBy_putObj' _ _ _) (by omega) (by omega)) ((World.putObj_heap_other (by omega)).trans hd)⟩
      · rw [hrec] at hl
        exact ⟨some c, _, run_endLoop (P := P) hl (by simp), hstop c k _ hSp (hIx _ _ _ _ _ hi (grownBy_putObj' _ _ _) (by omega) (by omega)) ((World.putObj_heap_other (by omega)).trans hd)⟩

/-! A drawing region in a round of the wide fence: as outside. -/
theorem callsW {n : Nat} {f : FuncId} {args : Array Value} {w : World} {R : Ending → World → Prop} (l : Nat) (h : Calls P f args w R) : CallsIn (Fence.wide.inRound l) n P f args w R := callsIn_wide.2 h
theorem oper_round {o : Oper} {a : Act} {w : World} {K : Act → World → Prop} {Q : Exit → Act → World → Prop} (l n : Nat) (hd : ∀ c, o.op ≠ .defer c) (h : o.wp P a w K Q) : o.wpIn (Fence.wide.inRound l) n P a w K Q := by
  unfold Oper.wp at h
  unfold Oper.wpIn
  refine ⟨fun _ _ => trivial, ?_⟩
  rw [Oper.semAt_eq _ _ _ hd]
  generalize (execOp a.eval o).run P w = r at *
  have hF : (Fence.wide.inRound l).depth.isSome = true → 1 ≤ n := fun h => by simp [Fence.wide] at h
  cases r with
  | ok x w' =>
    cases x <;> simp only [Oper.upon, Oper.uponIn] at h ⊢ <;>
      first
        | exact h
        | exact ⟨hF, callsW l h⟩
        | exact ⟨hF, fun c cs _ => let ⟨v, w'', r, s⟩ := h c cs; ⟨v, w'', r, stepsIn_wide.2 s⟩⟩
  | halt x w' => cases x <;> simp only [Oper.upon, Oper.uponIn] at h ⊢ <;> exact h

def noDefer (o : Oper) : Bool := match o.op with | .defer _ => false | _ => true
theorem noDefer_ne {o : Oper} (h : noDefer o = true) : ∀ c, o.op ≠ .defer c := fun c e => by simp [noDefer, e] at h

theorem any_round {ops : Array Oper} {Q : Exit → Act → World → Prop} {md : Region.Mode} (l n : Nat) (hd : ops.all noDefer = true) (hL : ¬ LetsOut Q) : ∀ (fuel : Nat) (listed : Array Bool) (a : Act) (w : World), wpAny P md ops Q fuel listed a w → wpAnyIn (Fence.wide.inRound l) n P md ops Q fuel listed a w
  | 0, _, _, _, h => h
  | fuel + 1, listed, a, w, h => by
    refine ⟨h.1, fun i hi => ?_⟩
    have := h.2 i hi
    unfold wpOp at this
    unfold wpOpIn
    cases ho : ops[i]? with
    | none => simp only [ho] at this ⊢; exact any_round l n hd hL fuel _ _ _ this
    | some o =>
      have hdo : noDefer o = true := by
        obtain ⟨hlt, rfl⟩ := Array.getElem?_eq_some_iff.1 ho
        exact Array.all_eq_true.1 hd i hlt
      simp only [ho] at this ⊢
      split at this
      · rename_i hw
        rw [if_pos hw]
        rcases this with h' | h'
        · exact oper_round l n (noDefer_ne hdo) (Oper.wp_mono (fun a w h => any_round l n hd hL fuel _ a w h) h')
        · exact absurd h'.2 hL
      · rename_i hw
        rw [if_neg hw]
        exact ⟨fun _ _ => trivial, any_round l n hd hL fuel _ _ _ this⟩

/-- The same, where nothing grows out. -/
def noOut (Q : Exit → Act → World → Prop) : Exit → Act → World → Prop
  | .outgrown, _, _ => False
  | e, a, w => Q e a w
theorem noOut_le {Q : Exit → Act → World → Prop} : ∀ e a w, noOut Q e a w → Q e a w
  | .normal, _, _, h => h
  | .ret, _, _, h => h
  | .exit _, _, _, h => h
  | .goto _, _, _, h => h
  | .panic _, _, _, h => h
theorem region_round {id : Nat} {ops : Array Oper} {Q : Exit → Act → World → Prop} {a : Act} {w : World} (l n : Nat) (hm : P.follows .mixedOrders = true) (hd : ops.all noDefer = true)
    (h : wpAny P .any ops (noOut Q) ops.size (Array.replicate ops.size false) a w.drew) : (Code.region id ops true).wpIn (Fence.wide.inRound l) n P Q a w :=
  wpIn_mono (wpIn_region_any hm (any_round l n hd (fun ⟨_, _, h⟩ => h) _ _ _ _ h)) noOut_le

theorem ext_drew (w : World) : Ext w w.drew := (Below.refl _ w).drew
/-- A drawing region whose operations yield values that don't hang on the world, be memory made or not. -/
theorem quiet_wp {id : Nat} {Q : Exit → Act → World → Prop} {a : Act} {w : World} {os : List Oper} (hm : P.follows .mixedOrders = true) (hB : Region.lexB .any os.toArray = true)
    (h : wpQuiet P os.toArray (Ext w) (fun a' => ∀ w', Ext w w' → Q .normal a' w') os a) : (Code.region id os.toArray true).wp P Q a w :=
  wp_region_quiet hm hB (ext_drew w) (by simpa using h)
theorem quiet_round {id : Nat} {Q : Exit → Act → World → Prop} {a : Act} {w : World} {os : List Oper} (l n : Nat) (hm : P.follows .mixedOrders = true) (hd : os.toArray.all noDefer = true) (hB : Region.lexB .any os.toArray = true)
    (h : wpQuiet P os.toArray (Ext w) (fun a' => ∀ w', Ext w w' → Q .normal a' w') os a) : (Code.region id os.toArray true).wpIn (Fence.wide.inRound l) n P Q a w := by
  refine region_round l n hm hd ?_
  simp only [Region.lexB, Bool.and_eq_true] at hB
  refine wpAny_of_quiet (C := Ext w) (Q := fun a' => ∀ w', Ext w w' → Q .normal a' w') (Q' := noOut Q) (fun _ w' hw' h => h w' hw') _ _ _ _ (ext_drew w) ?_
  have := wpAnyQ_lex (P := P) (C := Ext w) (md := .any) hB.1 os 0 (Array.replicate os.toArray.size false) a (by simp) (by simpa using hB.2) h
  simpa using this
theorem quiet_step {ops : Array Oper} {C : World → Prop} {K : Act → Prop} {o : Oper} {rest : List Oper} {a : Act} (hw : Region.wanted o (yielded ops a.tmps) = true) (v : Value) (h : ∀ W, C W → o.quietAt P a C W v) (hk : wpQuiet P ops C K rest (a.put o.dst v)) : wpQuiet P ops C K (o :: rest) a :=
  Go.BigFrame.wpQuiet_want hw fun _ hK => ⟨v, h, hK _ hk⟩
end
end Go.Proofs.Ytafdcbdbllpcnaa
