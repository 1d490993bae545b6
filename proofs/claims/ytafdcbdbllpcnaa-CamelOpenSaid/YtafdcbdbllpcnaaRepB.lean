/- Contract of slices.Repeat at one span. -/
import Derived.Test.YtafdcbdbllpcnaaRepA
namespace Go.Proofs.Ytafdcbdbllpcnaa
open Go.RowKit
open Go.Proofs

set_option maxHeartbeats 8000000 in
theorem Mul64_n (N : Nat) (h1 : 1 ≤ N) (h2 : N ≤ 30) (w : World) :
    Calls Try.prog 97 #[.int .u64 1, .int .u64 (N : Int)] w fun e w' => e = .returned (.tuple #[.int .u64 0, .int .u64 (N : Int)]) ∧ Below w.heap.size w w' := by
  obtain rfl | rfl | rfl | rfl | rfl | rfl | rfl | rfl | rfl | rfl | rfl | rfl | rfl | rfl | rfl | rfl | rfl | rfl | rfl | rfl | rfl | rfl | rfl | rfl | rfl | rfl | rfl | rfl | rfl | rfl : N = 1 ∨ N = 2 ∨ N = 3 ∨ N = 4 ∨ N = 5 ∨ N = 6 ∨ N = 7 ∨ N = 8 ∨ N = 9 ∨ N = 10 ∨ N = 11 ∨ N = 12 ∨ N = 13 ∨ N = 14 ∨ N = 15 ∨ N = 16 ∨ N = 17 ∨ N = 18 ∨ N = 19 ∨ N = 20 ∨ N = 21 ∨ N = 22 ∨ N = 23 ∨ N = 24 ∨ N = 25 ∨ N = 26 ∨ N = 27 ∨ N = 28 ∨ N = 29 ∨ N = 30 := by omega
  all_goals
    go_enter Try.func97, Try.ntmps97
    go_wp2
    go_returns
    exact ⟨rfl, by go_grown⟩
theorem Mul_n (N : Nat) (h1 : 1 ≤ N) (h2 : N ≤ 30) (w : World) :
    Calls Try.prog 91 #[.int .u64 1, .int .u64 (N : Int)] w fun e w' => e = .returned (.tuple #[.int .u64 0, .int .u64 (N : Int)]) ∧ Below w.heap.size w w' := by
  go_enter Try.func91, Try.ntmps91
  go_wp2_with fail
  refine (Mul64_n N h1 h2 _).mono ?_
  rintro e W ⟨rfl, hB⟩
  go_wp2
  go_returns
  exact ⟨rfl, hB⟩
def spCells (s : Int × Int) : List Value := [.int .i64 s.1, .int .i64 s.2]
theorem info31s : (Try.prog.info? 31).map (·.size) = some 2 := by kernel_rfl
theorem info31z : (Try.prog.info? 31).map (fun i => (i.zero, i.size, i.bytes)) = some (some (.agg #[.int .i64 0, .int .i64 0]), 2, 16) := by kernel_rfl

set_option maxRecDepth 100000 in
set_option maxHeartbeats 2000000 in
theorem Repeat_s (s : Int × Int) (N : Nat) (hN1 : 1 ≤ N) (hN2 : N ≤ 30) (g cap : Nat) (w : World) (hr : rowOf w g = some #[.int .i64 s.1, .int .i64 s.2]) :
    Calls Try.prog 83 #[.slice (some ⟨g, 0, none⟩) 1 cap, .int .i64 (N : Int)] w fun e w' => (∃ r, e = .returned (.slice (some ⟨r, 0, none⟩) N N) ∧ w.heap.size ≤ r ∧ rowOf w' r = some (rep (spCells s) N).toArray) ∧ Below w.heap.size w w' := by
  go_enter Try.func83, Try.ntmps83
  go_wp2_with fail
  refine (Mul_n N hN1 hN2 _).mono ?_
  rintro e W1 ⟨rfl, hB⟩
  obtain ⟨rsW1, csW1, gsW1, zsW1⟩ := keep_row hB hr
  obtain ⟨i0, hi0, hz0, hz1, hz2⟩ := info_parts info31z
  have hmk := run_make (P := Try.prog) W1 107 31 i0 _ Try.underlying107 hi0 hz0 .i64 .i64 (N : Int) (N : Int) (by omega) (by omega) (by rw [hz2]; omega) (by omega)
  obtain ⟨cur, hcur⟩ : ∃ cur, madeCells (Value.agg #[.int .i64 0, .int .i64 0]).cells ((N : Int).toNat * i0.size) = cur := ⟨_, rfl⟩
  have hcs : cur.size = N * 2 := by rw [← hcur, size_madeCells, hz1]; rfl
  rw [hcur] at hmk
  simp only [Int.toNat_natCast] at hmk
  have hsrc : ∀ j v, (spCells s)[j]? = some v → (W1.alloc (.cells cur 31)).cell? ((⟨g, 0, none⟩ : Addr).add j) = some v := by
    intro j v hj
    have e : (⟨g, 0, none⟩ : Addr).add j = ⟨g, j, none⟩ := by unfold Addr.add; split <;> simp_all
    rw [e, (cell_of_rowOf (rowSkip rsW1)).1 j, ← hj]
    simp [spCells]
  have hone : ∀ v ∈ spCells s, v.oneCell' = true := by
    intro u hu
    simp only [spCells, List.mem_cons, List.not_mem_nil, or_false] at hu
    rcases hu with rfl | rfl <;> rfl
  have hcp := run_copyW (P := Try.prog) (W1.alloc (.cells cur 31)) 107 107 3 31 W1.heap.size 0 N N ⟨g, 0, none⟩ 1 cap cur (spCells s) 2 1 Try.underlying107 info31s (row_here0 _ _ _) (Nat.min_eq_left hN1) rfl hsrc (by simp [spCells, hcs]; omega) hone
  have HO := Lib.hid hone
  clear hi0 hz0 hz1 hz2 hcur hsrc hone
  go_wp2_with fail
  have hg1 : Below w.heap.size w ((W1.alloc (.cells cur 31)).setRow W1.heap.size (spCells s ++ List.drop (spCells s).length cur.toList).toArray) := Below_setRow (hB.alloc hB.size _) hB.size _
  have hr1 : rowOf ((W1.alloc (.cells cur 31)).setRow W1.heap.size (spCells s ++ List.drop (spCells s).length cur.toList).toArray) W1.heap.size = some (rep (spCells s) 1 ++ List.drop 2 cur.toList).toArray := by
    rw [(stored_setRow (row_here0 _ _ _) _).row]
    simp [rep, spCells]
  have hl1 : (List.drop 2 cur.toList).length = (N - 1) * 2 := by simp [hcs]; omega
  generalize (W1.alloc (.cells cur 31)).setRow W1.heap.size (spCells s ++ List.drop (spCells s).length cur.toList).toArray = W2 at hg1 hr1 ⊢
  generalize List.drop 2 cur.toList = S0 at hr1 hl1
  have zR := hB.size
  clear rsW1 csW1 gsW1 hmk hcp hr
  generalize W1.heap.size = rb at *
  go_loopw [8] (fun i wr => ∃ n : Nat, 1 ≤ n ∧ n ≤ N ∧ i = .int .i64 (n : Int) ∧ (∃ S : List Value, rowOf wr rb = some (rep (spCells s) n ++ S).toArray ∧ S.length = (N - n) * 2) ∧ Below w.heap.size w wr) (fun i _ => N - (intOf i).toNat)
  case atStart => exact ⟨1, by omega, by omega, rfl, ⟨S0, hr1, hl1⟩, hg1⟩
  case round =>
    obtain ⟨n, hn1, hn2, rfl, ⟨S, hrS, hlS⟩, hBr⟩ := hrel
    by_cases hlt : n < N
    · have hlt' : (n : Int) < (N : Int) := by omega
      go_wp2_with fail
      obtain ⟨k, hk⟩ : ∃ k, Nat.min n (N - n) = k := ⟨_, rfl⟩
      have hk1 : 1 ≤ k := by rw [← hk]; exact Nat.le_min.2 ⟨hn1, by omega⟩
      have hk2 : k ≤ N - n := by rw [← hk]; exact Nat.min_le_right _ _
      obtain ⟨z, hz⟩ : ∃ z, (rep (spCells s) n ++ S).toArray = z := ⟨_, rfl⟩
      obtain ⟨r, hr⟩ : ∃ r, (rep (spCells s) (n + k) ++ S.drop (k * 2)).toArray = r := ⟨_, rfl⟩
      have hc8 : (spCells s).length = 2 := rfl
      have hcopy : ∀ W, (rowOf W rb = some z ∨ rowOf W rb = some r) → (Builtin.copy_ #[107, 107] 3 #[.slice (some ⟨rb, n * 2, none⟩) (N - n) (N - n), .slice (some ⟨rb, 0, none⟩) n N]).run Try.prog W = .ok (.int .i64 (k : Int)) (W.setRow rb r) := by
        intro W hW
        have hfin : rep (spCells s) (n + k) ++ (rep (spCells s) k ++ S.drop (k * 2)).drop (k * 2) = rep (spCells s) (n + k) ++ S.drop (k * 2) := by
          rw [List.drop_left' (by rw [rep_length, hc8])]
        rcases hW with h | h
        · rw [← hz] at h
          have := run_copyRep (P := Try.prog) W 107 107 3 31 rb (spCells s) N n k (N - n) N S _ Try.underlying107 info31s h hk (by rw [hlS, hc8]; omega) rfl HO.out
          rw [← hr]; exact this
        · rw [← hr, rep_add, List.append_assoc] at h
          have := run_copyRep (P := Try.prog) W 107 107 3 31 rb (spCells s) N n k (N - n) N _ _ Try.underlying107 info31s h hk (by rw [hc8]; simp [rep_length, hc8]) rfl HO.out
          rw [hc8, hfin, hr] at this
          exact this
      have HC := Lib.hid hcopy
      have HR := Lib.hid hr
      rw [hz] at hrS
      clear hcopy hr hz hk
      refine wp_drawy (by kernel_rfl) (XN (rb) z r) (fun j => match j with  | _ => 0) XN.refl (fun _ _ _ => XN.trans) [some 38, some 39, some 40, some 41, some 42, some 43, some 44, some 45, some 46] (by kernel_rfl) (by kernel_rfl) (fun ix v W => match ix with
        | 0 => v = .int .i64 (n : Int)
        | 1 => v = .slice (some ⟨rb, 0, none⟩) N N
        | 2 => v = .int .i64 (n : Int)
        | 3 => v = .slice (some ⟨rb, n * 2, none⟩) (N - n) (N - n)
        | 4 => v = .slice (some ⟨rb, 0, none⟩) N N
        | 5 => v = .int .i64 (n : Int)
        | 6 => v = .slice (some ⟨rb, 0, none⟩) n N
        | 7 => v = .int .i64 (k : Int) ∧ rowOf W (rb) = some r
        | 8 => v = .int .i64 ((n + k : Nat) : Int)
        | _ => True) ⟨⟨?_, ?_⟩, ⟨?_, ?_⟩, ⟨?_, ?_⟩, ⟨?_, ?_⟩, ⟨?_, ?_⟩, ⟨?_, ?_⟩, ⟨?_, ?_⟩, ⟨?_, ?_⟩, ⟨?_, ?_⟩, ?_⟩
      · intro g h; cases h
      · intro b' W hE hb hdep K hK
        have e8 : b'.tmps[8]?.getD undef = .int .i64 (n : Int) := hb 8 (by decide)
        clear hdep hb
        go_wp2
        exact hK _ _ (XN.refl _) rfl
      · intro g h; cases h
      · intro b' W hE hb hdep K hK
        have e7 : b'.tmps[7]?.getD undef = .slice (some ⟨rb, 0, none⟩) N N := hb 7 (by decide)
        clear hdep hb
        go_wp2
        exact hK _ _ (XN.refl _) rfl
      · intro g h; cases h
      · intro b' W hE hb hdep K hK
        have e8 : b'.tmps[8]?.getD undef = .int .i64 (n : Int) := hb 8 (by decide)
        clear hdep hb
        go_wp2
        exact hK _ _ (XN.refl _) rfl
      · intro g h; cases h
      · intro b' W hE hb hdep K hK
        have e39 : b'.tmps[39]?.getD undef = .slice (some ⟨rb, 0, none⟩) N N := pureN (hdep 1 (some 39) (by kernel_rfl) rfl)
        have e40 : b'.tmps[40]?.getD undef = .int .i64 (n : Int) := pureN (hdep 2 (some 40) (by kernel_rfl) rfl)
        clear hdep hb
        go_wp2
        exact hK _ _ (XN.refl _) rfl
      · intro g h; cases h
      · intro b' W hE hb hdep K hK
        have e7 : b'.tmps[7]?.getD undef = .slice (some ⟨rb, 0, none⟩) N N := hb 7 (by decide)
        clear hdep hb
        go_wp2
        exact hK _ _ (XN.refl _) rfl
      · intro g h; cases h
      · intro b' W hE hb hdep K hK
        have e8 : b'.tmps[8]?.getD undef = .int .i64 (n : Int) := hb 8 (by decide)
        clear hdep hb
        go_wp2
        exact hK _ _ (XN.refl _) rfl
      · intro g h; cases h
      · intro b' W hE hb hdep K hK
        have e42 : b'.tmps[42]?.getD undef = .slice (some ⟨rb, 0, none⟩) N N := pureN (hdep 4 (some 42) (by kernel_rfl) rfl)
        have e43 : b'.tmps[43]?.getD undef = .int .i64 (n : Int) := pureN (hdep 5 (some 43) (by kernel_rfl) rfl)
        clear hdep hb
        go_wp2
        exact hK _ _ (XN.refl _) rfl
      · intro g h; cases h
      · intro b' W hE hb hdep K hK
        have e41 : b'.tmps[41]?.getD undef = .slice (some ⟨rb, n * 2, none⟩) (N - n) (N - n) := pureN (hdep 3 (some 41) (by kernel_rfl) rfl)
        have e44 : b'.tmps[44]?.getD undef = .slice (some ⟨rb, 0, none⟩) n N := pureN (hdep 6 (some 44) (by kernel_rfl) rfl)
        clear hdep hb
        have hW := hE.fresh rb ((rowOf_drew _ _).trans hrS)
        have hrun := HC.out W hW
        go_wp2
        rcases hW with h | h
        · exact hK _ _ (xn_setRow h (Nat.le_refl _)) ⟨rfl, (stored_setRow h r).row⟩
        · exact hK _ _ (xn_setRow_same h) ⟨rfl, (stored_setRow h r).row⟩
      · intro g h; cases h
      · intro b' W hE hb hdep K hK
        have e38 : b'.tmps[38]?.getD undef = .int .i64 (n : Int) := pureN (hdep 0 (some 38) (by kernel_rfl) rfl)
        have e45 : b'.tmps[45]?.getD undef = .int .i64 (k : Int) := (let ⟨_, _, h⟩ := (hdep 7 (some 45) (by kernel_rfl) rfl); h.1)
        clear hdep hb
        go_wp2
        have e : (n : Int) + (k : Int) = ((n + k : Nat) : Int) := by omega
        exact hK _ _ (XN.refl _) (by rw [e])
      intro f W hE hR
      have e38 : f 38 = .int .i64 (n : Int) := pureN (hR 0 (some 38) rfl)
      have e39 : f 39 = .slice (some ⟨rb, 0, none⟩) N N := pureN (hR 1 (some 39) rfl)
      have e40 : f 40 = .int .i64 (n : Int) := pureN (hR 2 (some 40) rfl)
      have e41 : f 41 = .slice (some ⟨rb, n * 2, none⟩) (N - n) (N - n) := pureN (hR 3 (some 41) rfl)
      have e42 : f 42 = .slice (some ⟨rb, 0, none⟩) N N := pureN (hR 4 (some 42) rfl)
      have e43 : f 43 = .int .i64 (n : Int) := pureN (hR 5 (some 43) rfl)
      have e44 : f 44 = .slice (some ⟨rb, 0, none⟩) n N := pureN (hR 6 (some 44) rfl)
      obtain ⟨e45, l45⟩ : f 45 = .int .i64 (k : Int) ∧ rowOf W (rb) = some r := (let ⟨_, e, h⟩ := hR 7 (some 45) rfl; ⟨h.1, e.last h.2⟩)
      have e46 : f 46 = .int .i64 ((n + k : Nat) : Int) := pureN (hR 8 (some 46) rfl)
      clear hR
      simp only [List.filterMap_cons, List.filterMap_nil, id, puts, Act.put, List.setIfInBounds_toArray, List.set_cons_succ, List.set_cons_zero, e38, e39, e40, e41, e42, e43, e44, e45, e46]
      go_wp2
      exact ⟨⟨n + k, by omega, by omega, rfl, ⟨S.drop (k * 2), by rw [HR.out]; exact l45, by rw [List.length_drop, hlS, Nat.sub_mul, Nat.sub_mul, Nat.add_mul]; omega⟩, hE.below hBr.drew hBr.size zR⟩, by simp only [intOf]; omega⟩
    · obtain rfl : n = N := by omega
      obtain rfl : S = [] := List.eq_nil_of_length_eq_zero (by omega)
      go_wp2
      go_returns
      exact ⟨⟨rb, rfl, zR, by simpa using hrS⟩, hBr⟩
end Go.Proofs.Ytafdcbdbllpcnaa
