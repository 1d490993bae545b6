/- slices.SortFunc at meetings, by their days: a permutation, sorted; and package camel's inOrder. -/
import Derived.Shelf.SlSortCmp.WholeK
import Derived.Test.YtafdcbdbllpcnaaOrdL
import Derived.Test.YtafdcbdbllpcnaaMtCl
namespace Go.Proofs.Ytafdcbdbllpcnaa
open Go.Shelf Go.RowKit Go.Lib Go.Sort
open Go.Proofs

def byDay (x y : Mt) : Int := Lib.compareInt x.day y.day
theorem ltDay (x y : Mt) : ltOf byDay x y = decide (x.day < y.day) := by
  unfold ltOf byDay Lib.compareInt
  by_cases h1 : x.day < y.day
  · simp [h1]
  · by_cases h2 : y.day < x.day <;> simp [h1, h2]
theorem swoDay : SWO (ltOf byDay) where
  irrefl x := by rw [ltDay]; simp
  trans x y z h1 h2 := by rw [ltDay] at *; simp at *; omega
  ntrans x y z h1 h2 := by rw [ltDay] at *; simp at *; omega

theorem isNaN_int (x : Int) (w : World) : Calls Try.prog 100 #[.int .i64 x] w fun e w' => e = .returned (.bool false) ∧ w' = w := by
  go_enter Try.func100, Try.ntmps100
  go_wp2
  go_ret
  exact ⟨by simp, rfl⟩
set_option maxHeartbeats 1000000 in
theorem compare_int (x y : Int) (w : World) : Calls Try.prog 95 #[.int .i64 x, .int .i64 y] w fun e w' => e = .returned (.int .i64 (Lib.compareInt x y)) ∧ w' = w := by
  go_enter Try.func95, Try.ntmps95
  go_wp2_with (go_at_call 100; refine (isNaN_int _ _).mono ?_; rintro e w' ⟨rfl, hw⟩; rw [hw])
  all_goals (go_ret; refine ⟨?_, rfl⟩; unfold Lib.compareInt; (repeat' split) <;> first | rfl | (exfalso; omega))
set_option maxHeartbeats 1000000 in
theorem closure94 (x y : Mt) (W : World) : Calls Try.prog 94 #[.agg (mtCells x).toArray, .agg (mtCells y).toArray] W fun e w' => e = .returned (.int .i64 (byDay x y)) ∧ ∃ q os', w' = grow (W.drewN q) os' := by
  have hcon := fun W' => compare_int x.day y.day W'
  unfold byDay
  generalize Lib.compareInt x.day y.day = r at hcon ⊢
  show Calls Try.prog 94 #[.agg #[.int .i64 x.a, .int .i64 x.b, .int .i64 x.day, .bool x.close], .agg #[.int .i64 y.a, .int .i64 y.b, .int .i64 y.day, .bool y.close]] W _
  go_enter Try.func94, Try.ntmps94
  go_wp2_with (go_at_call 95; refine (hcon _).mono ?_; rintro e w' ⟨rfl, rfl⟩)
  go_ret
  exact ⟨rfl, 0, _, by rw [alloc_eq_grow, alloc_eq_grow, grow_grow]; rfl⟩

theorem grownBy_sortK {w : World} {g n : Nat} {os : Array Obj} (F : Array Value) : w.grownBy (grow (putRow id (Sort.ahead w n) g 0 F) os) (some g) := by
  refine ⟨rfl, rfl, rfl, by simp, fun k hk hne => ?_⟩
  rw [heap_grow_old _ _ (by simpa using hk)]
  have : g ≠ k := fun e => hne (by rw [e])
  simp [putRow, mapBlock, Sort.ahead, Array.getElem?_modify, this]

theorem Sort_ms (g cap n : Nat) (d : Array Mt) (w : World) (hn : d.size = n) (hH : HoldsK mtCells 4 w g 0 d) (hg : g < w.heap.size) (hsz : n ≤ 250) :
    Calls Try.prog 93 #[.slice (some ⟨g, 0, none⟩) n cap, .func (.func 94) #[] #[]] w fun e w' => e = .returned (.tuple #[]) ∧ ∃ d' : Array Mt, PermIn 0 n d d' ∧ SortedIn (ltOf byDay) 0 n d' ∧ HoldsK mtCells 4 w' g 0 d' ∧ w.grownBy w' (some g) := by
  subst hn
  have eg : ∀ args w, (callFunc 94 args).run Try.prog w = .ok (.enter 94 args) w := enters_of Try.func94 (by kernel_rfl) rfl
  have hcon := AnyQ.slices_SortFunc ordMs 4 Try.isAgg79 Try.sizeOf79 mtCells mt_len mt_one1 byDay swoDay 94 #[] g 0 cap d w eg (fun _ _ _ _ x y => closure94 x y _) hH hg (by omega)
  change Calls Try.prog 93 _ _ _ at hcon
  refine hcon.mono ?_
  rintro e w' ⟨rfl, d', n, os, hp, hs, rfl⟩
  exact ⟨rfl, d', hp, hs, holdsK_sortWorldK mtCells 4 w g 0 n d d' os hg hH hp.1, grownBy_sortK _⟩

theorem permIn_perm {n : Nat} {d d' : Array Mt} (hn : d.size = n) (h : PermIn 0 n d d') : d'.toList.Perm d.toList := by
  obtain ⟨h1, -, h3⟩ := h
  rw [Array.extract_eq_self_of_le (by omega), Array.extract_eq_self_of_le (by omega)] at h3
  exact h3
theorem inOrder_of {ms : List Mt} {n : Nat} {d' : Array Mt} (hn : ms.toArray.size = n) (hp : PermIn 0 n ms.toArray d') (hs : SortedIn (ltOf byDay) 0 n d') : InOrder ms d'.toList := by
  have hP := permIn_perm hn hp
  refine ⟨by simpa using hP.length_eq, fun x => by simpa using hP.mem_iff, ?_⟩
  rw [List.pairwise_iff_getElem]
  intro i j hi hj hij
  have hi' : i < d'.size := by simpa using hi
  have hj' : j < d'.size := by simpa using hj
  have := hs i j (Nat.zero_le _) hij (by have := hp.1; omega)
  rw [ltDay] at this
  simp only [getElem!_pos d' i hi', getElem!_pos d' j hj', decide_eq_false_iff_not, Int.not_lt] at this
  simpa using this

set_option maxHeartbeats 1000000 in
theorem insertion_none (w : World) : Calls Try.prog 101 #[.slice none 0 0, .int .i64 0, .int .i64 0, .func (.func 94) #[] #[]] w fun e w' => e = .returned (.tuple #[]) ∧ w' = w := by
  go_enter Try.func101, Try.ntmps101
  go_wp2
  refine wp_loop_rounds 1 ?_
  rw [rounds_succ]
  go_wp2
  go_end0
  exact ⟨rfl, rfl⟩
set_option maxHeartbeats 2000000 in
theorem pdq_none (l : Int) (w : World) : Calls Try.prog 98 #[.slice none 0 0, .int .i64 0, .int .i64 0, .int .i64 l, .func (.func 94) #[] #[]] w fun e w' => e = .returned (.tuple #[]) ∧ w' = w := by
  go_enter Try.func98, Try.ntmps98
  go_wp2
  refine wp_loop_rounds 1 ?_
  rw [rounds_succ]
  go_wp2_with (go_at_call 101; refine (insertion_none _).mono ?_; rintro e w' ⟨rfl, rfl⟩)
  (try simp only [Exit.inBlock, Exit.then]); refine bodyPost_ret (results_none rfl _ _ _) rfl ?_
  exact ⟨rfl, rfl⟩
set_option maxHeartbeats 1000000 in
theorem Sort_none (w : World) : Calls Try.prog 93 #[.slice none 0 0, .func (.func 94) #[] #[]] w fun e w' => e = .returned (.tuple #[]) ∧ w' = w := by
  have hl : ∀ W, Calls Try.prog 99 #[.int .u64 0] W fun e w' => e = .returned (.int .i64 (Lib.bitLen 0 : Nat)) ∧ w' = W := fun W =>
    Any.bits_Len (SlLaysF0.n15.bits (P := Try.prog) (ρ := ordMs_ren) { ordMs with }) 0 W (by omega) (by omega)
  go_enter Try.func93, Try.ntmps93
  go_wp2_with (first | (go_at_call 99; refine (hl _).mono ?_; rintro e w' ⟨rfl, rfl⟩) | (go_at_call 98; refine (pdq_none _ _).mono ?_; rintro e w' ⟨rfl, rfl⟩))
  go_end0
  exact ⟨rfl, rfl⟩

set_option maxHeartbeats 2000000 in
theorem inOrder_any (a : Option Addr) (cap n : Nat) (ms : List Mt) (w : World) (hn : n = ms.length) (h : MeetsIn w a cap ms) (h250 : n ≤ 250) :
    Calls Try.prog 84 #[.slice a n cap] w fun e w' => (∃ a' cap' ys, e = .returned (.slice a' n cap') ∧ MeetsIn w' a' cap' ys ∧ (∀ b, a' = some b → w.heap.size ≤ b.block) ∧ InOrder ms ys) ∧ Below w.heap.size w w' := by
  have HN := Lib.hid hn
  have HM := Lib.hid h
  clear hn h
  go_enter Try.func84, Try.ntmps84
  go_wp2_with fail
  refine (Clone_ms a cap n ms _ HN.out HM.out h250).mono ?_
  rintro e W1 ⟨⟨a', cap', rfl, hc⟩, hB⟩
  rcases hc with ⟨rfl, h0, rfl⟩ | ⟨g, rfl, hg1, hg2, hH⟩
  · subst h0
    go_wp2_with fail
    refine (Sort_none _).mono ?_
    rintro e W2 ⟨rfl, rfl⟩
    go_wp2
    go_returns
    have e0 : ms = [] := List.eq_nil_of_length_eq_zero HN.out.symm
    exact ⟨⟨none, 0, [], rfl, .inl ⟨rfl, rfl, rfl⟩, fun _ hb => (nomatch hb), by rw [e0]; exact ⟨rfl, fun _ => Iff.rfl, List.Pairwise.nil⟩⟩, hB⟩
  · have HH := Lib.hid hH
    have HZ : ms.toArray.size = n := by rw [HN.out]; simp
    have HZ' := Lib.hid HZ
    clear hH HZ
    go_wp2_with fail
    refine (Sort_ms g cap' n ms.toArray _ HZ'.out HH.out hg2 h250).mono ?_
    rintro e W2 ⟨rfl, d', hp, hs, hH2, hG⟩
    have HO := Lib.hid (inOrder_of HZ'.out hp hs)
    have HI := Lib.hid (holds_meets hH2 (Nat.lt_of_lt_of_le hg2 hG.size) cap')
    have hB2 : Below w.heap.size w W2 := below_grown hB hG hB.size hg1
    clear hp hs hH2 hG HH
    go_wp2
    go_returns
    exact ⟨⟨some ⟨g, 0, none⟩, cap', d'.toList, rfl, HI.out, fun b hb => by cases hb; exact hg1, HO.out⟩, hB2⟩
end Go.Proofs.Ytafdcbdbllpcnaa
