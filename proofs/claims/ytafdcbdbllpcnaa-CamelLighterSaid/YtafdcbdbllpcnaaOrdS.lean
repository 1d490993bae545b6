/- slices.SortFunc's family at meetings: this program's functions are the library's. -/
import Derived.Test.YtafdcbdbllpcnaaProg
import Derived.Shelf.SlLaysF0
import Derived.Shelf.SlSortCmp.WholeK
import Derived.Test.YtafdcbdbllpcnaaMtCl
set_option linter.unusedVariables false
set_option linter.unusedSimpArgs false
namespace Go.Proofs.Ytafdcbdbllpcnaa
open Go.Shelf
open Go.Proofs
def ordMs_ren : Go.Shelf.Ren := ⟨fun | 6 => 93 | 15 => 99 | 14 => 98 | 28 => 109 | 29 => 110 | 20 => 101 | 21 => 102 | 22 => 103 | 23 => 104 | 24 => 105 | 25 => 106 | 26 => 107 | 27 => 108 | 46 => 111 | 47 => 112 | 48 => 113 | 49 => 114 | 50 => 115 | 57 => 116 | n => n, fun | 22 => 28 | 24 => 79 | 25 => 157 | 3 => 3 | 39 => 153 | 0 => 0 | 53 => 91 | 55 => 160 | 4 => 4 | 46 => 167 | 45 => 166 | 50 => 114 | 5 => 5 | 9 => 9 | 66 => 174 | 70 => 178 | 76 => 180 | 77 => 72 | n => n, fun | n => n⟩
theorem ordMs : Go.Proofs.SlLaysF0.n6 Try.prog ordMs_ren := {
  mixed := by kernel_rfl
  f6 := ⟨Try.f93.name, by decide, Try.func93.trans (congrArg some (by kernel_rfl))⟩
  f14 := ⟨Try.f98.name, by decide, Try.func98.trans (congrArg some (by kernel_rfl))⟩
  f15 := Try.func99.trans (congrArg some (by kernel_rfl))
  f20 := ⟨Try.f101.name, by decide, Try.func101.trans (congrArg some (by kernel_rfl))⟩
  f21 := ⟨Try.f102.name, by decide, Try.func102.trans (congrArg some (by kernel_rfl))⟩
  f22 := ⟨Try.f103.name, by decide, Try.func103.trans (congrArg some (by kernel_rfl))⟩
  f23 := ⟨Try.f104.name, by decide, Try.func104.trans (congrArg some (by kernel_rfl))⟩
  f24 := ⟨Try.f105.name, by decide, Try.func105.trans (congrArg some (by kernel_rfl))⟩
  f25 := ⟨Try.f106.name, by decide, Try.func106.trans (congrArg some (by kernel_rfl))⟩
  f26 := ⟨Try.f107.name, by decide, Try.func107.trans (congrArg some (by kernel_rfl))⟩
  f27 := ⟨Try.f108.name, by decide, Try.func108.trans (congrArg some (by kernel_rfl))⟩
  f28 := Try.func109.trans (congrArg some (by kernel_rfl))
  f29 := Try.func110.trans (congrArg some (by kernel_rfl))
  f46 := ⟨Try.f111.name, by decide, Try.func111.trans (congrArg some (by kernel_rfl))⟩
  f47 := Try.func112.trans (congrArg some (by kernel_rfl))
  f48 := Try.func113.trans (congrArg some (by kernel_rfl))
  f49 := ⟨Try.f114.name, by decide, Try.func114.trans (congrArg some (by kernel_rfl))⟩
  f50 := ⟨Try.f115.name, by decide, Try.func115.trans (congrArg some (by kernel_rfl))⟩
  f57 := ⟨Try.f116.name, by decide, Try.func116.trans (congrArg some (by kernel_rfl))⟩
  t0 := Try.underlying0
  a0 := Try.isAgg0
  z0 := Try.sizeOf0
  v0 := Try.zeroValue0
  t3 := Try.underlying3
  a3 := Try.isAgg3
  z3 := Try.sizeOf3
  v3 := Try.zeroValue3
  t4 := Try.underlying4
  a4 := Try.isAgg4
  z4 := Try.sizeOf4
  v4 := Try.zeroValue4
  t5 := Try.underlying5
  a5 := Try.isAgg5
  z5 := Try.sizeOf5
  v5 := Try.zeroValue5
  t9 := Try.underlying9
  a9 := Try.isAgg9
  z9 := Try.sizeOf9
  v9 := Try.zeroValue9
  t22 := Try.underlying28
  a22 := Try.isAgg28
  z22 := Try.sizeOf28
  v22 := Try.zeroValue28
  t25 := Try.underlying157
  a25 := Try.isAgg157
  z25 := Try.sizeOf157
  v25 := Try.zeroValue157
  t39 := Try.underlying153
  a39 := Try.isAgg153
  z39 := Try.sizeOf153
  v39 := Try.zeroValue153
  t45 := Try.underlying166
  a45 := Try.isAgg166
  z45 := Try.sizeOf166
  v45 := Try.zeroValue166
  t46 := Try.underlying167
  a46 := Try.isAgg167
  z46 := Try.sizeOf167
  v46 := Try.zeroValue167
  t50 := Try.underlying114
  a50 := Try.isAgg114
  z50 := Try.sizeOf114
  v50 := Try.zeroValue114
  t53 := Try.underlying91
  a53 := Try.isAgg91
  z53 := Try.sizeOf91
  v53 := Try.zeroValue91
  t55 := Try.underlying160
  a55 := Try.isAgg160
  z55 := Try.sizeOf160
  v55 := Try.zeroValue160
  t66 := Try.underlying174
  a66 := Try.isAgg174
  z66 := Try.sizeOf174
  v66 := Try.zeroValue174
  t70 := Try.underlying178
  a70 := Try.isAgg178
  z70 := Try.sizeOf178
  v70 := Try.zeroValue178
  t76 := Try.underlying180
  a76 := Try.isAgg180
  z76 := Try.sizeOf180
  v76 := Try.zeroValue180
  t77 := Try.underlying72
  a77 := Try.isAgg72
  z77 := Try.sizeOf72
  v77 := Try.zeroValue72 }
end Go.Proofs.Ytafdcbdbllpcnaa
/- slices.SortFunc at meetings, by their days: a permutation, sorted; and package camel's inOrder. -/
namespace Go.Proofs.Ytafdcbdbllpcnaa
open Go.Shelf Go.RowKit Go.Lib Go.Sort
open Go.Proofs

def byDay (x y : Mt) : Int := Lib.compareInt x.day y.day
theorem ltDay (x y : Mt) : ltOf byDay x y = decide (x.day < y.day) := by
  unfold ltOf byDay Lib.compareInt
  by_cases h1 : x.day < y.day
  · simp [h1]
  · by_cases h2 : y.day < x.day <;> simp [h1, h2]
theorem swoDay : SWO (ltOf byDay) where
  irrefl x := by rw [ltDay]; simp
  trans x y z h1 h2 := by rw [ltDay] at *; simp at *; omega
  ntrans x y z h1 h2 := by rw [ltDay] at *; simp at *; omega

theorem isNaN_int (x : Int) (w : World) : Calls Try.prog 100 #[.int .i64 x] w fun e w' => e = .returned (.bool false) ∧ w' = w := by
  go_enter Try.func100, Try.ntmps100
  go_wp2
  go_ret
  exact ⟨by simp, rfl⟩
set_option maxHeartbeats 1000000 in
theorem compare_int (x y : Int) (w : World) : Calls Try.prog 95 #[.int .i64 x, .int .i64 y] w fun e w' => e = .returned (.int .i64 (Lib.compareInt x y)) ∧ w' = w := by
  go_enter Try.func95, Try.ntmps95
  go_wp2_with (go_at_call 100; refine (isNaN_int _ _).mono ?_; rintro e w' ⟨rfl, hw⟩; rw [hw])
  all_goals (go_ret; refine ⟨?_, rfl⟩; unfold Lib.compareInt; (repeat' split) <;> first | rfl | (exfalso; omega))
set_option maxHeartbeats 1000000 in
theorem closure94 (x y : Mt) (W : World) : Calls Try.prog 94 #[.agg (mtCells x).toArray, .agg (mtCells y).toArray] W fun e w' => e = .returned (.int .i64 (byDay x y)) ∧ ∃ q os', w' = grow (W.drewN q) os' := by
  have hcon := fun W' => compare_int x.day y.day W'
  unfold byDay
  generalize Lib.compareInt x.day y.day = r at hcon ⊢
  show Calls Try.prog 94 #[.agg #[.int .i64 x.a, .int .i64 x.b, .int .i64 x.day, .bool x.close], .agg #[.int .i64 y.a, .int .i64 y.b, .int .i64 y.day, .bool y.close]] W _
  go_enter Try.func94, Try.ntmps94
  go_wp2_with (go_at_call 95; refine (hcon _).mono ?_; rintro e w' ⟨rfl, rfl⟩)
  go_ret
  exact ⟨rfl, 0, _, by rw [alloc_eq_grow, alloc_eq_grow, grow_grow]; rfl⟩

theorem grownBy_sortK {w : World} {g n : Nat} {os : Array Obj} (F : Array Value) : w.grownBy (grow (putRow id (Sort.ahead w n) g 0 F) os) (some g) := by
  refine ⟨rfl, rfl, rfl, by simp, fun k hk hne => ?_⟩
  rw [heap_grow_old _ _ (by simpa using hk)]
  have : g ≠ k := fun e => hne (by rw [e])
  simp [putRow, mapBlock, Sort.ahead, Array.getElem?_modify, this]

theorem Sort_ms (g cap n : Nat) (d : Array Mt) (w : World) (hn : d.size = n) (hH : HoldsK mtCells 4 w g 0 d) (hg : g < w.heap.size) (hsz : n ≤ 250) :
    Calls Try.prog 93 #[.slice (some ⟨g, 0, none⟩) n cap, .func (.func 94) #[] #[]] w fun e w' => e = .returned (.tuple #[]) ∧ ∃ d' : Array Mt, PermIn 0 n d d' ∧ SortedIn (ltOf byDay) 0 n d' ∧ HoldsK mtCells 4 w' g 0 d' ∧ w.grownBy w' (some g) := by
  subst hn
  have eg : ∀ args w, (callFunc 94 args).run Try.prog w = .ok (.enter 94 args) w := enters_of Try.func94 (by kernel_rfl) rfl
  have hcon := AnyQ.slices_SortFunc ordMs 4 Try.isAgg79 Try.sizeOf79 mtCells mt_len mt_one1 byDay swoDay 94 #[] g 0 cap d w eg (fun _ _ _ _ x y => closure94 x y _) hH hg (by omega)
  change Calls Try.prog 93 _ _ _ at hcon
  refine hcon.mono ?_
  rintro e w' ⟨rfl, d', n, os, hp, hs, rfl⟩
  exact ⟨rfl, d', hp, hs, holdsK_sortWorldK mtCells 4 w g 0 n d d' os hg hH hp.1, grownBy_sortK _⟩

theorem permIn_perm {n : Nat} {d d' : Array Mt} (hn : d.size = n) (h : PermIn 0 n d d') : d'.toList.Perm d.toList := by
  obtain ⟨h1, -, h3⟩ := h
  rw [Array.extract_eq_self_of_le (by omega), Array.extract_eq_self_of_le (by omega)] at h3
  exact h3
theorem inOrder_of {ms : List Mt} {n : Nat} {d' : Array Mt} (hn : ms.toArray.size = n) (hp : PermIn 0 n ms.toArray d') (hs : SortedIn (ltOf byDay) 0 n d') : InOrder ms d'.toList := by
  have hP := permIn_perm hn hp
  refine ⟨by simpa using hP.length_eq, fun x => by simpa using hP.mem_iff, ?_⟩
  rw [List.pairwise_iff_getElem]
  intro i j hi hj hij
  have hi' : i < d'.size := by simpa using hi
  have hj' : j < d'.size := by simpa using hj
  have := hs i j (Nat.zero_le _) hij (by have := hp.1; omega)
  rw [ltDay] at this
  simp only [getElem!_pos d' i hi', getElem!_pos d' j hj', decide_eq_false_iff_not, Int.not_lt] at this
  simpa using this

set_option maxHeartbeats 1000000 in
theorem insertion_none (w : World) : Calls Try.prog 101 #[.slice none 0 0, .int .i64 0, .int .i64 0, .func (.func 94) #[] #[]] w fun e w' => e = .returned (.tuple #[]) ∧ w' = w := by
  go_enter Try.func101, Try.ntmps101
  go_wp2
  refine wp_loop_rounds 1 ?_
  rw [rounds_succ]
  go_wp2
  go_end0
  exact ⟨rfl, rfl⟩
set_option maxHeartbeats 2000000 in
theorem pdq_none (l : Int) (w : World) : Calls Try.prog 98 #[.slice none 0 0, .int .i64 0, .int .i64 0, .int .i64 l, .func (.func 94) #[] #[]] w fun e w' => e = .returned (.tuple #[]) ∧ w' = w := by
  go_enter Try.func98, Try.ntmps98
  go_wp2
  refine wp_loop_rounds 1 ?_
  rw [rounds_succ]
  go_wp2_with (go_at_call 101; refine (insertion_none _).mono ?_; rintro e w' ⟨rfl, rfl⟩)
  (try simp only [Exit.inBlock, Exit.then]); refine bodyPost_ret (results_none rfl _ _ _) rfl ?_
  exact ⟨rfl, rfl⟩
set_option maxHeartbeats 1000000 in
theorem Sort_none (w : World) : Calls Try.prog 93 #[.slice none 0 0, .func (.func 94) #[] #[]] w fun e w' => e = .returned (.tuple #[]) ∧ w' = w := by
  have hl : ∀ W, Calls Try.prog 99 #[.int .u64 0] W fun e w' => e = .returned (.int .i64 (Lib.bitLen 0 : Nat)) ∧ w' = W := fun W =>
    Any.bits_Len (SlLaysF0.n15.bits (P := Try.prog) (ρ := ordMs_ren) { ordMs with }) 0 W (by omega) (by omega)
  go_enter Try.func93, Try.ntmps93
  go_wp2_with (first | (go_at_call 99; refine (hl _).mono ?_; rintro e w' ⟨rfl, rfl⟩) | (go_at_call 98; refine (pdq_none _ _).mono ?_; rintro e w' ⟨rfl, rfl⟩))
  go_end0
  exact ⟨rfl, rfl⟩

set_option maxHeartbeats 2000000 in
theorem inOrder_any (a : Option Addr) (cap n : Nat) (ms : List Mt) (w : World) (hn : n = ms.length) (h : MeetsIn w a cap ms) (h250 : n ≤ 250) :
    Calls Try.prog 84 #[.slice a n cap] w fun e w' => (∃ a' cap' ys, e = .returned (.slice a' n cap') ∧ MeetsIn w' a' cap' ys ∧ (∀ b, a' = some b → w.heap.size ≤ b.block) ∧ InOrder ms ys) ∧ Below w.heap.size w w' := by
  have HN := Lib.hid hn
  have HM := Lib.hid h
  clear hn h
  go_enter Try.func84, Try.ntmps84
  go_wp2_with fail
  refine (Clone_ms a cap n ms _ HN.out HM.out h250).mono ?_
  rintro e W1 ⟨⟨a', cap', rfl, hc⟩, hB⟩
  rcases hc with ⟨rfl, h0, rfl⟩ | ⟨g, rfl, hg1, hg2, hH⟩
  · subst h0
    go_wp2_with fail
    refine (Sort_none _).mono ?_
    rintro e W2 ⟨rfl, rfl⟩
    go_wp2
    go_returns
    have e0 : ms = [] := List.eq_nil_of_length_eq_zero HN.out.symm
    exact ⟨⟨none, 0, [], rfl, .inl ⟨rfl, rfl, rfl⟩, fun _ hb => (nomatch hb), by rw [e0]; exact ⟨rfl, fun _ => Iff.rfl, List.Pairwise.nil⟩⟩, hB⟩
  · have HH := Lib.hid hH
    have HZ : ms.toArray.size = n := by rw [HN.out]; simp
    have HZ' := Lib.hid HZ
    clear hH HZ
    go_wp2_with fail
    refine (Sort_ms g cap' n ms.toArray _ HZ'.out HH.out hg2 h250).mono ?_
    rintro e W2 ⟨rfl, d', hp, hs, hH2, hG⟩
    have HO := Lib.hid (inOrder_of HZ'.out hp hs)
    have HI := Lib.hid (holds_meets hH2 (Nat.lt_of_lt_of_le hg2 hG.size) cap')
    have hB2 : Below w.heap.size w W2 := below_grown hB hG hB.size hg1
    clear hp hs hH2 hG HH
    go_wp2
    go_returns
    exact ⟨⟨some ⟨g, 0, none⟩, cap', d'.toList, rfl, HI.out, fun b hb => by cases hb; exact hg1, HO.out⟩, hB2⟩
end Go.Proofs.Ytafdcbdbllpcnaa
