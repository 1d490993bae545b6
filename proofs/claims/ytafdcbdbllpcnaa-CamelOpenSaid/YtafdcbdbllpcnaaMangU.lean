/- slices.SortFunc's family at meetings: this program's functions are the library's. -/
import Derived.Test.YtafdcbdbllpcnaaProg
import Derived.Shelf.SlLaysF0
import Derived.Shelf.SlSortCmp.WholeK
import Derived.Test.YtafdcbdbllpcnaaMtCl
import Derived.Test.YtafdcbdbllpcnaaLeafX
import Derived.Test.YtafdcbdbllpcnaaLeafY
import Derived.Test.YtafdcbdbllpcnaaRefT
import Derived.Test.YtafdcbdbllpcnaaLawOpen
import Derived.Laws.BytesArg
import Derived.Test.YtafdcbdbllpcnaaOpenT
namespace Go.Proofs.Ytafdcbdbllpcnaa
open Go.Shelf
open Go.Proofs
def ordMs_ren : Go.Shelf.Ren := ⟨fun | 6 => 93 | 15 => 99 | 14 => 98 | 28 => 109 | 29 => 110 | 20 => 101 | 21 => 102 | 22 => 103 | 23 => 104 | 24 => 105 | 25 => 106 | 26 => 107 | 27 => 108 | 46 => 111 | 47 => 112 | 48 => 113 | 49 => 114 | 50 => 115 | 57 => 116 | n => n, fun | 22 => 28 | 24 => 79 | 25 => 157 | 3 => 3 | 39 => 153 | 0 => 0 | 53 => 91 | 55 => 160 | 4 => 4 | 46 => 167 | 45 => 166 | 50 => 114 | 5 => 5 | 9 => 9 | 66 => 174 | 70 => 178 | 76 => 180 | 77 => 72 | n => n, fun | n => n⟩
theorem ordMs : Go.Proofs.SlLaysF0.n6 Try.prog ordMs_ren := {
  mixed := by kernel_rfl
  f6 := ⟨Try.f93.name, by decide, Try.func93.trans (congrArg some (by kernel_rfl))⟩
  f14 := ⟨Try.f98.name, by decide, Try.func98.trans (congrArg some (by kernel_rfl))⟩
  f15 := Try.func99.trans (congrArg some (by kernel_rfl))
  f20 := ⟨Try.f101.name, by decide, Try.func101.trans (congrArg some (by kernel_rfl))⟩
  f21 := ⟨Try.f102.name, by decide, Try.func102.trans (congrArg some (by kernel_rfl))⟩
  f22 := ⟨Try.f103.name, by decide, Try.func103.trans (congrArg some (by kernel_rfl))⟩
  f23 := ⟨Try.f104.name, by decide, Try.func104.trans (congrArg some (by kernel_rfl))⟩
  f24 := ⟨Try.f105.name, by decide, Try.func105.trans (congrArg some (by kernel_rfl))⟩
  f25 := ⟨Try.f106.name, by decide, Try.func106.trans (congrArg some (by kernel_rfl))⟩
  f26 := ⟨Try.f107.name, by decide, Try.func107.trans (congrArg some (by kernel_rfl))⟩
  f27 := ⟨Try.f108.name, by decide, Try.func108.trans (congrArg some (by kernel_rfl))⟩
  f28 := Try.func109.trans (congrArg some (by kernel_rfl))
  f29 := Try.func110.trans (congrArg some (by kernel_rfl))
  f46 := ⟨Try.f111.name, by decide, Try.func111.trans (congrArg some (by kernel_rfl))⟩
  f47 := Try.func112.trans (congrArg some (by kernel_rfl))
  f48 := Try.func113.trans (congrArg some (by kernel_rfl))
  f49 := ⟨Try.f114.name, by decide, Try.func114.trans (congrArg some (by kernel_rfl))⟩
  f50 := ⟨Try.f115.name, by decide, Try.func115.trans (congrArg some (by kernel_rfl))⟩
  f57 := ⟨Try.f116.name, by decide, Try.func116.trans (congrArg some (by kernel_rfl))⟩
  t0 := Try.underlying0
  a0 := Try.isAgg0
  z0 := Try.sizeOf0
  v0 := Try.zeroValue0
  t3 := Try.underlying3
  a3 := Try.isAgg3
  z3 := Try.sizeOf3
  v3 := Try.zeroValue3
  t4 := Try.underlying4
  a4 := Try.isAgg4
  z4 := Try.sizeOf4
  v4 := Try.zeroValue4
  t5 := Try.underlying5
  a5 := Try.isAgg5
  z5 := Try.sizeOf5
  v5 := Try.zeroValue5
  t9 := Try.underlying9
  a9 := Try.isAgg9
  z9 := Try.sizeOf9
  v9 := Try.zeroValue9
  t22 := Try.underlying28
  a22 := Try.isAgg28
  z22 := Try.sizeOf28
  v22 := Try.zeroValue28
  t25 := Try.underlying157
  a25 := Try.isAgg157
  z25 := Try.sizeOf157
  v25 := Try.zeroValue157
  t39 := Try.underlying153
  a39 := Try.isAgg153
  z39 := Try.sizeOf153
  v39 := Try.zeroValue153
  t45 := Try.underlying166
  a45 := Try.isAgg166
  z45 := Try.sizeOf166
  v45 := Try.zeroValue166
  t46 := Try.underlying167
  a46 := Try.isAgg167
  z46 := Try.sizeOf167
  v46 := Try.zeroValue167
  t50 := Try.underlying114
  a50 := Try.isAgg114
  z50 := Try.sizeOf114
  v50 := Try.zeroValue114
  t53 := Try.underlying91
  a53 := Try.isAgg91
  z53 := Try.sizeOf91
  v53 := Try.zeroValue91
  t55 := Try.underlying160
  a55 := Try.isAgg160
  z55 := Try.sizeOf160
  v55 := Try.zeroValue160
  t66 := Try.underlying174
  a66 := Try.isAgg174
  z66 := Try.sizeOf174
  v66 := Try.zeroValue174
  t70 := Try.underlying178
  a70 := Try.isAgg178
  z70 := Try.sizeOf178
  v70 := Try.zeroValue178
  t76 := Try.underlying180
  a76 := Try.isAgg180
  z76 := Try.sizeOf180
  v76 := Try.zeroValue180
  t77 := Try.underlying72
  a77 := Try.isAgg72
  z77 := Try.sizeOf72
  v77 := Try.zeroValue72 }
end Go.Proofs.Ytafdcbdbllpcnaa
/- slices.SortFunc at meetings, by their days: a permutation, sorted; and package camel's inOrder. -/
namespace Go.Proofs.Ytafdcbdbllpcnaa
open Go.Shelf Go.RowKit Go.Lib Go.Sort
open Go.Proofs

def byDay (x y : Mt) : Int := Lib.compareInt x.day y.day
theorem ltDay (x y : Mt) : ltOf byDay x y = decide (x.day < y.day) := by
  unfold ltOf byDay Lib.compareInt
  by_cases h1 : x.day < y.day
  · simp [h1]
  · by_cases h2 : y.day < x.day <;> simp [h1, h2]
theorem swoDay : SWO (ltOf byDay) where
  irrefl x := by rw [ltDay]; simp
  trans x y z h1 h2 := by rw [ltDay] at *; simp at *; omega
  ntrans x y z h1 h2 := by rw [ltDay] at *; simp at *; omega

theorem isNaN_int (x : Int) (w : World) : Calls Try.prog 100 #[.int .i64 x] w fun e w' => e = .returned (.bool false) ∧ w' = w := by
  go_enter Try.func100, Try.ntmps100
  go_wp2
  go_ret
  exact ⟨by simp, rfl⟩
set_option maxHeartbeats 1000000 in
theorem compare_int (x y : Int) (w : World) : Calls Try.prog 95 #[.int .i64 x, .int .i64 y] w fun e w' => e = .returned (.int .i64 (Lib.compareInt x y)) ∧ w' = w := by
  go_enter Try.func95, Try.ntmps95
  go_wp2_with (go_at_call 100; refine (isNaN_int _ _).mono ?_; rintro e w' ⟨rfl, hw⟩; rw [hw])
  all_goals (go_ret; refine ⟨?_, rfl⟩; unfold Lib.compareInt; (repeat' split) <;> first | rfl | (exfalso; omega))
set_option maxHeartbeats 1000000 in
theorem closure94 (x y : Mt) (W : World) : Calls Try.prog 94 #[.agg (mtCells x).toArray, .agg (mtCells y).toArray] W fun e w' => e = .returned (.int .i64 (byDay x y)) ∧ ∃ q os', w' = grow (W.drewN q) os' := by
  have hcon := fun W' => compare_int x.day y.day W'
  unfold byDay
  generalize Lib.compareInt x.day y.day = r at hcon ⊢
  show Calls Try.prog 94 #[.agg #[.int .i64 x.a, .int .i64 x.b, .int .i64 x.day, .bool x.close], .agg #[.int .i64 y.a, .int .i64 y.b, .int .i64 y.day, .bool y.close]] W _
  go_enter Try.func94, Try.ntmps94
  go_wp2_with (go_at_call 95; refine (hcon _).mono ?_; rintro e w' ⟨rfl, rfl⟩)
  go_ret
  exact ⟨rfl, 0, _, by rw [alloc_eq_grow, alloc_eq_grow, grow_grow]; rfl⟩

theorem grownBy_sortK {w : World} {g n : Nat} {os : Array Obj} (F : Array Value) : w.grownBy (grow (putRow id (Sort.ahead w n) g 0 F) os) (some g) := by
  refine ⟨rfl, rfl, rfl, by simp, fun k hk hne => ?_⟩
  rw [heap_grow_old _ _ (by simpa using hk)]
  have : g ≠ k := fun e => hne (by rw [e])
  simp [putRow, mapBlock, Sort.ahead, Array.getElem?_modify, this]

theorem Sort_ms (g cap n : Nat) (d : Array Mt) (w : World) (hn : d.size = n) (hH : HoldsK mtCells 4 w g 0 d) (hg : g < w.heap.size) (hsz : n ≤ 250) :
    Calls Try.prog 93 #[.slice (some ⟨g, 0, none⟩) n cap, .func (.func 94) #[] #[]] w fun e w' => e = .returned (.tuple #[]) ∧ ∃ d' : Array Mt, PermIn 0 n d d' ∧ SortedIn (ltOf byDay) 0 n d' ∧ HoldsK mtCells 4 w' g 0 d' ∧ w.grownBy w' (some g) := by
  subst hn
  have eg : ∀ args w, (callFunc 94 args).run Try.prog w = .ok (.enter 94 args) w := enters_of Try.func94 (by kernel_rfl) rfl
  have hcon := AnyQ.slices_SortFunc ordMs 4 Try.isAgg79 Try.sizeOf79 mtCells mt_len mt_one1 byDay swoDay 94 #[] g 0 cap d w eg (fun _ _ _ _ x y => closure94 x y _) hH hg (by omega)
  change Calls Try.prog 93 _ _ _ at hcon
  refine hcon.mono ?_
  rintro e w' ⟨rfl, d', n, os, hp, hs, rfl⟩
  exact ⟨rfl, d', hp, hs, holdsK_sortWorldK mtCells 4 w g 0 n d d' os hg hH hp.1, grownBy_sortK _⟩

theorem permIn_perm {n : Nat} {d d' : Array Mt} (hn : d.size = n) (h : PermIn 0 n d d') : d'.toList.Perm d.toList := by
  obtain ⟨h1, -, h3⟩ := h
  rw [Array.extract_eq_self_of_le (by omega), Array.extract_eq_self_of_le (by omega)] at h3
  exact h3
theorem inOrder_of {ms : List Mt} {n : Nat} {d' : Array Mt} (hn : ms.toArray.size = n) (hp : PermIn 0 n ms.toArray d') (hs : SortedIn (ltOf byDay) 0 n d') : InOrder ms d'.toList := by
  have hP := permIn_perm hn hp
  refine ⟨by simpa using hP.length_eq, fun x => by simpa using hP.mem_iff, ?_⟩
  rw [List.pairwise_iff_getElem]
  intro i j hi hj hij
  have hi' : i < d'.size := by simpa using hi
  have hj' : j < d'.size := by simpa using hj
  have := hs i j (Nat.zero_le _) hij (by have := hp.1; omega)
  rw [ltDay] at this
  simp only [getElem!_pos d' i hi', getElem!_pos d' j hj', decide_eq_false_iff_not, Int.not_lt] at this
  simpa using this

set_option maxHeartbeats 1000000 in
theorem insertion_none (w : World) : Calls Try.prog 101 #[.slice none 0 0, .int .i64 0, .int .i64 0, .func (.func 94) #[] #[]] w fun e w' => e = .returned (.tuple #[]) ∧ w' = w := by
  go_enter Try.func101, Try.ntmps101
  go_wp2
  refine wp_loop_rounds 1 ?_
  rw [rounds_succ]
  go_wp2
  go_end0
  exact ⟨rfl, rfl⟩
set_option maxHeartbeats 2000000 in
theorem pdq_none (l : Int) (w : World) : Calls Try.prog 98 #[.slice none 0 0, .int .i64 0, .int .i64 0, .int .i64 l, .func (.func 94) #[] #[]] w fun e w' => e = .returned (.tuple #[]) ∧ w' = w := by
  go_enter Try.func98, Try.ntmps98
  go_wp2
  refine wp_loop_rounds 1 ?_
  rw [rounds_succ]
  go_wp2_with (go_at_call 101; refine (insertion_none _).mono ?_; rintro e w' ⟨rfl, rfl⟩)
  (try simp only [Exit.inBlock, Exit.then]); refine bodyPost_ret (results_none rfl _ _ _) rfl ?_
  exact ⟨rfl, rfl⟩
set_option maxHeartbeats 1000000 in
theorem Sort_none (w : World) : Calls Try.prog 93 #[.slice none 0 0, .func (.func 94) #[] #[]] w fun e w' => e = .returned (.tuple #[]) ∧ w' = w := by
  have hl : ∀ W, Calls Try.prog 99 #[.int .u64 0] W fun e w' => e = .returned (.int .i64 (Lib.bitLen 0 : Nat)) ∧ w' = W := fun W =>
    Any.bits_Len (SlLaysF0.n15.bits (P := Try.prog) (ρ := ordMs_ren) { ordMs with }) 0 W (by omega) (by omega)
  go_enter Try.func93, Try.ntmps93
  go_wp2_with (first | (go_at_call 99; refine (hl _).mono ?_; rintro e w' ⟨rfl, rfl⟩) | (go_at_call 98; refine (pdq_none _ _).mono ?_; rintro e w' ⟨rfl, rfl⟩))
  go_end0
  exact ⟨rfl, rfl⟩

set_option maxHeartbeats 2000000 in
theorem inOrder_any (a : Option Addr) (cap n : Nat) (ms : List Mt) (w : World) (hn : n = ms.length) (h : MeetsIn w a cap ms) (h250 : n ≤ 250) :
    Calls Try.prog 84 #[.slice a n cap] w fun e w' => (∃ a' cap' ys, e = .returned (.slice a' n cap') ∧ MeetsIn w' a' cap' ys ∧ (∀ b, a' = some b → w.heap.size ≤ b.block) ∧ InOrder ms ys) ∧ Below w.heap.size w w' := by
  have HN := Lib.hid hn
  have HM := Lib.hid h
  clear hn h
  go_enter Try.func84, Try.ntmps84
  go_wp2_with fail
  refine (Clone_ms a cap n ms _ HN.out HM.out h250).mono ?_
  rintro e W1 ⟨⟨a', cap', rfl, hc⟩, hB⟩
  rcases hc with ⟨rfl, h0, rfl⟩ | ⟨g, rfl, hg1, hg2, hH⟩
  · subst h0
    go_wp2_with fail
    refine (Sort_none _).mono ?_
    rintro e W2 ⟨rfl, rfl⟩
    go_wp2
    go_returns
    have e0 : ms = [] := List.eq_nil_of_length_eq_zero HN.out.symm
    exact ⟨⟨none, 0, [], rfl, .inl ⟨rfl, rfl, rfl⟩, fun _ hb => (nomatch hb), by rw [e0]; exact ⟨rfl, fun _ => Iff.rfl, List.Pairwise.nil⟩⟩, hB⟩
  · have HH := Lib.hid hH
    have HZ : ms.toArray.size = n := by rw [HN.out]; simp
    have HZ' := Lib.hid HZ
    clear hH HZ
    go_wp2_with fail
    refine (Sort_ms g cap' n ms.toArray _ HZ'.out HH.out hg2 h250).mono ?_
    rintro e W2 ⟨rfl, d', hp, hs, hH2, hG⟩
    have HO := Lib.hid (inOrder_of HZ'.out hp hs)
    have HI := Lib.hid (holds_meets hH2 (Nat.lt_of_lt_of_le hg2 hG.size) cap')
    have hB2 : Below w.heap.size w W2 := below_grown hB hG hB.size hg1
    clear hp hs hH2 hG HH
    go_wp2
    go_returns
    exact ⟨⟨some ⟨g, 0, none⟩, cap', d'.toList, rfl, HI.out, fun b hb => by cases hb; exact hg1, HO.out⟩, hB2⟩
end Go.Proofs.Ytafdcbdbllpcnaa
/- Both reckonings of mange tell the same bytes. -/
namespace Go.Proofs.Ytafdcbdbllpcnaa
open Go.RowKit
open Go.Proofs

open Classical in
/-- What is known of animal i. -/
noncomputable def knO (first : List Int) (ms : List Mt) (w : Int × Int) (d i : Int) : Int :=
  if SkBy first (fun x => x ∈ ms ∧ x.close = true) w.2 d i then 2 else if SkBy first (fun x => x ∈ ms) w.1 d i then 1 else 0
theorem knO_knw {first : List Int} {ms : List Mt} {w : Int × Int} (hw : w.1 ≤ w.2) (d i : Int) : Knw first ms w d i (knO first ms w d i) := by
  by_cases h1 : SkBy first (fun x => x ∈ ms ∧ x.close = true) w.2 d i
  · rw [knO, if_pos h1]; exact .inl ⟨h1, rfl⟩
  · by_cases h2 : SkBy first (fun x => x ∈ ms) w.1 d i
    · rw [knO, if_neg h1, if_pos h2]; exact .inr (.inl ⟨h1, h2, rfl⟩)
    · rw [knO, if_neg h1, if_neg h2]; exact .inr (.inr ⟨h2, rfl⟩)
open Classical in
/-- The bytes that are told. -/
noncomputable def bsO (n : Int) (first : List Int) (ms : List Mt) (w : Int × Int) (d : Int) : ByteArray :=
  if chkG n first ms w d = 0 then strOfNums ((List.range n.toNat).map fun i => knO first ms w d (i : Nat)) else ByteArray.empty
theorem bsO_ok {n : Nat} {first : List Int} {ms : List Mt} {w : Int × Int} {d : Int} (hx : chkG (n : Int) first ms w d = 0) {vs : List Int} (hl : vs.length = n) (hk : ∀ i, i < n → Knw first ms w d (i : Int) (vs.getD i 0)) : bsO (n : Int) first ms w d = strOfNums vs := by
  obtain ⟨-, ⟨-, hw, -⟩, -⟩ := chkG_fine hx
  unfold bsO
  rw [if_pos hx, Int.toNat_natCast]
  congr 1
  apply List.ext_getElem
  · simp [hl]
  · intro i h1 h2
    have hi : i < n := by simpa using h1
    have := hk i hi
    rw [show vs.getD i 0 = vs[i] by simp [h2]] at this
    simp only [List.getElem_map, List.getElem_range]
    exact (knO_knw hw d i).unique hw this

/-- Bytes in memory that are a string's. -/
def Told9 (W : World) (v : Value) (bs : ByteArray) : Prop := (v = .slice none 0 0 ∧ bs = ByteArray.empty) ∨ ∃ g n cap vs, v = .slice (some ⟨g, 0, none⟩) n cap ∧ g < W.heap.size ∧ vs.length = n ∧ bs = strOfNums vs ∧ ∀ i, i < n → W.cell? ⟨g, 0 + i, none⟩ = some (.int .u8 (vs.getD i 0))
theorem Told9.ext {W W' : World} {v : Value} {bs : ByteArray} (h : Told9 W v bs) (hE : Ext W W') : Told9 W' v bs := by
  rcases h with h | ⟨g, n, cap, vs, h1, h2, h3, h4, h5⟩
  · exact .inl h
  · exact .inr ⟨g, n, cap, vs, h1, Nat.lt_of_lt_of_le h2 hE.size, h3, h4, fun i hi => at_belowb hE h2 (h5 i hi)⟩
theorem Told9.conv {W : World} {v : Value} {bs : ByteArray} (h : Told9 W v bs) : (convert 23 9 v).run Try.prog W = .ok (.string bs) W := by
  rcases h with ⟨rfl, rfl⟩ | ⟨g, n, cap, vs, rfl, h2, h3, rfl, h5⟩
  · exact run_convert_bytes_nil W 23 5 Try.underlying23 Try.underlying5 0 0 9 Try.underlying9
  · exact run_convert_bytes_arg W 23 5 Try.underlying23 Try.underlying5 g 0 n cap vs h3 h5 9 Try.underlying9

theorem Mange_x (n day : Int) (wt : Int × Int) (fa : Option Addr) (fcap nf : Nat) (first : List Int) (ma : Option Addr) (mcap nm : Nat) (ms : List Mt) (x : Int) (bs : ByteArray) (w : World) (hnf : nf = first.length) (hnm : nm = ms.length) (hf : IntsIn w fa fcap first) (hm : MeetsIn w ma mcap ms) (hx : chkG n first ms wt day = x) (hb : bsO n first ms wt day = bs) (h250 : nm ≤ 250) :
    Calls Try.prog 15 #[.int .i64 n, .slice fa nf fcap, .slice ma nm mcap, .agg #[.int .i64 wt.1, .int .i64 wt.2], .int .i64 day] w fun e w' => (∃ v, e = .returned (.tuple #[v, .int .i64 x]) ∧ Told9 w' v bs) ∧ Below w.heap.size w w' := by
  by_cases h0 : x = 0
  · subst h0
    obtain ⟨⟨n1, -⟩, -⟩ := chkG_fine hx
    obtain ⟨nn, rfl⟩ : ∃ nn : Nat, n = (nn : Int) := ⟨n.toNat, by omega⟩
    have hsick : ∀ W, Below w.heap.size w W → Calls Try.prog 56 #[.int .i64 (nn : Int), .slice fa nf fcap, .slice ma nm mcap, .agg #[.int .i64 wt.1, .int .i64 wt.2], .int .i64 day] W fun e W' => (∃ g cap ss, e = .returned (.slice (some ⟨g, 0, none⟩) nn cap) ∧ W.heap.size ≤ g ∧ SpOut W' g ss ∧ SickBy first ms wt day nn ss) ∧ Below W.heap.size W W' := fun W hW =>
      sickFrom_any nn day wt fa fcap nf first ma mcap nm ms W hnf hnm (hf.below hW (Nat.le_refl _)) (hm.below hW (Nat.le_refl _)) hx (fun W' hW' => inOrder_any ma mcap nm ms W' hnm ((hm.below hW (Nat.le_refl _)).below hW' (Nat.le_refl _)) h250)
    refine (Mange_ok nn day wt fa fcap nf first ma mcap nm ms w hnf hnm hf hm hx hsick).mono ?_
    rintro e w' ⟨⟨g, rfl, hg, vs, hl, ho, hk⟩, hB⟩
    refine ⟨⟨_, rfl, .inr ⟨g, nn, nn, vs, rfl, ho.lt, hl, ?_, fun i hi => ?_⟩⟩, hB⟩
    · rw [← hb]; exact bsO_ok hx hl hk
    · rw [Nat.zero_add]; exact (ho.get (by omega)).1
  · refine (Mange_bad n day wt fa fcap nf first ma mcap nm ms x w hnf hnm hf hm hx h0).mono ?_
    rintro e w' ⟨rfl, hB⟩
    refine ⟨⟨_, rfl, .inl ⟨rfl, ?_⟩⟩, hB⟩
    rw [← hb, bsO, if_neg (by rw [hx]; exact h0)]
theorem rMange_x (n day : Int) (wt : Int × Int) (fa : Option Addr) (fcap nf : Nat) (first : List Int) (ma : Option Addr) (mcap nm : Nat) (ms : List Mt) (x : Int) (bs : ByteArray) (w : World) (hnf : nf = first.length) (hnm : nm = ms.length) (hf : IntsIn w fa fcap first) (hm : MeetsIn w ma mcap ms) (hx : chkG n first ms wt day = x) (hb : bsO n first ms wt day = bs) :
    Calls Try.prog 42 #[.int .i64 n, .slice fa nf fcap, .slice ma nm mcap, .agg #[.int .i64 wt.1, .int .i64 wt.2], .int .i64 day] w fun e w' => (∃ v, e = .returned (.tuple #[v, .int .i64 x]) ∧ Told9 w' v bs) ∧ Below w.heap.size w w' := by
  by_cases h0 : x = 0
  · subst h0
    obtain ⟨⟨n1, -⟩, -⟩ := chkG_fine hx
    obtain ⟨nn, rfl⟩ : ∃ nn : Nat, n = (nn : Int) := ⟨n.toNat, by omega⟩
    refine (rMange_ok nn day wt fa fcap nf first ma mcap nm ms w hnf hnm hf hm hx).mono ?_
    rintro e w' ⟨⟨v, rfl, vs, hl, ho, hk⟩, hB⟩
    refine ⟨⟨v, rfl, ?_⟩, hB⟩
    have hv := ho
    obtain ⟨-, ho2⟩ := ho
    rcases ho2 with ⟨-, h⟩ | ⟨g, cap, cur, rfl, h2, h3, -⟩
    · omega
    · refine .inr ⟨g, nn, cap, vs, rfl, (Array.getElem?_eq_some_iff.1 h3).1, hl, ?_, fun i hi => ?_⟩
      · rw [← hb]; exact bsO_ok hx hl hk
      · rw [Nat.zero_add, hv.cellAt i (by omega)]
        have hi' : i < vs.length := by omega
        simp [hi']
  · refine (rMange_bad n day wt fa fcap nf first ma mcap nm ms x w hnf hnm hf hm hx h0).mono ?_
    rintro e w' ⟨rfl, hB⟩
    refine ⟨⟨_, rfl, .inl ⟨rfl, ?_⟩⟩, hB⟩
    rw [← hb, bsO, if_neg (by rw [hx]; exact h0)]
end Go.Proofs.Ytafdcbdbllpcnaa
/- Mange's contract where its arguments are valid. -/
namespace Go.Proofs.Ytafdcbdbllpcnaa
open Go.RowKit
open Go.Proofs

/-- The contract of Mange where its arguments are valid. -/
theorem mange_k (nn : Nat) (day : Int) (wt : Int × Int) (fa : Option Addr) (fcap nf : Nat) (first : List Int) (ma : Option Addr) (mcap nm : Nat) (ms : List Mt) (w : World) (hnf : nf = first.length) (hnm : nm = ms.length) (hf : IntsIn w fa fcap first) (hm : MeetsIn w ma mcap ms) (hx : chkG (nn : Int) first ms wt day = 0) (h250 : nm ≤ 250) :
    Calls Try.prog 15 #[.int .i64 (nn : Int), .slice fa nf fcap, .slice ma nm mcap, .agg #[.int .i64 wt.1, .int .i64 wt.2], .int .i64 day] w fun e w' => (∃ g vs, e = .returned (.tuple #[.slice (some ⟨g, 0, none⟩) nn nn, .int .i64 0]) ∧ w.heap.size ≤ g ∧ vs.length = nn ∧ ByOut w' g vs ∧ ∀ i, i < nn → Knw first ms wt day (i : Int) (vs.getD i 0)) ∧ Below w.heap.size w w' := by
  have hsick : ∀ W, Below w.heap.size w W → Calls Try.prog 56 #[.int .i64 (nn : Int), .slice fa nf fcap, .slice ma nm mcap, .agg #[.int .i64 wt.1, .int .i64 wt.2], .int .i64 day] W fun e W' => (∃ g cap ss, e = .returned (.slice (some ⟨g, 0, none⟩) nn cap) ∧ W.heap.size ≤ g ∧ SpOut W' g ss ∧ SickBy first ms wt day nn ss) ∧ Below W.heap.size W W' := fun W hW =>
    sickFrom_any nn day wt fa fcap nf first ma mcap nm ms W hnf hnm (hf.below hW (Nat.le_refl _)) (hm.below hW (Nat.le_refl _)) hx (fun W' hW' => inOrder_any ma mcap nm ms W' hnm ((hm.below hW (Nat.le_refl _)).below hW' (Nat.le_refl _)) h250)
  refine (Mange_ok nn day wt fa fcap nf first ma mcap nm ms w hnf hnm hf hm hx hsick).mono ?_
  rintro e w' ⟨⟨g, rfl, hg, vs, hl, ho, hk⟩, hB⟩
  exact ⟨⟨g, vs, rfl, hg, hl, ho, hk⟩, hB⟩
theorem mangeC : MangeC := fun nn day wt fa fcap nf first ma mcap nm ms w h1 h2 h3 h4 h5 h6 => mange_k nn day wt fa fcap nf first ma mcap nm ms w h1 h2 h3 h4 h5 h6
end Go.Proofs.Ytafdcbdbllpcnaa
/- What is told of mange where the meetings lie by their days, reckoned. -/
namespace Go.Proofs.Ytafdcbdbllpcnaa
open Go.RowKit
open Go.Proofs

def sw0 (first : List Int) (n : Nat) : List (Int × Int) := first.foldl (fun ss i => ss.set i.toNat (0, 0)) (List.replicate n (100001, 100001))
def swm (wt : Int × Int) (ms : List Mt) (ss : List (Int × Int)) : List (Int × Int) :=
  ms.foldl (fun ss x => dir x.day wt x.close x.b.toNat x.a.toNat (dir x.day wt x.close x.a.toNat x.b.toNat ss)) ss
def mangL (n : Nat) (first : List Int) (ms : List Mt) (wt : Int × Int) (d : Int) : List Int :=
  (List.range n).map fun k => if ((swm wt ms (sw0 first n)).getD k (0, 0)).2 ≤ d then 2 else if ((swm wt ms (sw0 first n)).getD k (0, 0)).1 ≤ d then 1 else 0
theorem sw0_go {first : List Int} {n : Int} : ∀ (Q L : List Int) (ss : List (Int × Int)), Sw0 first L n ss → (∀ i ∈ Q, i ∈ first ∧ 0 ≤ i ∧ i < n) → Sw0 first (L ++ Q) n (Q.foldl (fun ss i => ss.set i.toNat (0, 0)) ss)
  | [], L, ss, h, _ => by simpa using h
  | q :: Q, L, ss, h, hq => by
    obtain ⟨h1, h2, h3⟩ := hq q (by simp)
    obtain ⟨j, rfl⟩ : ∃ j : Nat, q = (j : Int) := ⟨q.toNat, by omega⟩
    have hl := h.len
    have := sw0_go Q (L ++ [(j : Int)]) _ (h.step (q := j) (by omega) h1) (fun i hi => hq i (by simp [hi]))
    simpa using this
theorem swm_go {first : List Int} {ms : List Mt} {wt : Int × Int} {n : Int} (ho : ∀ x ∈ ms, okMt n x) (hw : 1 ≤ wt.1) (hw2 : 1 ≤ wt.2) : ∀ (Q P : List Mt) (ss : List (Int × Int)), Swp first ms wt n P ss → (∀ x ∈ Q, x ∈ ms) → (P ++ Q).Pairwise (fun x y => x.day ≤ y.day) → Swp first ms wt n (P ++ Q) (swm wt Q ss)
  | [], P, ss, h, _, _ => by simpa [swm] using h
  | q :: Q, P, ss, h, hq, hp => by
    have hm := hq q (by simp)
    obtain ⟨o1, o2, o3, o4, -⟩ := id (ho q hm)
    have hd : ∀ y ∈ P, y.day ≤ q.day := fun y hy => (List.pairwise_append.1 hp).2.2 y hy q (by simp)
    have h1 := h.step hm (ho q hm) hd hw hw2 (i := q.a.toNat) (j := q.b.toNat) (by omega) (by omega)
    have := swm_go ho hw hw2 Q (P ++ [q]) _ h1 (fun x hx => hq x (by simp [hx])) (by simpa using hp)
    simpa [swm] using this
theorem mangL_knw {n : Nat} {first : List Int} {ms : List Mt} {wt : Int × Int} {d : Int} (hx : chkG (n : Int) first ms wt d = 0) (hp : ms.Pairwise (fun x y => x.day ≤ y.day)) : (mangL n first ms wt d).length = n ∧ ∀ i, i < n → Knw first ms wt d (i : Int) ((mangL n first ms wt d).getD i 0) := by
  obtain ⟨⟨n1, n2⟩, ⟨w1, w2, w3⟩, ⟨d1, d2⟩, ⟨l1, l2⟩, hF, hM⟩ := chkG_fine hx
  have h0 : Sw0 first first (n : Int) (sw0 first n) := by
    have := sw0_go (first := first) (n := (n : Int)) first [] _ Sw0.start (fun i hi => ⟨hi, hF i hi⟩)
    simpa [sw0] using this
  have h1 := swm_go hM w1 (by omega) ms [] _ h0.swp (fun _ h => h) (by simpa using hp)
  rw [List.nil_append] at h1
  refine ⟨by simp [mangL], fun i hi => ?_⟩
  have := h1.known (d := d) hF hM (fun x hx => .inl hx) w1 w2 d2 (k := i) (by omega)
  rw [show (mangL n first ms wt d).getD i 0 = _ by simp only [mangL, List.getD]; rw [List.getElem?_map, List.getElem?_range hi]]
  exact this
theorem bsO_sorted {n : Nat} {first : List Int} {ms : List Mt} {wt : Int × Int} {d : Int} (hx : chkG (n : Int) first ms wt d = 0) (hp : ms.Pairwise (fun x y => x.day ≤ y.day)) : bsO (n : Int) first ms wt d = strOfNums (mangL n first ms wt d) :=
  bsO_ok hx (mangL_knw hx hp).1 (mangL_knw hx hp).2

/-- The meetings of the chapter's examples. -/
def herdM : List Mt := [⟨0, 1, 5, false⟩, ⟨1, 2, 9, true⟩]
theorem herdM_by : herdM.Pairwise (fun x y => x.day ≤ y.day) := by simp [herdM]
theorem bs_8 : bsO 3 [0] herdM (3, 5) 8 = ⟨#[2, 1, 0]⟩ := (bsO_sorted (n := 3) (by decide) herdM_by).trans (by decide)
theorem bs_7 : bsO 3 [0] herdM (3, 5) 7 = ⟨#[2, 0, 0]⟩ := (bsO_sorted (n := 3) (by decide) herdM_by).trans (by decide)
theorem bs_12 : bsO 3 [0] herdM (3, 5) 12 = ⟨#[2, 1, 1]⟩ := (bsO_sorted (n := 3) (by decide) herdM_by).trans (by decide)
end Go.Proofs.Ytafdcbdbllpcnaa
