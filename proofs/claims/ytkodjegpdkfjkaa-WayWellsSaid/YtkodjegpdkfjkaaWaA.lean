/- Contracts: what a well has behind some days; whether draws are valid; hours of work. -/
import Derived.Test.YtkodjegpdkfjkaaWlR
import Derived.Test.YtkodjegpdkfjkaaWtS
set_option linter.unusedVariables false
set_option linter.unusedSimpArgs false
namespace Go.Proofs.Ytkodjegpdkfjkaa
open Go.RowKit
open Go.Proofs

theorem exec24s : ∀ ρ dst x y ty pos after guard, execOp ρ { dst, op := .store 24 x y, type := ty, pos, after, guard } = wideStore 24 (ρ x) (ρ y) := execOp_wideStore 24
theorem info24 : (Try.prog.info? 24).map (·.size) = some 2 := by kernel_rfl
theorem store24 (g : Nat) (vs : Array Value) (w : World) : (wideStore 24 (.pointer (some ⟨g, 0, none⟩)) (.agg vs)).run Try.prog w = match rowOf w g with
      | some cs => if cs.size = 2 ∧ vs.size = 2 ∧ vs.all (·.oneCell') = true then .ok .skip (w.setRow g vs) else wideStoreElse Try.prog 24 g (.agg vs) w
      | none => wideStoreElse Try.prog 24 g (.agg vs) w := run_wideStore (P := Try.prog) 2 info24 g vs w
theorem res24 {fn : Func} {p : Tmp} (h : fn.results = #[.cell p 24]) {tmps : Array Value} {w : World} {g : Nat} (hp : tmps.getD p undef = .pointer (some ⟨g, 0, none⟩)) {cs : Array Value} (hg : rowOf w g = some cs) (hs : cs.size = 2) : (results fn tmps).run Try.prog w = .ok (.agg cs) w :=
  results_row h 2 Try.underlying24 rfl info24 hp hg hs
attribute [local go_sem ↓] exec24s run_min2 run_max2
attribute [local go_sem] store24 rowOf_alloc rowOf_drew setRow_alloc one_int one_bool

theorem fillS_bd {v : Wl} {has r : Int × Int} {d : Int} (hb : BdW v) (h0 : -1000000000 ≤ has.1) (h1 : has.1 ≤ has.2) (h2 : has.2 ≤ 1000000000) (d0 : 0 ≤ d) (d1 : d ≤ 200000) (hr : fillS v has d = r) :
    (0 ≤ d * v.yield.1 ∧ d * v.yield.1 ≤ 2000000000000) ∧ (0 ≤ d * v.yield.2 ∧ d * v.yield.2 ≤ 2000000000000) ∧ r.1 ≤ r.2 ∧ r.2 ≤ v.room ∧ (0 ≤ has.1 → 0 ≤ r.1) ∧ r.1 = mn v.room (has.1 + d * v.yield.1) ∧ r.2 = mn v.room (has.2 + d * v.yield.2) := by
  obtain ⟨y1, y2, y3⟩ := hb.yield
  obtain ⟨r1, r2⟩ := hb.room
  have p1 : 0 ≤ d * v.yield.1 := Int.mul_nonneg d0 y1
  have p2 : 0 ≤ d * v.yield.2 := Int.mul_nonneg d0 (by omega)
  have p3 : d * v.yield.1 ≤ 200000 * 10000000 := Int.mul_le_mul d1 (by omega) y1 (by omega)
  have p4 : d * v.yield.2 ≤ 200000 * 10000000 := Int.mul_le_mul d1 (by omega) (by omega) (by omega)
  have p5 : d * v.yield.1 ≤ d * v.yield.2 := Int.mul_le_mul_of_nonneg_left y2 d0
  subst hr
  simp only [fillS, mn_min]
  refine ⟨⟨p1, by omega⟩, ⟨p2, by omega⟩, by omega, by omega, fun _ => by omega, by trivial, by trivial⟩

set_option maxHeartbeats 4000000 in
theorem filled_x (v : Wl) (d : Int) (r : Int × Int) (w : World) (hr : fillS v v.has d = r) (hb : BdW v) (d0 : 0 ≤ d) (d1 : d ≤ 200000) :
    Calls Try.prog 76 #[.agg #[.int .i64 v.x, .int .i64 v.y, .int .i64 v.depth, .int .i64 v.yield.1, .int .i64 v.yield.2, .int .i64 v.room, .int .i64 v.has.1, .int .i64 v.has.2, .int .i64 v.owner], .int .i64 d] w fun e w' => e = .returned (.agg #[.int .i64 r.1, .int .i64 r.2]) ∧ Below w.heap.size w w' := by
  obtain ⟨h1, h2, h3⟩ := hb.has
  obtain ⟨q1, q2⟩ := hb.room
  obtain ⟨⟨p1, p2⟩, ⟨p3, p4⟩, -, -, -, e1, e2⟩ := fillS_bd hb (by omega) h2 (by omega) d0 d1 hr
  have E1 := Lib.hid e1
  have E2 := Lib.hid e2
  clear e1 e2 hr hb
  go_enter Try.func76, Try.ntmps76
  go_wp2
  exact bodyPost_ret (res24 Try.results76 rfl (cs := #[.int .i64 (mn v.room (v.has.1 + d * v.yield.1)), .int .i64 (mn v.room (v.has.2 + d * v.yield.2))]) (by simp [rowOf_alloc]) rfl) rfl ⟨by rw [E1.out, E2.out], by go_grown⟩
set_option maxHeartbeats 4000000 in
theorem rfilled_x (v : Wl) (has : Int × Int) (d : Int) (r : Int × Int) (w : World) (hr : fillS v has d = r) (hb : BdW v) (h1 : 0 ≤ has.1) (h2 : has.1 ≤ has.2) (h3 : has.2 ≤ 1000000000) (d0 : 0 ≤ d) (d1 : d ≤ 200000) :
    Calls Try.prog 88 #[.agg #[.int .i64 v.x, .int .i64 v.y, .int .i64 v.depth, .int .i64 v.yield.1, .int .i64 v.yield.2, .int .i64 v.room, .int .i64 v.has.1, .int .i64 v.has.2, .int .i64 v.owner], .agg #[.int .i64 has.1, .int .i64 has.2], .int .i64 d] w fun e w' => e = .returned (.agg #[.int .i64 r.1, .int .i64 r.2]) ∧ Below w.heap.size w w' := by
  obtain ⟨q1, q2⟩ := hb.room
  obtain ⟨⟨p1, p2⟩, ⟨p3, p4⟩, -, -, -, e1, e2⟩ := fillS_bd hb (by omega) h2 h3 d0 d1 hr
  have E1 := Lib.hid e1
  have E2 := Lib.hid e2
  clear e1 e2 hr hb
  go_enter Try.func88, Try.ntmps88
  go_wp2
  exact bodyPost_ret (res24 Try.results88 rfl (cs := #[.int .i64 (mn v.room (has.1 + d * v.yield.1)), .int .i64 (mn v.room (has.2 + d * v.yield.2))]) (by simp [rowOf_alloc]) rfl) rfl ⟨by rw [E1.out, E2.out], by go_grown⟩

def DrawsIn (W : World) (a : Option Addr) (ds : List Dr) : Prop := ListIn 3 DrawAt W a ds
theorem lastD_succ {ds : List Dr} {k : Nat} : lastD ds (k + 1) = (ds.getD k dr0).day := by simp [lastD]
theorem getD_get {ds : List Dr} {k : Nat} (hk : k < ds.length) : ds.getD k dr0 = ds[k] := by simp [hk]

set_option maxRecDepth 100000 in
set_option maxHeartbeats 8000000 in
theorem validDraws_x (a b : Option Addr) (cap bcap n nw : Nat) (ds : List Dr) (x : Bool) (w : World) (hn : n = ds.length) (h : DrawsIn w a ds) (hx : okDrs nw ds = x) (hnw : nw ≤ 12) (h200 : n ≤ 200) :
    Calls Try.prog 75 #[.slice a n cap, .slice b nw bcap] w fun e w' => e = .returned (.bool x) ∧ Below w.heap.size w w' := by
  have HN := Lib.hid hn
  have HD := Lib.hid h
  have HX := Lib.hid hx
  have h200' : (n : Int) ≤ 200 := by omega
  clear hn h hx
  go_enter Try.func75, Try.ntmps75
  go_wp2_with fail
  go_loopw [5, 10] (fun l i wr => ∃ k : Nat, k ≤ n ∧ l = .int .i64 (lastD ds k) ∧ i = .int .i64 (k : Int) ∧ Hid (DrsTo nw ds k) ∧ Below w.heap.size w wr) (fun _ i _ => n - (intOf i).toNat)
  case atStart => exact ⟨0, Nat.zero_le _, rfl, rfl, DrsTo.zero _ _, Below.refl _ _⟩
  case round =>
    obtain ⟨k, hk, rfl, rfl, hA, hB0⟩ := hrel
    have hz := hB0.size
    by_cases hlt : k < n
    · have hkg : k < ds.length := by have := HN.out; omega
      obtain ⟨g, off, rfl, hg, hgb⟩ := HD.out.get hkg
      obtain ⟨c0, c1, c2⟩ := hg.below hB0 _ _ _ hgb
      have hlt' : (k : Int) < (n : Int) := by omega
      rw [← getD_get hkg] at c0 c1 c2
      obtain ⟨y, hy⟩ : ∃ y, ds.getD k dr0 = y := ⟨_, rfl⟩
      obtain ⟨la, hla⟩ : ∃ y, lastD ds k = y := ⟨_, rfl⟩
      rw [hy] at c0 c1 c2
      rw [hla]
      have HY := Lib.hid hy
      have HLA := Lib.hid hla
      clear hg hy hla
      go_upto_region 5 with fail
      have rx0 : rowOf (wr.alloc (.cells #[.int .i64 y.well, .int .i64 y.day, .int .i64 y.water] 54)) wr.heap.size = some #[.int .i64 y.well, .int .i64 y.day, .int .i64 y.water] := row_here0 _ _ _
      have hX := hB0.trans (Below.mono (ext_alloc wr (.cells #[.int .i64 y.well, .int .i64 y.day, .int .i64 y.water] 54)) hz)
      clear c0 c1 c2 hB0 hz
      generalize wr.heap.size = gx at *
      generalize (wr.alloc (.cells #[.int .i64 y.well, .int .i64 y.day, .int .i64 y.water] 54)) = X at *
      obtain ⟨_, cx, fx, zx⟩ := row_facts rx0
      go_cut [31] (fun c wx => c = .bool (!okDr nw la y) ∧ Ext X wx)
      case first =>
        have hw : Ext X X := Below.refl _ _
        go_wp2_with (first | (go_at_call 66; refine (isWell_x _ _ _ _ _ rfl (by omega) _).mono ?_; rintro e W ⟨rfl, hB⟩; obtain ⟨r1, c1, -, s1⟩ := keep_row hB (g := gx) (by repeat (first | with_reducible assumption | with_reducible apply row_here0 | with_reducible apply row_here1 | with_reducible apply row_here2 | with_reducible apply row_here3 | with_reducible apply rowSkip)); have hw : Ext X W := Below.trans hw (Below.mono hB (Below.size hw)); clear hB) | (go_at_call 68; refine (inRange_any _ _ _ _).mono ?_; rintro e W ⟨rfl, hB⟩; obtain ⟨r1, c1, -, s1⟩ := keep_row hB (g := gx) (by repeat (first | with_reducible assumption | with_reducible apply row_here0 | with_reducible apply row_here1 | with_reducible apply row_here2 | with_reducible apply row_here3 | with_reducible apply rowSkip)); have hw : Ext X W := Below.trans hw (Below.mono hB (Below.size hw)); clear hB))
        all_goals go_meet
        all_goals refine ⟨congrArg Value.bool ?_, hw⟩
        all_goals try simp only [Bool.not_eq_true', Bool.not_eq_false', Bool.not_eq_true] at *
        all_goals simp [okDr, *]
      case rest =>
        obtain ⟨rfl, hE⟩ := hcut
        have hZ := hX.trans (Below.mono hE hX.size)
        obtain ⟨_, cz, fz, zz⟩ := keep_row hE rx0
        clear hE hX rx0 cx fx zx
        generalize wc = Z at *
        cases hok : okDr nw la y with
        | true =>
          have HG2 := Lib.hid (hA.out.step (by rw [HLA.out, HY.out]; exact hok))
          have HS2 := Lib.hid (show lastD ds (k + 1) = y.day by rw [lastD_succ, HY.out])
          clear hok
          go_wp2
          go_roundw
          case rel =>
            first
            | exact ⟨k + 1, hlt, by rw [HS2.out], by go_num, HG2, hZ⟩
            | ((repeat apply Exists.intro); exact ⟨⟨k + 1, hlt, by rw [HS2.out], by go_num, HG2, hZ⟩, rfl⟩)
          case measure => simp [intOf]; omega
        | false =>
          have hx3 : false = x := by rw [← HX.out, okDrs_no hkg (by rw [HLA.out, HY.out]; exact hok)]
          subst hx3
          clear hok HX
          go_wp2
          go_returns
          exact ⟨rfl, hZ⟩
    · obtain rfl : n = k := by omega
      have hx3 : true = x := by rw [← HX.out, hA.out.all (by rw [← HN.out]; exact Nat.le_refl _)]
      subst hx3
      clear HX hA
      go_wp2
      go_returns
      exact ⟨rfl, hB0⟩
end Go.Proofs.Ytkodjegpdkfjkaa
