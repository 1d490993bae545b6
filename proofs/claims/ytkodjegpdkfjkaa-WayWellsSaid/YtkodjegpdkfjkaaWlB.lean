/- Contracts of package way's checks of a land. -/
import Derived.Test.YtkodjegpdkfjkaaWlA
import Derived.Deep.DeepCutAuto
set_option linter.unusedVariables false
set_option linter.unusedSimpArgs false
namespace Go.Proofs.Ytkodjegpdkfjkaa
open Go.RowKit
open Go.Proofs

set_option maxHeartbeats 4000000 in
theorem validWell_any (v : Wl) (w : World) :
    Calls Try.prog 101 #[.agg #[.int .i64 v.x, .int .i64 v.y, .int .i64 v.depth, .int .i64 v.yield.1, .int .i64 v.yield.2, .int .i64 v.room, .int .i64 v.has.1, .int .i64 v.has.2, .int .i64 v.owner]] w fun e w' => e = .returned (.bool (okWl v)) ∧ Below w.heap.size w w' := by
  go_enter Try.func101, Try.ntmps101
  go_wp2_with (first | (go_at_call 68; refine (inRange_any _ _ _ _).mono ?_; rintro e W ⟨rfl, hB⟩; obtain ⟨r1, c1, -, s1⟩ := keep_row hB (g := w.heap.size) (by repeat (first | with_reducible assumption | with_reducible apply row_here0 | with_reducible apply row_here1 | with_reducible apply row_here2 | with_reducible apply row_here3 | with_reducible apply rowSkip)); have hw : Below w.heap.size w W := Below.trans (by go_grown) (hB.mono (by go_size)); clear hB) | (go_at_call 90; refine (validSpan_any _ _ _ _).mono ?_; rintro e W ⟨rfl, hB⟩; obtain ⟨r1, c1, -, s1⟩ := keep_row hB (g := w.heap.size) (by repeat (first | with_reducible assumption | with_reducible apply row_here0 | with_reducible apply row_here1 | with_reducible apply row_here2 | with_reducible apply row_here3 | with_reducible apply rowSkip)); have hw : Below w.heap.size w W := Below.trans (by go_grown) (hB.mono (by go_size)); clear hB))
  all_goals go_returns
  all_goals refine ⟨ret_bool ?_, by first | assumption | go_grown⟩
  all_goals try simp only [Bool.not_eq_true', Bool.not_eq_false', Bool.not_eq_true] at *
  all_goals simp [okWl, *]
theorem validWell_x (v : Wl) (x : Bool) (hx : okWl v = x) (w : World) :
    Calls Try.prog 101 #[.agg #[.int .i64 v.x, .int .i64 v.y, .int .i64 v.depth, .int .i64 v.yield.1, .int .i64 v.yield.2, .int .i64 v.room, .int .i64 v.has.1, .int .i64 v.has.2, .int .i64 v.owner]] w fun e w' => e = .returned (.bool x) ∧ Below w.heap.size w w' := by subst hx; exact validWell_any v w

/-- A gate, by its parts. -/
theorem okGt_parts (last : Int) (g : Gt) : okGt last g = (okSp g.opens 0 100000 && (okSp g.shuts 0 100000 && (decide (¬ g.shuts.2 < g.opens.1) && decide (¬ g.opens.1 ≤ last)))) := by simp [okGt, Bool.and_assoc]
theorem lastG_succ {gs : List Gt} {k : Nat} (hk : k < gs.length) : lastG gs (k + 1) = gs[k].shuts.2 := by simp [lastG, hk]

set_option maxRecDepth 100000 in
set_option maxHeartbeats 4000000 in
theorem validGates_x (a : Option Addr) (cap n : Nat) (gs : List Gt) (x : Bool) (w : World) (hn : n = gs.length) (h : GatesIn w a gs) (hx : (decide (gs.length ≤ 6) && okGts (-1) gs) = x) :
    Calls Try.prog 107 #[.slice a n cap] w fun e w' => e = .returned (.bool x) ∧ Below w.heap.size w w' := by
  have HN := Lib.hid hn
  have HG := Lib.hid h
  have HX := Lib.hid hx
  by_cases h6 : n ≤ 6
  · have hx2 := Lib.hid (show okGts (-1) gs = x by rw [← hx]; simp [show gs.length ≤ 6 by omega])
    have h6' : (n : Int) ≤ 6 := by omega
    clear hn h hx HX
    go_enter Try.func107, Try.ntmps107
    go_wp2_with fail
    go_loopw [3, 11] (fun l i wr => ∃ k : Nat, k ≤ n ∧ l = .int .i64 (lastG gs k) ∧ i = .int .i64 (k : Int) ∧ Hid (GtsTo gs k) ∧ Below w.heap.size w wr) (fun _ i _ => n - (intOf i).toNat)
    case atStart => exact ⟨0, Nat.zero_le _, rfl, rfl, GtsTo.zero gs, Below.refl _ _⟩
    case round =>
      obtain ⟨k, hk, rfl, rfl, hG, hB0⟩ := hrel
      have hz := hB0.size
      by_cases hlt : k < n
      · have hkg : k < gs.length := by have := HN.out; omega
        obtain ⟨g, off, rfl, hg, hgb⟩ := HG.out.get hkg
        obtain ⟨c0, c1, c2, c3⟩ := hg.below hB0 _ _ _ hgb
        have hlt' : (k : Int) < (n : Int) := by omega
        have HLS := Lib.hid (lastG_succ hkg)
        obtain ⟨y, hy⟩ : ∃ y, gs[k] = y := ⟨_, rfl⟩
        obtain ⟨la, hla⟩ : ∃ y, lastG gs k = y := ⟨_, rfl⟩
        rw [hy] at c0 c1 c2 c3
        rw [hla]
        have HY := Lib.hid hy
        have HLA := Lib.hid hla
        clear hg hy hla
        go_upto_region 7 with fail
        have rg0 : rowOf (wr.alloc (.cells #[.int .i64 y.opens.1, .int .i64 y.opens.2, .int .i64 y.shuts.1, .int .i64 y.shuts.2] 98)) wr.heap.size = some #[.int .i64 y.opens.1, .int .i64 y.opens.2, .int .i64 y.shuts.1, .int .i64 y.shuts.2] := row_here0 _ _ _
        have hX : Below w.heap.size w (wr.alloc (.cells #[.int .i64 y.opens.1, .int .i64 y.opens.2, .int .i64 y.shuts.1, .int .i64 y.shuts.2] 98)) := hB0.alloc hz _
        clear c0 c1 c2 c3 hB0 hz
        generalize wr.heap.size = gx at *
        generalize (wr.alloc (.cells #[.int .i64 y.opens.1, .int .i64 y.opens.2, .int .i64 y.shuts.1, .int .i64 y.shuts.2] 98)) = X at *
        obtain ⟨_, cg, fg, zg⟩ := row_facts rg0
        go_cut [40] (fun c wx => c = .bool (!okGt la y) ∧ Ext X wx)
        case first =>
          have hw : Ext X X := Below.refl _ _
          go_wp2_with (go_at_call 90; refine (validSpan_any _ _ _ _).mono ?_; rintro e W ⟨rfl, hB⟩; obtain ⟨r1, c1, -, s1⟩ := keep_row hB (g := gx) (by repeat (first | with_reducible assumption | with_reducible apply row_here0 | with_reducible apply row_here1 | with_reducible apply row_here2 | with_reducible apply row_here3 | with_reducible apply rowSkip)); have hw : Ext X W := Below.trans hw (Below.mono hB (Below.size hw)); clear hB)
          all_goals go_meet
          all_goals refine ⟨congrArg Value.bool ?_, hw⟩
          all_goals try simp only [Bool.not_eq_true', Bool.not_eq_false', Bool.not_eq_true, Int.not_lt, Int.not_le] at *
          all_goals simp [okGt, *]
          all_goals rw [show decide (y.shuts.2 < y.opens.1) = false from decide_eq_false (by omega)]
          all_goals by_cases hz2 : y.opens.1 ≤ la
          all_goals simp [hz2, Int.not_lt.2, Int.not_le.1]
          all_goals omega
        case rest =>
          obtain ⟨rfl, hE⟩ := hcut
          have hZ := hX.trans (Below.mono hE hX.size)
          obtain ⟨_, cz, fz, zz⟩ := keep_row hE rg0
          clear hE hX rg0 cg fg zg
          generalize wc = Z at *
          cases hok : okGt la y with
          | true =>
            have HG2 := Lib.hid (hG.out.step hkg (by rw [HLA.out, HY.out]; exact hok))
            have HS2 := Lib.hid (show lastG gs (k + 1) = y.shuts.2 by rw [HLS.out, HY.out])
            clear hok
            go_wp2
            go_roundw
            case rel =>
              first
              | exact ⟨k + 1, hlt, by rw [HS2.out], by go_num, HG2, hZ⟩
              | ((repeat apply Exists.intro); exact ⟨⟨k + 1, hlt, by rw [HS2.out], by go_num, HG2, hZ⟩, rfl⟩)
            case measure => simp [intOf]; omega
          | false =>
            have hx3 : false = x := by rw [← hx2.out, gts_no hkg (by rw [HLA.out, HY.out]; exact hok)]
            subst hx3
            clear hok hx2
            go_wp2
            go_returns
            exact ⟨rfl, hZ⟩
      · obtain rfl : n = k := by omega
        have hx3 : true = x := by rw [← hx2.out]; exact (hG.out.all (by rw [← HN.out]; omega)).symm
        subst hx3
        clear hx2 hG
        go_wp2
        go_returns
        exact ⟨rfl, hB0⟩
  · have h6' : (6 : Int) < (n : Int) := by omega
    have hx2 : x = false := by rw [← hx]; simp [show ¬ gs.length ≤ 6 by omega]
    subst hx2
    clear hn h hx HX HG HN
    go_enter Try.func107, Try.ntmps107
    go_wp2
    go_returns
    exact ⟨rfl, by go_grown⟩

set_option maxHeartbeats 4000000 in
theorem validLeg_any (x : Lg) (ga : Option Addr) (gcap : Nat) (w : World) (h : GatesIn w ga x.gates) :
    Calls Try.prog 102 #[.agg #[.int .i64 x.src, .int .i64 x.dst, .int .i64 x.long.1, .int .i64 x.long.2, .slice ga x.gates.length gcap]] w fun e w' => e = .returned (.bool (okLgB x)) ∧ Below w.heap.size w w' := by
  have HG := Lib.hid h
  clear h
  go_enter Try.func102, Try.ntmps102
  go_wp2_with (first | (go_at_call 90; refine (validSpan_any _ _ _ _).mono ?_; rintro e W ⟨rfl, hB⟩; obtain ⟨r1, c1, -, s1⟩ := keep_row hB (g := w.heap.size) (by repeat (first | with_reducible assumption | with_reducible apply row_here0 | with_reducible apply row_here1 | with_reducible apply row_here2 | with_reducible apply row_here3 | with_reducible apply rowSkip)); have hw : Below w.heap.size w W := Below.trans (by go_grown) (hB.mono (by go_size)); clear hB) | (go_at_call 107; refine (validGates_x _ _ _ x.gates _ _ rfl (ListIn.below (GateAt.below hw) HG.out hw (Nat.le_refl _)) rfl).mono ?_; rintro e W ⟨rfl, hB⟩; obtain ⟨r1, c1, -, s1⟩ := keep_row hB (g := w.heap.size) (by repeat (first | with_reducible assumption | with_reducible apply row_here0 | with_reducible apply row_here1 | with_reducible apply row_here2 | with_reducible apply row_here3 | with_reducible apply rowSkip)); have hw : Below w.heap.size w W := Below.trans (by go_grown) (hB.mono (by go_size)); clear hB))
  all_goals go_returns
  all_goals refine ⟨ret_bool ?_, by first | assumption | go_grown⟩
  all_goals try simp only [Bool.not_eq_true', Bool.not_eq_false', Bool.not_eq_true] at *
  all_goals simp [okLgB, *]
theorem validLeg_x (x : Lg) (ga : Option Addr) (gcap : Nat) (y : Bool) (hy : okLgB x = y) (w : World) (h : GatesIn w ga x.gates) :
    Calls Try.prog 102 #[.agg #[.int .i64 x.src, .int .i64 x.dst, .int .i64 x.long.1, .int .i64 x.long.2, .slice ga x.gates.length gcap]] w fun e w' => e = .returned (.bool y) ∧ Below w.heap.size w w' := by subst hy; exact validLeg_any x ga gcap w h
end Go.Proofs.Ytkodjegpdkfjkaa
