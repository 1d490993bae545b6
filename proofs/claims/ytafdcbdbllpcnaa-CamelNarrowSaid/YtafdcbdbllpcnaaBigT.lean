/- Contracts of package camel's sum and scaled at two and three spans: what they return, for all numbers within bounds. -/
import Derived.Test.YtafdcbdbllpcnaaLeafB
import Derived.RegionTactic
import Derived.BigRegion
import Derived.Deep.Light
import Derived.Test.YtafdcbdbllpcnaaBig
namespace Go.Proofs.Ytafdcbdbllpcnaa
open Go.RowKit
open Go.Proofs

/-- A cell of a world stands in every world that is as it was below a bound. -/
theorem at_below {B : Nat} {w w' : World} {a : Addr} {v : Value} (hB : Below B w w') (h : a.block < B) (hc : w.cell? a = some v) : w'.cell? a = some v := (hB.cell (p := a) h).trans hc
theorem alloc3 {w : World} {b o : Nat} {v : Value} (hb : b < w.heap.size) (hc : w.cell? ⟨b, o, none⟩ = some v) : ∀ o1 o2 o3, (((w.alloc o1).alloc o2).alloc o3).cell? ⟨b, o, none⟩ = some v := fun o1 o2 o3 =>
  at_below (B := w.heap.size) (by go_grown) hb hc
theorem alloc4 {w : World} {b o : Nat} {v : Value} (hb : b < w.heap.size) (hc : w.cell? ⟨b, o, none⟩ = some v) : ∀ o1 o2 o3 o4, ((((w.alloc o1).alloc o2).alloc o3).alloc o4).cell? ⟨b, o, none⟩ = some v := fun o1 o2 o3 o4 =>
  at_below (B := w.heap.size) (by go_grown) hb hc

set_option maxHeartbeats 400000 in
theorem sum2_any (a1 a2 b1 b2 : Int) (b cap : Nat) (w : World) (hb : b < w.heap.size)
    (c0 : w.cell? ⟨b, 0, none⟩ = some (.int .i64 a1)) (c1 : w.cell? ⟨b, 1, none⟩ = some (.int .i64 a2))
    (c2 : w.cell? ⟨b, 2, none⟩ = some (.int .i64 b1)) (c3 : w.cell? ⟨b, 3, none⟩ = some (.int .i64 b2))
    (ha1 : -1000000000000000 ≤ a1) (ha1' : a1 ≤ 1000000000000000) (ha2 : -1000000000000000 ≤ a2) (ha2' : a2 ≤ 1000000000000000)
    (hb1 : -1000000000000000 ≤ b1) (hb1' : b1 ≤ 1000000000000000) (hb2 : -1000000000000000 ≤ b2) (hb2' : b2 ≤ 1000000000000000) :
    Calls Try.prog 85 #[.slice (some ⟨b, 0, none⟩) 2 cap] w fun e w' => e = .returned (.agg #[.int .i64 (a1 + b1), .int .i64 (a2 + b2)]) ∧ Below w.heap.size w w' := by
  have d2 := alloc3 hb c2
  have d3 := alloc3 hb c3
  go_enter Try.func85, Try.ntmps85
  go_wp2
  go_rounds 3
  all_goals go_returns
  all_goals exact ⟨rfl, by go_grown⟩

set_option maxHeartbeats 400000 in
theorem sum3_any (a1 a2 b1 b2 e1 e2 : Int) (b cap : Nat) (w : World) (hb : b < w.heap.size)
    (c0 : w.cell? ⟨b, 0, none⟩ = some (.int .i64 a1)) (c1 : w.cell? ⟨b, 1, none⟩ = some (.int .i64 a2))
    (c2 : w.cell? ⟨b, 2, none⟩ = some (.int .i64 b1)) (c3 : w.cell? ⟨b, 3, none⟩ = some (.int .i64 b2))
    (c4 : w.cell? ⟨b, 4, none⟩ = some (.int .i64 e1)) (c5 : w.cell? ⟨b, 5, none⟩ = some (.int .i64 e2))
    (ha1 : -1000000000000000 ≤ a1) (ha1' : a1 ≤ 1000000000000000) (ha2 : -1000000000000000 ≤ a2) (ha2' : a2 ≤ 1000000000000000)
    (hb1 : -1000000000000000 ≤ b1) (hb1' : b1 ≤ 1000000000000000) (hb2 : -1000000000000000 ≤ b2) (hb2' : b2 ≤ 1000000000000000)
    (he1 : -1000000000000000 ≤ e1) (he1' : e1 ≤ 1000000000000000) (he2 : -1000000000000000 ≤ e2) (he2' : e2 ≤ 1000000000000000) :
    Calls Try.prog 85 #[.slice (some ⟨b, 0, none⟩) 3 cap] w fun e w' => e = .returned (.agg #[.int .i64 (a1 + b1 + e1), .int .i64 (a2 + b2 + e2)]) ∧ Below w.heap.size w w' := by
  have d2 := alloc3 hb c2
  have d3 := alloc3 hb c3
  have d4 := alloc4 hb c4
  have d5 := alloc4 hb c5
  go_enter Try.func85, Try.ntmps85
  go_wp2
  go_rounds 4
  all_goals go_returns
  all_goals exact ⟨rfl, by go_grown⟩

theorem mul_bd {x y : Int} (hx : 0 ≤ x) (hy : 0 ≤ y) : 0 ≤ x * y := Int.mul_nonneg hx hy

set_option maxHeartbeats 400000 in
theorem scaled2_any (d a1 a2 b1 b2 : Int) (b cap : Nat) (w : World) (hb : b < w.heap.size)
    (c0 : w.cell? ⟨b, 0, none⟩ = some (.int .i64 a1)) (c1 : w.cell? ⟨b, 1, none⟩ = some (.int .i64 a2))
    (c2 : w.cell? ⟨b, 2, none⟩ = some (.int .i64 b1)) (c3 : w.cell? ⟨b, 3, none⟩ = some (.int .i64 b2))
    (hd : 1 ≤ d) (hd' : d ≤ 1000000000000000)
    (ha1 : 0 ≤ a1) (ha1' : a1 ≤ 1000000000000000) (ha2 : 0 ≤ a2) (ha2' : a2 ≤ 1000000000000000)
    (hp1 : 0 ≤ a1 * b1) (hp1' : a1 * b1 ≤ 1000000000000000) (hp2 : 0 ≤ a2 * b2) (hp2' : a2 * b2 ≤ 1000000000000000) :
    Calls Try.prog 86 #[.int .i64 d, .slice (some ⟨b, 0, none⟩) 2 cap] w fun e w' => e = .returned (.agg #[.int .i64 (a1 * b1 / d), .int .i64 ((a2 * b2 + d - 1) / d)]) ∧ Below w.heap.size w w' := by
  have d0 := alloc3 hb c0
  have d1 := alloc3 hb c1
  have d2 := alloc4 hb c2
  have d3 := alloc4 hb c3
  go_enter Try.func86, Try.ntmps86
  go_wp2
  go_rounds 3
  go_region
  all_goals go_wp2
  all_goals go_returns
  all_goals exact ⟨rfl, by go_grown⟩

/-- What lay before a call lies there behind it. -/
theorem bcell {W w1 : World} (hb : Below W.heap.size W w1) : (∀ b o, b < W.heap.size → w1.cell? ⟨b, o, none⟩ = W.cell? ⟨b, o, none⟩) ∧ (∀ b o, b < W.heap.size → w1.frozen? ⟨b, o, none⟩ = W.frozen? ⟨b, o, none⟩) ∧ W.heap.size ≤ w1.heap.size :=
  ⟨fun b o h => hb.cell (p := ⟨b, o, none⟩) h, fun b o h => hb.frozen (p := ⟨b, o, none⟩) h, hb.size⟩
end Go.Proofs.Ytafdcbdbllpcnaa
/- The wide structs of package camel: a breed, an animal at work, a day of an animal; read and written whole. -/
namespace Go.Proofs.Ytafdcbdbllpcnaa
open Go.RowKit
open Go.Proofs

theorem exec36l : ∀ ρ dst x ty pos after guard, execOp ρ { dst, op := .load 36 x, type := ty, pos, after, guard } = wideLoad 36 (ρ x) := execOp_wideLoad 36
theorem exec112l : ∀ ρ dst x ty pos after guard, execOp ρ { dst, op := .load 112 x, type := ty, pos, after, guard } = wideLoad 112 (ρ x) := execOp_wideLoad 112
theorem exec36s : ∀ ρ dst x y ty pos after guard, execOp ρ { dst, op := .store 36 x y, type := ty, pos, after, guard } = wideStore 36 (ρ x) (ρ y) := execOp_wideStore 36
theorem exec112s : ∀ ρ dst x y ty pos after guard, execOp ρ { dst, op := .store 112 x y, type := ty, pos, after, guard } = wideStore 112 (ρ x) (ρ y) := execOp_wideStore 112
theorem exec31s : ∀ ρ dst x y ty pos after guard, execOp ρ { dst, op := .store 31 x y, type := ty, pos, after, guard } = wideStore 31 (ρ x) (ρ y) := execOp_wideStore 31
theorem info31 : (Try.prog.info? 31).map (·.size) = some 2 := by kernel_rfl
theorem info36 : (Try.prog.info? 36).map (·.size) = some 17 := by kernel_rfl
theorem info112 : (Try.prog.info? 112).map (·.size) = some 24 := by kernel_rfl
theorem load36 (g : Nat) (w : World) : (wideLoad 36 (.pointer (some ⟨g, 0, none⟩))).run Try.prog w = match rowOf w g with
      | some cs => if cs.size = 17 then .ok (.value (.agg cs)) w else wideLoadElse Try.prog 36 g w
      | none => wideLoadElse Try.prog 36 g w := run_wideLoad (P := Try.prog) 17 Try.underlying36 rfl info36 g w
theorem load112 (g : Nat) (w : World) : (wideLoad 112 (.pointer (some ⟨g, 0, none⟩))).run Try.prog w = match rowOf w g with
      | some cs => if cs.size = 24 then .ok (.value (.agg cs)) w else wideLoadElse Try.prog 112 g w
      | none => wideLoadElse Try.prog 112 g w := run_wideLoad (P := Try.prog) 24 Try.underlying112 rfl info112 g w
theorem store36 (g : Nat) (vs : Array Value) (w : World) : (wideStore 36 (.pointer (some ⟨g, 0, none⟩)) (.agg vs)).run Try.prog w = match rowOf w g with
      | some cs => if cs.size = 17 ∧ vs.size = 17 ∧ vs.all (·.oneCell') = true then .ok .skip (w.setRow g vs) else wideStoreElse Try.prog 36 g (.agg vs) w
      | none => wideStoreElse Try.prog 36 g (.agg vs) w := run_wideStore (P := Try.prog) 17 info36 g vs w
theorem store112 (g : Nat) (vs : Array Value) (w : World) : (wideStore 112 (.pointer (some ⟨g, 0, none⟩)) (.agg vs)).run Try.prog w = match rowOf w g with
      | some cs => if cs.size = 24 ∧ vs.size = 24 ∧ vs.all (·.oneCell') = true then .ok .skip (w.setRow g vs) else wideStoreElse Try.prog 112 g (.agg vs) w
      | none => wideStoreElse Try.prog 112 g (.agg vs) w := run_wideStore (P := Try.prog) 24 info112 g vs w
theorem build112 (x0 x1 x2 x3 x4 x5 x6 x7 x8 x9 x10 x11 x12 x13 x14 x15 x16 y0 y1 y2 y3 y4 y5 : Value) (m : Bool) (w : World) :
    (Instr.build 112 #[(0, .agg #[x0, x1, x2, x3, x4, x5, x6, x7, x8, x9, x10, x11, x12, x13, x14, x15, x16]), (1, .agg #[y0, y1, y2, y3, y4, y5]), (2, .bool m)]).run Try.prog w = .ok (.agg #[x0, x1, x2, x3, x4, x5, x6, x7, x8, x9, x10, x11, x12, x13, x14, x15, x16, y0, y1, y2, y3, y4, y5, .bool m]) w := by kernel_rfl
theorem res112 {fn : Func} {p : Tmp} (h : fn.results = #[.cell p 112]) {tmps : Array Value} {w : World} {g : Nat} (hp : tmps.getD p undef = .pointer (some ⟨g, 0, none⟩)) {cs : Array Value} (hg : rowOf w g = some cs) (hs : cs.size = 24) : (results fn tmps).run Try.prog w = .ok (.agg cs) w :=
  results_row h 24 Try.underlying112 rfl info112 hp hg hs
theorem store31 (g : Nat) (vs : Array Value) (w : World) : (wideStore 31 (.pointer (some ⟨g, 0, none⟩)) (.agg vs)).run Try.prog w = match rowOf w g with
      | some cs => if cs.size = 2 ∧ vs.size = 2 ∧ vs.all (·.oneCell') = true then .ok .skip (w.setRow g vs) else wideStoreElse Try.prog 31 g (.agg vs) w
      | none => wideStoreElse Try.prog 31 g (.agg vs) w := run_wideStore (P := Try.prog) 2 info31 g vs w
theorem res31 {fn : Func} {p : Tmp} (h : fn.results = #[.cell p 31]) {tmps : Array Value} {w : World} {g : Nat} (hp : tmps.getD p undef = .pointer (some ⟨g, 0, none⟩)) {cs : Array Value} (hg : rowOf w g = some cs) (hs : cs.size = 2) : (results fn tmps).run Try.prog w = .ok (.agg cs) w :=
  results_row h 2 Try.underlying31 rfl info31 hp hg hs
end Go.Proofs.Ytafdcbdbllpcnaa
