/- The wide structs of package camel: a breed, an animal at work, a day of an animal; read and written whole. -/
import Derived.Test.YtafdcbdbllpcnaaBig
import Derived.Test.YtafdcbdbllpcnaaLeafA
namespace Go.Proofs.Ytafdcbdbllpcnaa
open Go.RowKit
open Go.Proofs

theorem exec36l : ∀ ρ dst x ty pos after guard, execOp ρ { dst, op := .load 36 x, type := ty, pos, after, guard } = wideLoad 36 (ρ x) := execOp_wideLoad 36
theorem exec112l : ∀ ρ dst x ty pos after guard, execOp ρ { dst, op := .load 112 x, type := ty, pos, after, guard } = wideLoad 112 (ρ x) := execOp_wideLoad 112
theorem exec36s : ∀ ρ dst x y ty pos after guard, execOp ρ { dst, op := .store 36 x y, type := ty, pos, after, guard } = wideStore 36 (ρ x) (ρ y) := execOp_wideStore 36
theorem exec112s : ∀ ρ dst x y ty pos after guard, execOp ρ { dst, op := .store 112 x y, type := ty, pos, after, guard } = wideStore 112 (ρ x) (ρ y) := execOp_wideStore 112
theorem exec31s : ∀ ρ dst x y ty pos after guard, execOp ρ { dst, op := .store 31 x y, type := ty, pos, after, guard } = wideStore 31 (ρ x) (ρ y) := execOp_wideStore 31
theorem info31 : (Try.prog.info? 31).map (·.size) = some 2 := by kernel_rfl
theorem info36 : (Try.prog.info? 36).map (·.size) = some 17 := by kernel_rfl
theorem info112 : (Try.prog.info? 112).map (·.size) = some 24 := by kernel_rfl
theorem load36 (g : Nat) (w : World) : (wideLoad 36 (.pointer (some ⟨g, 0, none⟩))).run Try.prog w = match rowOf w g with
      | some cs => if cs.size = 17 then .ok (.value (.agg cs)) w else wideLoadElse Try.prog 36 g w
      | none => wideLoadElse Try.prog 36 g w := run_wideLoad (P := Try.prog) 17 Try.underlying36 rfl info36 g w
theorem load112 (g : Nat) (w : World) : (wideLoad 112 (.pointer (some ⟨g, 0, none⟩))).run Try.prog w = match rowOf w g with
      | some cs => if cs.size = 24 then .ok (.value (.agg cs)) w else wideLoadElse Try.prog 112 g w
      | none => wideLoadElse Try.prog 112 g w := run_wideLoad (P := Try.prog) 24 Try.underlying112 rfl info112 g w
theorem store36 (g : Nat) (vs : Array Value) (w : World) : (wideStore 36 (.pointer (some ⟨g, 0, none⟩)) (.agg vs)).run Try.prog w = match rowOf w g with
      | some cs => if cs.size = 17 ∧ vs.size = 17 ∧ vs.all (·.oneCell') = true then .ok .skip (w.setRow g vs) else wideStoreElse Try.prog 36 g (.agg vs) w
      | none => wideStoreElse Try.prog 36 g (.agg vs) w := run_wideStore (P := Try.prog) 17 info36 g vs w
theorem store112 (g : Nat) (vs : Array Value) (w : World) : (wideStore 112 (.pointer (some ⟨g, 0, none⟩)) (.agg vs)).run Try.prog w = match rowOf w g with
      | some cs => if cs.size = 24 ∧ vs.size = 24 ∧ vs.all (·.oneCell') = true then .ok .skip (w.setRow g vs) else wideStoreElse Try.prog 112 g (.agg vs) w
      | none => wideStoreElse Try.prog 112 g (.agg vs) w := run_wideStore (P := Try.prog) 24 info112 g vs w
theorem build112 (x0 x1 x2 x3 x4 x5 x6 x7 x8 x9 x10 x11 x12 x13 x14 x15 x16 y0 y1 y2 y3 y4 y5 : Value) (m : Bool) (w : World) :
    (Instr.build 112 #[(0, .agg #[x0, x1, x2, x3, x4, x5, x6, x7, x8, x9, x10, x11, x12, x13, x14, x15, x16]), (1, .agg #[y0, y1, y2, y3, y4, y5]), (2, .bool m)]).run Try.prog w = .ok (.agg #[x0, x1, x2, x3, x4, x5, x6, x7, x8, x9, x10, x11, x12, x13, x14, x15, x16, y0, y1, y2, y3, y4, y5, .bool m]) w := by kernel_rfl
theorem res112 {fn : Func} {p : Tmp} (h : fn.results = #[.cell p 112]) {tmps : Array Value} {w : World} {g : Nat} (hp : tmps.getD p undef = .pointer (some ⟨g, 0, none⟩)) {cs : Array Value} (hg : rowOf w g = some cs) (hs : cs.size = 24) : (results fn tmps).run Try.prog w = .ok (.agg cs) w :=
  results_row h 24 Try.underlying112 rfl info112 hp hg hs
theorem store31 (g : Nat) (vs : Array Value) (w : World) : (wideStore 31 (.pointer (some ⟨g, 0, none⟩)) (.agg vs)).run Try.prog w = match rowOf w g with
      | some cs => if cs.size = 2 ∧ vs.size = 2 ∧ vs.all (·.oneCell') = true then .ok .skip (w.setRow g vs) else wideStoreElse Try.prog 31 g (.agg vs) w
      | none => wideStoreElse Try.prog 31 g (.agg vs) w := run_wideStore (P := Try.prog) 2 info31 g vs w
theorem res31 {fn : Func} {p : Tmp} (h : fn.results = #[.cell p 31]) {tmps : Array Value} {w : World} {g : Nat} (hp : tmps.getD p undef = .pointer (some ⟨g, 0, none⟩)) {cs : Array Value} (hg : rowOf w g = some cs) (hs : cs.size = 2) : (results fn tmps).run Try.prog w = .ok (.agg cs) w :=
  results_row h 2 Try.underlying31 rfl info31 hp hg hs
end Go.Proofs.Ytafdcbdbllpcnaa
