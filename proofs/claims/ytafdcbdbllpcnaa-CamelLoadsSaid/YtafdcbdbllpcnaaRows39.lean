/- The struct of an animal: stored and built whole; results that hold one. -/
import Derived.Test.YtafdcbdbllpcnaaPart
import Derived.Test.YtafdcbdbllpcnaaBigT
import Derived.Test.YtafdcbdbllpcnaaSpec
namespace Go.Proofs.Ytafdcbdbllpcnaa
open Go.RowKit
open Go.Proofs

theorem exec39s : ∀ ρ dst x y ty pos after guard, execOp ρ { dst, op := .store 39 x y, type := ty, pos, after, guard } = wideStore 39 (ρ x) (ρ y) := execOp_wideStore 39
theorem info39 : (Try.prog.info? 39).map (·.size) = some 7 := by kernel_rfl
theorem store39 (g : Nat) (vs : Array Value) (w : World) : (wideStore 39 (.pointer (some ⟨g, 0, none⟩)) (.agg vs)).run Try.prog w = match rowOf w g with
      | some cs => if cs.size = 7 ∧ vs.size = 7 ∧ vs.all (·.oneCell') = true then .ok .skip (w.setRow g vs) else wideStoreElse Try.prog 39 g (.agg vs) w
      | none => wideStoreElse Try.prog 39 g (.agg vs) w := run_wideStore (P := Try.prog) 7 info39 g vs w
theorem exec39l : ∀ ρ dst x ty pos after guard, execOp ρ { dst, op := .load 39 x, type := ty, pos, after, guard } = wideLoad 39 (ρ x) := execOp_wideLoad 39
theorem load39 (g : Nat) (w : World) : (wideLoad 39 (.pointer (some ⟨g, 0, none⟩))).run Try.prog w = match rowOf w g with
      | some cs => if cs.size = 7 then .ok (.value (.agg cs)) w else wideLoadElse Try.prog 39 g w
      | none => wideLoadElse Try.prog 39 g w := run_wideLoad (P := Try.prog) 7 Try.underlying39 rfl info39 g w
theorem build39z (w : World) : (Instr.build 39 #[]).run Try.prog w = .ok (.agg #[.int .i64 0, .int .i64 0, .int .i64 0, .int .i64 0, .int .i64 0, .int .i64 0, .bool false]) w := by kernel_rfl
theorem build39_4 (a b c d e f : Value) (k : Bool) (w : World) : (Instr.build 39 #[(0, .agg #[a, b]), (1, .agg #[c, d]), (2, .agg #[e, f]), (3, .bool k)]).run Try.prog w = .ok (.agg #[a, b, c, d, e, f, .bool k]) w := by kernel_rfl
theorem build39_1 (k : Bool) (w : World) : (Instr.build 39 #[(3, .bool k)]).run Try.prog w = .ok (.agg #[.int .i64 0, .int .i64 0, .int .i64 0, .int .i64 0, .int .i64 0, .int .i64 0, .bool k]) w := by kernel_rfl
theorem res39 {fn : Func} {p : Tmp} (h : fn.results = #[.cell p 39]) {tmps : Array Value} {w : World} {g : Nat} (hp : tmps.getD p undef = .pointer (some ⟨g, 0, none⟩)) {cs : Array Value} (hg : rowOf w g = some cs) (hs : cs.size = 7) : (results fn tmps).run Try.prog w = .ok (.agg cs) w :=
  results_row h 7 Try.underlying39 rfl info39 hp hg hs
theorem results39_2 {fn : Func} {p q : Tmp} (h : fn.results = #[.cell p 39, .tmp q]) {tmps : Array Value} {w : World} {g : Nat} (hp : tmps.getD p undef = .pointer (some ⟨g, 0, none⟩)) {cs : Array Value} (hg : rowOf w g = some cs) (hs : cs.size = 7) {v : Value} (hq : tmps.getD q undef = v) :
    (results fn tmps).run Try.prog w = .ok (.tuple #[.agg cs, v]) w := by
  obtain ⟨t', hg'⟩ := rowOf_some hg
  have hp' : tmps[p]?.getD undef = .pointer (some ⟨g, 0, none⟩) := by simpa using hp
  have hq' : tmps[q]?.getD undef = v := by simpa using hq
  have hl := run_loadVar_row (P := Try.prog) w g t' 39 cs (0, 0) _ hg' Try.underlying39 rfl (by rw [hs]; exact info39)
  simp [results, h, hp', hq', asAddr, hl]
theorem results39_3 {fn : Func} {p q r : Tmp} (h : fn.results = #[.cell p 39, .tmp q, .tmp r]) {tmps : Array Value} {w : World} {g : Nat} (hp : tmps.getD p undef = .pointer (some ⟨g, 0, none⟩)) {cs : Array Value} (hg : rowOf w g = some cs) (hs : cs.size = 7) {v v' : Value} (hq : tmps.getD q undef = v) (hr : tmps.getD r undef = v') :
    (results fn tmps).run Try.prog w = .ok (.tuple #[.agg cs, v, v']) w := by
  obtain ⟨t', hg'⟩ := rowOf_some hg
  have hp' : tmps[p]?.getD undef = .pointer (some ⟨g, 0, none⟩) := by simpa using hp
  have hq' : tmps[q]?.getD undef = v := by simpa using hq
  have hr' : tmps[r]?.getD undef = v' := by simpa using hr
  have hl := run_loadVar_row (P := Try.prog) w g t' 39 cs (0, 0) _ hg' Try.underlying39 rfl (by rw [hs]; exact info39)
  simp [results, h, hp', hq', hr', asAddr, hl]
end Go.Proofs.Ytafdcbdbllpcnaa
