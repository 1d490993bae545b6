/- What is known of calls: how it is shown; the calls. -/
import Derived.Test.YtimbhebamjnfmaaJH
import Derived.Test.YtimbhebamjnfmaaChecked
set_option linter.unusedVariables false
set_option maxRecDepth 100000
namespace Go.V
open Go.Proofs.Try (prog)
def isRef (f : FuncId) : Bool := [109,122,171,126].contains f
def dmR (f : FuncId) : Nat := ([((0 : FuncId), 0)].find? (·.1 == f)).elim 0 (·.2)
noncomputable def TP : FuncId → Option IFn := fun f => cFnD prog (isRef f) (dmR f) f
theorem cFn_ref {P : Program} {b : Bool} {dm : Nat} {f : FuncId} {fn : IFn} (h : cFnD P b dm f = some fn) : fn.byref = b ∧ fn.dm = dm := by
  unfold cFnD at h
  split at h
  · cases h
  · split at h
    · cases h
    · split at h
      · cases h
      · split at h
        · cases h; exact ⟨rfl, rfl⟩
        · cases h
theorem TP_ok : TOK prog TP := fun f fn h => by
  obtain ⟨h1, h2⟩ := cFn_ref h
  rw [h1, h2]; exact h
theorem mixed : prog.follows .mixedOrders = true := by kernel_rfl
def okR (t : AV) : Option (AV × Heap) → Bool
  | some (v, _) => eqD 6 v t
  | none => false
theorem known {L : MemT} (hL : MemosOK prog L) {k : Memo} (h : okR k.t (callFn TP 400 L 60 (.pu k.f) k.args noH) = true) : PuOK prog k.f k.args k.t := by
  cases hc : callFn TP 400 L 60 (.pu k.f) k.args noH with
  | none => rw [hc] at h; cases h
  | some p =>
    obtain ⟨v, H⟩ := p
    rw [hc] at h
    have := eqD_eq (show eqD 6 v k.t = true from h)
    subst this
    exact (callFn_ok TP_ok mixed 400 hL 60).pu _ _ _ _ _ hc
theorem mN : MemosOK prog .nil := trivial
theorem mO {k : Memo} {L : MemT} (h : PuOK prog k.f k.args k.t) (hL : MemosOK prog L) : MemosOK prog (.one k L) := ⟨h, hL⟩
theorem mT {n : Nat} {l r : MemT} (hl : MemosOK prog l) (hr : MemosOK prog r) : MemosOK prog (.node n l r) := ⟨hl, hr⟩
def g0 : AV := .agg [.lst 3 [[.int .i64 (1), .int .i64 (0), .int .i64 (0)], [.int .i64 (-1), .int .i64 (0), .int .i64 (0)], [.int .i64 (0), .int .i64 (1), .int .i64 (0)], [.int .i64 (0), .int .i64 (-1), .int .i64 (0)]]]
def g1 : AV := .agg [.int .i64 (1), .int .i64 (1), .int .i64 (10), .int .i64 (20), .int .i64 (0), .int .i64 (0)]
def g2 : AV := .agg [.lst 3 [[.int .i64 (1), .int .i64 (0), .int .i64 (20)], [.int .i64 (-1), .int .i64 (0), .int .i64 (-10)], [.int .i64 (0), .int .i64 (1), .int .i64 (0)], [.int .i64 (0), .int .i64 (-1), .int .i64 (0)]]]
def g3 : AV := .lst 3 [[.int .i64 (1), .int .i64 (0), .int .i64 (40)], [.int .i64 (-1), .int .i64 (0), .int .i64 (-20)], [.int .i64 (0), .int .i64 (1), .int .i64 (10)], [.int .i64 (0), .int .i64 (-1), .int .i64 (10)]]
def g4 : AV := .agg [.lst 3 [[.int .i64 (1), .int .i64 (0), .int .i64 (40)], [.int .i64 (-1), .int .i64 (0), .int .i64 (-20)], [.int .i64 (0), .int .i64 (1), .int .i64 (0)], [.int .i64 (0), .int .i64 (-1), .int .i64 (0)]]]
def g5 : AV := .agg [.int .i64 (100), .int .i64 (10), .int .i64 (10), .int .i64 (10), .int .i64 (0), .int .i64 (0), .int .i64 (0), .int .i64 (0), .int .i64 (0), .int .i64 (0), .int .i64 (0), .int .i64 (0), .int .i64 (0), .int .i64 (0), .int .i64 (0), .int .i64 (50), .int .i64 (50)]
def g6 : AV := .agg [.int .i64 (100), .int .i64 (100), .int .i64 (10), .int .i64 (10), .int .i64 (0), .int .i64 (0), .bool false]
def g7 : AV := .agg [.int .i64 (100), .int .i64 (10), .int .i64 (10), .int .i64 (10), .int .i64 (0), .int .i64 (0), .int .i64 (0), .int .i64 (0), .int .i64 (0), .int .i64 (0), .int .i64 (0), .int .i64 (0), .int .i64 (0), .int .i64 (0), .int .i64 (0), .int .i64 (50), .int .i64 (50), .int .i64 (100), .int .i64 (100), .int .i64 (10), .int .i64 (10), .int .i64 (0), .int .i64 (0), .bool false]
def g8 : AV := .agg [.int .i64 (1), .int .i64 (0), .int .i64 (0), .int .i64 (0), .int .i64 (0), .int .i64 (0), .int .i64 (0), .int .i64 (0)]
def g9 : AV := .agg [.int .i64 (10), .int .i64 (10), .int .i64 (0), .int .i64 (0), .int .i64 (0), .int .i64 (0)]
def g10 : AV := .agg [.int .i64 (100), .int .i64 (10), .int .i64 (10), .int .i64 (10), .int .i64 (0), .int .i64 (0), .int .i64 (0), .int .i64 (0), .int .i64 (0), .int .i64 (0), .int .i64 (0), .int .i64 (0), .int .i64 (0), .int .i64 (0), .int .i64 (0), .int .i64 (50), .int .i64 (50), .int .i64 (90), .int .i64 (90), .int .i64 (10), .int .i64 (10), .int .i64 (0), .int .i64 (0), .bool false]
def g11 : AV := .agg [.int .i64 (100), .int .i64 (10), .int .i64 (10), .int .i64 (10), .int .i64 (0), .int .i64 (0), .int .i64 (0), .int .i64 (0), .int .i64 (0), .int .i64 (0), .int .i64 (0), .int .i64 (0), .int .i64 (0), .int .i64 (0), .int .i64 (0), .int .i64 (50), .int .i64 (50), .int .i64 (80), .int .i64 (80), .int .i64 (10), .int .i64 (10), .int .i64 (0), .int .i64 (0), .bool false]
def g12 : AV := .agg [.int .i64 (0), .int .i64 (0), .int .i64 (0), .int .i64 (0), .int .i64 (0), .int .i64 (0), .int .i64 (0), .int .i64 (0)]
end Go.V
