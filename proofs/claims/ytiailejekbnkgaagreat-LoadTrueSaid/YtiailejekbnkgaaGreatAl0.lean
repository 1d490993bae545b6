/- What is known of calls: how it is shown; the calls. -/
import Derived.Test.YtiailejekbnkgaaGreatJH
import Derived.Test.YtiailejekbnkgaaGreatChecked
set_option linter.unusedVariables false
set_option maxRecDepth 100000
namespace Go.V
open Go.Proofs.Tryz (prog)
def isRef (f : FuncId) : Bool := [31,61,62,80,81,128,129,83,84,132,133,136,175,159,127,89,33,86,104,91,92,138,140,97,34,68].contains f
def dmR (f : FuncId) : Nat := ([((0 : FuncId), 0)].find? (·.1 == f)).elim 0 (·.2)
noncomputable def TP : FuncId → Option IFn := fun f => cFnD prog (isRef f) (dmR f) f
theorem cFn_ref {P : Program} {b : Bool} {dm : Nat} {f : FuncId} {fn : IFn} (h : cFnD P b dm f = some fn) : fn.byref = b ∧ fn.dm = dm := by
  unfold cFnD at h
  split at h
  · cases h
  · split at h
    · cases h
    · split at h
      · cases h
      · split at h
        · cases h; exact ⟨rfl, rfl⟩
        · cases h
theorem TP_ok : TOK prog TP := fun f fn h => by
  obtain ⟨h1, h2⟩ := cFn_ref h
  rw [h1, h2]; exact h
theorem mixed : prog.follows .mixedOrders = true := by kernel_rfl
def okR (t : AV) : Option (AV × Heap) → Bool
  | some (v, _) => eqD 6 v t
  | none => false
theorem known {L : MemT} (hL : MemosOK prog L) {k : Memo} (h : okR k.t (callFn TP 400 L 60 (.pu k.f) k.args noH) = true) : PuOK prog k.f k.args k.t := by
  cases hc : callFn TP 400 L 60 (.pu k.f) k.args noH with
  | none => rw [hc] at h; cases h
  | some p =>
    obtain ⟨v, H⟩ := p
    rw [hc] at h
    have := eqD_eq (show eqD 6 v k.t = true from h)
    subst this
    exact (callFn_ok TP_ok mixed 400 hL 60).pu _ _ _ _ _ hc
def okF (k : MemoF) : Option (AV × Heap) → Bool
  | some (v, H) => eqP v k.v && eqHp H k.H'
  | none => false
theorem knownF {L : MemT} (hL : MemosOK prog L) {k : MemoF} (h : okF k (callFn TP 400 L 60 (.fn k.f) k.args k.H) = true) : FnOK prog k := by
  cases hc : callFn TP 400 L 60 (.fn k.f) k.args k.H with
  | none => rw [hc] at h; cases h
  | some p =>
    obtain ⟨v, H'⟩ := p
    rw [hc] at h
    simp only [okF, Bool.and_eq_true] at h
    have h1 := eqP_eq h.1
    have h2 := eqHp_eq h.2
    subst h1 h2
    exact fun S φ w vargs => (callFn_ok TP_ok mixed 400 hL 60).fn _ _ _ _ _ hc S φ w vargs
theorem mN : MemosOK prog .nil := trivial
theorem mO {k : Memo} {L : MemT} (h : PuOK prog k.f k.args k.t) (hL : MemosOK prog L) : MemosOK prog (.one k L) := ⟨h, hL⟩
theorem mF {k : MemoF} {L : MemT} (h : FnOK prog k) (hL : MemosOK prog L) : MemosOK prog (.oneF k L) := ⟨h, hL⟩
theorem mT {n : Nat} {l r : MemT} (hl : MemosOK prog l) (hr : MemosOK prog r) : MemosOK prog (.node n l r) := ⟨hl, hr⟩
def g0 : AV := .lst 1 [[.int .i64 (0)], [.int .i64 (1)], [.int .i64 (2)], [.int .i64 (3)]]
def g1 : AV := .agg [.lst 1 [[.int .i64 (0)], [.int .i64 (1)], [.int .i64 (2)], [.int .i64 (3)]], .nilS, .nilS, .lst 2 [[.int .i64 (10), .int .i64 (10)], [.int .i64 (20), .int .i64 (20)], [.int .i64 (30), .int .i64 (30)], [.int .i64 (45), .int .i64 (45)]]]
def g2 : AV := .agg [.lst 1 [[.int .i64 (0)], [.int .i64 (3)]], .lst 1 [[.int .i64 (2)]], .nilS, .lst 2 [[.int .i64 (10), .int .i64 (10)], [.int .i64 (20), .int .i64 (20)], [.int .i64 (30), .int .i64 (30)], [.int .i64 (45), .int .i64 (45)]]]
end Go.V
