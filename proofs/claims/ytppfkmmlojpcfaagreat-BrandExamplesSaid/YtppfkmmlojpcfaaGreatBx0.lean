/- What is known of calls: how it is shown; the calls. -/
import Derived.Test.YtppfkmmlojpcfaaGreatJG
import Derived.Test.YtppfkmmlojpcfaaGreatChecked
set_option linter.unusedVariables false
set_option maxRecDepth 100000
namespace Go.V
open Go.Proofs.Tryz (prog)
def isRef (f : FuncId) : Bool := [8,61,148,225,286,149,154,57,220,274,141,52,7,157,161,63,15,73,72,74,76,163,60].contains f
noncomputable def TP : FuncId → Option IFn := fun f => cFn prog (isRef f) f
theorem cFn_ref {P : Program} {b : Bool} {f : FuncId} {fn : IFn} (h : cFn P b f = some fn) : fn.byref = b := by
  unfold cFn at h
  split at h
  · cases h
  · split at h
    · cases h
    · split at h
      · cases h
      · split at h
        · cases h; rfl
        · cases h
theorem TP_ok : TOK prog TP := fun f fn h => by
  have h1 := cFn_ref h
  rw [h1]; exact h
theorem mixed : prog.follows .mixedOrders = true := by kernel_rfl
def okR (t : AV) : Option (AV × Heap) → Bool
  | some (v, _) => eqD 6 v t
  | none => false
theorem known {L : MemT} (hL : MemosOK prog L) {k : Memo} (h : okR k.t (callFn TP 400 L 60 (.pu k.f) k.args noH) = true) : PuOK prog k.f k.args k.t := by
  cases hc : callFn TP 400 L 60 (.pu k.f) k.args noH with
  | none => rw [hc] at h; cases h
  | some p =>
    obtain ⟨v, H⟩ := p
    rw [hc] at h
    have := eqD_eq (show eqD 6 v k.t = true from h)
    subst this
    exact (callFn_ok TP_ok mixed 400 hL 60).pu _ _ _ _ _ hc
def okF (k : MemoF) : Option (AV × Heap) → Bool
  | some (v, H) => eqP v k.v && eqHp H k.H'
  | none => false
theorem knownF {L : MemT} (hL : MemosOK prog L) {k : MemoF} (h : okF k (callFn TP 400 L 60 (.fn k.f) k.args k.H) = true) : FnOK prog k := by
  cases hc : callFn TP 400 L 60 (.fn k.f) k.args k.H with
  | none => rw [hc] at h; cases h
  | some p =>
    obtain ⟨v, H'⟩ := p
    rw [hc] at h
    simp only [okF, Bool.and_eq_true] at h
    have h1 := eqP_eq h.1
    have h2 := eqHp_eq h.2
    subst h1 h2
    exact fun S φ w vargs => (callFn_ok TP_ok mixed 400 hL 60).fn _ _ _ _ _ hc S φ w vargs
theorem mN : MemosOK prog .nil := trivial
theorem mO {k : Memo} {L : MemT} (h : PuOK prog k.f k.args k.t) (hL : MemosOK prog L) : MemosOK prog (.one k L) := ⟨h, hL⟩
theorem mF {k : MemoF} {L : MemT} (h : FnOK prog k) (hL : MemosOK prog L) : MemosOK prog (.oneF k L) := ⟨h, hL⟩
theorem mT {n : Nat} {l r : MemT} (hl : MemosOK prog l) (hr : MemosOK prog r) : MemosOK prog (.node n l r) := ⟨hl, hr⟩
def g0 : AV := .agg [.lst 5 [[.int .i64 (1), .int .i64 (-1), .int .i64 (0), .int .i64 (100), .lst 2 [[.int .i64 (0), .int .i64 (3)]]], [.int .i64 (2), .int .i64 (1), .int .i64 (1300), .int .i64 (1600), .lst 2 [[.int .i64 (0), .int .i64 (3)], [.int .i64 (1), .int .i64 (5)]]], [.int .i64 (3), .int .i64 (1), .int .i64 (5000), .int .i64 (20000), .lst 2 [[.int .i64 (0), .int .i64 (3)]]], [.int .i64 (4), .int .i64 (2), .int .i64 (2900), .int .i64 (3100), .lst 2 [[.int .i64 (1), .int .i64 (5)]]]], .mapL [.int .i64 (1), .int .i64 (2), .int .i64 (3), .int .i64 (4)] [.int .i64 (0), .int .i64 (1), .int .i64 (2), .int .i64 (3)], .nilS]
def g1 : AV := .agg [.int .i64 (1), .int .i64 (-1), .int .i64 (0), .int .i64 (100), .lst 2 [[.int .i64 (0), .int .i64 (3)]]]
def g2 : AV := .agg [.int .i64 (2), .int .i64 (1), .int .i64 (1300), .int .i64 (1600), .lst 2 [[.int .i64 (0), .int .i64 (3)], [.int .i64 (1), .int .i64 (5)]]]
def g3 : AV := .agg [.int .i64 (3), .int .i64 (1), .int .i64 (5000), .int .i64 (20000), .lst 2 [[.int .i64 (0), .int .i64 (3)]]]
def g4 : AV := .agg [.int .i64 (4), .int .i64 (2), .int .i64 (2900), .int .i64 (3100), .lst 2 [[.int .i64 (1), .int .i64 (5)]]]
def g5 : AV := .agg [.lst 5 [[.int .i64 (1), .int .i64 (-1), .int .i64 (0), .int .i64 (100), .lst 2 [[.int .i64 (0), .int .i64 (3)]]], [.int .i64 (2), .int .i64 (1), .int .i64 (1300), .int .i64 (1600), .lst 2 [[.int .i64 (0), .int .i64 (3)], [.int .i64 (1), .int .i64 (5)]]], [.int .i64 (3), .int .i64 (1), .int .i64 (5000), .int .i64 (20000), .lst 2 [[.int .i64 (0), .int .i64 (3)]]], [.int .i64 (4), .int .i64 (2), .int .i64 (2900), .int .i64 (3100), .lst 2 [[.int .i64 (1), .int .i64 (5)]]]], .mapL [.int .i64 (1), .int .i64 (2), .int .i64 (3), .int .i64 (4)] [.int .i64 (0), .int .i64 (1), .int .i64 (2), .int .i64 (3)], .lst 1 [[.int .i64 (0)], [.int .i64 (1)], [.int .i64 (2)], [.int .i64 (3)]]]
def g6 : AV := .lst 2 [[.int .i64 (0), .int .i64 (100)], [.int .i64 (1400), .int .i64 (1600)], [.int .i64 (5000), .int .i64 (10100)], [.int .i64 (2900), .int .i64 (3100)]]
def g7 : AV := .lst 5 [[.int .i64 (1), .int .i64 (-1), .int .i64 (0), .int .i64 (100), .lst 2 [[.int .i64 (0), .int .i64 (3)]]], [.int .i64 (2), .int .i64 (1), .int .i64 (1300), .int .i64 (1600), .lst 2 [[.int .i64 (0), .int .i64 (3)], [.int .i64 (1), .int .i64 (5)]]], [.int .i64 (3), .int .i64 (1), .int .i64 (5000), .int .i64 (20000), .lst 2 [[.int .i64 (0), .int .i64 (3)]]], [.int .i64 (4), .int .i64 (2), .int .i64 (2900), .int .i64 (3100), .lst 2 [[.int .i64 (1), .int .i64 (5)]]]]
def g8 : AV := .agg [.lst 1 [[.int .u32 (8)], [.int .u32 (2097151)], [.int .u32 (2097151)], [.int .u32 (2097151)], [.int .u32 (2097151)], [.int .u32 (2097151)], [.int .u32 (2097151)], [.int .u32 (2097151)]], .int .i64 (6000), .int .i64 (0), .int .i64 (4650)]
def g9 : AV := .agg [.lst 1 [[.int .u32 (2097151)], [.int .u32 (33)], [.int .u32 (2097151)], [.int .u32 (2097151)], [.int .u32 (2097151)], [.int .u32 (2097151)], [.int .u32 (2097151)], [.int .u32 (2097151)]], .int .i64 (6000), .int .i64 (0), .int .i64 (200000)]
def g10 : AV := .agg [.int .i64 (0), .int .i64 (0), .int .i64 (0), .int .i64 (0), .int .i64 (0), .int .i64 (0), .int .i64 (0), .int .i64 (0)]
def g11 : AV := .agg [.int .i64 (3), .int .i64 (0), .int .i64 (0), .int .i64 (0), .int .i64 (0), .int .i64 (0), .int .i64 (0), .int .i64 (0)]
def g12 : AV := .agg [.int .i64 (0), .int .i64 (5), .int .i64 (0), .int .i64 (0), .int .i64 (0), .int .i64 (0), .int .i64 (0), .int .i64 (0)]
def g13 : AV := .agg [.int .i64 (3), .int .i64 (5), .int .i64 (0), .int .i64 (0), .int .i64 (0), .int .i64 (0), .int .i64 (0), .int .i64 (0)]
def g14 : AV := .lst 1 [[.int .i64 (0)], [.int .i64 (1)], [.int .i64 (2)], [.int .i64 (3)]]
def g15 : AV := .lst 1 [[.int .i64 (0)], [.int .i64 (1)], [.int .i64 (2)], [.int .i64 (4)]]
def g16 : AV := .lst 1 [[.int .i64 (0)], [.int .i64 (1)], [.int .i64 (3)], [.int .i64 (4)]]
def g17 : AV := .lst 1 [[.int .i64 (0)], [.int .i64 (2)], [.int .i64 (3)], [.int .i64 (4)]]
def g18 : AV := .lst 1 [[.int .i64 (1)], [.int .i64 (2)], [.int .i64 (3)], [.int .i64 (4)]]
def g19 : AV := .lst 1 [[.int .i64 (0)], [.int .i64 (1)], [.int .i64 (2)], [.int .i64 (3)], [.int .i64 (4)]]
def g20 : AV := .lst 1 [[.int .i64 (0)], [.int .i64 (1)], [.int .i64 (2)], [.int .i64 (5)]]
def g21 : AV := .lst 1 [[.int .i64 (0)], [.int .i64 (1)], [.int .i64 (3)], [.int .i64 (5)]]
def g22 : AV := .lst 1 [[.int .i64 (0)], [.int .i64 (2)], [.int .i64 (3)], [.int .i64 (5)]]
def g23 : AV := .lst 1 [[.int .i64 (1)], [.int .i64 (2)], [.int .i64 (3)], [.int .i64 (5)]]
def g24 : AV := .lst 1 [[.int .i64 (0)], [.int .i64 (1)], [.int .i64 (2)], [.int .i64 (3)], [.int .i64 (5)]]
def g25 : AV := .lst 1 [[.int .i64 (0)], [.int .i64 (1)], [.int .i64 (4)], [.int .i64 (5)]]
def g26 : AV := .lst 1 [[.int .i64 (0)], [.int .i64 (2)], [.int .i64 (4)], [.int .i64 (5)]]
def g27 : AV := .lst 1 [[.int .i64 (1)], [.int .i64 (2)], [.int .i64 (4)], [.int .i64 (5)]]
def g28 : AV := .lst 1 [[.int .i64 (0)], [.int .i64 (1)], [.int .i64 (2)], [.int .i64 (4)], [.int .i64 (5)]]
def g29 : AV := .lst 1 [[.int .i64 (0)], [.int .i64 (3)], [.int .i64 (4)], [.int .i64 (5)]]
def g30 : AV := .lst 1 [[.int .i64 (1)], [.int .i64 (3)], [.int .i64 (4)], [.int .i64 (5)]]
def g31 : AV := .lst 1 [[.int .i64 (0)], [.int .i64 (1)], [.int .i64 (3)], [.int .i64 (4)], [.int .i64 (5)]]
def g32 : AV := .lst 1 [[.int .i64 (2)], [.int .i64 (3)], [.int .i64 (4)], [.int .i64 (5)]]
def g33 : AV := .lst 1 [[.int .i64 (0)], [.int .i64 (2)], [.int .i64 (3)], [.int .i64 (4)], [.int .i64 (5)]]
def g34 : AV := .lst 1 [[.int .i64 (1)], [.int .i64 (2)], [.int .i64 (3)], [.int .i64 (4)], [.int .i64 (5)]]
def g35 : AV := .lst 1 [[.int .i64 (0)], [.int .i64 (1)], [.int .i64 (2)], [.int .i64 (3)], [.int .i64 (4)], [.int .i64 (5)]]
def g36 : AV := .lst 1 [[.int .i64 (0)], [.int .i64 (1)], [.int .i64 (2)], [.int .i64 (6)]]
def g37 : AV := .lst 1 [[.int .i64 (0)], [.int .i64 (1)], [.int .i64 (3)], [.int .i64 (6)]]
def g38 : AV := .lst 1 [[.int .i64 (0)], [.int .i64 (2)], [.int .i64 (3)], [.int .i64 (6)]]
def g39 : AV := .lst 1 [[.int .i64 (1)], [.int .i64 (2)], [.int .i64 (3)], [.int .i64 (6)]]
def g40 : AV := .lst 1 [[.int .i64 (0)], [.int .i64 (1)], [.int .i64 (2)], [.int .i64 (3)], [.int .i64 (6)]]
def g41 : AV := .lst 1 [[.int .i64 (0)], [.int .i64 (1)], [.int .i64 (4)], [.int .i64 (6)]]
def g42 : AV := .lst 1 [[.int .i64 (0)], [.int .i64 (2)], [.int .i64 (4)], [.int .i64 (6)]]
def g43 : AV := .lst 1 [[.int .i64 (1)], [.int .i64 (2)], [.int .i64 (4)], [.int .i64 (6)]]
def g44 : AV := .lst 1 [[.int .i64 (0)], [.int .i64 (1)], [.int .i64 (2)], [.int .i64 (4)], [.int .i64 (6)]]
def g45 : AV := .lst 1 [[.int .i64 (0)], [.int .i64 (3)], [.int .i64 (4)], [.int .i64 (6)]]
def g46 : AV := .lst 1 [[.int .i64 (1)], [.int .i64 (3)], [.int .i64 (4)], [.int .i64 (6)]]
def g47 : AV := .lst 1 [[.int .i64 (0)], [.int .i64 (1)], [.int .i64 (3)], [.int .i64 (4)], [.int .i64 (6)]]
def g48 : AV := .lst 1 [[.int .i64 (2)], [.int .i64 (3)], [.int .i64 (4)], [.int .i64 (6)]]
def g49 : AV := .lst 1 [[.int .i64 (0)], [.int .i64 (2)], [.int .i64 (3)], [.int .i64 (4)], [.int .i64 (6)]]
def g50 : AV := .lst 1 [[.int .i64 (1)], [.int .i64 (2)], [.int .i64 (3)], [.int .i64 (4)], [.int .i64 (6)]]
def g51 : AV := .lst 1 [[.int .i64 (0)], [.int .i64 (1)], [.int .i64 (2)], [.int .i64 (3)], [.int .i64 (4)], [.int .i64 (6)]]
def g52 : AV := .lst 1 [[.int .i64 (0)], [.int .i64 (1)], [.int .i64 (5)], [.int .i64 (6)]]
def g53 : AV := .lst 1 [[.int .i64 (0)], [.int .i64 (2)], [.int .i64 (5)], [.int .i64 (6)]]
def g54 : AV := .lst 1 [[.int .i64 (1)], [.int .i64 (2)], [.int .i64 (5)], [.int .i64 (6)]]
def g55 : AV := .lst 1 [[.int .i64 (0)], [.int .i64 (1)], [.int .i64 (2)], [.int .i64 (5)], [.int .i64 (6)]]
def g56 : AV := .lst 1 [[.int .i64 (0)], [.int .i64 (3)], [.int .i64 (5)], [.int .i64 (6)]]
def g57 : AV := .lst 1 [[.int .i64 (1)], [.int .i64 (3)], [.int .i64 (5)], [.int .i64 (6)]]
def g58 : AV := .lst 1 [[.int .i64 (0)], [.int .i64 (1)], [.int .i64 (3)], [.int .i64 (5)], [.int .i64 (6)]]
def g59 : AV := .lst 1 [[.int .i64 (2)], [.int .i64 (3)], [.int .i64 (5)], [.int .i64 (6)]]
def g60 : AV := .lst 1 [[.int .i64 (0)], [.int .i64 (2)], [.int .i64 (3)], [.int .i64 (5)], [.int .i64 (6)]]
def g61 : AV := .lst 1 [[.int .i64 (1)], [.int .i64 (2)], [.int .i64 (3)], [.int .i64 (5)], [.int .i64 (6)]]
def g62 : AV := .lst 1 [[.int .i64 (0)], [.int .i64 (1)], [.int .i64 (2)], [.int .i64 (3)], [.int .i64 (5)], [.int .i64 (6)]]
def g63 : AV := .lst 1 [[.int .i64 (0)], [.int .i64 (4)], [.int .i64 (5)], [.int .i64 (6)]]
def g64 : AV := .lst 1 [[.int .i64 (1)], [.int .i64 (4)], [.int .i64 (5)], [.int .i64 (6)]]
def g65 : AV := .lst 1 [[.int .i64 (0)], [.int .i64 (1)], [.int .i64 (4)], [.int .i64 (5)], [.int .i64 (6)]]
def g66 : AV := .lst 1 [[.int .i64 (2)], [.int .i64 (4)], [.int .i64 (5)], [.int .i64 (6)]]
def g67 : AV := .lst 1 [[.int .i64 (0)], [.int .i64 (2)], [.int .i64 (4)], [.int .i64 (5)], [.int .i64 (6)]]
def g68 : AV := .lst 1 [[.int .i64 (1)], [.int .i64 (2)], [.int .i64 (4)], [.int .i64 (5)], [.int .i64 (6)]]
def g69 : AV := .lst 1 [[.int .i64 (0)], [.int .i64 (1)], [.int .i64 (2)], [.int .i64 (4)], [.int .i64 (5)], [.int .i64 (6)]]
def g70 : AV := .lst 1 [[.int .i64 (3)], [.int .i64 (4)], [.int .i64 (5)], [.int .i64 (6)]]
def g71 : AV := .lst 1 [[.int .i64 (0)], [.int .i64 (3)], [.int .i64 (4)], [.int .i64 (5)], [.int .i64 (6)]]
def g72 : AV := .lst 1 [[.int .i64 (1)], [.int .i64 (3)], [.int .i64 (4)], [.int .i64 (5)], [.int .i64 (6)]]
def g73 : AV := .lst 1 [[.int .i64 (0)], [.int .i64 (1)], [.int .i64 (3)], [.int .i64 (4)], [.int .i64 (5)], [.int .i64 (6)]]
def g74 : AV := .lst 1 [[.int .i64 (2)], [.int .i64 (3)], [.int .i64 (4)], [.int .i64 (5)], [.int .i64 (6)]]
def g75 : AV := .lst 1 [[.int .i64 (0)], [.int .i64 (2)], [.int .i64 (3)], [.int .i64 (4)], [.int .i64 (5)], [.int .i64 (6)]]
def g76 : AV := .lst 1 [[.int .i64 (1)], [.int .i64 (2)], [.int .i64 (3)], [.int .i64 (4)], [.int .i64 (5)], [.int .i64 (6)]]
def g77 : AV := .lst 1 [[.int .i64 (0)], [.int .i64 (1)], [.int .i64 (2)], [.int .i64 (3)], [.int .i64 (4)], [.int .i64 (5)], [.int .i64 (6)]]
def g78 : AV := .lst 1 [[.int .i64 (0)], [.int .i64 (1)], [.int .i64 (2)], [.int .i64 (7)]]
def g79 : AV := .lst 1 [[.int .i64 (0)], [.int .i64 (1)], [.int .i64 (3)], [.int .i64 (7)]]
def g80 : AV := .lst 1 [[.int .i64 (0)], [.int .i64 (2)], [.int .i64 (3)], [.int .i64 (7)]]
def g81 : AV := .lst 1 [[.int .i64 (1)], [.int .i64 (2)], [.int .i64 (3)], [.int .i64 (7)]]
def g82 : AV := .lst 1 [[.int .i64 (0)], [.int .i64 (1)], [.int .i64 (2)], [.int .i64 (3)], [.int .i64 (7)]]
def g83 : AV := .lst 1 [[.int .i64 (0)], [.int .i64 (1)], [.int .i64 (4)], [.int .i64 (7)]]
def g84 : AV := .lst 1 [[.int .i64 (0)], [.int .i64 (2)], [.int .i64 (4)], [.int .i64 (7)]]
def g85 : AV := .lst 1 [[.int .i64 (1)], [.int .i64 (2)], [.int .i64 (4)], [.int .i64 (7)]]
def g86 : AV := .lst 1 [[.int .i64 (0)], [.int .i64 (1)], [.int .i64 (2)], [.int .i64 (4)], [.int .i64 (7)]]
def g87 : AV := .lst 1 [[.int .i64 (0)], [.int .i64 (3)], [.int .i64 (4)], [.int .i64 (7)]]
def g88 : AV := .lst 1 [[.int .i64 (1)], [.int .i64 (3)], [.int .i64 (4)], [.int .i64 (7)]]
def g89 : AV := .lst 1 [[.int .i64 (0)], [.int .i64 (1)], [.int .i64 (3)], [.int .i64 (4)], [.int .i64 (7)]]
def g90 : AV := .lst 1 [[.int .i64 (2)], [.int .i64 (3)], [.int .i64 (4)], [.int .i64 (7)]]
def g91 : AV := .lst 1 [[.int .i64 (0)], [.int .i64 (2)], [.int .i64 (3)], [.int .i64 (4)], [.int .i64 (7)]]
def g92 : AV := .lst 1 [[.int .i64 (1)], [.int .i64 (2)], [.int .i64 (3)], [.int .i64 (4)], [.int .i64 (7)]]
def g93 : AV := .lst 1 [[.int .i64 (0)], [.int .i64 (1)], [.int .i64 (2)], [.int .i64 (3)], [.int .i64 (4)], [.int .i64 (7)]]
def g94 : AV := .lst 1 [[.int .i64 (0)], [.int .i64 (1)], [.int .i64 (5)], [.int .i64 (7)]]
def g95 : AV := .lst 1 [[.int .i64 (0)], [.int .i64 (2)], [.int .i64 (5)], [.int .i64 (7)]]
def g96 : AV := .lst 1 [[.int .i64 (1)], [.int .i64 (2)], [.int .i64 (5)], [.int .i64 (7)]]
def g97 : AV := .lst 1 [[.int .i64 (0)], [.int .i64 (1)], [.int .i64 (2)], [.int .i64 (5)], [.int .i64 (7)]]
def g98 : AV := .lst 1 [[.int .i64 (0)], [.int .i64 (3)], [.int .i64 (5)], [.int .i64 (7)]]
def g99 : AV := .lst 1 [[.int .i64 (1)], [.int .i64 (3)], [.int .i64 (5)], [.int .i64 (7)]]
def g100 : AV := .lst 1 [[.int .i64 (0)], [.int .i64 (1)], [.int .i64 (3)], [.int .i64 (5)], [.int .i64 (7)]]
def g101 : AV := .lst 1 [[.int .i64 (2)], [.int .i64 (3)], [.int .i64 (5)], [.int .i64 (7)]]
def g102 : AV := .lst 1 [[.int .i64 (0)], [.int .i64 (2)], [.int .i64 (3)], [.int .i64 (5)], [.int .i64 (7)]]
def g103 : AV := .lst 1 [[.int .i64 (1)], [.int .i64 (2)], [.int .i64 (3)], [.int .i64 (5)], [.int .i64 (7)]]
def g104 : AV := .lst 1 [[.int .i64 (0)], [.int .i64 (1)], [.int .i64 (2)], [.int .i64 (3)], [.int .i64 (5)], [.int .i64 (7)]]
def g105 : AV := .lst 1 [[.int .i64 (0)], [.int .i64 (4)], [.int .i64 (5)], [.int .i64 (7)]]
def g106 : AV := .lst 1 [[.int .i64 (1)], [.int .i64 (4)], [.int .i64 (5)], [.int .i64 (7)]]
def g107 : AV := .lst 1 [[.int .i64 (0)], [.int .i64 (1)], [.int .i64 (4)], [.int .i64 (5)], [.int .i64 (7)]]
def g108 : AV := .lst 1 [[.int .i64 (2)], [.int .i64 (4)], [.int .i64 (5)], [.int .i64 (7)]]
def g109 : AV := .lst 1 [[.int .i64 (0)], [.int .i64 (2)], [.int .i64 (4)], [.int .i64 (5)], [.int .i64 (7)]]
def g110 : AV := .lst 1 [[.int .i64 (1)], [.int .i64 (2)], [.int .i64 (4)], [.int .i64 (5)], [.int .i64 (7)]]
def g111 : AV := .lst 1 [[.int .i64 (0)], [.int .i64 (1)], [.int .i64 (2)], [.int .i64 (4)], [.int .i64 (5)], [.int .i64 (7)]]
def g112 : AV := .lst 1 [[.int .i64 (3)], [.int .i64 (4)], [.int .i64 (5)], [.int .i64 (7)]]
def g113 : AV := .lst 1 [[.int .i64 (0)], [.int .i64 (3)], [.int .i64 (4)], [.int .i64 (5)], [.int .i64 (7)]]
def g114 : AV := .lst 1 [[.int .i64 (1)], [.int .i64 (3)], [.int .i64 (4)], [.int .i64 (5)], [.int .i64 (7)]]
def g115 : AV := .lst 1 [[.int .i64 (0)], [.int .i64 (1)], [.int .i64 (3)], [.int .i64 (4)], [.int .i64 (5)], [.int .i64 (7)]]
def g116 : AV := .lst 1 [[.int .i64 (2)], [.int .i64 (3)], [.int .i64 (4)], [.int .i64 (5)], [.int .i64 (7)]]
def g117 : AV := .lst 1 [[.int .i64 (0)], [.int .i64 (2)], [.int .i64 (3)], [.int .i64 (4)], [.int .i64 (5)], [.int .i64 (7)]]
def g118 : AV := .lst 1 [[.int .i64 (1)], [.int .i64 (2)], [.int .i64 (3)], [.int .i64 (4)], [.int .i64 (5)], [.int .i64 (7)]]
def g119 : AV := .lst 1 [[.int .i64 (0)], [.int .i64 (1)], [.int .i64 (2)], [.int .i64 (3)], [.int .i64 (4)], [.int .i64 (5)], [.int .i64 (7)]]
def g120 : AV := .lst 1 [[.int .i64 (0)], [.int .i64 (1)], [.int .i64 (6)], [.int .i64 (7)]]
def g121 : AV := .lst 1 [[.int .i64 (0)], [.int .i64 (2)], [.int .i64 (6)], [.int .i64 (7)]]
def g122 : AV := .lst 1 [[.int .i64 (1)], [.int .i64 (2)], [.int .i64 (6)], [.int .i64 (7)]]
def g123 : AV := .lst 1 [[.int .i64 (0)], [.int .i64 (1)], [.int .i64 (2)], [.int .i64 (6)], [.int .i64 (7)]]
def g124 : AV := .lst 1 [[.int .i64 (0)], [.int .i64 (3)], [.int .i64 (6)], [.int .i64 (7)]]
def g125 : AV := .lst 1 [[.int .i64 (1)], [.int .i64 (3)], [.int .i64 (6)], [.int .i64 (7)]]
def g126 : AV := .lst 1 [[.int .i64 (0)], [.int .i64 (1)], [.int .i64 (3)], [.int .i64 (6)], [.int .i64 (7)]]
def g127 : AV := .lst 1 [[.int .i64 (2)], [.int .i64 (3)], [.int .i64 (6)], [.int .i64 (7)]]
def g128 : AV := .lst 1 [[.int .i64 (0)], [.int .i64 (2)], [.int .i64 (3)], [.int .i64 (6)], [.int .i64 (7)]]
def g129 : AV := .lst 1 [[.int .i64 (1)], [.int .i64 (2)], [.int .i64 (3)], [.int .i64 (6)], [.int .i64 (7)]]
def g130 : AV := .lst 1 [[.int .i64 (0)], [.int .i64 (1)], [.int .i64 (2)], [.int .i64 (3)], [.int .i64 (6)], [.int .i64 (7)]]
def g131 : AV := .lst 1 [[.int .i64 (0)], [.int .i64 (4)], [.int .i64 (6)], [.int .i64 (7)]]
def g132 : AV := .lst 1 [[.int .i64 (1)], [.int .i64 (4)], [.int .i64 (6)], [.int .i64 (7)]]
def g133 : AV := .lst 1 [[.int .i64 (0)], [.int .i64 (1)], [.int .i64 (4)], [.int .i64 (6)], [.int .i64 (7)]]
def g134 : AV := .lst 1 [[.int .i64 (2)], [.int .i64 (4)], [.int .i64 (6)], [.int .i64 (7)]]
def g135 : AV := .lst 1 [[.int .i64 (0)], [.int .i64 (2)], [.int .i64 (4)], [.int .i64 (6)], [.int .i64 (7)]]
def g136 : AV := .lst 1 [[.int .i64 (1)], [.int .i64 (2)], [.int .i64 (4)], [.int .i64 (6)], [.int .i64 (7)]]
def g137 : AV := .lst 1 [[.int .i64 (0)], [.int .i64 (1)], [.int .i64 (2)], [.int .i64 (4)], [.int .i64 (6)], [.int .i64 (7)]]
def g138 : AV := .lst 1 [[.int .i64 (3)], [.int .i64 (4)], [.int .i64 (6)], [.int .i64 (7)]]
def g139 : AV := .lst 1 [[.int .i64 (0)], [.int .i64 (3)], [.int .i64 (4)], [.int .i64 (6)], [.int .i64 (7)]]
def g140 : AV := .lst 1 [[.int .i64 (1)], [.int .i64 (3)], [.int .i64 (4)], [.int .i64 (6)], [.int .i64 (7)]]
def g141 : AV := .lst 1 [[.int .i64 (0)], [.int .i64 (1)], [.int .i64 (3)], [.int .i64 (4)], [.int .i64 (6)], [.int .i64 (7)]]
def g142 : AV := .lst 1 [[.int .i64 (2)], [.int .i64 (3)], [.int .i64 (4)], [.int .i64 (6)], [.int .i64 (7)]]
def g143 : AV := .lst 1 [[.int .i64 (0)], [.int .i64 (2)], [.int .i64 (3)], [.int .i64 (4)], [.int .i64 (6)], [.int .i64 (7)]]
def g144 : AV := .lst 1 [[.int .i64 (1)], [.int .i64 (2)], [.int .i64 (3)], [.int .i64 (4)], [.int .i64 (6)], [.int .i64 (7)]]
def g145 : AV := .lst 1 [[.int .i64 (0)], [.int .i64 (1)], [.int .i64 (2)], [.int .i64 (3)], [.int .i64 (4)], [.int .i64 (6)], [.int .i64 (7)]]
def g146 : AV := .lst 1 [[.int .i64 (0)], [.int .i64 (5)], [.int .i64 (6)], [.int .i64 (7)]]
def g147 : AV := .lst 1 [[.int .i64 (1)], [.int .i64 (5)], [.int .i64 (6)], [.int .i64 (7)]]
def g148 : AV := .lst 1 [[.int .i64 (0)], [.int .i64 (1)], [.int .i64 (5)], [.int .i64 (6)], [.int .i64 (7)]]
def g149 : AV := .lst 1 [[.int .i64 (2)], [.int .i64 (5)], [.int .i64 (6)], [.int .i64 (7)]]
def g150 : AV := .lst 1 [[.int .i64 (0)], [.int .i64 (2)], [.int .i64 (5)], [.int .i64 (6)], [.int .i64 (7)]]
def g151 : AV := .lst 1 [[.int .i64 (1)], [.int .i64 (2)], [.int .i64 (5)], [.int .i64 (6)], [.int .i64 (7)]]
def g152 : AV := .lst 1 [[.int .i64 (0)], [.int .i64 (1)], [.int .i64 (2)], [.int .i64 (5)], [.int .i64 (6)], [.int .i64 (7)]]
def g153 : AV := .lst 1 [[.int .i64 (3)], [.int .i64 (5)], [.int .i64 (6)], [.int .i64 (7)]]
def g154 : AV := .lst 1 [[.int .i64 (0)], [.int .i64 (3)], [.int .i64 (5)], [.int .i64 (6)], [.int .i64 (7)]]
def g155 : AV := .lst 1 [[.int .i64 (1)], [.int .i64 (3)], [.int .i64 (5)], [.int .i64 (6)], [.int .i64 (7)]]
def g156 : AV := .lst 1 [[.int .i64 (0)], [.int .i64 (1)], [.int .i64 (3)], [.int .i64 (5)], [.int .i64 (6)], [.int .i64 (7)]]
def g157 : AV := .lst 1 [[.int .i64 (2)], [.int .i64 (3)], [.int .i64 (5)], [.int .i64 (6)], [.int .i64 (7)]]
def g158 : AV := .lst 1 [[.int .i64 (0)], [.int .i64 (2)], [.int .i64 (3)], [.int .i64 (5)], [.int .i64 (6)], [.int .i64 (7)]]
def g159 : AV := .lst 1 [[.int .i64 (1)], [.int .i64 (2)], [.int .i64 (3)], [.int .i64 (5)], [.int .i64 (6)], [.int .i64 (7)]]
def g160 : AV := .lst 1 [[.int .i64 (0)], [.int .i64 (1)], [.int .i64 (2)], [.int .i64 (3)], [.int .i64 (5)], [.int .i64 (6)], [.int .i64 (7)]]
def g161 : AV := .lst 1 [[.int .i64 (4)], [.int .i64 (5)], [.int .i64 (6)], [.int .i64 (7)]]
def g162 : AV := .lst 1 [[.int .i64 (0)], [.int .i64 (4)], [.int .i64 (5)], [.int .i64 (6)], [.int .i64 (7)]]
def g163 : AV := .lst 1 [[.int .i64 (1)], [.int .i64 (4)], [.int .i64 (5)], [.int .i64 (6)], [.int .i64 (7)]]
def g164 : AV := .lst 1 [[.int .i64 (0)], [.int .i64 (1)], [.int .i64 (4)], [.int .i64 (5)], [.int .i64 (6)], [.int .i64 (7)]]
def g165 : AV := .lst 1 [[.int .i64 (2)], [.int .i64 (4)], [.int .i64 (5)], [.int .i64 (6)], [.int .i64 (7)]]
def g166 : AV := .lst 1 [[.int .i64 (0)], [.int .i64 (2)], [.int .i64 (4)], [.int .i64 (5)], [.int .i64 (6)], [.int .i64 (7)]]
def g167 : AV := .lst 1 [[.int .i64 (1)], [.int .i64 (2)], [.int .i64 (4)], [.int .i64 (5)], [.int .i64 (6)], [.int .i64 (7)]]
def g168 : AV := .lst 1 [[.int .i64 (0)], [.int .i64 (1)], [.int .i64 (2)], [.int .i64 (4)], [.int .i64 (5)], [.int .i64 (6)], [.int .i64 (7)]]
def g169 : AV := .lst 1 [[.int .i64 (3)], [.int .i64 (4)], [.int .i64 (5)], [.int .i64 (6)], [.int .i64 (7)]]
def g170 : AV := .lst 1 [[.int .i64 (0)], [.int .i64 (3)], [.int .i64 (4)], [.int .i64 (5)], [.int .i64 (6)], [.int .i64 (7)]]
def g171 : AV := .lst 1 [[.int .i64 (1)], [.int .i64 (3)], [.int .i64 (4)], [.int .i64 (5)], [.int .i64 (6)], [.int .i64 (7)]]
def g172 : AV := .lst 1 [[.int .i64 (0)], [.int .i64 (1)], [.int .i64 (3)], [.int .i64 (4)], [.int .i64 (5)], [.int .i64 (6)], [.int .i64 (7)]]
def g173 : AV := .lst 1 [[.int .i64 (2)], [.int .i64 (3)], [.int .i64 (4)], [.int .i64 (5)], [.int .i64 (6)], [.int .i64 (7)]]
def g174 : AV := .lst 1 [[.int .i64 (0)], [.int .i64 (2)], [.int .i64 (3)], [.int .i64 (4)], [.int .i64 (5)], [.int .i64 (6)], [.int .i64 (7)]]
def g175 : AV := .lst 1 [[.int .i64 (1)], [.int .i64 (2)], [.int .i64 (3)], [.int .i64 (4)], [.int .i64 (5)], [.int .i64 (6)], [.int .i64 (7)]]
def g176 : AV := .lst 1 [[.int .i64 (0)], [.int .i64 (1)], [.int .i64 (2)], [.int .i64 (3)], [.int .i64 (4)], [.int .i64 (5)], [.int .i64 (6)], [.int .i64 (7)]]
def g177 : AV := .agg [.lst 1 [[.int .u32 (8)], [.int .u32 (2097151)], [.int .u32 (2097151)], [.int .u32 (2097151)], [.int .u32 (2097151)], [.int .u32 (2097151)], [.int .u32 (2097151)], [.int .u32 (2097151)]], .int .i64 (6000), .int .i64 (0), .int .i64 (3000)]
def g178 : AV := .agg [.lst 5 [[.int .i64 (1), .int .i64 (-1), .int .i64 (0), .int .i64 (0), .lst 2 [[.int .i64 (0), .int .i64 (3)]]], [.int .i64 (2), .int .i64 (1), .int .i64 (1300), .int .i64 (1399), .lst 2 [[.int .i64 (0), .int .i64 (3)], [.int .i64 (1), .int .i64 (5)]]], [.int .i64 (3), .int .i64 (1), .int .i64 (5000), .int .i64 (20000), .lst 2 [[.int .i64 (0), .int .i64 (3)]]], [.int .i64 (4), .int .i64 (2), .int .i64 (2900), .int .i64 (3100), .lst 2 [[.int .i64 (1), .int .i64 (5)]]]], .mapL [.int .i64 (1), .int .i64 (2), .int .i64 (3), .int .i64 (4)] [.int .i64 (0), .int .i64 (1), .int .i64 (2), .int .i64 (3)], .nilS]
def g179 : AV := .agg [.lst 5 [[.int .i64 (1), .int .i64 (-1), .int .i64 (0), .int .i64 (0), .lst 2 [[.int .i64 (0), .int .i64 (3)]]], [.int .i64 (2), .int .i64 (1), .int .i64 (1300), .int .i64 (1399), .lst 2 [[.int .i64 (0), .int .i64 (3)], [.int .i64 (1), .int .i64 (5)]]], [.int .i64 (3), .int .i64 (1), .int .i64 (5000), .int .i64 (20000), .lst 2 [[.int .i64 (0), .int .i64 (3)]]], [.int .i64 (4), .int .i64 (2), .int .i64 (2900), .int .i64 (3100), .lst 2 [[.int .i64 (1), .int .i64 (5)]]]], .mapL [.int .i64 (1), .int .i64 (2), .int .i64 (3), .int .i64 (4)] [.int .i64 (0), .int .i64 (1), .int .i64 (2), .int .i64 (3)], .lst 1 [[.int .i64 (0)], [.int .i64 (1)], [.int .i64 (2)], [.int .i64 (3)]]]
def g180 : AV := .agg [.lst 1 [[.int .u32 (0)], [.int .u32 (0)], [.int .u32 (0)], [.int .u32 (0)], [.int .u32 (0)], [.int .u32 (0)], [.int .u32 (0)], [.int .u32 (0)]], .int .i64 (0), .int .i64 (0), .int .i64 (0)]
def g181 : AV := .agg [.lst 5 [[.int .i64 (1), .int .i64 (-1), .int .i64 (0), .int .i64 (100), .lst 2 [[.int .i64 (0), .int .i64 (3)]]], [.int .i64 (2), .int .i64 (1), .int .i64 (1300), .int .i64 (1600), .lst 2 [[.int .i64 (0), .int .i64 (3)], [.int .i64 (1), .int .i64 (5)]]], [.int .i64 (3), .int .i64 (1), .int .i64 (5000), .int .i64 (20000), .lst 2 [[.int .i64 (0), .int .i64 (3)]]], [.int .i64 (4), .int .i64 (2), .int .i64 (2900), .int .i64 (3100), .lst 2 [[.int .i64 (1), .int .i64 (5)]]], [.int .i64 (5), .int .i64 (-1), .int .i64 (0), .int .i64 (0), .lst 2 [[.int .i64 (7), .int .i64 (1)]]]], .mapL [.int .i64 (1), .int .i64 (2), .int .i64 (3), .int .i64 (4), .int .i64 (5)] [.int .i64 (0), .int .i64 (1), .int .i64 (2), .int .i64 (3), .int .i64 (4)], .nilS]
def g182 : AV := .agg [.lst 5 [[.int .i64 (1), .int .i64 (-1), .int .i64 (0), .int .i64 (100), .lst 2 [[.int .i64 (0), .int .i64 (3)]]], [.int .i64 (2), .int .i64 (1), .int .i64 (1300), .int .i64 (1600), .lst 2 [[.int .i64 (0), .int .i64 (3)], [.int .i64 (1), .int .i64 (5)]]], [.int .i64 (3), .int .i64 (1), .int .i64 (5000), .int .i64 (20000), .lst 2 [[.int .i64 (0), .int .i64 (3)]]], [.int .i64 (4), .int .i64 (2), .int .i64 (2900), .int .i64 (3100), .lst 2 [[.int .i64 (1), .int .i64 (5)]]], [.int .i64 (5), .int .i64 (-1), .int .i64 (0), .int .i64 (0), .lst 2 [[.int .i64 (7), .int .i64 (1)]]]], .mapL [.int .i64 (1), .int .i64 (2), .int .i64 (3), .int .i64 (4), .int .i64 (5)] [.int .i64 (0), .int .i64 (1), .int .i64 (2), .int .i64 (3), .int .i64 (4)], .lst 1 [[.int .i64 (0)], [.int .i64 (1)], [.int .i64 (2)], [.int .i64 (3)], [.int .i64 (4)]]]
end Go.V
