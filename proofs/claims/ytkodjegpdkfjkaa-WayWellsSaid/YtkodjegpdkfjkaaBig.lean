/- Laws for wide structs: a whole block read, a whole new block written, whatever its width; over every program. -/
import Derived.Test.YtkodjegpdkfjkaaSpec
import Derived.WalkKit
import Derived.WalkLawsBesides
import Derived.Handy
import Derived.Laws.Rows
import Derived.Laws.Tables
set_option linter.unusedVariables false
set_option linter.unusedSimpArgs false
namespace Go.Proofs.Ytkodjegpdkfjkaa
open Go.RowKit

/-- The cells of a block that is no map and that may be written. -/
def rowOf (w : World) (g : Nat) : Option (Array Value) := match w.heap[g]? with | some (.cells cs _ (0, 0)) => some cs | _ => none

theorem heap_alloc_if (w : World) (o : Obj) (g : Nat) : (w.alloc o).heap[g]? = if g = w.heap.size then some o else w.heap[g]? := by
  show (w.heap.push o)[g]? = _
  rw [Array.getElem?_push]
theorem rowOf_alloc (w : World) (cs : Array Value) (t : TypeId) (g : Nat) : rowOf (w.alloc (.cells cs t)) g = if g = w.heap.size then some cs else rowOf w g := by
  unfold rowOf
  rw [heap_alloc_if]
  by_cases h : g = w.heap.size <;> simp [h]
theorem rowOf_below {W w1 : World} (h : Below W.heap.size W w1) : ∀ b, b < W.heap.size → rowOf w1 b = rowOf W b := fun b hb => by
  unfold rowOf
  rw [h.block b hb]
theorem rowOf_drew (w : World) (g : Nat) : rowOf w.drew g = rowOf w g := rfl
theorem rowOf_some {w : World} {g : Nat} {cs : Array Value} (h : rowOf w g = some cs) : ∃ t, w.heap[g]? = some (.cells cs t (0, 0)) := by
  unfold rowOf at h
  split at h
  · rename_i c t he
    exact ⟨t, by rw [he]; simp at h; rw [h]⟩
  · simp at h

theorem setRow_alloc (w : World) (cs vs : Array Value) (t : TypeId) (g : Nat) (hg : g ≤ w.heap.size) : (w.alloc (.cells cs t)).setRow g vs = if g = w.heap.size then w.alloc (.cells vs t) else (w.setRow g vs).alloc (.cells cs t) := by
  simp only [World.setRow, World.alloc]
  by_cases h : g = w.heap.size
  · subst h
    rw [if_pos rfl]
    congr 1
    apply Array.ext_getElem?
    intro i
    simp only [Array.getElem?_modify, Array.getElem?_push]
    by_cases hi : i = w.heap.size
    · subst hi; simp
    · simp [hi, Ne.symm hi]
  · rw [if_neg h]
    congr 1
    apply Array.ext_getElem?
    intro i
    simp only [Array.getElem?_modify, Array.getElem?_push, Array.size_modify]
    by_cases hi : i = w.heap.size
    · subst hi; simp [h]
    · simp [hi]

theorem Below_setRow {B : Nat} {a w : World} (h : Below B a w) {g : Nat} (hg : B ≤ g) (vs : Array Value) : Below B a (w.setRow g vs) :=
  h.trans ⟨rfl, rfl, rfl, by simp [World.setRow], fun k hk => setRow_other w g k vs (by omega)⟩

theorem one_int (k : IntKind) (n : Int) : (Value.int k n).oneCell' = true := rfl
theorem one_bool (b : Bool) : (Value.bool b).oneCell' = true := rfl

theorem mn_min (x y : Int) : mn x y = min x y := by unfold mn; omega
theorem mx_max (x y : Int) : mx x y = max x y := by unfold mx; omega
section
variable {P : Program} (w : World) (ts : Array TypeId) (t : TypeId)
theorem run_min4 (x y z u : Int) : (Builtin.min_ ts t #[.int .i64 x, .int .i64 y, .int .i64 z, .int .i64 u]).run P w = .ok (.int .i64 (mn (mn (mn x y) z) u)) w := by
  unfold mn
  simp only [Builtin.min_, List.foldlM_cons, List.foldlM_nil]
  by_cases h1 : y < x <;> by_cases h2 : z < (if y < x then y else x) <;> simp [Builtin.min2, h1]
theorem run_min2 (x y : Int) : (Builtin.min_ ts t #[.int .i64 x, .int .i64 y]).run P w = .ok (.int .i64 (mn x y)) w := by
  simp [mn, Builtin.min_, Builtin.min2]
theorem run_max2 (k : IntKind) (x y : Int) : (Builtin.max_ ts t #[.int k x, .int k y]).run P w = .ok (.int k (mx x y)) w := by
  simp [mx, Builtin.max_, Builtin.max2]
end

/-- A whole load, a whole store: the walk does not open them. -/
def wideLoad (t : TypeId) (v : Value) : Sem Next := do pure (.value (← Instr.loadAt t v))
def wideStore (t : TypeId) (v x : Value) : Sem Next := do Instr.storeAt t v x; pure .skip
def wideLoadElse (P : Program) (t : TypeId) (g : Nat) (w : World) : Result Next := (wideLoad t (.pointer (some ⟨g, 0, none⟩))).run P w
def wideStoreElse (P : Program) (t : TypeId) (g : Nat) (x : Value) (w : World) : Result Next := (wideStore t (.pointer (some ⟨g, 0, none⟩)) x).run P w

theorem execOp_wideLoad (t : TypeId) (ρ : Operand → Value) (dst : Option Tmp) (x : Operand) (ty : TypeId) (pos : String) (after : Array Edge) (guard : Option (Nat × Bool)) :
    execOp ρ { dst, op := .load t x, type := ty, pos, after, guard } = wideLoad t (ρ x) := rfl
theorem execOp_wideStore (t : TypeId) (ρ : Operand → Value) (dst : Option Tmp) (x y : Operand) (ty : TypeId) (pos : String) (after : Array Edge) (guard : Option (Nat × Bool)) :
    execOp ρ { dst, op := .store t x y, type := ty, pos, after, guard } = wideStore t (ρ x) (ρ y) := rfl

theorem cell_of_rowOf {w : World} {g : Nat} {cs : Array Value} (h : rowOf w g = some cs) : (∀ j, w.cell? ⟨g, j, none⟩ = cs[j]?) ∧ (∀ j, w.frozen? ⟨g, j, none⟩ = false) ∧ g < w.heap.size := by
  obtain ⟨t, hg⟩ := rowOf_some h
  exact ⟨fun j => cell_of_row w g j cs t _ hg, fun j => frozen_of_row w g j cs t hg, (Array.getElem?_eq_some_iff.1 hg).1⟩
/-- Behind a call a block of the caller's reads as it did. -/
theorem keep_row {W w1 : World} (hB : Below W.heap.size W w1) {g : Nat} {cs : Array Value} (h : rowOf W g = some cs) : rowOf w1 g = some cs ∧ (∀ j, w1.cell? ⟨g, j, none⟩ = cs[j]?) ∧ (∀ j, w1.frozen? ⟨g, j, none⟩ = false) ∧ g < w1.heap.size := by
  have h' : rowOf w1 g = some cs := by rw [rowOf_below hB g (cell_of_rowOf h).2.2]; exact h
  exact ⟨h', cell_of_rowOf h'⟩

theorem row_here0 (w : World) (cs : Array Value) (t : TypeId) : rowOf (w.alloc (.cells cs t)) w.heap.size = some cs := by rw [rowOf_alloc, if_pos rfl]
theorem row_here1 (w : World) (o : Obj) (cs : Array Value) (t : TypeId) : rowOf ((w.alloc o).alloc (.cells cs t)) (w.heap.size + 1) = some cs := by rw [rowOf_alloc, if_pos (by simp)]
theorem row_here2 (w : World) (o o' : Obj) (cs : Array Value) (t : TypeId) : rowOf (((w.alloc o).alloc o').alloc (.cells cs t)) (w.heap.size + 1 + 1) = some cs := by rw [rowOf_alloc, if_pos (by simp)]
theorem row_here3 (w : World) (o o' o'' : Obj) (cs : Array Value) (t : TypeId) : rowOf ((((w.alloc o).alloc o').alloc o'').alloc (.cells cs t)) (w.heap.size + 1 + 1 + 1) = some cs := by rw [rowOf_alloc, if_pos (by simp)]
theorem rowSkip {w : World} {o : Obj} {g : Nat} {r : Array Value} (h : rowOf w g = some r) : rowOf (w.alloc o) g = some r := by
  have hg := (cell_of_rowOf h).2.2
  unfold rowOf at h ⊢
  rw [heap_alloc_if, if_neg (by omega)]
  exact h

section
variable {P : Program}
theorem run_wideLoad {t : TypeId} {d : TypeDesc} (n : Nat) (hu : P.underlying t = some d) (hd : (match d with | .struct _ | .array _ _ => true | _ => false) = true) (hi : (P.info? t).map (·.size) = some n)
    (g : Nat) (w : World) : (wideLoad t (.pointer (some ⟨g, 0, none⟩))).run P w = match rowOf w g with
      | some cs => if cs.size = n then .ok (.value (.agg cs)) w else wideLoadElse P t g w
      | none => wideLoadElse P t g w := by
  cases h : rowOf w g with
  | none => rfl
  | some cs =>
    obtain ⟨t', hg⟩ := rowOf_some h
    by_cases hs : cs.size = n
    · simp only [hs, if_true]
      subst hs
      simp only [wideLoad, Instr.loadAt, Instr.sureAddr, Sem.run_bind, Sem.run_pure, Result.andThen_ok, run_loadVar_row w g t' t cs (0, 0) d hg hu hd hi]
    · simp only [hs, if_false]; rfl
theorem run_wideStore {t : TypeId} (n : Nat) (hi : (P.info? t).map (·.size) = some n)
    (g : Nat) (vs : Array Value) (w : World) : (wideStore t (.pointer (some ⟨g, 0, none⟩)) (.agg vs)).run P w = match rowOf w g with
      | some cs => if cs.size = n ∧ vs.size = n ∧ vs.all (·.oneCell') = true then .ok .skip (w.setRow g vs) else wideStoreElse P t g (.agg vs) w
      | none => wideStoreElse P t g (.agg vs) w := by
  cases h : rowOf w g with
  | none => rfl
  | some cs =>
    obtain ⟨t', hg⟩ := rowOf_some h
    by_cases hs : cs.size = n ∧ vs.size = n ∧ vs.all (·.oneCell') = true
    · show _ = if cs.size = n ∧ vs.size = n ∧ vs.all (·.oneCell') = true then Result.ok Next.skip (w.setRow g vs) else wideStoreElse P t g (.agg vs) w
      rw [if_pos hs]
      obtain ⟨h1, h2, h3⟩ := hs
      simp only [wideStore, Instr.storeAt, Instr.sureAddr, Sem.run_bind, Sem.run_pure, Result.andThen_ok, run_storeVar_row w g t' t cs vs hg (by rw [hi, h2]) (by rw [h1, h2]) h3]
    · show _ = if cs.size = n ∧ vs.size = n ∧ vs.all (·.oneCell') = true then Result.ok Next.skip (w.setRow g vs) else wideStoreElse P t g (.agg vs) w
      rw [if_neg hs]; rfl

/-- A result that lies in a block. -/
theorem results_row {fn : Func} {p : Tmp} {t : TypeId} (h : fn.results = #[.cell p t]) {d : TypeDesc} (n : Nat) (hu : P.underlying t = some d) (hd : (match d with | .struct _ | .array _ _ => true | _ => false) = true) (hi : (P.info? t).map (·.size) = some n)
    {tmps : Array Value} {w : World} {g : Nat} (hp : tmps.getD p undef = .pointer (some ⟨g, 0, none⟩)) {cs : Array Value} (hg : rowOf w g = some cs) (hs : cs.size = n) : (results fn tmps).run P w = .ok (.agg cs) w := by
  obtain ⟨t', hg'⟩ := rowOf_some hg
  subst hs
  exact results_cell_row h tmps w g t' cs (0, 0) d hp hg' hu hd hi
end
end Go.Proofs.Ytkodjegpdkfjkaa
