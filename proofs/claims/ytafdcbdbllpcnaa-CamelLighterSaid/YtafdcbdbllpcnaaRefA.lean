/- The struct of an animal: stored and built whole; results that hold one. -/
import Derived.Test.YtafdcbdbllpcnaaPart
import Derived.Test.YtafdcbdbllpcnaaBigT
import Derived.Test.YtafdcbdbllpcnaaLeafK
import Derived.Test.YtafdcbdbllpcnaaLeafE
import Derived.Deep.QuietTactic
import Derived.BigQuiet
import Derived.Laws.OwnMore
set_option linter.unusedVariables false
set_option linter.unusedSimpArgs false
namespace Go.Proofs.Ytafdcbdbllpcnaa
open Go.RowKit
open Go.Proofs

theorem exec39s : ∀ ρ dst x y ty pos after guard, execOp ρ { dst, op := .store 39 x y, type := ty, pos, after, guard } = wideStore 39 (ρ x) (ρ y) := execOp_wideStore 39
theorem info39 : (Try.prog.info? 39).map (·.size) = some 7 := by kernel_rfl
theorem store39 (g : Nat) (vs : Array Value) (w : World) : (wideStore 39 (.pointer (some ⟨g, 0, none⟩)) (.agg vs)).run Try.prog w = match rowOf w g with
      | some cs => if cs.size = 7 ∧ vs.size = 7 ∧ vs.all (·.oneCell') = true then .ok .skip (w.setRow g vs) else wideStoreElse Try.prog 39 g (.agg vs) w
      | none => wideStoreElse Try.prog 39 g (.agg vs) w := run_wideStore (P := Try.prog) 7 info39 g vs w
theorem exec39l : ∀ ρ dst x ty pos after guard, execOp ρ { dst, op := .load 39 x, type := ty, pos, after, guard } = wideLoad 39 (ρ x) := execOp_wideLoad 39
theorem load39 (g : Nat) (w : World) : (wideLoad 39 (.pointer (some ⟨g, 0, none⟩))).run Try.prog w = match rowOf w g with
      | some cs => if cs.size = 7 then .ok (.value (.agg cs)) w else wideLoadElse Try.prog 39 g w
      | none => wideLoadElse Try.prog 39 g w := run_wideLoad (P := Try.prog) 7 Try.underlying39 rfl info39 g w
theorem build39z (w : World) : (Instr.build 39 #[]).run Try.prog w = .ok (.agg #[.int .i64 0, .int .i64 0, .int .i64 0, .int .i64 0, .int .i64 0, .int .i64 0, .bool false]) w := by kernel_rfl
theorem build39_4 (a b c d e f : Value) (k : Bool) (w : World) : (Instr.build 39 #[(0, .agg #[a, b]), (1, .agg #[c, d]), (2, .agg #[e, f]), (3, .bool k)]).run Try.prog w = .ok (.agg #[a, b, c, d, e, f, .bool k]) w := by kernel_rfl
theorem build39_1 (k : Bool) (w : World) : (Instr.build 39 #[(3, .bool k)]).run Try.prog w = .ok (.agg #[.int .i64 0, .int .i64 0, .int .i64 0, .int .i64 0, .int .i64 0, .int .i64 0, .bool k]) w := by kernel_rfl
theorem res39 {fn : Func} {p : Tmp} (h : fn.results = #[.cell p 39]) {tmps : Array Value} {w : World} {g : Nat} (hp : tmps.getD p undef = .pointer (some ⟨g, 0, none⟩)) {cs : Array Value} (hg : rowOf w g = some cs) (hs : cs.size = 7) : (results fn tmps).run Try.prog w = .ok (.agg cs) w :=
  results_row h 7 Try.underlying39 rfl info39 hp hg hs
theorem results39_2 {fn : Func} {p q : Tmp} (h : fn.results = #[.cell p 39, .tmp q]) {tmps : Array Value} {w : World} {g : Nat} (hp : tmps.getD p undef = .pointer (some ⟨g, 0, none⟩)) {cs : Array Value} (hg : rowOf w g = some cs) (hs : cs.size = 7) {v : Value} (hq : tmps.getD q undef = v) :
    (results fn tmps).run Try.prog w = .ok (.tuple #[.agg cs, v]) w := by
  obtain ⟨t', hg'⟩ := rowOf_some hg
  have hp' : tmps[p]?.getD undef = .pointer (some ⟨g, 0, none⟩) := by simpa using hp
  have hq' : tmps[q]?.getD undef = v := by simpa using hq
  have hl := run_loadVar_row (P := Try.prog) w g t' 39 cs (0, 0) _ hg' Try.underlying39 rfl (by rw [hs]; exact info39)
  simp [results, h, hp', hq', asAddr, hl]
theorem results39_3 {fn : Func} {p q r : Tmp} (h : fn.results = #[.cell p 39, .tmp q, .tmp r]) {tmps : Array Value} {w : World} {g : Nat} (hp : tmps.getD p undef = .pointer (some ⟨g, 0, none⟩)) {cs : Array Value} (hg : rowOf w g = some cs) (hs : cs.size = 7) {v v' : Value} (hq : tmps.getD q undef = v) (hr : tmps.getD r undef = v') :
    (results fn tmps).run Try.prog w = .ok (.tuple #[.agg cs, v, v']) w := by
  obtain ⟨t', hg'⟩ := rowOf_some hg
  have hp' : tmps[p]?.getD undef = .pointer (some ⟨g, 0, none⟩) := by simpa using hp
  have hq' : tmps[q]?.getD undef = v := by simpa using hq
  have hr' : tmps[r]?.getD undef = v' := by simpa using hr
  have hl := run_loadVar_row (P := Try.prog) w g t' 39 cs (0, 0) _ hg' Try.underlying39 rfl (by rw [hs]; exact info39)
  simp [results, h, hp', hq', hr', asAddr, hl]
end Go.Proofs.Ytafdcbdbllpcnaa
/- A span stored into a part of a row. -/
namespace Go.Proofs.Ytafdcbdbllpcnaa
open Go.RowKit
open Go.Proofs

noncomputable def span31Else (g off : Nat) (x y : Value) (w : World) : Result Next := (wideStore 31 (.pointer (some ⟨g, off, none⟩)) (.agg #[x, y])).run Try.prog w
theorem store31at (g off : Nat) (x y : Value) (w : World) : (wideStore 31 (.pointer (some ⟨g, off, none⟩)) (.agg #[x, y])).run Try.prog w = match rowOf w g with
      | some cs => if off + 2 ≤ cs.size ∧ x.oneCell' = true ∧ y.oneCell' = true then .ok .skip (w.setRow g ((cs.setIfInBounds off x).setIfInBounds (off + 1) y)) else span31Else g off x y w
      | none => span31Else g off x y w := by
  cases h : rowOf w g with
  | none => rfl
  | some cs =>
    obtain ⟨t, hg⟩ := rowOf_some h
    by_cases hs : off + 2 ≤ cs.size ∧ x.oneCell' = true ∧ y.oneCell' = true
    · show _ = if off + 2 ≤ cs.size ∧ x.oneCell' = true ∧ y.oneCell' = true then Result.ok Next.skip (w.setRow g ((cs.setIfInBounds off x).setIfInBounds (off + 1) y)) else _
      rw [if_pos hs]
      obtain ⟨h1, h2, h3⟩ := hs
      have h4 := run_storeCells_part (P := Try.prog) g off t [x, y] 0 cs w hg (by simpa using h1) (by simp [h2, h3])
      have h5 : (storeVar 31 ⟨g, off, none⟩ (.agg #[x, y])).run Try.prog w = .ok () (w.setRow g (setMany [x, y] off cs)) := by
        have hq := info31
        cases hq' : Try.prog.info? 31 with
        | none => simp [hq'] at hq
        | some i =>
          have hs : 2 = i.size := by simp [hq'] at hq; omega
          simp [storeVar, sizeOf, typeInfo, hq', Value.cells, ← hs, h4]
      simp only [wideStore, Instr.storeAt, Instr.sureAddr, Sem.run_bind, Sem.run_pure, Result.andThen_ok, h5]
      rfl
    · show _ = if off + 2 ≤ cs.size ∧ x.oneCell' = true ∧ y.oneCell' = true then Result.ok Next.skip (w.setRow g ((cs.setIfInBounds off x).setIfInBounds (off + 1) y)) else _
      rw [if_neg hs]
      rfl
end Go.Proofs.Ytafdcbdbllpcnaa
/- How many days like one an animal lasts: plain. -/
namespace Go.Proofs.Ytafdcbdbllpcnaa

/-- From day i on, so many days left, with the first day that isn't sure. -/
def lastsGo (b : Br) (m : Mr) : Nat → Int → Cm → Int → Int × Int
  | 0, _, _, lo => (lo, 60)
  | n + 1, i, c, lo => if diesS b c m = true then (mn lo i, i) else lastsGo b m n (i + 1) (eveC b c m) (if openS b c m = true then mn lo i else lo)
theorem lastsGo_dies {b : Br} {m : Mr} {n : Nat} {i : Int} {c : Cm} {lo : Int} (h : diesS b c m = true) : lastsGo b m (n + 1) i c lo = (mn lo i, i) := by simp [lastsGo, h]
theorem lastsGo_open {b : Br} {m : Mr} {n : Nat} {i : Int} {c : Cm} {lo : Int} (h : diesS b c m = false) (h2 : openS b c m = true) : lastsGo b m (n + 1) i c lo = lastsGo b m n (i + 1) (eveC b c m) (mn lo i) := by simp [lastsGo, h, h2]
theorem lastsGo_lives {b : Br} {m : Mr} {n : Nat} {i : Int} {c : Cm} {lo : Int} (h : diesS b c m = false) (h2 : openS b c m = false) : lastsGo b m (n + 1) i c lo = lastsGo b m n (i + 1) (eveC b c m) lo := by simp [lastsGo, h, h2]
end Go.Proofs.Ytafdcbdbllpcnaa
/- The days of an animal, plain: what it is like in the morning of each, what a day yields. -/
namespace Go.Proofs.Ytafdcbdbllpcnaa

def zm : Mr := ⟨0, 0, (0, 0), (0, 0), (0, 0)⟩
def zb : Br := ⟨0, 0, (0, 0), (0, 0), (0, 0), (0, 0), (0, 0), (0, 0), 0, (0, 0)⟩
def mdS (ms : List Mr) (k : Nat) : Mr := ms[k]?.getD zm
/-- An animal in the morning of day k, had it lived till then. -/
def mornC (b : Br) (c : Cm) (ms : List Mr) : Nat → Cm
  | 0 => c
  | k + 1 => eveC b (mornC b c ms k) (mdS ms k)
def dieK (b : Br) (c : Cm) (ms : List Mr) (k : Nat) : Bool := diesS b (mornC b c ms k) (mdS ms k)
def opnK (b : Br) (c : Cm) (ms : List Mr) (k : Nat) : Bool := openS b (mornC b c ms k) (mdS ms k)
def fatK (b : Br) (c : Cm) (ms : List Mr) (k : Nat) : Int := fateS b (mornC b c ms k) (mdS ms k)
/-- In the evening: nothing, if it died. -/
def eB (b : Br) (c : Cm) (m : Mr) : Br := if diesS b c m = true then zb else b
def eC (b : Br) (c : Cm) (m : Mr) : Cm := if diesS b c m = true then zc false else eveC b c m
/-- The worst fate of the first n days. -/
def fatN (b : Br) (c : Cm) (ms : List Mr) (n : Nat) : Int := if (List.range n).any (opnK b c ms) = true then 1 else 0

theorem mdS_ok {ms : List Mr} (h : ms.all okM = true) {k : Nat} (hk : k < ms.length) : okM (mdS ms k) = true := by
  rw [List.all_eq_true] at h
  simp only [mdS, List.getElem?_eq_getElem hk, Option.getD_some]
  exact h _ (List.getElem_mem hk)
theorem mdS_get {ms : List Mr} {k : Nat} (hk : k < ms.length) : ms[k] = mdS ms k := by simp [mdS, hk]
theorem mornC_bd {b : Br} {c : Cm} {ms : List Mr} (hb : BdB b) (hc : BdC b c) (h : ms.all okM = true) : ∀ k, k ≤ ms.length → BdC b (mornC b c ms k)
  | 0, _ => hc
  | k + 1, hk => eve_bd hb (mornC_bd hb hc h k (by omega)) (okM_bd (mdS_ok h (by omega)))
theorem fatK_dies {b : Br} {c : Cm} {ms : List Mr} {k : Nat} (h : dieK b c ms k = true) : fatK b c ms k = 2 := by
  unfold dieK at h; simp [fatK, fateS, h]
theorem fatK_lives {b : Br} {c : Cm} {ms : List Mr} {k : Nat} (h : dieK b c ms k = false) : fatK b c ms k = if opnK b c ms k = true then 1 else 0 := by
  unfold dieK at h; unfold fatK fateS opnK; rw [if_neg (by simp [h])]
theorem fatN_succ {b : Br} {c : Cm} {ms : List Mr} {k : Nat} (h : dieK b c ms k = false) : mx (fatN b c ms k) (fatK b c ms k) = fatN b c ms (k + 1) := by
  rw [fatK_lives h]
  unfold fatN
  rw [List.range_succ, List.any_append]
  simp only [List.any_cons, List.any_nil, Bool.or_false, Bool.or_eq_true]
  cases h1 : (List.range k).any (opnK b c ms) <;> cases h2 : opnK b c ms k <;> simp [mx]
theorem fatN_01 (b : Br) (c : Cm) (ms : List Mr) (k : Nat) : fatN b c ms k = 0 ∨ fatN b c ms k = 1 := by unfold fatN; split <;> simp

theorem fate2 {b : Br} {c : Cm} {m : Mr} : fateS b c m = 2 ↔ diesS b c m = true := by
  unfold fateS
  constructor
  · intro h
    cases hd : diesS b c m with
    | true => rfl
    | false => rw [hd, if_neg (by simp)] at h; split at h <;> omega
  · intro h; rw [if_pos h]
/-- So many days were yielded, and there were no more; so many, and the caller wanted no more. -/
def SDay (b : Br) (c : Cm) (ms : List Mr) (k : Nat) : Prop := k ≤ ms.length ∧ (∀ j, j + 1 < k → dieK b c ms j = false) ∧ (k = ms.length ∨ (0 < k ∧ dieK b c ms (k - 1) = true))
def SpDay (b : Br) (c : Cm) (ms : List Mr) (k : Nat) : Prop := k ≤ ms.length ∧ (∀ j, j + 1 < k → dieK b c ms j = false)
end Go.Proofs.Ytafdcbdbllpcnaa
/- A day of an animal at work as a struct: stored, built and read in part. -/
namespace Go.Proofs.Ytafdcbdbllpcnaa
open Go.RowKit
open Go.Proofs

theorem exec126s : ∀ ρ dst x y ty pos after guard, execOp ρ { dst, op := .store 126 x y, type := ty, pos, after, guard } = wideStore 126 (ρ x) (ρ y) := execOp_wideStore 126
theorem info126 : (Try.prog.info? 126).map (·.size) = some 57 := by kernel_rfl
theorem store126 (g : Nat) (vs : Array Value) (w : World) : (wideStore 126 (.pointer (some ⟨g, 0, none⟩)) (.agg vs)).run Try.prog w = match rowOf w g with
      | some cs => if cs.size = 57 ∧ vs.size = 57 ∧ vs.all (·.oneCell') = true then .ok .skip (w.setRow g vs) else wideStoreElse Try.prog 126 g (.agg vs) w
      | none => wideStoreElse Try.prog 126 g (.agg vs) w := run_wideStore (P := Try.prog) 57 info126 g vs w
theorem exec45s : ∀ ρ dst x y ty pos after guard, execOp ρ { dst, op := .store 45 x y, type := ty, pos, after, guard } = wideStore 45 (ρ x) (ρ y) := execOp_wideStore 45
theorem info45 : (Try.prog.info? 45).map (·.size) = some 8 := by kernel_rfl
theorem store45 (g : Nat) (vs : Array Value) (w : World) : (wideStore 45 (.pointer (some ⟨g, 0, none⟩)) (.agg vs)).run Try.prog w = match rowOf w g with
      | some cs => if cs.size = 8 ∧ vs.size = 8 ∧ vs.all (·.oneCell') = true then .ok .skip (w.setRow g vs) else wideStoreElse Try.prog 45 g (.agg vs) w
      | none => wideStoreElse Try.prog 45 g (.agg vs) w := run_wideStore (P := Try.prog) 8 info45 g vs w
theorem build126 (x0 x1 x2 x3 x4 x5 x6 x7 y0 y1 y2 y3 y4 y5 y6 y7 y8 y9 y10 y11 y12 y13 y14 y15 y16 y17 y18 y19 y20 y21 y22 y23 z0 z1 z2 z3 z4 z5 z6 z7 z8 z9 z10 z11 z12 z13 z14 z15 z16 z17 z18 z19 z20 z21 z22 z23 : Value) (f : Int) (w : World) : (Instr.build 126 #[(0, .agg #[x0, x1, x2, x3, x4, x5, x6, x7]), (1, .agg #[y0, y1, y2, y3, y4, y5, y6, y7, y8, y9, y10, y11, y12, y13, y14, y15, y16, y17, y18, y19, y20, y21, y22, y23]), (2, .agg #[z0, z1, z2, z3, z4, z5, z6, z7, z8, z9, z10, z11, z12, z13, z14, z15, z16, z17, z18, z19, z20, z21, z22, z23]), (3, .int .u8 f)]).run Try.prog w = .ok (.agg #[x0, x1, x2, x3, x4, x5, x6, x7, y0, y1, y2, y3, y4, y5, y6, y7, y8, y9, y10, y11, y12, y13, y14, y15, y16, y17, y18, y19, y20, y21, y22, y23, z0, z1, z2, z3, z4, z5, z6, z7, z8, z9, z10, z11, z12, z13, z14, z15, z16, z17, z18, z19, z20, z21, z22, z23, .int .u8 f]) w := by kernel_rfl
theorem cut_mo (x0 x1 x2 x3 x4 x5 x6 x7 y0 y1 y2 y3 y4 y5 y6 y7 y8 y9 y10 y11 y12 y13 y14 y15 y16 y17 y18 y19 y20 y21 y22 y23 z0 z1 z2 z3 z4 z5 z6 z7 z8 z9 z10 z11 z12 z13 z14 z15 z16 z17 z18 z19 z20 z21 z22 z23 f : Value) : (#[x0, x1, x2, x3, x4, x5, x6, x7, y0, y1, y2, y3, y4, y5, y6, y7, y8, y9, y10, y11, y12, y13, y14, y15, y16, y17, y18, y19, y20, y21, y22, y23, z0, z1, z2, z3, z4, z5, z6, z7, z8, z9, z10, z11, z12, z13, z14, z15, z16, z17, z18, z19, z20, z21, z22, z23, f] : Array Value).extract 8 32 = #[y0, y1, y2, y3, y4, y5, y6, y7, y8, y9, y10, y11, y12, y13, y14, y15, y16, y17, y18, y19, y20, y21, y22, y23] := by kernel_rfl
theorem cut_ev (x0 x1 x2 x3 x4 x5 x6 x7 y0 y1 y2 y3 y4 y5 y6 y7 y8 y9 y10 y11 y12 y13 y14 y15 y16 y17 y18 y19 y20 y21 y22 y23 z0 z1 z2 z3 z4 z5 z6 z7 z8 z9 z10 z11 z12 z13 z14 z15 z16 z17 z18 z19 z20 z21 z22 z23 f : Value) : (#[x0, x1, x2, x3, x4, x5, x6, x7, y0, y1, y2, y3, y4, y5, y6, y7, y8, y9, y10, y11, y12, y13, y14, y15, y16, y17, y18, y19, y20, y21, y22, y23, z0, z1, z2, z3, z4, z5, z6, z7, z8, z9, z10, z11, z12, z13, z14, z15, z16, z17, z18, z19, z20, z21, z22, z23, f] : Array Value).extract 32 56 = #[z0, z1, z2, z3, z4, z5, z6, z7, z8, z9, z10, z11, z12, z13, z14, z15, z16, z17, z18, z19, z20, z21, z22, z23] := by kernel_rfl

noncomputable def load112Else (g off : Nat) (w : World) : Result Next := (wideLoad 112 (.pointer (some ⟨g, off, none⟩))).run Try.prog w
theorem load112at (g off : Nat) (w : World) : (wideLoad 112 (.pointer (some ⟨g, off, none⟩))).run Try.prog w = match rowOf w g with
      | some cs => if off + 24 ≤ cs.size then .ok (.value (.agg (cs.extract off (off + 24)))) w else load112Else g off w
      | none => load112Else g off w := by
  cases h : rowOf w g with
  | none => rfl
  | some cs =>
    obtain ⟨t, hg⟩ := rowOf_some h
    by_cases hs : off + 24 ≤ cs.size
    · show _ = if off + 24 ≤ cs.size then Result.ok (Next.value (.agg (cs.extract off (off + 24)))) w else _
      rw [if_pos hs]
      have hlen : (cs.extract off (off + 24)).toList.length = 24 := by simp; omega
      have hl : (loadCells ⟨g, off, none⟩ (cs.extract off (off + 24)).toList.length).run Try.prog w = .ok (cs.extract off (off + 24)).toList.toArray w :=
        run_loadCells_list (P := Try.prog) w ⟨g, off, none⟩ _ (fun j v hv => by
          have hadd : (⟨g, off, none⟩ : Addr).add j = ⟨g, off + j, none⟩ := by unfold Addr.add; split <;> simp_all
          rw [hadd, cell_of_row w g (off + j) cs t _ hg]
          rw [Array.getElem?_toList, Array.getElem?_extract] at hv
          split at hv
          · exact hv
          · cases hv)
      have hq := info112
      cases hq' : Try.prog.info? 112 with
      | none => simp [hq'] at hq
      | some i =>
        have hs2 : i.size = 24 := by simpa [hq'] using hq
        have hagg : (isAgg 112).run Try.prog w = .ok true w := by
          unfold isAgg
          rw [Sem.run_bind, run_underlying Try.underlying112 w]
          rfl
        rw [hlen] at hl
        simp [wideLoad, Instr.loadAt, Instr.sureAddr, loadVar, Sem.run_bind, hagg, sizeOf, typeInfo, hq', hs2, hl]
        apply Array.ext'
        simp [Array.toList_extract, List.extract_eq_take_drop]
    · show _ = if off + 24 ≤ cs.size then Result.ok (Next.value (.agg (cs.extract off (off + 24)))) w else _
      rw [if_neg hs]
      rfl

theorem row_here4 (w : World) (o0 o1 o2 o3 : Obj) (cs : Array Value) (t : TypeId) : rowOf (((((w.alloc o0).alloc o1).alloc o2).alloc o3).alloc (.cells cs t)) (w.heap.size + 1 + 1 + 1 + 1) = some cs := by rw [rowOf_alloc, if_pos (by simp)]
theorem row_here5 (w : World) (o0 o1 o2 o3 o4 : Obj) (cs : Array Value) (t : TypeId) : rowOf ((((((w.alloc o0).alloc o1).alloc o2).alloc o3).alloc o4).alloc (.cells cs t)) (w.heap.size + 1 + 1 + 1 + 1 + 1) = some cs := by rw [rowOf_alloc, if_pos (by simp)]
theorem row_here6 (w : World) (o0 o1 o2 o3 o4 o5 : Obj) (cs : Array Value) (t : TypeId) : rowOf (((((((w.alloc o0).alloc o1).alloc o2).alloc o3).alloc o4).alloc o5).alloc (.cells cs t)) (w.heap.size + 1 + 1 + 1 + 1 + 1 + 1) = some cs := by rw [rowOf_alloc, if_pos (by simp)]
theorem rowOf_setCell_if (w : World) (h off : Nat) (v : Value) (g : Nat) : rowOf (w.setCell ⟨h, off, none⟩ v) g = if g = h then (rowOf w h).map (·.setIfInBounds off v) else rowOf w g := by
  by_cases e : g = h
  · subst e
    rw [if_pos rfl]
    cases hr : rowOf w g with
    | some cs =>
      obtain ⟨t, hg⟩ := rowOf_some hr
      rw [setCell_eq_setRow w g off cs t (0, 0) v hg]
      exact (stored_setRow hr _).row
    | none =>
      unfold rowOf at hr ⊢
      simp only [World.setCell, Array.getElem?_modify, if_true]
      cases ho : w.heap[g]? with
      | none => rfl
      | some o =>
        rw [ho] at hr
        cases o with
        | cells cs t fr =>
          obtain ⟨f1, f2⟩ := fr
          simp only [Option.map_some]
          split at hr
          · simp at hr
          · rename_i hne
            split
            · rename_i heq
              simp at heq
              obtain ⟨-, -, rfl, rfl⟩ := heq
              exact absurd rfl (hne cs t)
            · rfl
        | _ => rfl
  · rw [if_neg e]
    unfold rowOf
    rw [heap_setCell_other w _ g v e]
theorem stored_cell {W : World} {g : Nat} {v0 : Value} (hr : rowOf W g = some #[v0]) (v : Value) : Stored g #[v] W (W.setCell ⟨g, 0, none⟩ v) := by
  obtain ⟨t, hg⟩ := rowOf_some hr
  rw [setCell_eq_setRow W g 0 #[v0] t (0, 0) v hg]
  exact stored_setRow hr _
theorem grown_setRow (w : World) (g : Nat) (cs : Array Value) : w.grownBy (w.setRow g cs) (some g) :=
  ⟨rfl, rfl, rfl, by simp [World.setRow], fun k _ h => setRow_other w g k cs (fun e => h (by rw [e]))⟩
theorem grown_setCell (w : World) (a : Addr) (v : Value) : w.grownBy (w.setCell a v) (some a.block) :=
  ⟨rfl, rfl, rfl, by simp [World.setCell], fun k _ h => heap_setCell_other w a k v (fun e => h (by rw [e]))⟩
theorem Ext.grown {a b : World} (h : Ext a b) (row : Option Nat) : a.grownBy b row := ⟨h.os, h.tape, h.output, h.size, fun k hk _ => h.block k hk⟩
theorem grown_trans {a b c : World} {r : Option Nat} (h : a.grownBy b r) (k : b.grownBy c r) : a.grownBy c r :=
  ⟨k.os.trans h.os, k.tape.trans h.tape, k.output.trans h.output, Nat.le_trans h.size k.size, fun i hi hn => (k.block i (Nat.lt_of_lt_of_le hi h.size) hn).trans (h.block i hi hn)⟩
theorem row_of_block {a b : World} {g : Nat} {cs : Array Value} (h : rowOf a g = some cs) (hb : b.heap[g]? = a.heap[g]?) : rowOf b g = some cs := by
  unfold rowOf at *; rw [hb]; exact h

theorem aftW_e (b : Br) (c : Cm) (m : Mr) : aftW b c m = #[.int .i64 (eB b c m).full, .int .i64 (eB b c m).fed, .int .i64 (eB b c m).rest.1, .int .i64 (eB b c m).rest.2, .int .i64 (eB b c m).heat.1, .int .i64 (eB b c m).heat.2, .int .i64 (eB b c m).toil.1, .int .i64 (eB b c m).toil.2, .int .i64 (eB b c m).burn.1, .int .i64 (eB b c m).burn.2, .int .i64 (eB b c m).rub.1, .int .i64 (eB b c m).rub.2, .int .i64 (eB b c m).milk.1, .int .i64 (eB b c m).milk.2, .int .i64 (eB b c m).heal, .int .i64 (eB b c m).strong.1, .int .i64 (eB b c m).strong.2, .int .i64 (eC b c m).water.1, .int .i64 (eC b c m).water.2, .int .i64 (eC b c m).fat.1, .int .i64 (eC b c m).fat.2, .int .i64 (eC b c m).sore.1, .int .i64 (eC b c m).sore.2, .bool (eC b c m).milks] := by
  cases h : diesS b c m <;> simp [aftW, eB, eC, h, zb, zc]
theorem after_e (b : Br) (c : Cm) (m : Mr) (b' : Br) (c' : Cm) (f : Int) (h1 : eB b c m = b') (h2 : eC b c m = c') (h3 : fateS b c m = f) (w : World) (hb : BdB b) (hc : BdC b c) (hm : BdM m) :
    Calls Try.prog 65 #[.agg #[.int .i64 b.full, .int .i64 b.fed, .int .i64 b.rest.1, .int .i64 b.rest.2, .int .i64 b.heat.1, .int .i64 b.heat.2, .int .i64 b.toil.1, .int .i64 b.toil.2, .int .i64 b.burn.1, .int .i64 b.burn.2, .int .i64 b.rub.1, .int .i64 b.rub.2, .int .i64 b.milk.1, .int .i64 b.milk.2, .int .i64 b.heal, .int .i64 b.strong.1, .int .i64 b.strong.2, .int .i64 c.water.1, .int .i64 c.water.2, .int .i64 c.fat.1, .int .i64 c.fat.2, .int .i64 c.sore.1, .int .i64 c.sore.2, .bool c.milks], .agg #[.int .i64 m.hours, .int .i64 m.load, .int .i64 m.heat.1, .int .i64 m.heat.2, .int .i64 m.grass.1, .int .i64 m.grass.2, .int .i64 m.drinks.1, .int .i64 m.drinks.2]] w fun e w' => e = .returned (.tuple #[.agg #[.int .i64 b'.full, .int .i64 b'.fed, .int .i64 b'.rest.1, .int .i64 b'.rest.2, .int .i64 b'.heat.1, .int .i64 b'.heat.2, .int .i64 b'.toil.1, .int .i64 b'.toil.2, .int .i64 b'.burn.1, .int .i64 b'.burn.2, .int .i64 b'.rub.1, .int .i64 b'.rub.2, .int .i64 b'.milk.1, .int .i64 b'.milk.2, .int .i64 b'.heal, .int .i64 b'.strong.1, .int .i64 b'.strong.2, .int .i64 c'.water.1, .int .i64 c'.water.2, .int .i64 c'.fat.1, .int .i64 c'.fat.2, .int .i64 c'.sore.1, .int .i64 c'.sore.2, .bool c'.milks], .int .u8 f]) ∧ Below w.heap.size w w' := by
  subst h1 h2 h3
  rw [← aftW_e]
  exact after_any b c m w hb hc hm
theorem row_grown {A A' : World} {g r : Nat} {cs : Array Value} (h : rowOf A g = some cs) (hg : A.grownBy A' (some r)) (hne : g ≠ r) : rowOf A' g = some cs :=
  row_of_block h (hg.block g (cell_of_rowOf h).2.2 (by simpa using hne))
theorem below_grown {B : Nat} {a A A' : World} {r : Nat} (h : Below B a A) (hg : A.grownBy A' (some r)) (hB : B ≤ A.heap.size) (hr : B ≤ r) : Below B a A' := h.grown hg hB (fun k e => by cases e; exact hr)
theorem owns_grown {A A' : World} {base e size n r : Nat} {v : Value} {xs : List Value} (h : A.ownsRow base e size v n xs) (hg : A.grownBy A' (some r)) (hr : r < base) : A'.ownsRow base e size v n xs := by
  refine h.kept hg ?_
  cases hv : v.ownBlock with
  | none => exact .inl (by
      rcases h.2 with ⟨rfl, _⟩ | ⟨g, cap, cur, rfl, _⟩
      · rfl
      · simp [Value.ownBlock] at hv)
  | some g => exact .inr (by have := (h.lt g hv).1; intro e; cases e; omega)
theorem row_grownO {A A' : World} {g : Nat} {row : Option Nat} {cs : Array Value} (h : rowOf A g = some cs) (hg : A.grownBy A' row) (hne : ∀ i, row = some i → g ≠ i) : rowOf A' g = some cs :=
  row_of_block h (hg.block g (cell_of_rowOf h).2.2 (fun e => hne g e.symm rfl))
theorem grown_drew (W : World) : W.grownBy W.drew none := ⟨rfl, rfl, rfl, Nat.le_refl _, fun _ _ _ => rfl⟩
theorem World.grownBy.trans' {a b c : World} {r : Option Nat} (h : a.grownBy b r) (k : b.grownBy c r) : a.grownBy c r := grown_trans h k
theorem XT.grown0 {a b : World} (h : XT [] a b) : a.grownBy b none := ⟨h.os, h.tape, h.output, h.size, fun k hk _ => h.block k hk (by simp)⟩
theorem XT.grown1 {a b : World} {g : Nat} {vs : Array Value} (h : XT [(g, vs)] a b) : a.grownBy b (some g) := ⟨h.os, h.tape, h.output, h.size, fun k hk hne => h.block k hk (fun p hp => by
  simp only [List.mem_singleton] at hp; subst hp; intro e; exact hne (by simp only at e; rw [e]))⟩
theorem owns_mono {A : World} {base base' e size n : Nat} {v : Value} {xs : List Value} (h : A.ownsRow base e size v n xs) (hb : base' ≤ base) : A.ownsRow base' e size v n xs := by
  obtain ⟨h1, h2⟩ := h
  refine ⟨h1, ?_⟩
  rcases h2 with h2 | ⟨g, cap, cur, q1, q2, q3⟩
  · exact .inl h2
  · exact .inr ⟨g, cap, cur, q1, Nat.le_trans hb q2, q3⟩
theorem owns_grown0 {A A' : World} {base e size n : Nat} {v : Value} {xs : List Value} (h : A.ownsRow base e size v n xs) (hg : A.grownBy A' none) : A'.ownsRow base e size v n xs := by
  refine h.kept hg ?_
  rcases h.2 with ⟨rfl, _⟩ | ⟨g, cap, cur, rfl, _⟩
  · exact .inl rfl
  · exact .inr (by simp [Value.ownBlock])

section
variable {P : Program}
theorem wp_store_one {o : Oper} {a : Act} {w : World} {K : Act → World → Prop} {Q : Exit → Act → World → Prop} (ty : TypeId) (x y : Operand) (ho : o.op = .store ty x y) {g : Nat} {v v0 : Value} (hx : a.eval x = .pointer (some ⟨g, 0, none⟩)) (hy : a.eval y = v)
    (hc : v.oneCell' = true ∧ v.cells = #[v]) (hr : rowOf w g = some #[v0]) (hi : (P.info? ty).map (·.size) = some 1) (hk : K (a.put o.dst undef) (w.setRow g #[v])) : o.wp P a w K Q := by
  obtain ⟨t, hg⟩ := rowOf_some hr
  obtain ⟨h1, hcs⟩ := hc
  have h2 := run_storeCells_part (P := P) g 0 t [v] 0 #[v0] w hg (by simp) (fun u hu => by simp at hu; subst hu; exact h1)
  have h3 : (storeVar ty ⟨g, 0, none⟩ v).run P w = .ok () (w.setRow g #[v]) := by
    cases hq : P.info? ty with
    | none => simp [hq] at hi
    | some i =>
      have hs : i.size = 1 := by simpa [hq] using hi
      simp [storeVar, sizeOf, typeInfo, hq, hcs, hs, h2, setMany]
  unfold Oper.wp execOp
  simp only [ho, hx, hy, Instr.storeAt, Instr.sureAddr, Sem.run_bind, Sem.run_pure, Result.andThen_ok, h3]
  exact hk
theorem wp_store_fin1 {Q : Exit → Act → World → Prop} {fin : List (Nat × Array Value)} {o : Oper} {a : Act} {W : World} {K : Act → World → Prop} (ty : TypeId) (x y : Operand) (ho : o.op = .store ty x y) (hd : o.dst = none) {g : Nat} {v : Value} (hx : a.eval x = .pointer (some ⟨g, 0, none⟩)) (hy : a.eval y = v)
    (hc : v.oneCell' = true ∧ v.cells = #[v]) (hr : ∃ cs, rowOf W g = some cs ∧ cs.size = 1) (hi : (P.info? ty).map (·.size) = some 1) (hm : (g, #[v]) ∈ fin) (hu : ∀ p ∈ fin, p.1 = g → p.2 = #[v])
    (hk : ∀ W', XT fin W W' → rowOf W' g = some #[v] → K a W') : o.wp P a W K Q := by
  obtain ⟨cs, hr, hs⟩ := hr
  obtain ⟨v0, rfl⟩ : ∃ v0, cs = #[v0] := by
    obtain ⟨l⟩ := cs
    match l, hs with
    | [v0], _ => exact ⟨v0, rfl⟩
  refine wp_store_one ty x y ho hx hy hc hr hi ?_
  rw [hd]
  exact hk _ (xt_setRow hr hm hu) (stored_setRow hr _).row
end

/-- A day of an animal at work, as cells. -/
def dayRow (b : Br) (c : Cm) (ms : List Mr) (k : Nat) : Array Value :=
  #[.int .i64 (mdS ms k).hours, .int .i64 (mdS ms k).load, .int .i64 (mdS ms k).heat.1, .int .i64 (mdS ms k).heat.2, .int .i64 (mdS ms k).grass.1, .int .i64 (mdS ms k).grass.2, .int .i64 (mdS ms k).drinks.1, .int .i64 (mdS ms k).drinks.2, .int .i64 b.full, .int .i64 b.fed, .int .i64 b.rest.1, .int .i64 b.rest.2, .int .i64 b.heat.1, .int .i64 b.heat.2, .int .i64 b.toil.1, .int .i64 b.toil.2, .int .i64 b.burn.1, .int .i64 b.burn.2, .int .i64 b.rub.1, .int .i64 b.rub.2, .int .i64 b.milk.1, .int .i64 b.milk.2, .int .i64 b.heal, .int .i64 b.strong.1, .int .i64 b.strong.2, .int .i64 (mornC b c ms k).water.1, .int .i64 (mornC b c ms k).water.2, .int .i64 (mornC b c ms k).fat.1, .int .i64 (mornC b c ms k).fat.2, .int .i64 (mornC b c ms k).sore.1, .int .i64 (mornC b c ms k).sore.2, .bool (mornC b c ms k).milks, .int .i64 (eB b (mornC b c ms k) (mdS ms k)).full, .int .i64 (eB b (mornC b c ms k) (mdS ms k)).fed, .int .i64 (eB b (mornC b c ms k) (mdS ms k)).rest.1, .int .i64 (eB b (mornC b c ms k) (mdS ms k)).rest.2, .int .i64 (eB b (mornC b c ms k) (mdS ms k)).heat.1, .int .i64 (eB b (mornC b c ms k) (mdS ms k)).heat.2, .int .i64 (eB b (mornC b c ms k) (mdS ms k)).toil.1, .int .i64 (eB b (mornC b c ms k) (mdS ms k)).toil.2, .int .i64 (eB b (mornC b c ms k) (mdS ms k)).burn.1, .int .i64 (eB b (mornC b c ms k) (mdS ms k)).burn.2, .int .i64 (eB b (mornC b c ms k) (mdS ms k)).rub.1, .int .i64 (eB b (mornC b c ms k) (mdS ms k)).rub.2, .int .i64 (eB b (mornC b c ms k) (mdS ms k)).milk.1, .int .i64 (eB b (mornC b c ms k) (mdS ms k)).milk.2, .int .i64 (eB b (mornC b c ms k) (mdS ms k)).heal, .int .i64 (eB b (mornC b c ms k) (mdS ms k)).strong.1, .int .i64 (eB b (mornC b c ms k) (mdS ms k)).strong.2, .int .i64 (eC b (mornC b c ms k) (mdS ms k)).water.1, .int .i64 (eC b (mornC b c ms k) (mdS ms k)).water.2, .int .i64 (eC b (mornC b c ms k) (mdS ms k)).fat.1, .int .i64 (eC b (mornC b c ms k) (mdS ms k)).fat.2, .int .i64 (eC b (mornC b c ms k) (mdS ms k)).sore.1, .int .i64 (eC b (mornC b c ms k) (mdS ms k)).sore.2, .bool (eC b (mornC b c ms k) (mdS ms k)).milks, .int .u8 (fatK b c ms k)]
theorem dayRow_size (b : Br) (c : Cm) (ms : List Mr) (k : Nat) : (dayRow b c ms k).size = 57 := rfl
theorem dayRow_one (b : Br) (c : Cm) (ms : List Mr) (k : Nat) : (dayRow b c ms k).all (·.oneCell') = true := by
  simp [dayRow, one_int, one_bool]
/-- An animal's cells; those of the evenings of the first n days. -/
def marCells (m : Mr) : List Value := [.int .i64 m.hours, .int .i64 m.load, .int .i64 m.heat.1, .int .i64 m.heat.2, .int .i64 m.grass.1, .int .i64 m.grass.2, .int .i64 m.drinks.1, .int .i64 m.drinks.2]
def camCells (c : Cm) : List Value := [.int .i64 c.water.1, .int .i64 c.water.2, .int .i64 c.fat.1, .int .i64 c.fat.2, .int .i64 c.sore.1, .int .i64 c.sore.2, .bool c.milks]
theorem camCells_one (c : Cm) : ∀ u ∈ camCells c, u.oneCell' = true := by
  intro u hu
  simp only [camCells, List.mem_cons, List.not_mem_nil, or_false] at hu
  rcases hu with rfl | rfl | rfl | rfl | rfl | rfl | rfl <;> rfl
theorem camCells_at {W : World} {g : Nat} {c : Cm} (h : rowOf W g = some #[.int .i64 c.water.1, .int .i64 c.water.2, .int .i64 c.fat.1, .int .i64 c.fat.2, .int .i64 c.sore.1, .int .i64 c.sore.2, .bool c.milks]) : ∀ j u, (camCells c)[j]? = some u → W.cell? ((⟨g, 0, none⟩ : Addr).add j) = some u := by
  intro j u hj
  have e : (⟨g, 0, none⟩ : Addr).add j = ⟨g, j, none⟩ := by unfold Addr.add; split <;> simp_all
  rw [e, (cell_of_rowOf h).1 j, ← hj]
  simp [camCells]
def evs (b : Br) (c : Cm) (ms : List Mr) (n : Nat) : List Value := (List.range n).flatMap fun k => camCells (mornC b c ms (k + 1))
theorem evs_succ (b : Br) (c : Cm) (ms : List Mr) (n : Nat) : evs b c ms (n + 1) = evs b c ms n ++ camCells (mornC b c ms (n + 1)) := by
  simp [evs, List.range_succ]
end Go.Proofs.Ytafdcbdbllpcnaa
/- Contract of the reference's SameCamels: two lists of the same animals are the same. -/
namespace Go.Proofs.Ytafdcbdbllpcnaa
open Go.RowKit
open Go.Proofs

/-- Animals lie one behind the other in a block; a list of animals that was handed over. -/
def CamelAt (w : World) (b o : Nat) (c : Cm) : Prop :=
  w.cell? ⟨b, o, none⟩ = some (.int .i64 c.water.1) ∧ w.cell? ⟨b, o + 1, none⟩ = some (.int .i64 c.water.2) ∧ w.cell? ⟨b, o + 2, none⟩ = some (.int .i64 c.fat.1) ∧ w.cell? ⟨b, o + 3, none⟩ = some (.int .i64 c.fat.2) ∧
  w.cell? ⟨b, o + 4, none⟩ = some (.int .i64 c.sore.1) ∧ w.cell? ⟨b, o + 5, none⟩ = some (.int .i64 c.sore.2) ∧ w.cell? ⟨b, o + 6, none⟩ = some (.bool c.milks)
def CamelsAt (w : World) (b off : Nat) (cs : List Cm) : Prop := ∀ k (h : k < cs.length), CamelAt w b (off + k * 7) cs[k]
theorem camel_below {B : Nat} {w w' : World} {b o : Nat} {c : Cm} (hB : Below B w w') (hb : b < B) (h : CamelAt w b o c) : CamelAt w' b o c := by
  obtain ⟨c0, c1, c2, c3, c4, c5, c6⟩ := h
  exact ⟨at_belowb hB hb c0, at_belowb hB hb c1, at_belowb hB hb c2, at_belowb hB hb c3, at_belowb hB hb c4, at_belowb hB hb c5, at_belowb hB hb c6⟩

set_option maxHeartbeats 1000000 in
theorem sameCamels_some (b1 o1 p1 b2 o2 p2 : Nat) (cs : List Cm) (w : World) (h1 : CamelsAt w b1 o1 cs) (h2 : CamelsAt w b2 o2 cs) (l1 : b1 < w.heap.size) (l2 : b2 < w.heap.size) (hl : cs.length ≤ 100000) :
    Calls Try.prog 39 #[.slice (some ⟨b1, o1, none⟩) cs.length p1, .slice (some ⟨b2, o2, none⟩) cs.length p2] w fun e w' => e = .returned (.bool true) ∧ Below w.heap.size w w' := by
  have H1 := Lib.hid h1
  have H2 := Lib.hid h2
  clear h1 h2
  go_enter Try.func39, Try.ntmps39
  go_wp2_with fail
  go_loopw [5] (fun i wr => ∃ k : Nat, k ≤ cs.length ∧ i = .int .i64 k ∧ Below w.heap.size w wr) (fun i _ => cs.length - (intOf i).toNat)
  case atStart => exact ⟨0, Nat.zero_le _, rfl, Below.refl _ _⟩
  case round =>
    obtain ⟨k, hk, rfl, hB0⟩ := hrel
    by_cases hlt : k < cs.length
    · obtain ⟨c0, c1, c2, c3, c4, c5, c6⟩ := camel_below hB0 l1 (H1.out k hlt)
      obtain ⟨d0, d1, d2, d3, d4, d5, d6⟩ := camel_below hB0 l2 (H2.out k hlt)
      generalize cs[k] = c at *
      have hlt' : (k : Int) < (cs.length : Int) := by omega
      go_wp2_with fail
      go_quiet (fail)
      go_wp2
      exact ⟨⟨k + 1, by omega, by go_num, below_drewN hB0 _⟩, by simp [intOf]; omega⟩
    · obtain rfl : k = cs.length := by omega
      go_wp2
      go_returns
      exact ⟨rfl, hB0⟩
end Go.Proofs.Ytafdcbdbllpcnaa
/- Lists of numbers and of meetings in memory. -/
namespace Go.Proofs.Ytafdcbdbllpcnaa
open Go.RowKit
open Go.Proofs

def IntsAt (w : World) (b off : Nat) (xs : List Int) : Prop := ∀ k (h : k < xs.length), w.cell? ⟨b, off + k, none⟩ = some (.int .i64 xs[k])
def IntsIn (w : World) (a : Option Addr) (cap : Nat) (xs : List Int) : Prop := (a = none ∧ cap = 0 ∧ xs = []) ∨ ∃ g off, a = some ⟨g, off, none⟩ ∧ IntsAt w g off xs ∧ g < w.heap.size
def MeetAt (w : World) (b o : Nat) (x : Mt) : Prop :=
  w.cell? ⟨b, o, none⟩ = some (.int .i64 x.a) ∧ w.cell? ⟨b, o + 1, none⟩ = some (.int .i64 x.b) ∧ w.cell? ⟨b, o + 2, none⟩ = some (.int .i64 x.day) ∧ w.cell? ⟨b, o + 3, none⟩ = some (.bool x.close)
def MeetsAt (w : World) (b off : Nat) (ms : List Mt) : Prop := ∀ k (h : k < ms.length), MeetAt w b (off + k * 4) ms[k]
def MeetsIn (w : World) (a : Option Addr) (cap : Nat) (ms : List Mt) : Prop := (a = none ∧ cap = 0 ∧ ms = []) ∨ ∃ g off, a = some ⟨g, off, none⟩ ∧ MeetsAt w g off ms ∧ g < w.heap.size
theorem MeetAt.below {B : Nat} {w w' : World} {b o : Nat} {x : Mt} (hB : Below B w w') (hb : b < B) (h : MeetAt w b o x) : MeetAt w' b o x := by
  obtain ⟨c0, c1, c2, c3⟩ := h
  exact ⟨at_belowb hB hb c0, at_belowb hB hb c1, at_belowb hB hb c2, at_belowb hB hb c3⟩
theorem IntsIn.below {B : Nat} {W W' : World} {a : Option Addr} {cap : Nat} {xs : List Int} (h : IntsIn W a cap xs) (hE : Below B W W') (hs : W.heap.size ≤ B) : IntsIn W' a cap xs := by
  rcases h with h | ⟨g, off, h1, h2, h3⟩
  · exact .inl h
  · exact .inr ⟨g, off, h1, fun k hk => at_belowb hE (by omega) (h2 k hk), Nat.lt_of_lt_of_le h3 hE.size⟩
theorem MeetsIn.below {B : Nat} {W W' : World} {a : Option Addr} {cap : Nat} {xs : List Mt} (h : MeetsIn W a cap xs) (hE : Below B W W') (hs : W.heap.size ≤ B) : MeetsIn W' a cap xs := by
  rcases h with h | ⟨g, off, h1, h2, h3⟩
  · exact .inl h
  · exact .inr ⟨g, off, h1, fun k hk => (h2 k hk).below hE (by omega), Nat.lt_of_lt_of_le h3 hE.size⟩
theorem IntsIn.ext {W W' : World} {a : Option Addr} {cap : Nat} {xs : List Int} (h : IntsIn W a cap xs) (hE : Ext W W') : IntsIn W' a cap xs := h.below hE (Nat.le_refl _)
theorem MeetsIn.ext {W W' : World} {a : Option Addr} {cap : Nat} {xs : List Mt} (h : MeetsIn W a cap xs) (hE : Ext W W') : MeetsIn W' a cap xs := h.below hE (Nat.le_refl _)
theorem IntsIn.get {W : World} {a : Option Addr} {cap : Nat} {xs : List Int} (h : IntsIn W a cap xs) {k : Nat} (hk : k < xs.length) : ∃ g off, a = some ⟨g, off, none⟩ ∧ W.cell? ⟨g, off + k, none⟩ = some (.int .i64 (xs.getD k 0)) ∧ g < W.heap.size := by
  rcases h with ⟨-, -, h⟩ | ⟨g, off, h1, h2, h3⟩
  · subst h; simp at hk
  · exact ⟨g, off, h1, by rw [h2 k hk]; simp [hk], h3⟩
def mt0 : Mt := ⟨0, 0, 0, false⟩
def mtS (ms : List Mt) (k : Nat) : Mt := ms.getD k mt0
theorem mtS_get {ms : List Mt} {k : Nat} (hk : k < ms.length) : ms[k] = mtS ms k := by simp [mtS, hk]
theorem mtS_mem {ms : List Mt} {k : Nat} (hk : k < ms.length) : mtS ms k ∈ ms := by rw [← mtS_get hk]; exact List.getElem_mem hk
theorem MeetsIn.get {W : World} {a : Option Addr} {cap : Nat} {ms : List Mt} (h : MeetsIn W a cap ms) {k : Nat} (hk : k < ms.length) : ∃ g off, a = some ⟨g, off, none⟩ ∧ MeetAt W g (off + k * 4) (mtS ms k) ∧ g < W.heap.size := by
  rcases h with ⟨-, -, h⟩ | ⟨g, off, h1, h2, h3⟩
  · subst h; simp at hk
  · exact ⟨g, off, h1, by rw [← mtS_get hk]; exact h2 k hk, h3⟩

/-- What is asked of a first one, of a meeting; the error. -/
def inR (n i : Int) : Bool := decide (0 ≤ i) && decide (i < n)
def okX (n : Int) (x : Mt) : Bool := inR n x.a && inR n x.b && decide (x.a ≠ x.b) && decide (0 ≤ x.day) && decide (x.day ≤ 100000)
def okA (n : Int) (wt : Int × Int) (day : Int) : Bool := decide (1 ≤ n) && decide (n ≤ 30) && decide (1 ≤ wt.1) && okSpan 60 wt && decide (0 ≤ day) && decide (day ≤ 100000)
def chkG (n : Int) (first : List Int) (ms : List Mt) (wt : Int × Int) (day : Int) : Int :=
  if okA n wt day = true then (if first.length ≤ 30 ∧ ms.length ≤ 200 then (if first.all (inR n) = true then (if ms.all (okX n) = true then 0 else 14) else 14) else 4) else 2
theorem okX_iff {n : Int} {x : Mt} : okX n x = true ↔ okMt n x := by
  simp only [okX, inR, okMt, Bool.and_eq_true, decide_eq_true_eq]
  constructor
  · rintro ⟨⟨⟨⟨⟨h1, h2⟩, h3, h4⟩, h5⟩, h6⟩, h7⟩; exact ⟨h1, h2, h3, h4, h5, h6, h7⟩
  · rintro ⟨h1, h2, h3, h4, h5, h6, h7⟩; exact ⟨⟨⟨⟨⟨h1, h2⟩, h3, h4⟩, h5⟩, h6⟩, h7⟩
theorem allI_step {α : Type} {p : α → Bool} {xs : List α} {k : Nat} (h : k < xs.length) (ha : (xs.take k).all p = true) (d : α) (hp : p (xs.getD k d) = true) : (xs.take (k + 1)).all p = true := by
  rw [List.take_succ_eq_append_getElem h, List.all_append, ha]
  simp [h] at hp
  simp [hp]
theorem allI_no {α : Type} {p : α → Bool} {xs : List α} {k : Nat} (h : k < xs.length) (d : α) (hp : p (xs.getD k d) = false) : ¬ xs.all p = true := by
  rw [Bool.not_eq_true, List.all_eq_false]
  simp [h] at hp
  exact ⟨xs[k], List.getElem_mem h, by rw [hp]; simp⟩
theorem chkG_fine {n : Int} {first : List Int} {ms : List Mt} {wt : Int × Int} {day : Int} (h : chkG n first ms wt day = 0) :
    (1 ≤ n ∧ n ≤ 30) ∧ (1 ≤ wt.1 ∧ wt.1 ≤ wt.2 ∧ wt.2 ≤ 60) ∧ (0 ≤ day ∧ day ≤ 100000) ∧ (first.length ≤ 30 ∧ ms.length ≤ 200) ∧ (∀ i ∈ first, 0 ≤ i ∧ i < n) ∧ ∀ x ∈ ms, okMt n x := by
  unfold chkG at h
  by_cases h1 : okA n wt day = true
  · rw [if_pos h1] at h
    by_cases h2 : first.length ≤ 30 ∧ ms.length ≤ 200
    · rw [if_pos h2] at h
      by_cases h3 : first.all (inR n) = true
      · rw [if_pos h3] at h
        by_cases h4 : ms.all (okX n) = true
        · simp only [okA, okSpan, Bool.and_eq_true, decide_eq_true_eq] at h1
          obtain ⟨⟨⟨⟨⟨a1, a2⟩, a3⟩, ⟨-, a4⟩, a5⟩, a6⟩, a7⟩ := h1
          rw [List.all_eq_true] at h3 h4
          refine ⟨⟨a1, a2⟩, ⟨a3, a4, a5⟩, ⟨a6, a7⟩, h2, fun i hi => ?_, fun x hx => okX_iff.1 (h4 x hx)⟩
          have := h3 i hi
          simpa [inR] using this
        · rw [if_neg h4] at h; omega
      · rw [if_neg h3] at h; omega
    · rw [if_neg h2] at h; omega
  · rw [if_neg h1] at h; omega
end Go.Proofs.Ytafdcbdbllpcnaa
/- The reckoning of mange until nothing changes, plain. -/
namespace Go.Proofs.Ytafdcbdbllpcnaa

/-- A list of days as a function of the animal. -/
def fI (xs : List Int) (i : Int) : Int := xs.getD i.toNat 0
theorem fI_nat (xs : List Int) (k : Nat) : fI xs (k : Int) = xs.getD k 0 := by simp [fI]
theorem fI_set {xs : List Int} {k : Nat} {v : Int} (hk : k < xs.length) {j : Int} (hj : 0 ≤ j) : fI (xs.set k v) j = if j = (k : Int) then v else fI xs j := by
  unfold fI
  by_cases h : j = (k : Int)
  · subst h
    simp [hk]
  · rw [if_neg h]
    have : k ≠ j.toNat := by omega
    simp [List.getD, List.getElem?_set_ne this]
def sumN (xs : List Int) : Nat := (xs.map Int.toNat).sum
theorem sumN_set : ∀ {xs : List Int} {k : Nat} {v : Int}, k < xs.length → 0 ≤ v → v < xs.getD k 0 → sumN (xs.set k v) < sumN xs
  | [], k, v, h, _, _ => by simp at h
  | x :: xs, 0, v, h, h1, h2 => by
    simp [sumN] at h2 ⊢
    omega
  | x :: xs, k + 1, v, h, h1, h2 => by
    have := sumN_set (xs := xs) (k := k) (v := v) (by simpa using h) h1 (by simpa using h2)
    simp [sumN] at this ⊢
    omega

/-- One direction of a meeting, as the document's reckoning goes. -/
def half (D w : Int) (i j : Nat) (xs : List Int) : List Int := if xs.getD i 0 ≤ D ∧ D + w < xs.getD j 0 then xs.set j (D + w) else xs
theorem half_len (D w : Int) (i j : Nat) (xs : List Int) : (half D w i j xs).length = xs.length := by
  unfold half; split <;> simp
/-- What stands at any time. -/
structure Fine (first : List Int) (E : Mt → Prop) (w n N : Int) (xs : List Int) : Prop where
  len : (xs.length : Int) = n
  snd : Snd first E w n N (fI xs)
structure Inn (first : List Int) (ms : List Mt) (E : Mt → Prop) (w n N : Int) (xs0 xs : List Int) (cb : Bool) (j : Nat) : Prop where
  good : Fine first E w n N xs
  base : ∀ i ∈ first, fI xs i ≤ 0
  calm : cb = false → xs = xs0 ∧ Reck E (fun x => x ∈ ms.take j) w (fI xs)
  less : cb = true → sumN xs < sumN xs0
theorem Fine.half {first : List Int} {E : Mt → Prop} {w n N : Int} {xs : List Int} (h : Fine first E w n N xs) {x : Mt} (hx : E x) (ho : okMt n x) (hN : 100000 < N) {i j : Nat} (hl : x.links i j) (hj : j < xs.length) : Fine first E w n N (half x.day w i j xs) := by
  refine ⟨by rw [half_len]; exact h.len, ?_⟩
  unfold Proofs.Ytafdcbdbllpcnaa.half
  split
  · rename_i hc
    intro k h1 h2
    rw [fI_set hj h1]
    split
    · rename_i hk
      subst hk
      exact .inr (h.snd.caught hx ho hN hl (by rw [fI_nat]; exact hc.1))
    · exact h.snd k h1 h2
  · exact h.snd
theorem half_base {D w : Int} {i j : Nat} {xs : List Int} {k : Int} (hk : 0 ≤ k) (hj : j < xs.length) (h : fI xs k ≤ 0) : fI (half D w i j xs) k ≤ 0 := by
  unfold half
  split
  · rename_i hc
    rw [fI_set hj hk]
    split
    · rename_i e
      subst e
      rw [fI_nat] at h
      omega
    · exact h
  · exact h
def moved (D w : Int) (i j : Nat) (xs : List Int) : Bool := decide (xs.getD i 0 ≤ D) && decide (D + w < xs.getD j 0)
theorem half_moved {D w : Int} {i j : Nat} {xs : List Int} (h : moved D w i j xs = true) : half D w i j xs = xs.set j (D + w) := by
  simp only [moved, Bool.and_eq_true, decide_eq_true_eq] at h
  exact if_pos h
theorem half_still {D w : Int} {i j : Nat} {xs : List Int} (h : moved D w i j xs = false) : half D w i j xs = xs := by
  refine if_neg fun h' => ?_
  simp only [moved, Bool.and_eq_false_iff, decide_eq_false_iff_not] at h
  rcases h with h | h
  · exact h h'.1
  · exact h h'.2
theorem half_sum {D w : Int} {i j : Nat} {xs : List Int} (hj : j < xs.length) (hD : 0 ≤ D + w) : sumN (half D w i j xs) ≤ sumN xs ∧ (moved D w i j xs = true → sumN (half D w i j xs) < sumN xs) := by
  cases h : moved D w i j xs with
  | false => rw [half_still h]; exact ⟨Nat.le_refl _, fun h => by cases h⟩
  | true =>
    have hs : sumN (half D w i j xs) < sumN xs := by
      rw [half_moved h]
      simp only [moved, Bool.and_eq_true, decide_eq_true_eq] at h
      exact sumN_set hj hD h.2
    exact ⟨Nat.le_of_lt hs, fun _ => hs⟩
/-- A meeting, reckoned. -/
theorem Inn.step {first : List Int} {ms : List Mt} {E : Mt → Prop} {w n N : Int} {xs0 xs : List Int} {cb : Bool} {k : Nat} (h : Inn first ms E w n N xs0 xs cb k) (hk : k < ms.length) (hx : E ms[k]) (ho : okMt n ms[k]) (hN : 100000 < N) (hw : 1 ≤ w) (hf : ∀ i ∈ first, 0 ≤ i) {i j : Nat} (hi : ms[k].a = (i : Int)) (hj : ms[k].b = (j : Int)) :
    Inn first ms E w n N xs0 (half ms[k].day w j i (half ms[k].day w i j xs)) (cb || moved ms[k].day w i j xs || moved ms[k].day w j i (half ms[k].day w i j xs)) (k + 1) := by
  obtain ⟨o1, o2, o3, o4, o5, o6, o7⟩ := id ho
  have hlen := h.good.len
  have li : i < xs.length := by omega
  have lj : j < xs.length := by omega
  have g1 := h.good.half (x := ms[k]) (i := i) (j := j) hx ho hN (.inl ⟨hi, hj⟩) lj
  have li' : i < (Proofs.Ytafdcbdbllpcnaa.half ms[k].day w i j xs).length := by rw [half_len]; exact li
  have g2 := g1.half (x := ms[k]) (i := j) (j := i) hx ho hN (.inr ⟨hj, hi⟩) li'
  have s1 := half_sum (D := ms[k].day) (w := w) (i := i) (j := j) (xs := xs) lj (by omega)
  have s2 := half_sum (D := ms[k].day) (w := w) (i := j) (j := i) (xs := Proofs.Ytafdcbdbllpcnaa.half ms[k].day w i j xs) li' (by omega)
  refine ⟨g2, fun q hq => half_base (hf q hq) li' (half_base (hf q hq) lj (h.base q hq)), ?_, ?_⟩
  · intro hc
    simp only [Bool.or_eq_false_iff] at hc
    obtain ⟨⟨c1, c2⟩, c3⟩ := hc
    rw [half_still c2] at c3 ⊢
    rw [half_still c3]
    obtain ⟨e, hr⟩ := h.calm c1
    refine ⟨e, fun y hy hE => ?_⟩
    rw [List.take_succ_eq_append_getElem hk, List.mem_append] at hy
    rcases hy with hy | hy
    · exact hr y hy hE
    · obtain rfl : y = ms[k] := by simpa using hy
      rw [hi, hj, fI_nat, fI_nat]
      simp only [moved, Bool.and_eq_false_iff, decide_eq_false_iff_not] at c2 c3
      constructor <;> intro hh <;> omega
  · intro hc
    simp only [Bool.or_eq_true] at hc
    rcases hc with (hc | hc) | hc
    · have := h.less hc; omega
    · have := s1.2 hc
      cases hcb : cb with
      | true => have := h.less hcb; omega
      | false => obtain ⟨e, -⟩ := h.calm hcb; rw [← e]; omega
    · have := s2.2 hc
      cases hcb : cb with
      | true => have := h.less hcb; omega
      | false => obtain ⟨e, -⟩ := h.calm hcb; rw [← e]; omega
theorem Inn.skip {first : List Int} {ms : List Mt} {E : Mt → Prop} {w n N : Int} {xs0 xs : List Int} {cb : Bool} {k : Nat} (h : Inn first ms E w n N xs0 xs cb k) (hk : k < ms.length) (hx : ¬ E ms[k]) : Inn first ms E w n N xs0 xs cb (k + 1) := by
  refine ⟨h.good, h.base, fun hc => ⟨(h.calm hc).1, fun y hy hE => ?_⟩, h.less⟩
  rw [List.take_succ_eq_append_getElem hk, List.mem_append] at hy
  rcases hy with hy | hy
  · exact (h.calm hc).2 y hy hE
  · obtain rfl : y = ms[k] := by simpa using hy
    exact absurd hE hx
theorem Inn.start {first : List Int} {ms : List Mt} {E : Mt → Prop} {w n N : Int} {xs : List Int} (g : Fine first E w n N xs) (hb : ∀ i ∈ first, fI xs i ≤ 0) : Inn first ms E w n N xs xs false 0 :=
  ⟨g, hb, fun _ => ⟨rfl, fun y hy => by simp at hy⟩, fun h => by cases h⟩
theorem Inn.calms {first : List Int} {ms : List Mt} {E : Mt → Prop} {w n N : Int} {xs0 xs : List Int} (h : Inn first ms E w n N xs0 xs false ms.length) : Reck E (fun x => x ∈ ms) w (fI xs) := by
  have := (h.calm rfl).2
  rwa [List.take_length] at this
theorem good_start {first : List Int} {E : Mt → Prop} {w n N : Int} {k : Nat} (hk : (k : Int) = n) : Fine first E w n N (List.replicate k N) :=
  ⟨by simpa using hk, fun i h1 h2 => .inl (by
    unfold fI
    have : i.toNat < k := by omega
    simp [this])⟩
theorem good_first {first : List Int} {E : Mt → Prop} {w n N : Int} {xs : List Int} (h : Fine first E w n N xs) {j : Nat} (hj : j < xs.length) (hm : (j : Int) ∈ first) : Fine first E w n N (xs.set j 0) := by
  refine ⟨by simpa using h.len, fun i h1 h2 => ?_⟩
  rw [fI_set hj h1]
  split
  · rename_i e
    subst e
    exact .inr (.start hm)
  · exact h.snd i h1 h2
theorem base_first {xs : List Int} {j : Nat} (hj : j < xs.length) {L : List Int} (hL : ∀ i ∈ L, 0 ≤ i) (h : ∀ i ∈ L, fI xs i ≤ 0) : ∀ i ∈ L ++ [(j : Int)], fI (xs.set j 0) i ≤ 0 := by
  intro i hi
  rw [List.mem_append] at hi
  have h0 : 0 ≤ i := by
    rcases hi with hi | hi
    · exact hL i hi
    · simp at hi; omega
  rw [fI_set hj h0]
  split
  · exact Int.le_refl _
  · rename_i hne
    rcases hi with hi | hi
    · exact h i hi
    · simp at hi; exact absurd hi hne
end Go.Proofs.Ytafdcbdbllpcnaa
/- A list of numbers in a block of one's own that is written into. -/
namespace Go.Proofs.Ytafdcbdbllpcnaa
open Go.RowKit
open Go.Proofs

def OutAt (W : World) (g : Nat) (xs : List Int) : Prop := ∃ cur : Array Value, rowOf W g = some cur ∧ ∀ k, k < xs.length → cur[k]? = some (.int .i64 (xs.getD k 0))
theorem OutAt.get {W : World} {g : Nat} {xs : List Int} (h : OutAt W g xs) {k : Nat} (hk : k < xs.length) : W.cell? ⟨g, k, none⟩ = some (.int .i64 (xs.getD k 0)) ∧ W.frozen? ⟨g, k, none⟩ = false ∧ g < W.heap.size := by
  obtain ⟨cur, h1, h2⟩ := h
  obtain ⟨c, f, z⟩ := cell_of_rowOf h1
  exact ⟨by rw [c]; exact h2 k hk, f k, z⟩
theorem OutAt.lt {W : World} {g : Nat} {xs : List Int} (h : OutAt W g xs) : g < W.heap.size := by
  obtain ⟨cur, h1, -⟩ := h
  exact (cell_of_rowOf h1).2.2
theorem rowOf_setCell_o {w : World} {g off : Nat} {cs : Array Value} (h : rowOf w g = some cs) (v : Value) : rowOf (w.setCell ⟨g, off, none⟩ v) g = some (cs.setIfInBounds off v) := by
  obtain ⟨t, hg⟩ := rowOf_some h
  rw [setCell_eq_setRow w g off cs t (0, 0) v hg]
  exact (stored_setRow h _).row
theorem OutAt.set {W : World} {g : Nat} {xs : List Int} (h : OutAt W g xs) {k : Nat} (hk : k < xs.length) (v : Int) : OutAt (W.setCell ⟨g, k, none⟩ (.int .i64 v)) g (xs.set k v) := by
  obtain ⟨cur, h1, h2⟩ := h
  refine ⟨_, rowOf_setCell_o h1 _, fun j hj => ?_⟩
  have hj' : j < xs.length := by simpa using hj
  have hkc : k < cur.size := (Array.getElem?_eq_some_iff.1 (h2 k hk)).1
  rw [Array.getElem?_setIfInBounds]
  by_cases e : k = j
  · subst e
    simp [hkc, hk]
  · rw [if_neg e, h2 j hj']
    simp [List.getD, List.getElem?_set_ne e]
theorem OutAt.keep {B : Nat} {W W' : World} {g : Nat} {xs : List Int} (h : OutAt W g xs) (hB : Below B W W') (hg : g < B) : OutAt W' g xs := by
  obtain ⟨cur, h1, h2⟩ := h
  exact ⟨cur, by rw [← h1]; simp only [rowOf, hB.block g hg], h2⟩
theorem OutAt.alloc {W : World} {g : Nat} {xs : List Int} (h : OutAt W g xs) (o : Obj) : OutAt (W.alloc o) g xs := h.keep (ext_alloc _ _) h.lt
theorem OutAt.drewN {W : World} {g : Nat} {xs : List Int} (h : OutAt W g xs) (n : Nat) : OutAt (W.drewN n) g xs := h
theorem OutAt.ints {W : World} {g cap : Nat} {xs : List Int} (h : OutAt W g xs) : IntsIn W (some ⟨g, 0, none⟩) cap xs :=
  .inr ⟨g, 0, rfl, fun k hk => by rw [Nat.zero_add, (h.get hk).1]; simp [hk], h.lt⟩
theorem row_heap {W : World} {g : Nat} {cs : Array Value} {t : TypeId} (h : W.heap[g]? = some (.cells cs t (0, 0))) : rowOf W g = some cs := by unfold rowOf; rw [h]; rfl
theorem out_owns {W : World} {base n : Nat} {v : Value} {xs : List Int} (hn : n = xs.length) (h0 : 0 < n) (h : W.ownsRow base 3 1 v n (xs.map (.int .i64 ·))) : ∃ g cap, v = .slice (some ⟨g, 0, none⟩) n cap ∧ base ≤ g ∧ OutAt W g xs := by
  have hk := h
  obtain ⟨-, h⟩ := h
  rcases h with ⟨-, h⟩ | ⟨g, cap, cur, rfl, h2, h3, -⟩
  · omega
  · refine ⟨g, cap, rfl, h2, cur, row_heap h3, fun k hkl => ?_⟩
    have hc := hk.cellAt k (by omega)
    rw [(cell_of_rowOf (row_heap h3)).1] at hc
    rw [hc]
    simp [hkl]
def worldSum (W : World) (g n : Nat) : Nat := ((List.range n).map fun k => (intOf ((W.cell? ⟨g, k, none⟩).getD undef)).toNat).sum
theorem worldSum_out {W : World} {g n : Nat} {xs : List Int} (h : OutAt W g xs) (hn : n = xs.length) : worldSum W g n = sumN xs := by
  subst hn
  unfold worldSum sumN
  congr 1
  apply List.ext_getElem
  · simp
  · intro k h1 h2
    have hk : k < xs.length := by simpa using h1
    simp only [List.getElem_map, List.getElem_range]
    rw [(h.get hk).1]
    simp [intOf, hk]
end Go.Proofs.Ytafdcbdbllpcnaa
/- Contracts of the reference's within, spanned, Breed, Camel and March: what they return, for every argument. -/
namespace Go.Proofs.Ytafdcbdbllpcnaa
open Go.RowKit
open Go.Proofs

attribute [local go_sem ↓] exec36l exec112l exec36s exec112s exec31s run_min2 run_max2
attribute [local go_sem] load36 load112 store36 store112 store31 build112 rowOf_alloc rowOf_drew setRow_alloc one_int one_bool run_min4

theorem rwithin_any (n lo hi : Int) (w : World) :
    Calls Try.prog 82 #[.int .i64 n, .int .i64 lo, .int .i64 hi] w fun e w' => e = .returned (.bool (inB lo hi n)) ∧ w = w' := by
  go_enter Try.func82, Try.ntmps82
  go_wp2
  all_goals go_returns
  all_goals exact ⟨ret_bool (by simp [inB]; omega), rfl⟩

theorem sp_yes {hi : Int} {s : Int × Int} (h : inB 0 s.2 s.1 = true) : decide (s.2 ≤ hi) = okSpan hi s := by
  simp only [inB, Bool.and_eq_true, decide_eq_true_eq] at h
  simp [okSpan, h]
theorem sp_no {hi : Int} {s : Int × Int} (h : ¬inB 0 s.2 s.1 = true) : false = okSpan hi s := by
  simp only [inB, Bool.and_eq_true, decide_eq_true_eq] at h
  symm
  rw [← Bool.not_eq_true]
  simp only [okSpan, Bool.and_eq_true, decide_eq_true_eq]
  omega
theorem spanned_any (hi : Int) (s : Int × Int) (w : World) :
    Calls Try.prog 81 #[.agg #[.int .i64 s.1, .int .i64 s.2], .int .i64 0, .int .i64 hi] w fun e w' => e = .returned (.bool (okSpan hi s)) ∧ Below w.heap.size w w' := by
  go_enter Try.func81, Try.ntmps81
  go_wp2_with (go_at_call 82; refine (rwithin_any _ _ _ _).mono ?_; rintro e w' ⟨rfl, rfl⟩)
  all_goals go_returns
  · exact ⟨ret_bool (sp_yes (by assumption)), by go_grown⟩
  · exact ⟨ret_bool (sp_no (by assumption)), by go_grown⟩

set_option maxHeartbeats 4000000 in
theorem rBreed_any (b : Br) (w : World) :
    Calls Try.prog 71 #[.agg #[.int .i64 b.full, .int .i64 b.fed, .int .i64 b.rest.1, .int .i64 b.rest.2, .int .i64 b.heat.1, .int .i64 b.heat.2, .int .i64 b.toil.1, .int .i64 b.toil.2, .int .i64 b.burn.1, .int .i64 b.burn.2, .int .i64 b.rub.1, .int .i64 b.rub.2, .int .i64 b.milk.1, .int .i64 b.milk.2, .int .i64 b.heal, .int .i64 b.strong.1, .int .i64 b.strong.2]] w fun e w' => e = .returned (.bool (refB b)) ∧ Below w.heap.size w w' := by
  go_enter Try.func71, Try.ntmps71
  go_wp2_with (first | (go_at_call 82; refine (rwithin_any _ _ _ _).mono ?_; rintro e w' ⟨rfl, rfl⟩) | (go_at_call 81; refine (spanned_any _ _ _).mono ?_; rintro e W ⟨rfl, hB⟩; obtain ⟨r, c, -, s⟩ := keep_row hB (g := w.heap.size) (by repeat (first | with_reducible assumption | with_reducible apply row_here0 | with_reducible apply row_here1 | with_reducible apply row_here2 | with_reducible apply row_here3 | with_reducible apply rowSkip)); have hw : Below w.heap.size w W := Below.trans (by go_grown) (hB.mono (by go_size)); clear hB))
  all_goals go_returns
  all_goals refine ⟨ret_bool ?_, by first | assumption | go_grown⟩
  all_goals try simp only [Bool.not_eq_true', Bool.not_eq_false', Bool.not_eq_true] at *
  all_goals simp [refB, *]

set_option maxHeartbeats 4000000 in
theorem rMarch_any (m : Mr) (w : World) :
    Calls Try.prog 72 #[.agg #[.int .i64 m.hours, .int .i64 m.load, .int .i64 m.heat.1, .int .i64 m.heat.2, .int .i64 m.grass.1, .int .i64 m.grass.2, .int .i64 m.drinks.1, .int .i64 m.drinks.2]] w fun e w' => e = .returned (.bool (okM m)) ∧ Below w.heap.size w w' := by
  go_enter Try.func72, Try.ntmps72
  go_wp2_with (first | (go_at_call 82; refine (rwithin_any _ _ _ _).mono ?_; rintro e w' ⟨rfl, rfl⟩) | (go_at_call 81; refine (spanned_any _ _ _).mono ?_; rintro e W ⟨rfl, hB⟩; obtain ⟨r, c, -, s⟩ := keep_row hB (g := w.heap.size) (by repeat (first | with_reducible assumption | with_reducible apply row_here0 | with_reducible apply row_here1 | with_reducible apply row_here2 | with_reducible apply row_here3 | with_reducible apply rowSkip)); have hw : Below w.heap.size w W := Below.trans (by go_grown) (hB.mono (by go_size)); clear hB))
  all_goals go_returns
  all_goals refine ⟨ret_bool ?_, by first | assumption | go_grown⟩
  all_goals try simp only [Bool.not_eq_true', Bool.not_eq_false', Bool.not_eq_true] at *
  all_goals simp [okM, *]
end Go.Proofs.Ytafdcbdbllpcnaa
