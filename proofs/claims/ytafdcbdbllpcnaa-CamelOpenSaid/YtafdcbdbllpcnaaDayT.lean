/- The struct of an animal: stored and built whole; results that hold one. -/
import Derived.Test.YtafdcbdbllpcnaaPart
import Derived.Test.YtafdcbdbllpcnaaBigT
import Derived.Test.YtafdcbdbllpcnaaSpec3
import Derived.Test.YtafdcbdbllpcnaaLeafK
namespace Go.Proofs.Ytafdcbdbllpcnaa
open Go.RowKit
open Go.Proofs

theorem exec39s : ∀ ρ dst x y ty pos after guard, execOp ρ { dst, op := .store 39 x y, type := ty, pos, after, guard } = wideStore 39 (ρ x) (ρ y) := execOp_wideStore 39
theorem info39 : (Try.prog.info? 39).map (·.size) = some 7 := by kernel_rfl
theorem store39 (g : Nat) (vs : Array Value) (w : World) : (wideStore 39 (.pointer (some ⟨g, 0, none⟩)) (.agg vs)).run Try.prog w = match rowOf w g with
      | some cs => if cs.size = 7 ∧ vs.size = 7 ∧ vs.all (·.oneCell') = true then .ok .skip (w.setRow g vs) else wideStoreElse Try.prog 39 g (.agg vs) w
      | none => wideStoreElse Try.prog 39 g (.agg vs) w := run_wideStore (P := Try.prog) 7 info39 g vs w
theorem exec39l : ∀ ρ dst x ty pos after guard, execOp ρ { dst, op := .load 39 x, type := ty, pos, after, guard } = wideLoad 39 (ρ x) := execOp_wideLoad 39
theorem load39 (g : Nat) (w : World) : (wideLoad 39 (.pointer (some ⟨g, 0, none⟩))).run Try.prog w = match rowOf w g with
      | some cs => if cs.size = 7 then .ok (.value (.agg cs)) w else wideLoadElse Try.prog 39 g w
      | none => wideLoadElse Try.prog 39 g w := run_wideLoad (P := Try.prog) 7 Try.underlying39 rfl info39 g w
theorem build39z (w : World) : (Instr.build 39 #[]).run Try.prog w = .ok (.agg #[.int .i64 0, .int .i64 0, .int .i64 0, .int .i64 0, .int .i64 0, .int .i64 0, .bool false]) w := by kernel_rfl
theorem build39_4 (a b c d e f : Value) (k : Bool) (w : World) : (Instr.build 39 #[(0, .agg #[a, b]), (1, .agg #[c, d]), (2, .agg #[e, f]), (3, .bool k)]).run Try.prog w = .ok (.agg #[a, b, c, d, e, f, .bool k]) w := by kernel_rfl
theorem build39_1 (k : Bool) (w : World) : (Instr.build 39 #[(3, .bool k)]).run Try.prog w = .ok (.agg #[.int .i64 0, .int .i64 0, .int .i64 0, .int .i64 0, .int .i64 0, .int .i64 0, .bool k]) w := by kernel_rfl
theorem res39 {fn : Func} {p : Tmp} (h : fn.results = #[.cell p 39]) {tmps : Array Value} {w : World} {g : Nat} (hp : tmps.getD p undef = .pointer (some ⟨g, 0, none⟩)) {cs : Array Value} (hg : rowOf w g = some cs) (hs : cs.size = 7) : (results fn tmps).run Try.prog w = .ok (.agg cs) w :=
  results_row h 7 Try.underlying39 rfl info39 hp hg hs
theorem results39_2 {fn : Func} {p q : Tmp} (h : fn.results = #[.cell p 39, .tmp q]) {tmps : Array Value} {w : World} {g : Nat} (hp : tmps.getD p undef = .pointer (some ⟨g, 0, none⟩)) {cs : Array Value} (hg : rowOf w g = some cs) (hs : cs.size = 7) {v : Value} (hq : tmps.getD q undef = v) :
    (results fn tmps).run Try.prog w = .ok (.tuple #[.agg cs, v]) w := by
  obtain ⟨t', hg'⟩ := rowOf_some hg
  have hp' : tmps[p]?.getD undef = .pointer (some ⟨g, 0, none⟩) := by simpa using hp
  have hq' : tmps[q]?.getD undef = v := by simpa using hq
  have hl := run_loadVar_row (P := Try.prog) w g t' 39 cs (0, 0) _ hg' Try.underlying39 rfl (by rw [hs]; exact info39)
  simp [results, h, hp', hq', asAddr, hl]
theorem results39_3 {fn : Func} {p q r : Tmp} (h : fn.results = #[.cell p 39, .tmp q, .tmp r]) {tmps : Array Value} {w : World} {g : Nat} (hp : tmps.getD p undef = .pointer (some ⟨g, 0, none⟩)) {cs : Array Value} (hg : rowOf w g = some cs) (hs : cs.size = 7) {v v' : Value} (hq : tmps.getD q undef = v) (hr : tmps.getD r undef = v') :
    (results fn tmps).run Try.prog w = .ok (.tuple #[.agg cs, v, v']) w := by
  obtain ⟨t', hg'⟩ := rowOf_some hg
  have hp' : tmps[p]?.getD undef = .pointer (some ⟨g, 0, none⟩) := by simpa using hp
  have hq' : tmps[q]?.getD undef = v := by simpa using hq
  have hr' : tmps[r]?.getD undef = v' := by simpa using hr
  have hl := run_loadVar_row (P := Try.prog) w g t' 39 cs (0, 0) _ hg' Try.underlying39 rfl (by rw [hs]; exact info39)
  simp [results, h, hp', hq', hr', asAddr, hl]
end Go.Proofs.Ytafdcbdbllpcnaa
/- A span stored into a part of a row. -/
namespace Go.Proofs.Ytafdcbdbllpcnaa
open Go.RowKit
open Go.Proofs

noncomputable def span31Else (g off : Nat) (x y : Value) (w : World) : Result Next := (wideStore 31 (.pointer (some ⟨g, off, none⟩)) (.agg #[x, y])).run Try.prog w
theorem store31at (g off : Nat) (x y : Value) (w : World) : (wideStore 31 (.pointer (some ⟨g, off, none⟩)) (.agg #[x, y])).run Try.prog w = match rowOf w g with
      | some cs => if off + 2 ≤ cs.size ∧ x.oneCell' = true ∧ y.oneCell' = true then .ok .skip (w.setRow g ((cs.setIfInBounds off x).setIfInBounds (off + 1) y)) else span31Else g off x y w
      | none => span31Else g off x y w := by
  cases h : rowOf w g with
  | none => rfl
  | some cs =>
    obtain ⟨t, hg⟩ := rowOf_some h
    by_cases hs : off + 2 ≤ cs.size ∧ x.oneCell' = true ∧ y.oneCell' = true
    · show _ = if off + 2 ≤ cs.size ∧ x.oneCell' = true ∧ y.oneCell' = true then Result.ok Next.skip (w.setRow g ((cs.setIfInBounds off x).setIfInBounds (off + 1) y)) else _
      rw [if_pos hs]
      obtain ⟨h1, h2, h3⟩ := hs
      have h4 := run_storeCells_part (P := Try.prog) g off t [x, y] 0 cs w hg (by simpa using h1) (by simp [h2, h3])
      have h5 : (storeVar 31 ⟨g, off, none⟩ (.agg #[x, y])).run Try.prog w = .ok () (w.setRow g (setMany [x, y] off cs)) := by
        have hq := info31
        cases hq' : Try.prog.info? 31 with
        | none => simp [hq'] at hq
        | some i =>
          have hs : 2 = i.size := by simp [hq'] at hq; omega
          simp [storeVar, sizeOf, typeInfo, hq', Value.cells, ← hs, h4]
      simp only [wideStore, Instr.storeAt, Instr.sureAddr, Sem.run_bind, Sem.run_pure, Result.andThen_ok, h5]
      rfl
    · show _ = if off + 2 ≤ cs.size ∧ x.oneCell' = true ∧ y.oneCell' = true then Result.ok Next.skip (w.setRow g ((cs.setIfInBounds off x).setIfInBounds (off + 1) y)) else _
      rw [if_neg hs]
      rfl
end Go.Proofs.Ytafdcbdbllpcnaa
/- How many days like one an animal lasts: plain. -/
namespace Go.Proofs.Ytafdcbdbllpcnaa

/-- From day i on, so many days left, with the first day that isn't sure. -/
def lastsGo (b : Br) (m : Mr) : Nat → Int → Cm → Int → Int × Int
  | 0, _, _, lo => (lo, 60)
  | n + 1, i, c, lo => if diesS b c m = true then (mn lo i, i) else lastsGo b m n (i + 1) (eveC b c m) (if openS b c m = true then mn lo i else lo)
theorem lastsGo_dies {b : Br} {m : Mr} {n : Nat} {i : Int} {c : Cm} {lo : Int} (h : diesS b c m = true) : lastsGo b m (n + 1) i c lo = (mn lo i, i) := by simp [lastsGo, h]
theorem lastsGo_open {b : Br} {m : Mr} {n : Nat} {i : Int} {c : Cm} {lo : Int} (h : diesS b c m = false) (h2 : openS b c m = true) : lastsGo b m (n + 1) i c lo = lastsGo b m n (i + 1) (eveC b c m) (mn lo i) := by simp [lastsGo, h, h2]
theorem lastsGo_lives {b : Br} {m : Mr} {n : Nat} {i : Int} {c : Cm} {lo : Int} (h : diesS b c m = false) (h2 : openS b c m = false) : lastsGo b m (n + 1) i c lo = lastsGo b m n (i + 1) (eveC b c m) lo := by simp [lastsGo, h, h2]
end Go.Proofs.Ytafdcbdbllpcnaa
/- The days of an animal, plain: what it is like in the morning of each, what a day yields. -/
namespace Go.Proofs.Ytafdcbdbllpcnaa

def zm : Mr := ⟨0, 0, (0, 0), (0, 0), (0, 0)⟩
def zb : Br := ⟨0, 0, (0, 0), (0, 0), (0, 0), (0, 0), (0, 0), (0, 0), 0, (0, 0)⟩
def mdS (ms : List Mr) (k : Nat) : Mr := ms[k]?.getD zm
/-- An animal in the morning of day k, had it lived till then. -/
def mornC (b : Br) (c : Cm) (ms : List Mr) : Nat → Cm
  | 0 => c
  | k + 1 => eveC b (mornC b c ms k) (mdS ms k)
def dieK (b : Br) (c : Cm) (ms : List Mr) (k : Nat) : Bool := diesS b (mornC b c ms k) (mdS ms k)
def opnK (b : Br) (c : Cm) (ms : List Mr) (k : Nat) : Bool := openS b (mornC b c ms k) (mdS ms k)
def fatK (b : Br) (c : Cm) (ms : List Mr) (k : Nat) : Int := fateS b (mornC b c ms k) (mdS ms k)
/-- In the evening: nothing, if it died. -/
def eB (b : Br) (c : Cm) (m : Mr) : Br := if diesS b c m = true then zb else b
def eC (b : Br) (c : Cm) (m : Mr) : Cm := if diesS b c m = true then zc false else eveC b c m
/-- The worst fate of the first n days. -/
def fatN (b : Br) (c : Cm) (ms : List Mr) (n : Nat) : Int := if (List.range n).any (opnK b c ms) = true then 1 else 0

theorem mdS_ok {ms : List Mr} (h : ms.all okM = true) {k : Nat} (hk : k < ms.length) : okM (mdS ms k) = true := by
  rw [List.all_eq_true] at h
  simp only [mdS, List.getElem?_eq_getElem hk, Option.getD_some]
  exact h _ (List.getElem_mem hk)
theorem mdS_get {ms : List Mr} {k : Nat} (hk : k < ms.length) : ms[k] = mdS ms k := by simp [mdS, hk]
theorem mornC_bd {b : Br} {c : Cm} {ms : List Mr} (hb : BdB b) (hc : BdC b c) (h : ms.all okM = true) : ∀ k, k ≤ ms.length → BdC b (mornC b c ms k)
  | 0, _ => hc
  | k + 1, hk => eve_bd hb (mornC_bd hb hc h k (by omega)) (okM_bd (mdS_ok h (by omega)))
theorem fatK_dies {b : Br} {c : Cm} {ms : List Mr} {k : Nat} (h : dieK b c ms k = true) : fatK b c ms k = 2 := by
  unfold dieK at h; simp [fatK, fateS, h]
theorem fatK_lives {b : Br} {c : Cm} {ms : List Mr} {k : Nat} (h : dieK b c ms k = false) : fatK b c ms k = if opnK b c ms k = true then 1 else 0 := by
  unfold dieK at h; unfold fatK fateS opnK; rw [if_neg (by simp [h])]
theorem fatN_succ {b : Br} {c : Cm} {ms : List Mr} {k : Nat} (h : dieK b c ms k = false) : mx (fatN b c ms k) (fatK b c ms k) = fatN b c ms (k + 1) := by
  rw [fatK_lives h]
  unfold fatN
  rw [List.range_succ, List.any_append]
  simp only [List.any_cons, List.any_nil, Bool.or_false, Bool.or_eq_true]
  cases h1 : (List.range k).any (opnK b c ms) <;> cases h2 : opnK b c ms k <;> simp [mx]
theorem fatN_01 (b : Br) (c : Cm) (ms : List Mr) (k : Nat) : fatN b c ms k = 0 ∨ fatN b c ms k = 1 := by unfold fatN; split <;> simp

theorem fate2 {b : Br} {c : Cm} {m : Mr} : fateS b c m = 2 ↔ diesS b c m = true := by
  unfold fateS
  constructor
  · intro h
    cases hd : diesS b c m with
    | true => rfl
    | false => rw [hd, if_neg (by simp)] at h; split at h <;> omega
  · intro h; rw [if_pos h]
/-- So many days were yielded, and there were no more; so many, and the caller wanted no more. -/
def SDay (b : Br) (c : Cm) (ms : List Mr) (k : Nat) : Prop := k ≤ ms.length ∧ (∀ j, j + 1 < k → dieK b c ms j = false) ∧ (k = ms.length ∨ (0 < k ∧ dieK b c ms (k - 1) = true))
def SpDay (b : Br) (c : Cm) (ms : List Mr) (k : Nat) : Prop := k ≤ ms.length ∧ (∀ j, j + 1 < k → dieK b c ms j = false)
end Go.Proofs.Ytafdcbdbllpcnaa
/- A day of an animal at work as a struct: stored, built and read in part. -/
namespace Go.Proofs.Ytafdcbdbllpcnaa
open Go.RowKit
open Go.Proofs

theorem exec126s : ∀ ρ dst x y ty pos after guard, execOp ρ { dst, op := .store 126 x y, type := ty, pos, after, guard } = wideStore 126 (ρ x) (ρ y) := execOp_wideStore 126
theorem info126 : (Try.prog.info? 126).map (·.size) = some 57 := by kernel_rfl
theorem store126 (g : Nat) (vs : Array Value) (w : World) : (wideStore 126 (.pointer (some ⟨g, 0, none⟩)) (.agg vs)).run Try.prog w = match rowOf w g with
      | some cs => if cs.size = 57 ∧ vs.size = 57 ∧ vs.all (·.oneCell') = true then .ok .skip (w.setRow g vs) else wideStoreElse Try.prog 126 g (.agg vs) w
      | none => wideStoreElse Try.prog 126 g (.agg vs) w := run_wideStore (P := Try.prog) 57 info126 g vs w
theorem exec45s : ∀ ρ dst x y ty pos after guard, execOp ρ { dst, op := .store 45 x y, type := ty, pos, after, guard } = wideStore 45 (ρ x) (ρ y) := execOp_wideStore 45
theorem info45 : (Try.prog.info? 45).map (·.size) = some 8 := by kernel_rfl
theorem store45 (g : Nat) (vs : Array Value) (w : World) : (wideStore 45 (.pointer (some ⟨g, 0, none⟩)) (.agg vs)).run Try.prog w = match rowOf w g with
      | some cs => if cs.size = 8 ∧ vs.size = 8 ∧ vs.all (·.oneCell') = true then .ok .skip (w.setRow g vs) else wideStoreElse Try.prog 45 g (.agg vs) w
      | none => wideStoreElse Try.prog 45 g (.agg vs) w := run_wideStore (P := Try.prog) 8 info45 g vs w
theorem build126 (x0 x1 x2 x3 x4 x5 x6 x7 y0 y1 y2 y3 y4 y5 y6 y7 y8 y9 y10 y11 y12 y13 y14 y15 y16 y17 y18 y19 y20 y21 y22 y23 z0 z1 z2 z3 z4 z5 z6 z7 z8 z9 z10 z11 z12 z13 z14 z15 z16 z17 z18 z19 z20 z21 z22 z23 : Value) (f : Int) (w : World) : (Instr.build 126 #[(0, .agg #[x0, x1, x2, x3, x4, x5, x6, x7]), (1, .agg #[y0, y1, y2, y3, y4, y5, y6, y7, y8, y9, y10, y11, y12, y13, y14, y15, y16, y17, y18, y19, y20, y21, y22, y23]), (2, .agg #[z0, z1, z2, z3, z4, z5, z6, z7, z8, z9, z10, z11, z12, z13, z14, z15, z16, z17, z18, z19, z20, z21, z22, z23]), (3, .int .u8 f)]).run Try.prog w = .ok (.agg #[x0, x1, x2, x3, x4, x5, x6, x7, y0, y1, y2, y3, y4, y5, y6, y7, y8, y9, y10, y11, y12, y13, y14, y15, y16, y17, y18, y19, y20, y21, y22, y23, z0, z1, z2, z3, z4, z5, z6, z7, z8, z9, z10, z11, z12, z13, z14, z15, z16, z17, z18, z19, z20, z21, z22, z23, .int .u8 f]) w := by kernel_rfl
theorem cut_mo (x0 x1 x2 x3 x4 x5 x6 x7 y0 y1 y2 y3 y4 y5 y6 y7 y8 y9 y10 y11 y12 y13 y14 y15 y16 y17 y18 y19 y20 y21 y22 y23 z0 z1 z2 z3 z4 z5 z6 z7 z8 z9 z10 z11 z12 z13 z14 z15 z16 z17 z18 z19 z20 z21 z22 z23 f : Value) : (#[x0, x1, x2, x3, x4, x5, x6, x7, y0, y1, y2, y3, y4, y5, y6, y7, y8, y9, y10, y11, y12, y13, y14, y15, y16, y17, y18, y19, y20, y21, y22, y23, z0, z1, z2, z3, z4, z5, z6, z7, z8, z9, z10, z11, z12, z13, z14, z15, z16, z17, z18, z19, z20, z21, z22, z23, f] : Array Value).extract 8 32 = #[y0, y1, y2, y3, y4, y5, y6, y7, y8, y9, y10, y11, y12, y13, y14, y15, y16, y17, y18, y19, y20, y21, y22, y23] := by kernel_rfl
theorem cut_ev (x0 x1 x2 x3 x4 x5 x6 x7 y0 y1 y2 y3 y4 y5 y6 y7 y8 y9 y10 y11 y12 y13 y14 y15 y16 y17 y18 y19 y20 y21 y22 y23 z0 z1 z2 z3 z4 z5 z6 z7 z8 z9 z10 z11 z12 z13 z14 z15 z16 z17 z18 z19 z20 z21 z22 z23 f : Value) : (#[x0, x1, x2, x3, x4, x5, x6, x7, y0, y1, y2, y3, y4, y5, y6, y7, y8, y9, y10, y11, y12, y13, y14, y15, y16, y17, y18, y19, y20, y21, y22, y23, z0, z1, z2, z3, z4, z5, z6, z7, z8, z9, z10, z11, z12, z13, z14, z15, z16, z17, z18, z19, z20, z21, z22, z23, f] : Array Value).extract 32 56 = #[z0, z1, z2, z3, z4, z5, z6, z7, z8, z9, z10, z11, z12, z13, z14, z15, z16, z17, z18, z19, z20, z21, z22, z23] := by kernel_rfl

noncomputable def load112Else (g off : Nat) (w : World) : Result Next := (wideLoad 112 (.pointer (some ⟨g, off, none⟩))).run Try.prog w
theorem load112at (g off : Nat) (w : World) : (wideLoad 112 (.pointer (some ⟨g, off, none⟩))).run Try.prog w = match rowOf w g with
      | some cs => if off + 24 ≤ cs.size then .ok (.value (.agg (cs.extract off (off + 24)))) w else load112Else g off w
      | none => load112Else g off w := by
  cases h : rowOf w g with
  | none => rfl
  | some cs =>
    obtain ⟨t, hg⟩ := rowOf_some h
    by_cases hs : off + 24 ≤ cs.size
    · show _ = if off + 24 ≤ cs.size then Result.ok (Next.value (.agg (cs.extract off (off + 24)))) w else _
      rw [if_pos hs]
      have hlen : (cs.extract off (off + 24)).toList.length = 24 := by simp; omega
      have hl : (loadCells ⟨g, off, none⟩ (cs.extract off (off + 24)).toList.length).run Try.prog w = .ok (cs.extract off (off + 24)).toList.toArray w :=
        run_loadCells_list (P := Try.prog) w ⟨g, off, none⟩ _ (fun j v hv => by
          have hadd : (⟨g, off, none⟩ : Addr).add j = ⟨g, off + j, none⟩ := by unfold Addr.add; split <;> simp_all
          rw [hadd, cell_of_row w g (off + j) cs t _ hg]
          rw [Array.getElem?_toList, Array.getElem?_extract] at hv
          split at hv
          · exact hv
          · cases hv)
      have hq := info112
      cases hq' : Try.prog.info? 112 with
      | none => simp [hq'] at hq
      | some i =>
        have hs2 : i.size = 24 := by simpa [hq'] using hq
        have hagg : (isAgg 112).run Try.prog w = .ok true w := by
          unfold isAgg
          rw [Sem.run_bind, run_underlying Try.underlying112 w]
          rfl
        rw [hlen] at hl
        simp [wideLoad, Instr.loadAt, Instr.sureAddr, loadVar, Sem.run_bind, hagg, sizeOf, typeInfo, hq', hs2, hl]
        apply Array.ext'
        simp [Array.toList_extract, List.extract_eq_take_drop]
    · show _ = if off + 24 ≤ cs.size then Result.ok (Next.value (.agg (cs.extract off (off + 24)))) w else _
      rw [if_neg hs]
      rfl

theorem row_here4 (w : World) (o0 o1 o2 o3 : Obj) (cs : Array Value) (t : TypeId) : rowOf (((((w.alloc o0).alloc o1).alloc o2).alloc o3).alloc (.cells cs t)) (w.heap.size + 1 + 1 + 1 + 1) = some cs := by rw [rowOf_alloc, if_pos (by simp)]
theorem row_here5 (w : World) (o0 o1 o2 o3 o4 : Obj) (cs : Array Value) (t : TypeId) : rowOf ((((((w.alloc o0).alloc o1).alloc o2).alloc o3).alloc o4).alloc (.cells cs t)) (w.heap.size + 1 + 1 + 1 + 1 + 1) = some cs := by rw [rowOf_alloc, if_pos (by simp)]
theorem row_here6 (w : World) (o0 o1 o2 o3 o4 o5 : Obj) (cs : Array Value) (t : TypeId) : rowOf (((((((w.alloc o0).alloc o1).alloc o2).alloc o3).alloc o4).alloc o5).alloc (.cells cs t)) (w.heap.size + 1 + 1 + 1 + 1 + 1 + 1) = some cs := by rw [rowOf_alloc, if_pos (by simp)]
theorem rowOf_setCell_if (w : World) (h off : Nat) (v : Value) (g : Nat) : rowOf (w.setCell ⟨h, off, none⟩ v) g = if g = h then (rowOf w h).map (·.setIfInBounds off v) else rowOf w g := by
  by_cases e : g = h
  · subst e
    rw [if_pos rfl]
    cases hr : rowOf w g with
    | some cs =>
      obtain ⟨t, hg⟩ := rowOf_some hr
      rw [setCell_eq_setRow w g off cs t (0, 0) v hg]
      exact (stored_setRow hr _).row
    | none =>
      unfold rowOf at hr ⊢
      simp only [World.setCell, Array.getElem?_modify, if_true]
      cases ho : w.heap[g]? with
      | none => rfl
      | some o =>
        rw [ho] at hr
        cases o with
        | cells cs t fr =>
          obtain ⟨f1, f2⟩ := fr
          simp only [Option.map_some]
          split at hr
          · simp at hr
          · rename_i hne
            split
            · rename_i heq
              simp at heq
              obtain ⟨-, -, rfl, rfl⟩ := heq
              exact absurd rfl (hne cs t)
            · rfl
        | _ => rfl
  · rw [if_neg e]
    unfold rowOf
    rw [heap_setCell_other w _ g v e]
theorem stored_cell {W : World} {g : Nat} {v0 : Value} (hr : rowOf W g = some #[v0]) (v : Value) : Stored g #[v] W (W.setCell ⟨g, 0, none⟩ v) := by
  obtain ⟨t, hg⟩ := rowOf_some hr
  rw [setCell_eq_setRow W g 0 #[v0] t (0, 0) v hg]
  exact stored_setRow hr _
theorem grown_setRow (w : World) (g : Nat) (cs : Array Value) : w.grownBy (w.setRow g cs) (some g) :=
  ⟨rfl, rfl, rfl, by simp [World.setRow], fun k _ h => setRow_other w g k cs (fun e => h (by rw [e]))⟩
theorem grown_setCell (w : World) (a : Addr) (v : Value) : w.grownBy (w.setCell a v) (some a.block) :=
  ⟨rfl, rfl, rfl, by simp [World.setCell], fun k _ h => heap_setCell_other w a k v (fun e => h (by rw [e]))⟩
theorem Ext.grown {a b : World} (h : Ext a b) (row : Option Nat) : a.grownBy b row := ⟨h.os, h.tape, h.output, h.size, fun k hk _ => h.block k hk⟩
theorem grown_trans {a b c : World} {r : Option Nat} (h : a.grownBy b r) (k : b.grownBy c r) : a.grownBy c r :=
  ⟨k.os.trans h.os, k.tape.trans h.tape, k.output.trans h.output, Nat.le_trans h.size k.size, fun i hi hn => (k.block i (Nat.lt_of_lt_of_le hi h.size) hn).trans (h.block i hi hn)⟩
theorem row_of_block {a b : World} {g : Nat} {cs : Array Value} (h : rowOf a g = some cs) (hb : b.heap[g]? = a.heap[g]?) : rowOf b g = some cs := by
  unfold rowOf at *; rw [hb]; exact h

theorem aftW_e (b : Br) (c : Cm) (m : Mr) : aftW b c m = #[.int .i64 (eB b c m).full, .int .i64 (eB b c m).fed, .int .i64 (eB b c m).rest.1, .int .i64 (eB b c m).rest.2, .int .i64 (eB b c m).heat.1, .int .i64 (eB b c m).heat.2, .int .i64 (eB b c m).toil.1, .int .i64 (eB b c m).toil.2, .int .i64 (eB b c m).burn.1, .int .i64 (eB b c m).burn.2, .int .i64 (eB b c m).rub.1, .int .i64 (eB b c m).rub.2, .int .i64 (eB b c m).milk.1, .int .i64 (eB b c m).milk.2, .int .i64 (eB b c m).heal, .int .i64 (eB b c m).strong.1, .int .i64 (eB b c m).strong.2, .int .i64 (eC b c m).water.1, .int .i64 (eC b c m).water.2, .int .i64 (eC b c m).fat.1, .int .i64 (eC b c m).fat.2, .int .i64 (eC b c m).sore.1, .int .i64 (eC b c m).sore.2, .bool (eC b c m).milks] := by
  cases h : diesS b c m <;> simp [aftW, eB, eC, h, zb, zc]
theorem after_e (b : Br) (c : Cm) (m : Mr) (b' : Br) (c' : Cm) (f : Int) (h1 : eB b c m = b') (h2 : eC b c m = c') (h3 : fateS b c m = f) (w : World) (hb : BdB b) (hc : BdC b c) (hm : BdM m) :
    Calls Try.prog 65 #[.agg #[.int .i64 b.full, .int .i64 b.fed, .int .i64 b.rest.1, .int .i64 b.rest.2, .int .i64 b.heat.1, .int .i64 b.heat.2, .int .i64 b.toil.1, .int .i64 b.toil.2, .int .i64 b.burn.1, .int .i64 b.burn.2, .int .i64 b.rub.1, .int .i64 b.rub.2, .int .i64 b.milk.1, .int .i64 b.milk.2, .int .i64 b.heal, .int .i64 b.strong.1, .int .i64 b.strong.2, .int .i64 c.water.1, .int .i64 c.water.2, .int .i64 c.fat.1, .int .i64 c.fat.2, .int .i64 c.sore.1, .int .i64 c.sore.2, .bool c.milks], .agg #[.int .i64 m.hours, .int .i64 m.load, .int .i64 m.heat.1, .int .i64 m.heat.2, .int .i64 m.grass.1, .int .i64 m.grass.2, .int .i64 m.drinks.1, .int .i64 m.drinks.2]] w fun e w' => e = .returned (.tuple #[.agg #[.int .i64 b'.full, .int .i64 b'.fed, .int .i64 b'.rest.1, .int .i64 b'.rest.2, .int .i64 b'.heat.1, .int .i64 b'.heat.2, .int .i64 b'.toil.1, .int .i64 b'.toil.2, .int .i64 b'.burn.1, .int .i64 b'.burn.2, .int .i64 b'.rub.1, .int .i64 b'.rub.2, .int .i64 b'.milk.1, .int .i64 b'.milk.2, .int .i64 b'.heal, .int .i64 b'.strong.1, .int .i64 b'.strong.2, .int .i64 c'.water.1, .int .i64 c'.water.2, .int .i64 c'.fat.1, .int .i64 c'.fat.2, .int .i64 c'.sore.1, .int .i64 c'.sore.2, .bool c'.milks], .int .u8 f]) ∧ Below w.heap.size w w' := by
  subst h1 h2 h3
  rw [← aftW_e]
  exact after_any b c m w hb hc hm
theorem row_grown {A A' : World} {g r : Nat} {cs : Array Value} (h : rowOf A g = some cs) (hg : A.grownBy A' (some r)) (hne : g ≠ r) : rowOf A' g = some cs :=
  row_of_block h (hg.block g (cell_of_rowOf h).2.2 (by simpa using hne))
theorem below_grown {B : Nat} {a A A' : World} {r : Nat} (h : Below B a A) (hg : A.grownBy A' (some r)) (hB : B ≤ A.heap.size) (hr : B ≤ r) : Below B a A' := h.grown hg hB (fun k e => by cases e; exact hr)
theorem owns_grown {A A' : World} {base e size n r : Nat} {v : Value} {xs : List Value} (h : A.ownsRow base e size v n xs) (hg : A.grownBy A' (some r)) (hr : r < base) : A'.ownsRow base e size v n xs := by
  refine h.kept hg ?_
  cases hv : v.ownBlock with
  | none => exact .inl (by
      rcases h.2 with ⟨rfl, _⟩ | ⟨g, cap, cur, rfl, _⟩
      · rfl
      · simp [Value.ownBlock] at hv)
  | some g => exact .inr (by have := (h.lt g hv).1; intro e; cases e; omega)
theorem row_grownO {A A' : World} {g : Nat} {row : Option Nat} {cs : Array Value} (h : rowOf A g = some cs) (hg : A.grownBy A' row) (hne : ∀ i, row = some i → g ≠ i) : rowOf A' g = some cs :=
  row_of_block h (hg.block g (cell_of_rowOf h).2.2 (fun e => hne g e.symm rfl))
theorem grown_drew (W : World) : W.grownBy W.drew none := ⟨rfl, rfl, rfl, Nat.le_refl _, fun _ _ _ => rfl⟩
theorem World.grownBy.trans' {a b c : World} {r : Option Nat} (h : a.grownBy b r) (k : b.grownBy c r) : a.grownBy c r := grown_trans h k
theorem XT.grown0 {a b : World} (h : XT [] a b) : a.grownBy b none := ⟨h.os, h.tape, h.output, h.size, fun k hk _ => h.block k hk (by simp)⟩
theorem XT.grown1 {a b : World} {g : Nat} {vs : Array Value} (h : XT [(g, vs)] a b) : a.grownBy b (some g) := ⟨h.os, h.tape, h.output, h.size, fun k hk hne => h.block k hk (fun p hp => by
  simp only [List.mem_singleton] at hp; subst hp; intro e; exact hne (by simp only at e; rw [e]))⟩
theorem owns_mono {A : World} {base base' e size n : Nat} {v : Value} {xs : List Value} (h : A.ownsRow base e size v n xs) (hb : base' ≤ base) : A.ownsRow base' e size v n xs := by
  obtain ⟨h1, h2⟩ := h
  refine ⟨h1, ?_⟩
  rcases h2 with h2 | ⟨g, cap, cur, q1, q2, q3⟩
  · exact .inl h2
  · exact .inr ⟨g, cap, cur, q1, Nat.le_trans hb q2, q3⟩
theorem owns_grown0 {A A' : World} {base e size n : Nat} {v : Value} {xs : List Value} (h : A.ownsRow base e size v n xs) (hg : A.grownBy A' none) : A'.ownsRow base e size v n xs := by
  refine h.kept hg ?_
  rcases h.2 with ⟨rfl, _⟩ | ⟨g, cap, cur, rfl, _⟩
  · exact .inl rfl
  · exact .inr (by simp [Value.ownBlock])

section
variable {P : Program}
theorem wp_store_one {o : Oper} {a : Act} {w : World} {K : Act → World → Prop} {Q : Exit → Act → World → Prop} (ty : TypeId) (x y : Operand) (ho : o.op = .store ty x y) {g : Nat} {v v0 : Value} (hx : a.eval x = .pointer (some ⟨g, 0, none⟩)) (hy : a.eval y = v)
    (hc : v.oneCell' = true ∧ v.cells = #[v]) (hr : rowOf w g = some #[v0]) (hi : (P.info? ty).map (·.size) = some 1) (hk : K (a.put o.dst undef) (w.setRow g #[v])) : o.wp P a w K Q := by
  obtain ⟨t, hg⟩ := rowOf_some hr
  obtain ⟨h1, hcs⟩ := hc
  have h2 := run_storeCells_part (P := P) g 0 t [v] 0 #[v0] w hg (by simp) (fun u hu => by simp at hu; subst hu; exact h1)
  have h3 : (storeVar ty ⟨g, 0, none⟩ v).run P w = .ok () (w.setRow g #[v]) := by
    cases hq : P.info? ty with
    | none => simp [hq] at hi
    | some i =>
      have hs : i.size = 1 := by simpa [hq] using hi
      simp [storeVar, sizeOf, typeInfo, hq, hcs, hs, h2, setMany]
  unfold Oper.wp execOp
  simp only [ho, hx, hy, Instr.storeAt, Instr.sureAddr, Sem.run_bind, Sem.run_pure, Result.andThen_ok, h3]
  exact hk
theorem wp_store_fin1 {Q : Exit → Act → World → Prop} {fin : List (Nat × Array Value)} {o : Oper} {a : Act} {W : World} {K : Act → World → Prop} (ty : TypeId) (x y : Operand) (ho : o.op = .store ty x y) (hd : o.dst = none) {g : Nat} {v : Value} (hx : a.eval x = .pointer (some ⟨g, 0, none⟩)) (hy : a.eval y = v)
    (hc : v.oneCell' = true ∧ v.cells = #[v]) (hr : ∃ cs, rowOf W g = some cs ∧ cs.size = 1) (hi : (P.info? ty).map (·.size) = some 1) (hm : (g, #[v]) ∈ fin) (hu : ∀ p ∈ fin, p.1 = g → p.2 = #[v])
    (hk : ∀ W', XT fin W W' → rowOf W' g = some #[v] → K a W') : o.wp P a W K Q := by
  obtain ⟨cs, hr, hs⟩ := hr
  obtain ⟨v0, rfl⟩ : ∃ v0, cs = #[v0] := by
    obtain ⟨l⟩ := cs
    match l, hs with
    | [v0], _ => exact ⟨v0, rfl⟩
  refine wp_store_one ty x y ho hx hy hc hr hi ?_
  rw [hd]
  exact hk _ (xt_setRow hr hm hu) (stored_setRow hr _).row
end

/-- A day of an animal at work, as cells. -/
def dayRow (b : Br) (c : Cm) (ms : List Mr) (k : Nat) : Array Value :=
  #[.int .i64 (mdS ms k).hours, .int .i64 (mdS ms k).load, .int .i64 (mdS ms k).heat.1, .int .i64 (mdS ms k).heat.2, .int .i64 (mdS ms k).grass.1, .int .i64 (mdS ms k).grass.2, .int .i64 (mdS ms k).drinks.1, .int .i64 (mdS ms k).drinks.2, .int .i64 b.full, .int .i64 b.fed, .int .i64 b.rest.1, .int .i64 b.rest.2, .int .i64 b.heat.1, .int .i64 b.heat.2, .int .i64 b.toil.1, .int .i64 b.toil.2, .int .i64 b.burn.1, .int .i64 b.burn.2, .int .i64 b.rub.1, .int .i64 b.rub.2, .int .i64 b.milk.1, .int .i64 b.milk.2, .int .i64 b.heal, .int .i64 b.strong.1, .int .i64 b.strong.2, .int .i64 (mornC b c ms k).water.1, .int .i64 (mornC b c ms k).water.2, .int .i64 (mornC b c ms k).fat.1, .int .i64 (mornC b c ms k).fat.2, .int .i64 (mornC b c ms k).sore.1, .int .i64 (mornC b c ms k).sore.2, .bool (mornC b c ms k).milks, .int .i64 (eB b (mornC b c ms k) (mdS ms k)).full, .int .i64 (eB b (mornC b c ms k) (mdS ms k)).fed, .int .i64 (eB b (mornC b c ms k) (mdS ms k)).rest.1, .int .i64 (eB b (mornC b c ms k) (mdS ms k)).rest.2, .int .i64 (eB b (mornC b c ms k) (mdS ms k)).heat.1, .int .i64 (eB b (mornC b c ms k) (mdS ms k)).heat.2, .int .i64 (eB b (mornC b c ms k) (mdS ms k)).toil.1, .int .i64 (eB b (mornC b c ms k) (mdS ms k)).toil.2, .int .i64 (eB b (mornC b c ms k) (mdS ms k)).burn.1, .int .i64 (eB b (mornC b c ms k) (mdS ms k)).burn.2, .int .i64 (eB b (mornC b c ms k) (mdS ms k)).rub.1, .int .i64 (eB b (mornC b c ms k) (mdS ms k)).rub.2, .int .i64 (eB b (mornC b c ms k) (mdS ms k)).milk.1, .int .i64 (eB b (mornC b c ms k) (mdS ms k)).milk.2, .int .i64 (eB b (mornC b c ms k) (mdS ms k)).heal, .int .i64 (eB b (mornC b c ms k) (mdS ms k)).strong.1, .int .i64 (eB b (mornC b c ms k) (mdS ms k)).strong.2, .int .i64 (eC b (mornC b c ms k) (mdS ms k)).water.1, .int .i64 (eC b (mornC b c ms k) (mdS ms k)).water.2, .int .i64 (eC b (mornC b c ms k) (mdS ms k)).fat.1, .int .i64 (eC b (mornC b c ms k) (mdS ms k)).fat.2, .int .i64 (eC b (mornC b c ms k) (mdS ms k)).sore.1, .int .i64 (eC b (mornC b c ms k) (mdS ms k)).sore.2, .bool (eC b (mornC b c ms k) (mdS ms k)).milks, .int .u8 (fatK b c ms k)]
theorem dayRow_size (b : Br) (c : Cm) (ms : List Mr) (k : Nat) : (dayRow b c ms k).size = 57 := rfl
theorem dayRow_one (b : Br) (c : Cm) (ms : List Mr) (k : Nat) : (dayRow b c ms k).all (·.oneCell') = true := by
  simp [dayRow, one_int, one_bool]
/-- An animal's cells; those of the evenings of the first n days. -/
def marCells (m : Mr) : List Value := [.int .i64 m.hours, .int .i64 m.load, .int .i64 m.heat.1, .int .i64 m.heat.2, .int .i64 m.grass.1, .int .i64 m.grass.2, .int .i64 m.drinks.1, .int .i64 m.drinks.2]
def camCells (c : Cm) : List Value := [.int .i64 c.water.1, .int .i64 c.water.2, .int .i64 c.fat.1, .int .i64 c.fat.2, .int .i64 c.sore.1, .int .i64 c.sore.2, .bool c.milks]
theorem camCells_one (c : Cm) : ∀ u ∈ camCells c, u.oneCell' = true := by
  intro u hu
  simp only [camCells, List.mem_cons, List.not_mem_nil, or_false] at hu
  rcases hu with rfl | rfl | rfl | rfl | rfl | rfl | rfl <;> rfl
theorem camCells_at {W : World} {g : Nat} {c : Cm} (h : rowOf W g = some #[.int .i64 c.water.1, .int .i64 c.water.2, .int .i64 c.fat.1, .int .i64 c.fat.2, .int .i64 c.sore.1, .int .i64 c.sore.2, .bool c.milks]) : ∀ j u, (camCells c)[j]? = some u → W.cell? ((⟨g, 0, none⟩ : Addr).add j) = some u := by
  intro j u hj
  have e : (⟨g, 0, none⟩ : Addr).add j = ⟨g, j, none⟩ := by unfold Addr.add; split <;> simp_all
  rw [e, (cell_of_rowOf h).1 j, ← hj]
  simp [camCells]
def evs (b : Br) (c : Cm) (ms : List Mr) (n : Nat) : List Value := (List.range n).flatMap fun k => camCells (mornC b c ms (k + 1))
theorem evs_succ (b : Br) (c : Cm) (ms : List Mr) (n : Nat) : evs b c ms (n + 1) = evs b c ms n ++ camCells (mornC b c ms (n + 1)) := by
  simp [evs, List.range_succ]
end Go.Proofs.Ytafdcbdbllpcnaa
