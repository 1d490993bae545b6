/- A day of an animal at work as a struct: stored, built and read in part. -/
import Derived.Test.YtafdcbdbllpcnaaLeafK
import Derived.Test.YtafdcbdbllpcnaaPart
import Derived.Test.YtafdcbdbllpcnaaSpec
namespace Go.Proofs.Ytafdcbdbllpcnaa
open Go.RowKit
open Go.Proofs

theorem exec126s : ∀ ρ dst x y ty pos after guard, execOp ρ { dst, op := .store 126 x y, type := ty, pos, after, guard } = wideStore 126 (ρ x) (ρ y) := execOp_wideStore 126
theorem info126 : (Try.prog.info? 126).map (·.size) = some 57 := by kernel_rfl
theorem store126 (g : Nat) (vs : Array Value) (w : World) : (wideStore 126 (.pointer (some ⟨g, 0, none⟩)) (.agg vs)).run Try.prog w = match rowOf w g with
      | some cs => if cs.size = 57 ∧ vs.size = 57 ∧ vs.all (·.oneCell') = true then .ok .skip (w.setRow g vs) else wideStoreElse Try.prog 126 g (.agg vs) w
      | none => wideStoreElse Try.prog 126 g (.agg vs) w := run_wideStore (P := Try.prog) 57 info126 g vs w
theorem exec45s : ∀ ρ dst x y ty pos after guard, execOp ρ { dst, op := .store 45 x y, type := ty, pos, after, guard } = wideStore 45 (ρ x) (ρ y) := execOp_wideStore 45
theorem info45 : (Try.prog.info? 45).map (·.size) = some 8 := by kernel_rfl
theorem store45 (g : Nat) (vs : Array Value) (w : World) : (wideStore 45 (.pointer (some ⟨g, 0, none⟩)) (.agg vs)).run Try.prog w = match rowOf w g with
      | some cs => if cs.size = 8 ∧ vs.size = 8 ∧ vs.all (·.oneCell') = true then .ok .skip (w.setRow g vs) else wideStoreElse Try.prog 45 g (.agg vs) w
      | none => wideStoreElse Try.prog 45 g (.agg vs) w := run_wideStore (P := Try.prog) 8 info45 g vs w
theorem build126 (x0 x1 x2 x3 x4 x5 x6 x7 y0 y1 y2 y3 y4 y5 y6 y7 y8 y9 y10 y11 y12 y13 y14 y15 y16 y17 y18 y19 y20 y21 y22 y23 z0 z1 z2 z3 z4 z5 z6 z7 z8 z9 z10 z11 z12 z13 z14 z15 z16 z17 z18 z19 z20 z21 z22 z23 : Value) (f : Int) (w : World) : (Instr.build 126 #[(0, .agg #[x0, x1, x2, x3, x4, x5, x6, x7]), (1, .agg #[y0, y1, y2, y3, y4, y5, y6, y7, y8, y9, y10, y11, y12, y13, y14, y15, y16, y17, y18, y19, y20, y21, y22, y23]), (2, .agg #[z0, z1, z2, z3, z4, z5, z6, z7, z8, z9, z10, z11, z12, z13, z14, z15, z16, z17, z18, z19, z20, z21, z22, z23]), (3, .int .u8 f)]).run Try.prog w = .ok (.agg #[x0, x1, x2, x3, x4, x5, x6, x7, y0, y1, y2, y3, y4, y5, y6, y7, y8, y9, y10, y11, y12, y13, y14, y15, y16, y17, y18, y19, y20, y21, y22, y23, z0, z1, z2, z3, z4, z5, z6, z7, z8, z9, z10, z11, z12, z13, z14, z15, z16, z17, z18, z19, z20, z21, z22, z23, .int .u8 f]) w := by kernel_rfl
theorem cut_mo (x0 x1 x2 x3 x4 x5 x6 x7 y0 y1 y2 y3 y4 y5 y6 y7 y8 y9 y10 y11 y12 y13 y14 y15 y16 y17 y18 y19 y20 y21 y22 y23 z0 z1 z2 z3 z4 z5 z6 z7 z8 z9 z10 z11 z12 z13 z14 z15 z16 z17 z18 z19 z20 z21 z22 z23 f : Value) : (#[x0, x1, x2, x3, x4, x5, x6, x7, y0, y1, y2, y3, y4, y5, y6, y7, y8, y9, y10, y11, y12, y13, y14, y15, y16, y17, y18, y19, y20, y21, y22, y23, z0, z1, z2, z3, z4, z5, z6, z7, z8, z9, z10, z11, z12, z13, z14, z15, z16, z17, z18, z19, z20, z21, z22, z23, f] : Array Value).extract 8 32 = #[y0, y1, y2, y3, y4, y5, y6, y7, y8, y9, y10, y11, y12, y13, y14, y15, y16, y17, y18, y19, y20, y21, y22, y23] := by kernel_rfl
theorem cut_ev (x0 x1 x2 x3 x4 x5 x6 x7 y0 y1 y2 y3 y4 y5 y6 y7 y8 y9 y10 y11 y12 y13 y14 y15 y16 y17 y18 y19 y20 y21 y22 y23 z0 z1 z2 z3 z4 z5 z6 z7 z8 z9 z10 z11 z12 z13 z14 z15 z16 z17 z18 z19 z20 z21 z22 z23 f : Value) : (#[x0, x1, x2, x3, x4, x5, x6, x7, y0, y1, y2, y3, y4, y5, y6, y7, y8, y9, y10, y11, y12, y13, y14, y15, y16, y17, y18, y19, y20, y21, y22, y23, z0, z1, z2, z3, z4, z5, z6, z7, z8, z9, z10, z11, z12, z13, z14, z15, z16, z17, z18, z19, z20, z21, z22, z23, f] : Array Value).extract 32 56 = #[z0, z1, z2, z3, z4, z5, z6, z7, z8, z9, z10, z11, z12, z13, z14, z15, z16, z17, z18, z19, z20, z21, z22, z23] := by kernel_rfl

noncomputable def load112Else (g off : Nat) (w : World) : Result Next := (wideLoad 112 (.pointer (some ⟨g, off, none⟩))).run Try.prog w
theorem load112at (g off : Nat) (w : World) : (wideLoad 112 (.pointer (some ⟨g, off, none⟩))).run Try.prog w = match rowOf w g with
      | some cs => if off + 24 ≤ cs.size then .ok (.value (.agg (cs.extract off (off + 24)))) w else load112Else g off w
      | none => load112Else g off w := by
  cases h : rowOf w g with
  | none => rfl
  | some cs =>
    obtain ⟨t, hg⟩ := rowOf_some h
    by_cases hs : off + 24 ≤ cs.size
    · show _ = if off + 24 ≤ cs.size then Result.ok (Next.value (.agg (cs.extract off (off + 24)))) w else _
      rw [if_pos hs]
      have hlen : (cs.extract off (off + 24)).toList.length = 24 := by simp; omega
      have hl : (loadCells ⟨g, off, none⟩ (cs.extract off (off + 24)).toList.length).run Try.prog w = .ok (cs.extract off (off + 24)).toList.toArray w :=
        run_loadCells_list (P := Try.prog) w ⟨g, off, none⟩ _ (fun j v hv => by
          have hadd : (⟨g, off, none⟩ : Addr).add j = ⟨g, off + j, none⟩ := by unfold Addr.add; split <;> simp_all
          rw [hadd, cell_of_row w g (off + j) cs t _ hg]
          rw [Array.getElem?_toList, Array.getElem?_extract] at hv
          split at hv
          · exact hv
          · cases hv)
      have hq := info112
      cases hq' : Try.prog.info? 112 with
      | none => simp [hq'] at hq
      | some i =>
        have hs2 : i.size = 24 := by simpa [hq'] using hq
        have hagg : (isAgg 112).run Try.prog w = .ok true w := by
          unfold isAgg
          rw [Sem.run_bind, run_underlying Try.underlying112 w]
          rfl
        rw [hlen] at hl
        simp [wideLoad, Instr.loadAt, Instr.sureAddr, loadVar, Sem.run_bind, hagg, sizeOf, typeInfo, hq', hs2, hl]
        apply Array.ext'
        simp [Array.toList_extract, List.extract_eq_take_drop]
    · show _ = if off + 24 ≤ cs.size then Result.ok (Next.value (.agg (cs.extract off (off + 24)))) w else _
      rw [if_neg hs]
      rfl

theorem row_here4 (w : World) (o0 o1 o2 o3 : Obj) (cs : Array Value) (t : TypeId) : rowOf (((((w.alloc o0).alloc o1).alloc o2).alloc o3).alloc (.cells cs t)) (w.heap.size + 1 + 1 + 1 + 1) = some cs := by rw [rowOf_alloc, if_pos (by simp)]
theorem row_here5 (w : World) (o0 o1 o2 o3 o4 : Obj) (cs : Array Value) (t : TypeId) : rowOf ((((((w.alloc o0).alloc o1).alloc o2).alloc o3).alloc o4).alloc (.cells cs t)) (w.heap.size + 1 + 1 + 1 + 1 + 1) = some cs := by rw [rowOf_alloc, if_pos (by simp)]
theorem row_here6 (w : World) (o0 o1 o2 o3 o4 o5 : Obj) (cs : Array Value) (t : TypeId) : rowOf (((((((w.alloc o0).alloc o1).alloc o2).alloc o3).alloc o4).alloc o5).alloc (.cells cs t)) (w.heap.size + 1 + 1 + 1 + 1 + 1 + 1) = some cs := by rw [rowOf_alloc, if_pos (by simp)]
theorem rowOf_setCell_if (w : World) (h off : Nat) (v : Value) (g : Nat) : rowOf (w.setCell ⟨h, off, none⟩ v) g = if g = h then (rowOf w h).map (·.setIfInBounds off v) else rowOf w g := by
  by_cases e : g = h
  · subst e
    rw [if_pos rfl]
    cases hr : rowOf w g with
    | some cs =>
      obtain ⟨t, hg⟩ := rowOf_some hr
      rw [setCell_eq_setRow w g off cs t (0, 0) v hg]
      exact (stored_setRow hr _).row
    | none =>
      unfold rowOf at hr ⊢
      simp only [World.setCell, Array.getElem?_modify, if_true]
      cases ho : w.heap[g]? with
      | none => rfl
      | some o =>
        rw [ho] at hr
        cases o with
        | cells cs t fr =>
          obtain ⟨f1, f2⟩ := fr
          simp only [Option.map_some]
          split at hr
          · simp at hr
          · rename_i hne
            split
            · rename_i heq
              simp at heq
              obtain ⟨-, -, rfl, rfl⟩ := heq
              exact absurd rfl (hne cs t)
            · rfl
        | _ => rfl
  · rw [if_neg e]
    unfold rowOf
    rw [heap_setCell_other w _ g v e]
theorem stored_cell {W : World} {g : Nat} {v0 : Value} (hr : rowOf W g = some #[v0]) (v : Value) : Stored g #[v] W (W.setCell ⟨g, 0, none⟩ v) := by
  obtain ⟨t, hg⟩ := rowOf_some hr
  rw [setCell_eq_setRow W g 0 #[v0] t (0, 0) v hg]
  exact stored_setRow hr _
theorem grown_setRow (w : World) (g : Nat) (cs : Array Value) : w.grownBy (w.setRow g cs) (some g) :=
  ⟨rfl, rfl, rfl, by simp [World.setRow], fun k _ h => setRow_other w g k cs (fun e => h (by rw [e]))⟩
theorem grown_setCell (w : World) (a : Addr) (v : Value) : w.grownBy (w.setCell a v) (some a.block) :=
  ⟨rfl, rfl, rfl, by simp [World.setCell], fun k _ h => heap_setCell_other w a k v (fun e => h (by rw [e]))⟩
theorem Ext.grown {a b : World} (h : Ext a b) (row : Option Nat) : a.grownBy b row := ⟨h.os, h.tape, h.output, h.size, fun k hk _ => h.block k hk⟩
theorem grown_trans {a b c : World} {r : Option Nat} (h : a.grownBy b r) (k : b.grownBy c r) : a.grownBy c r :=
  ⟨k.os.trans h.os, k.tape.trans h.tape, k.output.trans h.output, Nat.le_trans h.size k.size, fun i hi hn => (k.block i (Nat.lt_of_lt_of_le hi h.size) hn).trans (h.block i hi hn)⟩
theorem row_of_block {a b : World} {g : Nat} {cs : Array Value} (h : rowOf a g = some cs) (hb : b.heap[g]? = a.heap[g]?) : rowOf b g = some cs := by
  unfold rowOf at *; rw [hb]; exact h

theorem aftW_e (b : Br) (c : Cm) (m : Mr) : aftW b c m = #[.int .i64 (eB b c m).full, .int .i64 (eB b c m).fed, .int .i64 (eB b c m).rest.1, .int .i64 (eB b c m).rest.2, .int .i64 (eB b c m).heat.1, .int .i64 (eB b c m).heat.2, .int .i64 (eB b c m).toil.1, .int .i64 (eB b c m).toil.2, .int .i64 (eB b c m).burn.1, .int .i64 (eB b c m).burn.2, .int .i64 (eB b c m).rub.1, .int .i64 (eB b c m).rub.2, .int .i64 (eB b c m).milk.1, .int .i64 (eB b c m).milk.2, .int .i64 (eB b c m).heal, .int .i64 (eB b c m).strong.1, .int .i64 (eB b c m).strong.2, .int .i64 (eC b c m).water.1, .int .i64 (eC b c m).water.2, .int .i64 (eC b c m).fat.1, .int .i64 (eC b c m).fat.2, .int .i64 (eC b c m).sore.1, .int .i64 (eC b c m).sore.2, .bool (eC b c m).milks] := by
  cases h : diesS b c m <;> simp [aftW, eB, eC, h, zb, zc]
theorem after_e (b : Br) (c : Cm) (m : Mr) (b' : Br) (c' : Cm) (f : Int) (h1 : eB b c m = b') (h2 : eC b c m = c') (h3 : fateS b c m = f) (w : World) (hb : BdB b) (hc : BdC b c) (hm : BdM m) :
    Calls Try.prog 65 #[.agg #[.int .i64 b.full, .int .i64 b.fed, .int .i64 b.rest.1, .int .i64 b.rest.2, .int .i64 b.heat.1, .int .i64 b.heat.2, .int .i64 b.toil.1, .int .i64 b.toil.2, .int .i64 b.burn.1, .int .i64 b.burn.2, .int .i64 b.rub.1, .int .i64 b.rub.2, .int .i64 b.milk.1, .int .i64 b.milk.2, .int .i64 b.heal, .int .i64 b.strong.1, .int .i64 b.strong.2, .int .i64 c.water.1, .int .i64 c.water.2, .int .i64 c.fat.1, .int .i64 c.fat.2, .int .i64 c.sore.1, .int .i64 c.sore.2, .bool c.milks], .agg #[.int .i64 m.hours, .int .i64 m.load, .int .i64 m.heat.1, .int .i64 m.heat.2, .int .i64 m.grass.1, .int .i64 m.grass.2, .int .i64 m.drinks.1, .int .i64 m.drinks.2]] w fun e w' => e = .returned (.tuple #[.agg #[.int .i64 b'.full, .int .i64 b'.fed, .int .i64 b'.rest.1, .int .i64 b'.rest.2, .int .i64 b'.heat.1, .int .i64 b'.heat.2, .int .i64 b'.toil.1, .int .i64 b'.toil.2, .int .i64 b'.burn.1, .int .i64 b'.burn.2, .int .i64 b'.rub.1, .int .i64 b'.rub.2, .int .i64 b'.milk.1, .int .i64 b'.milk.2, .int .i64 b'.heal, .int .i64 b'.strong.1, .int .i64 b'.strong.2, .int .i64 c'.water.1, .int .i64 c'.water.2, .int .i64 c'.fat.1, .int .i64 c'.fat.2, .int .i64 c'.sore.1, .int .i64 c'.sore.2, .bool c'.milks], .int .u8 f]) ∧ Below w.heap.size w w' := by
  subst h1 h2 h3
  rw [← aftW_e]
  exact after_any b c m w hb hc hm
theorem row_grown {A A' : World} {g r : Nat} {cs : Array Value} (h : rowOf A g = some cs) (hg : A.grownBy A' (some r)) (hne : g ≠ r) : rowOf A' g = some cs :=
  row_of_block h (hg.block g (cell_of_rowOf h).2.2 (by simpa using hne))
theorem below_grown {B : Nat} {a A A' : World} {r : Nat} (h : Below B a A) (hg : A.grownBy A' (some r)) (hB : B ≤ A.heap.size) (hr : B ≤ r) : Below B a A' := h.grown hg hB (fun k e => by cases e; exact hr)
theorem owns_grown {A A' : World} {base e size n r : Nat} {v : Value} {xs : List Value} (h : A.ownsRow base e size v n xs) (hg : A.grownBy A' (some r)) (hr : r < base) : A'.ownsRow base e size v n xs := by
  refine h.kept hg ?_
  cases hv : v.ownBlock with
  | none => exact .inl (by
      rcases h.2 with ⟨rfl, _⟩ | ⟨g, cap, cur, rfl, _⟩
      · rfl
      · simp [Value.ownBlock] at hv)
  | some g => exact .inr (by have := (h.lt g hv).1; intro e; cases e; omega)
theorem row_grownO {A A' : World} {g : Nat} {row : Option Nat} {cs : Array Value} (h : rowOf A g = some cs) (hg : A.grownBy A' row) (hne : ∀ i, row = some i → g ≠ i) : rowOf A' g = some cs :=
  row_of_block h (hg.block g (cell_of_rowOf h).2.2 (fun e => hne g e.symm rfl))
theorem grown_drew (W : World) : W.grownBy W.drew none := ⟨rfl, rfl, rfl, Nat.le_refl _, fun _ _ _ => rfl⟩
theorem World.grownBy.trans' {a b c : World} {r : Option Nat} (h : a.grownBy b r) (k : b.grownBy c r) : a.grownBy c r := grown_trans h k
theorem XT.grown0 {a b : World} (h : XT [] a b) : a.grownBy b none := ⟨h.os, h.tape, h.output, h.size, fun k hk _ => h.block k hk (by simp)⟩
theorem XT.grown1 {a b : World} {g : Nat} {vs : Array Value} (h : XT [(g, vs)] a b) : a.grownBy b (some g) := ⟨h.os, h.tape, h.output, h.size, fun k hk hne => h.block k hk (fun p hp => by
  simp only [List.mem_singleton] at hp; subst hp; intro e; exact hne (by simp only at e; rw [e]))⟩
theorem owns_mono {A : World} {base base' e size n : Nat} {v : Value} {xs : List Value} (h : A.ownsRow base e size v n xs) (hb : base' ≤ base) : A.ownsRow base' e size v n xs := by
  obtain ⟨h1, h2⟩ := h
  refine ⟨h1, ?_⟩
  rcases h2 with h2 | ⟨g, cap, cur, q1, q2, q3⟩
  · exact .inl h2
  · exact .inr ⟨g, cap, cur, q1, Nat.le_trans hb q2, q3⟩
theorem owns_grown0 {A A' : World} {base e size n : Nat} {v : Value} {xs : List Value} (h : A.ownsRow base e size v n xs) (hg : A.grownBy A' none) : A'.ownsRow base e size v n xs := by
  refine h.kept hg ?_
  rcases h.2 with ⟨rfl, _⟩ | ⟨g, cap, cur, rfl, _⟩
  · exact .inl rfl
  · exact .inr (by simp [Value.ownBlock])

section
variable {P : Program}
theorem wp_store_one {o : Oper} {a : Act} {w : World} {K : Act → World → Prop} {Q : Exit → Act → World → Prop} (ty : TypeId) (x y : Operand) (ho : o.op = .store ty x y) {g : Nat} {v v0 : Value} (hx : a.eval x = .pointer (some ⟨g, 0, none⟩)) (hy : a.eval y = v)
    (hc : v.oneCell' = true ∧ v.cells = #[v]) (hr : rowOf w g = some #[v0]) (hi : (P.info? ty).map (·.size) = some 1) (hk : K (a.put o.dst undef) (w.setRow g #[v])) : o.wp P a w K Q := by
  obtain ⟨t, hg⟩ := rowOf_some hr
  obtain ⟨h1, hcs⟩ := hc
  have h2 := run_storeCells_part (P := P) g 0 t [v] 0 #[v0] w hg (by simp) (fun u hu => by simp at hu; subst hu; exact h1)
  have h3 : (storeVar ty ⟨g, 0, none⟩ v).run P w = .ok () (w.setRow g #[v]) := by
    cases hq : P.info? ty with
    | none => simp [hq] at hi
    | some i =>
      have hs : i.size = 1 := by simpa [hq] using hi
      simp [storeVar, sizeOf, typeInfo, hq, hcs, hs, h2, setMany]
  unfold Oper.wp execOp
  simp only [ho, hx, hy, Instr.storeAt, Instr.sureAddr, Sem.run_bind, Sem.run_pure, Result.andThen_ok, h3]
  exact hk
theorem wp_store_fin1 {Q : Exit → Act → World → Prop} {fin : List (Nat × Array Value)} {o : Oper} {a : Act} {W : World} {K : Act → World → Prop} (ty : TypeId) (x y : Operand) (ho : o.op = .store ty x y) (hd : o.dst = none) {g : Nat} {v : Value} (hx : a.eval x = .pointer (some ⟨g, 0, none⟩)) (hy : a.eval y = v)
    (hc : v.oneCell' = true ∧ v.cells = #[v]) (hr : ∃ cs, rowOf W g = some cs ∧ cs.size = 1) (hi : (P.info? ty).map (·.size) = some 1) (hm : (g, #[v]) ∈ fin) (hu : ∀ p ∈ fin, p.1 = g → p.2 = #[v])
    (hk : ∀ W', XT fin W W' → rowOf W' g = some #[v] → K a W') : o.wp P a W K Q := by
  obtain ⟨cs, hr, hs⟩ := hr
  obtain ⟨v0, rfl⟩ : ∃ v0, cs = #[v0] := by
    obtain ⟨l⟩ := cs
    match l, hs with
    | [v0], _ => exact ⟨v0, rfl⟩
  refine wp_store_one ty x y ho hx hy hc hr hi ?_
  rw [hd]
  exact hk _ (xt_setRow hr hm hu) (stored_setRow hr _).row
end

/-- A day of an animal at work, as cells. -/
def dayRow (b : Br) (c : Cm) (ms : List Mr) (k : Nat) : Array Value :=
  #[.int .i64 (mdS ms k).hours, .int .i64 (mdS ms k).load, .int .i64 (mdS ms k).heat.1, .int .i64 (mdS ms k).heat.2, .int .i64 (mdS ms k).grass.1, .int .i64 (mdS ms k).grass.2, .int .i64 (mdS ms k).drinks.1, .int .i64 (mdS ms k).drinks.2, .int .i64 b.full, .int .i64 b.fed, .int .i64 b.rest.1, .int .i64 b.rest.2, .int .i64 b.heat.1, .int .i64 b.heat.2, .int .i64 b.toil.1, .int .i64 b.toil.2, .int .i64 b.burn.1, .int .i64 b.burn.2, .int .i64 b.rub.1, .int .i64 b.rub.2, .int .i64 b.milk.1, .int .i64 b.milk.2, .int .i64 b.heal, .int .i64 b.strong.1, .int .i64 b.strong.2, .int .i64 (mornC b c ms k).water.1, .int .i64 (mornC b c ms k).water.2, .int .i64 (mornC b c ms k).fat.1, .int .i64 (mornC b c ms k).fat.2, .int .i64 (mornC b c ms k).sore.1, .int .i64 (mornC b c ms k).sore.2, .bool (mornC b c ms k).milks, .int .i64 (eB b (mornC b c ms k) (mdS ms k)).full, .int .i64 (eB b (mornC b c ms k) (mdS ms k)).fed, .int .i64 (eB b (mornC b c ms k) (mdS ms k)).rest.1, .int .i64 (eB b (mornC b c ms k) (mdS ms k)).rest.2, .int .i64 (eB b (mornC b c ms k) (mdS ms k)).heat.1, .int .i64 (eB b (mornC b c ms k) (mdS ms k)).heat.2, .int .i64 (eB b (mornC b c ms k) (mdS ms k)).toil.1, .int .i64 (eB b (mornC b c ms k) (mdS ms k)).toil.2, .int .i64 (eB b (mornC b c ms k) (mdS ms k)).burn.1, .int .i64 (eB b (mornC b c ms k) (mdS ms k)).burn.2, .int .i64 (eB b (mornC b c ms k) (mdS ms k)).rub.1, .int .i64 (eB b (mornC b c ms k) (mdS ms k)).rub.2, .int .i64 (eB b (mornC b c ms k) (mdS ms k)).milk.1, .int .i64 (eB b (mornC b c ms k) (mdS ms k)).milk.2, .int .i64 (eB b (mornC b c ms k) (mdS ms k)).heal, .int .i64 (eB b (mornC b c ms k) (mdS ms k)).strong.1, .int .i64 (eB b (mornC b c ms k) (mdS ms k)).strong.2, .int .i64 (eC b (mornC b c ms k) (mdS ms k)).water.1, .int .i64 (eC b (mornC b c ms k) (mdS ms k)).water.2, .int .i64 (eC b (mornC b c ms k) (mdS ms k)).fat.1, .int .i64 (eC b (mornC b c ms k) (mdS ms k)).fat.2, .int .i64 (eC b (mornC b c ms k) (mdS ms k)).sore.1, .int .i64 (eC b (mornC b c ms k) (mdS ms k)).sore.2, .bool (eC b (mornC b c ms k) (mdS ms k)).milks, .int .u8 (fatK b c ms k)]
theorem dayRow_size (b : Br) (c : Cm) (ms : List Mr) (k : Nat) : (dayRow b c ms k).size = 57 := rfl
theorem dayRow_one (b : Br) (c : Cm) (ms : List Mr) (k : Nat) : (dayRow b c ms k).all (·.oneCell') = true := by
  simp [dayRow, one_int, one_bool]
/-- An animal's cells; those of the evenings of the first n days. -/
def marCells (m : Mr) : List Value := [.int .i64 m.hours, .int .i64 m.load, .int .i64 m.heat.1, .int .i64 m.heat.2, .int .i64 m.grass.1, .int .i64 m.grass.2, .int .i64 m.drinks.1, .int .i64 m.drinks.2]
def camCells (c : Cm) : List Value := [.int .i64 c.water.1, .int .i64 c.water.2, .int .i64 c.fat.1, .int .i64 c.fat.2, .int .i64 c.sore.1, .int .i64 c.sore.2, .bool c.milks]
theorem camCells_one (c : Cm) : ∀ u ∈ camCells c, u.oneCell' = true := by
  intro u hu
  simp only [camCells, List.mem_cons, List.not_mem_nil, or_false] at hu
  rcases hu with rfl | rfl | rfl | rfl | rfl | rfl | rfl <;> rfl
theorem camCells_at {W : World} {g : Nat} {c : Cm} (h : rowOf W g = some #[.int .i64 c.water.1, .int .i64 c.water.2, .int .i64 c.fat.1, .int .i64 c.fat.2, .int .i64 c.sore.1, .int .i64 c.sore.2, .bool c.milks]) : ∀ j u, (camCells c)[j]? = some u → W.cell? ((⟨g, 0, none⟩ : Addr).add j) = some u := by
  intro j u hj
  have e : (⟨g, 0, none⟩ : Addr).add j = ⟨g, j, none⟩ := by unfold Addr.add; split <;> simp_all
  rw [e, (cell_of_rowOf h).1 j, ← hj]
  simp [camCells]
def evs (b : Br) (c : Cm) (ms : List Mr) (n : Nat) : List Value := (List.range n).flatMap fun k => camCells (mornC b c ms (k + 1))
theorem evs_succ (b : Br) (c : Cm) (ms : List Mr) (n : Nat) : evs b c ms (n + 1) = evs b c ms n ++ camCells (mornC b c ms (n + 1)) := by
  simp [evs, List.range_succ]
end Go.Proofs.Ytafdcbdbllpcnaa
