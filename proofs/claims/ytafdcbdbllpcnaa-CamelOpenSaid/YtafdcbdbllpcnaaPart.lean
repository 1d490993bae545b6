/- Contracts of package camel's clamped and refilled: what they return, for all spans within bounds. -/
import Derived.Test.YtafdcbdbllpcnaaLeafE
import Derived.Test.YtafdcbdbllpcnaaSpec3
import Derived.Test.YtafdcbdbllpcnaaDraws
namespace Go.Proofs.Ytafdcbdbllpcnaa
open Go.RowKit
open Go.Proofs

attribute [local go_sem ↓] exec36l exec112l exec36s exec112s exec31s run_min2 run_max2
attribute [local go_sem] load36 load112 store36 store112 store31 build112 rowOf_alloc rowOf_drew setRow_alloc one_int one_bool run_min4

theorem clamped_any (s : Int × Int) (most : Int) (w : World) :
    Calls Try.prog 89 #[.agg #[.int .i64 s.1, .int .i64 s.2], .int .i64 most] w fun e w' => e = .returned (.agg #[.int .i64 (cl most s).1, .int .i64 (cl most s).2]) ∧ Below w.heap.size w w' := by
  go_enter Try.func89, Try.ntmps89
  go_wp2
  go_returns
  exact ⟨rfl, by go_grown⟩
theorem ls_any (s t : Int × Int) (w : World) (h1 : -1000000000000000 ≤ s.1 - t.2) (h2 : s.1 - t.2 ≤ 1000000000000000) (h3 : -1000000000000000 ≤ s.2 - t.1) (h4 : s.2 - t.1 ≤ 1000000000000000) :
    Calls Try.prog 87 #[.agg #[.int .i64 s.1, .int .i64 s.2], .agg #[.int .i64 t.1, .int .i64 t.2]] w fun e w' => e = .returned (.agg #[.int .i64 (ls s t).1, .int .i64 (ls s t).2]) ∧ Below w.heap.size w w' :=
  less_any s.1 s.2 t.1 t.2 w h1 h2 h3 h4

set_option maxHeartbeats 1000000 in
theorem refilled_any (h k g : Int × Int) (most : Int) (w : World) (h1 : 0 ≤ h.1) (h2 : h.1 ≤ 1000000) (h3 : 0 ≤ h.2) (h4 : h.2 ≤ 1000000)
    (k1 : 0 ≤ k.1) (k2 : k.1 ≤ 100000000000000) (k3 : 0 ≤ k.2) (k4 : k.2 ≤ 100000000000000) (g1 : 0 ≤ g.1) (g2 : g.1 ≤ 1000000) (g3 : 0 ≤ g.2) (g4 : g.2 ≤ 1000000) (m1 : 0 ≤ most) (m2 : most ≤ 1000000) :
    Calls Try.prog 88 #[.agg #[.int .i64 h.1, .int .i64 h.2], .agg #[.int .i64 k.1, .int .i64 k.2], .agg #[.int .i64 g.1, .int .i64 g.2], .int .i64 most] w fun e w' => e = .returned (.agg #[.int .i64 (refS most h k g).1, .int .i64 (refS most h k g).2]) ∧ Below w.heap.size w w' := by
  obtain ⟨p1, p2, p3, p4⟩ := cl_bd (most := most) (s := ls h k) m1
  go_enter Try.func88, Try.ntmps88
  go_wp2_with fail
  have hW0 : Below w.heap.size w ((((w.alloc (.cells #[.int .i64 h.1, .int .i64 h.2] 31)).alloc (.cells #[.int .i64 k.1, .int .i64 k.2] 31)).alloc (.cells #[.int .i64 g.1, .int .i64 g.2] 31)).alloc (.cells #[.int .i64 0, .int .i64 0] 31)) := by go_grown
  have raW0 : rowOf ((((w.alloc (.cells #[.int .i64 h.1, .int .i64 h.2] 31)).alloc (.cells #[.int .i64 k.1, .int .i64 k.2] 31)).alloc (.cells #[.int .i64 g.1, .int .i64 g.2] 31)).alloc (.cells #[.int .i64 0, .int .i64 0] 31)) w.heap.size = some #[.int .i64 h.1, .int .i64 h.2] := (by repeat (first | with_reducible assumption | with_reducible apply row_here0 | with_reducible apply row_here1 | with_reducible apply row_here2 | with_reducible apply row_here3 | with_reducible apply rowSkip))
  have rbW0 : rowOf ((((w.alloc (.cells #[.int .i64 h.1, .int .i64 h.2] 31)).alloc (.cells #[.int .i64 k.1, .int .i64 k.2] 31)).alloc (.cells #[.int .i64 g.1, .int .i64 g.2] 31)).alloc (.cells #[.int .i64 0, .int .i64 0] 31)) (w.heap.size + 1) = some #[.int .i64 k.1, .int .i64 k.2] := (by repeat (first | with_reducible assumption | with_reducible apply row_here0 | with_reducible apply row_here1 | with_reducible apply row_here2 | with_reducible apply row_here3 | with_reducible apply rowSkip))
  have rcW0 : rowOf ((((w.alloc (.cells #[.int .i64 h.1, .int .i64 h.2] 31)).alloc (.cells #[.int .i64 k.1, .int .i64 k.2] 31)).alloc (.cells #[.int .i64 g.1, .int .i64 g.2] 31)).alloc (.cells #[.int .i64 0, .int .i64 0] 31)) (w.heap.size + 1 + 1) = some #[.int .i64 g.1, .int .i64 g.2] := (by repeat (first | with_reducible assumption | with_reducible apply row_here0 | with_reducible apply row_here1 | with_reducible apply row_here2 | with_reducible apply row_here3 | with_reducible apply rowSkip))
  have rdW0 : rowOf ((((w.alloc (.cells #[.int .i64 h.1, .int .i64 h.2] 31)).alloc (.cells #[.int .i64 k.1, .int .i64 k.2] 31)).alloc (.cells #[.int .i64 g.1, .int .i64 g.2] 31)).alloc (.cells #[.int .i64 0, .int .i64 0] 31)) (w.heap.size + 1 + 1 + 1) = some #[.int .i64 0, .int .i64 0] := (by repeat (first | with_reducible assumption | with_reducible apply row_here0 | with_reducible apply row_here1 | with_reducible apply row_here2 | with_reducible apply row_here3 | with_reducible apply rowSkip))
  generalize ((((w.alloc (.cells #[.int .i64 h.1, .int .i64 h.2] 31)).alloc (.cells #[.int .i64 k.1, .int .i64 k.2] 31)).alloc (.cells #[.int .i64 g.1, .int .i64 g.2] 31)).alloc (.cells #[.int .i64 0, .int .i64 0] 31)) = W0 at hW0 raW0 rbW0 rcW0 rdW0 ⊢
  refine wp_drawn_list (by kernel_rfl) [9, 10, 11, 12, 13, 14, 15, 16, 17, 18] (by kernel_rfl) rfl (fun ix v W => match ix with
    | 0 => v = .agg #[.int .i64 h.1, .int .i64 h.2]
    | 1 => v = .agg #[.int .i64 k.1, .int .i64 k.2]
    | 2 => v = .agg #[.int .i64 (ls h k).1, .int .i64 (ls h k).2]
    | 3 => v = .int .i64 most
    | 4 => v = .agg #[.int .i64 (cl most (ls h k)).1, .int .i64 (cl most (ls h k)).2]
    | 5 => v = .agg #[.int .i64 g.1, .int .i64 g.2]
    | 6 => SL v 2 #[.int .i64 (cl most (ls h k)).1, .int .i64 (cl most (ls h k)).2, .int .i64 g.1, .int .i64 g.2] W
    | 7 => v = .agg #[.int .i64 (ad (cl most (ls h k)) g).1, .int .i64 (ad (cl most (ls h k)) g).2]
    | 8 => v = .int .i64 most
    | 9 => v = .agg #[.int .i64 (refS most h k g).1, .int .i64 (refS most h k g).2]
    | _ => True) ⟨?_, ?_, ?_, ?_, ?_, ?_, ?_, ?_, ?_, ?_, ?_⟩
  · intro b' W hE hb hdep K hK
    have e4 : b'.tmps[4]?.getD undef = .pointer (some ⟨w.heap.size, 0, none⟩) := hb 4 (by decide)
    clear hdep hb
    obtain ⟨_, _, -, _⟩ := keep_row hE ((raW0 : rowOf _ _ = _))
    obtain ⟨_, _, -, _⟩ := keep_row hE ((rbW0 : rowOf _ _ = _))
    obtain ⟨_, _, -, _⟩ := keep_row hE ((rcW0 : rowOf _ _ = _))
    go_wp2
    exact hK _ _ (Ext.refl _) rfl
  · intro b' W hE hb hdep K hK
    have e5 : b'.tmps[5]?.getD undef = .pointer (some ⟨w.heap.size + 1, 0, none⟩) := hb 5 (by decide)
    clear hdep hb
    obtain ⟨_, _, -, _⟩ := keep_row hE ((raW0 : rowOf _ _ = _))
    obtain ⟨_, _, -, _⟩ := keep_row hE ((rbW0 : rowOf _ _ = _))
    obtain ⟨_, _, -, _⟩ := keep_row hE ((rcW0 : rowOf _ _ = _))
    go_wp2
    exact hK _ _ (Ext.refl _) rfl
  · intro b' W hE hb hdep K hK
    have e9 : b'.tmps[9]?.getD undef = .agg #[.int .i64 h.1, .int .i64 h.2] := pureR (hdep 0 9 (by kernel_rfl) rfl)
    have e10 : b'.tmps[10]?.getD undef = .agg #[.int .i64 k.1, .int .i64 k.2] := pureR (hdep 1 10 (by kernel_rfl) rfl)
    clear hdep hb
    go_wp2_with fail
    refine (ls_any h k _ (by omega) (by omega) (by omega) (by omega)).mono ?_
    rintro e W' ⟨rfl, hB⟩
    exact hK _ _ hB rfl
  · intro b' W hE hb hdep K hK
    have e3 : b'.tmps[3]?.getD undef = .int .i64 most := hb 3 (by decide)
    clear hdep hb
    go_wp2
    exact hK _ _ (Ext.refl _) rfl
  · intro b' W hE hb hdep K hK
    have e11 : b'.tmps[11]?.getD undef = .agg #[.int .i64 (ls h k).1, .int .i64 (ls h k).2] := pureR (hdep 2 11 (by kernel_rfl) rfl)
    have e12 : b'.tmps[12]?.getD undef = .int .i64 most := pureR (hdep 3 12 (by kernel_rfl) rfl)
    clear hdep hb
    go_wp2_with fail
    refine (clamped_any (ls h k) most _).mono ?_
    rintro e W' ⟨rfl, hB⟩
    exact hK _ _ hB rfl
  · intro b' W hE hb hdep K hK
    have e6 : b'.tmps[6]?.getD undef = .pointer (some ⟨w.heap.size + 1 + 1, 0, none⟩) := hb 6 (by decide)
    clear hdep hb
    obtain ⟨_, _, -, _⟩ := keep_row hE ((raW0 : rowOf _ _ = _))
    obtain ⟨_, _, -, _⟩ := keep_row hE ((rbW0 : rowOf _ _ = _))
    obtain ⟨_, _, -, _⟩ := keep_row hE ((rcW0 : rowOf _ _ = _))
    go_wp2
    exact hK _ _ (Ext.refl _) rfl
  · intro b' W hE hb hdep K hK
    have e13 : b'.tmps[13]?.getD undef = .agg #[.int .i64 (cl most (ls h k)).1, .int .i64 (cl most (ls h k)).2] := pureR (hdep 4 13 (by kernel_rfl) rfl)
    have e14 : b'.tmps[14]?.getD undef = .agg #[.int .i64 g.1, .int .i64 g.2] := pureR (hdep 5 14 (by kernel_rfl) rfl)
    clear hdep hb
    go_wp2
    exact hK _ _ (ext_alloc _ _) ⟨rfl, row_here0 _ _ _⟩
  · intro b' W hE hb hdep K hK
    have s15 : SL (b'.tmps[15]?.getD undef) 2 #[.int .i64 (cl most (ls h k)).1, .int .i64 (cl most (ls h k)).2, .int .i64 g.1, .int .i64 g.2] W := sliceR (hdep 6 15 (by kernel_rfl) rfl)
    have e15 := s15.eq
    have r15 := s15.row
    clear s15
    generalize blk (b'.tmps[15]?.getD undef) = g15 at e15 r15
    clear hdep hb
    go_wp2_with fail
    refine (ad2 (cl most (ls h k)) g _ _ _ r15 (by omega) (by omega) (by omega) (by omega) (by omega) (by omega) (by omega) (by omega)).mono ?_
    rintro e W' ⟨rfl, hB⟩
    exact hK _ _ hB rfl
  · intro b' W hE hb hdep K hK
    have e3 : b'.tmps[3]?.getD undef = .int .i64 most := hb 3 (by decide)
    clear hdep hb
    go_wp2
    exact hK _ _ (Ext.refl _) rfl
  · intro b' W hE hb hdep K hK
    have e16 : b'.tmps[16]?.getD undef = .agg #[.int .i64 (ad (cl most (ls h k)) g).1, .int .i64 (ad (cl most (ls h k)) g).2] := pureR (hdep 7 16 (by kernel_rfl) rfl)
    have e17 : b'.tmps[17]?.getD undef = .int .i64 most := pureR (hdep 8 17 (by kernel_rfl) rfl)
    clear hdep hb
    go_wp2_with fail
    refine (clamped_any (ad (cl most (ls h k)) g) most _).mono ?_
    rintro e W' ⟨rfl, hB⟩
    exact hK _ _ hB rfl
  intro f W hE hR
  have e9 : f 9 = .agg #[.int .i64 h.1, .int .i64 h.2] := pureR (hR 0 9 rfl)
  have e10 : f 10 = .agg #[.int .i64 k.1, .int .i64 k.2] := pureR (hR 1 10 rfl)
  have e11 : f 11 = .agg #[.int .i64 (ls h k).1, .int .i64 (ls h k).2] := pureR (hR 2 11 rfl)
  have e12 : f 12 = .int .i64 most := pureR (hR 3 12 rfl)
  have e13 : f 13 = .agg #[.int .i64 (cl most (ls h k)).1, .int .i64 (cl most (ls h k)).2] := pureR (hR 4 13 rfl)
  have e14 : f 14 = .agg #[.int .i64 g.1, .int .i64 g.2] := pureR (hR 5 14 rfl)
  have e16 : f 16 = .agg #[.int .i64 (ad (cl most (ls h k)) g).1, .int .i64 (ad (cl most (ls h k)) g).2] := pureR (hR 7 16 rfl)
  have e17 : f 17 = .int .i64 most := pureR (hR 8 17 rfl)
  have e18 : f 18 = .agg #[.int .i64 (refS most h k g).1, .int .i64 (refS most h k g).2] := pureR (hR 9 18 rfl)
  clear hR
  refine wpL_store_known rfl 31 (.tmp 8) (.tmp 18) rfl (vs := #[.int .i64 (refS most h k g).1, .int .i64 (refS most h k g).2]) (h := w.heap.size + 1 + 1 + 1) ((puts_eval (by decide) rfl).trans e18) (puts_other (by decide)) (hE.row ((rowOf_drew _ _).trans rdW0)) (by kernel_rfl) rfl (by simp [one_int, one_bool]) ?_
  intro W4 hS
  simp only [puts, Act.put, List.setIfInBounds_toArray, List.set_cons_succ, List.set_cons_zero, e9, e10, e11, e12, e13, e14, e16, e17, e18]
  have zE := hE.size
  simp only [World.size_alloc, World.size_drew] at zE
  obtain ⟨rhW4, chW4, ghW4, zhW4⟩ := row_facts hS.row
  have hW4 : Below w.heap.size w W4 := ((drew_ext hE).below (by have := hW0.size; go_grown) (by have := hW0.size; simp; try omega)).trans (hS.below _ (by omega))
  have zW4 := hW4.size
  clear hS hE zE
  go_wp2
  exact bodyPost_ret (res31 Try.results88 rfl rhW4 rfl) rfl ⟨rfl, hW4⟩
end Go.Proofs.Ytafdcbdbllpcnaa
/- A law for a store into a part of a row; a zero worker. Over every program. -/
namespace Go.Proofs.Ytafdcbdbllpcnaa
open Go.RowKit

/-- Cells put into a row, from a place on. -/
def setMany : List Value → Nat → Array Value → Array Value
  | [], _, cur => cur
  | v :: vs, k, cur => setMany vs (k + 1) (cur.setIfInBounds k v)

theorem setRow_same (w : World) (g : Nat) (cs : Array Value) (t : TypeId) (fr : Nat × Nat) (hg : w.heap[g]? = some (.cells cs t fr)) : w.setRow g cs = w := by
  have hlt : g < w.heap.size := (Array.getElem?_eq_some_iff.1 hg).1
  have hv : w.heap[g] = .cells cs t fr := (Array.getElem?_eq_some_iff.1 hg).2
  unfold World.setRow
  cases w with
  | mk heap tape drawn os output =>
    congr 1
    apply Array.ext
    · simp
    · intro k h1 h2
      simp only [Array.getElem_modify]
      split
      · rename_i hk; subst hk; simp at hv; simp [hv]
      · rfl
section
variable {P : Program}
theorem run_storeCells_part (g o : Nat) (t : TypeId) : ∀ (vs : List Value) (i : Nat) (cur : Array Value) (w : World), w.heap[g]? = some (.cells cur t (0, 0)) → o + i + vs.length ≤ cur.size → (∀ v ∈ vs, v.oneCell' = true) →
    (storeCells ⟨g, o, none⟩ vs i).run P w = .ok () (w.setRow g (setMany vs (o + i) cur))
  | [], i, cur, w, hg, _, _ => by
    simp only [storeCells, setMany, setRow_same w g cur t (0, 0) hg]
    rfl
  | v :: rest, i, cur, w, hg, hl, h1 => by
    have hi : o + i < cur.size := by simp at hl; omega
    have hadd : (⟨g, o, none⟩ : Addr).add i = ⟨g, o + i, none⟩ := by unfold Addr.add; split <;> simp_all
    have hcell : w.cell? ⟨g, o + i, none⟩ = some cur[o + i] := by simp [World.cell?, hg, hi]
    have hfro : w.frozen? ⟨g, o + i, none⟩ = false := by simp [World.frozen?, hg]
    have hst : (store ((⟨g, o, none⟩ : Addr).add i) v).run P w = .ok () (w.setRow g (cur.setIfInBounds (o + i) v)) := by
      rw [hadd, run_store P w _ v _ (h1 v (by simp)), hcell]
      simp [hfro, setCell_eq_setRow w g (o + i) cur t (0, 0) v hg]
    have ih := run_storeCells_part g o t rest (i + 1) (cur.setIfInBounds (o + i) v) (w.setRow g (cur.setIfInBounds (o + i) v)) (setRow_heap w g cur _ t _ hg) (by simp at hl ⊢; omega) (fun x hx => h1 x (by simp [hx]))
    simp only [storeCells, Sem.run_bind, hst, Result.andThen_ok, ih, setRow_setRow, setMany]
    rw [Nat.add_assoc]
theorem wp_store_part {o : Oper} {a : Act} {w : World} {K : Act → World → Prop} {Q : Exit → Act → World → Prop} (ty : TypeId) (x y : Operand) (ho : o.op = .store ty x y) {g off : Nat} {cs vs : Array Value} (hx : a.eval x = .pointer (some ⟨g, off, none⟩)) (hy : a.eval y = .agg vs)
    (hr : rowOf w g = some cs) (hi : (P.info? ty).map (·.size) = some vs.size) (hs : off + vs.size ≤ cs.size) (h1 : vs.all (·.oneCell') = true)
    (hk : ∀ W', Stored g (setMany vs.toList off cs) w W' → K (a.put o.dst undef) W') : o.wp P a w K Q := by
  obtain ⟨t, hg⟩ := rowOf_some hr
  have h2 := run_storeCells_part (P := P) g off t vs.toList 0 cs w hg (by simpa using hs) (fun v hv => (Array.all_eq_true_iff_forall_mem.1 h1) v (by simpa using hv))
  have h3 : (storeVar ty ⟨g, off, none⟩ (.agg vs)).run P w = .ok () (w.setRow g (setMany vs.toList off cs)) := by
    cases hq : P.info? ty with
    | none => simp [hq] at hi
    | some i =>
      have hs : vs.size = i.size := by simp [hq] at hi; omega
      simp [storeVar, sizeOf, typeInfo, hq, Value.cells, hs, h2]
  unfold Oper.wp execOp
  simp only [ho, hx, hy, Instr.storeAt, Instr.sureAddr, Sem.run_bind, Sem.run_pure, Result.andThen_ok, h3]
  exact hk _ (stored_setRow hr _)
theorem wpL_store_part {ops : Array Oper} {Q : Exit → Act → World → Prop} {o : Oper} {rest : List Oper} {a : Act} {W : World} (hg : o.guard = none) (ty : TypeId) (x y : Operand) (ho : o.op = .store ty x y) {cs vs : Array Value} {h off : Nat} (hy : a.eval y = .agg vs)
    (hx : a.eval x = .pointer (some ⟨h, off, none⟩)) (hr : rowOf W h = some cs) (hi : (P.info? ty).map (·.size) = some vs.size) (hs : off + vs.size ≤ cs.size) (h1 : vs.all (·.oneCell') = true)
    (hk : ∀ W', Stored h (setMany vs.toList off cs) W W' → wpList P ops Q rest (a.put o.dst undef) W') : wpList P ops Q (o :: rest) a W :=
  wpList_plain hg fun _ hK => wp_store_part ty x y ho hx hy hr hi hs h1 (fun W' hS => hK _ _ (hk W' hS))
theorem pointX {fin : List (Nat × Array Value)} {W : World} {v : Value} {row : Array Value} {base : Nat} (hf : ∀ p ∈ fin, p.1 < base) (h : ∃ Wj, XT fin Wj W ∧ PT v row base Wj) : PT v row base W := let ⟨_, e, h⟩ := h; ⟨h.1, e.row h.2 (fun p hp => by have := hf p hp; have := h.3; omega), h.3⟩
end
end Go.Proofs.Ytafdcbdbllpcnaa
