/- A relation of worlds over which several new blocks, of several rows, are stored into. Over every program. -/
import Derived.Test.YtafdcbdbllpcnaaLate
import Derived.Test.YtafdcbdbllpcnaaRefQ
import Derived.Test.YtafdcbdbllpcnaaRefA
import Derived.Test.YtafdcbdbllpcnaaLeafL
import Derived.Test.YtafdcbdbllpcnaaNarrS
set_option linter.unusedVariables false
set_option linter.unusedSimpArgs false
namespace Go.Proofs.Ytafdcbdbllpcnaa
open Go.RowKit

/-- W' is W with more memory; a block from B on whose row is the first of a pair may have got the second. -/
structure XL (B : Nat) (L : List (Array Value × Array Value)) (W W' : World) : Prop where
  os : W'.os = W.os
  tape : W'.tape = W.tape
  output : W'.output = W.output
  size : W.heap.size ≤ W'.heap.size
  block : ∀ k, k < W.heap.size → (k < B ∨ ∀ p ∈ L, rowOf W k ≠ some p.1) → W'.heap[k]? = W.heap[k]?
  fresh : ∀ k p, p ∈ L → rowOf W k = some p.1 → rowOf W' k = some p.1 ∨ rowOf W' k = some p.2
/-- The pairs don't meet. -/
def LX (L : List (Array Value × Array Value)) : Prop := ∀ p ∈ L, ∀ q ∈ L, (q.1 = p.1 → q = p) ∧ (q.1 = p.2 → q.2 = p.2)
section
variable {B : Nat} {L : List (Array Value × Array Value)} {p : Array Value × Array Value}
theorem XL.refl (W : World) : XL B L W W := ⟨rfl, rfl, rfl, Nat.le_refl _, fun _ _ _ => rfl, fun _ _ _ h => .inl h⟩
theorem XL.last (hL : LX L) (hp : p ∈ L) {b c : World} (q : XL B L b c) {k : Nat} (h : rowOf b k = some p.2) : rowOf c k = some p.2 := by
  by_cases e : ∃ q ∈ L, q.1 = p.2
  · obtain ⟨s, hs, e⟩ := e
    rcases q.fresh k s hs (by rw [h, e]) with h1 | h1
    · rw [h1, e]
    · rw [h1, (hL p hp s hs).2 e]
  · rw [rowOf_heap (q.block k (XN.lt h) (.inr fun s hs he => e ⟨s, hs, by rw [h] at he; exact (Option.some.inj he).symm⟩))]; exact h
theorem XL.trans (hL : LX L) {a b c : World} (p : XL B L a b) (q : XL B L b c) : XL B L a c := by
  refine ⟨q.os.trans p.os, q.tape.trans p.tape, q.output.trans p.output, Nat.le_trans p.size q.size, fun k hk h => ?_, fun k s hs h => ?_⟩
  · have h1 := p.block k hk h
    rw [← h1]
    refine q.block k (Nat.lt_of_lt_of_le hk p.size) ?_
    rcases h with h | h
    · exact .inl h
    · exact .inr (by rw [rowOf_heap h1]; exact h)
  · rcases p.fresh k s hs h with h1 | h1
    · exact q.fresh k s hs h1
    · exact .inr (q.last hL hs h1)
theorem Ext.xl {W W' : World} (h : Ext W W') : XL B L W W' := ⟨h.os, h.tape, h.output, h.size, fun k hk _ => h.block k hk, fun k _ _ e => .inl (keep_row h e).1⟩
theorem XL.row {W W' : World} (h : XL B L W W') {g : Nat} {cs : Array Value} (hr : rowOf W g = some cs) (hg : g < B) : rowOf W' g = some cs := by
  rw [rowOf_heap (h.block g (XN.lt hr) (.inl hg))]; exact hr
theorem XL.below {B0 : Nat} {w W W' : World} (h : XL B L W W') (hw : Below B0 w W) (hB : B0 ≤ W.heap.size) (hf : B0 ≤ B) : Below B0 w W' :=
  hw.trans ⟨h.os, h.tape, h.output, h.size, fun k hk => h.block k (by omega) (.inl (by omega))⟩
theorem xl_setRow (hL : LX L) (hp : p ∈ L) {W : World} {g : Nat} (hr : rowOf W g = some p.1) (hg : B ≤ g) : XL B L W (W.setRow g p.2) := by
  have hS := stored_setRow hr p.2
  refine ⟨rfl, rfl, rfl, by simp, fun k _ hk => ?_, fun k s hs h => ?_⟩
  · refine setRow_other W g k p.2 ?_
    rintro rfl
    rcases hk with hk | hk
    · omega
    · exact hk p hp hr
  · by_cases e : k = g
    · subst e
      rw [hr] at h
      obtain rfl := (hL p hp s hs).1 (Option.some.inj h).symm
      exact .inr hS.row
    · exact .inl ((hS.other k e).trans h)
theorem xl_setRow_same {W : World} {g : Nat} {r : Array Value} (hr : rowOf W g = some r) : XL B L W (W.setRow g r) := by
  obtain ⟨t, hg⟩ := rowOf_some hr
  rw [setRow_same W g r t (0, 0) hg]
  exact XL.refl _
/-- A pointer to a new block, before the store or behind it. -/
structure NL (B : Nat) (p : Array Value × Array Value) (v : Value) (W : World) : Prop where
  eq : v = .pointer (some ⟨blk v, 0, none⟩)
  base : B ≤ blk v
  row : rowOf W (blk v) = some p.1 ∨ rowOf W (blk v) = some p.2
theorem nlR (hL : LX L) (hp : p ∈ L) {v : Value} {W : World} (h : ∃ Wj, XL B L Wj W ∧ NL B p v Wj) : NL B p v W := let ⟨_, e, h⟩ := h; ⟨h.1, h.2, h.3.elim (fun k => e.fresh _ _ hp k) fun k => .inr (e.last hL hp k)⟩
theorem sbL (hL : LX L) (hp : p ∈ L) {v : Value} {W : World} (h : ∃ Wj, XL B L Wj W ∧ SB p.2 v Wj) : SB p.2 v W := let ⟨_, e, h⟩ := h; ⟨h.1, e.last hL hp h.2⟩
theorem pureL {W : World} {q : Prop} (h : ∃ Wj, XL B L Wj W ∧ q) : q := let ⟨_, _, h⟩ := h; h
theorem wp_store_nl (hL : LX L) (hp : p ∈ L) {P : Program} {Q : Exit → Act → World → Prop} {o : Oper} {a : Act} {W : World} {K : Act → World → Prop} (ty : TypeId) (x : Tmp) (y : Operand) (ho : o.op = .store ty (.tmp x) y) (hd : o.dst = none) (hn : NL B p (a.tmps[x]?.getD undef) W) (hy : a.eval y = .agg p.2)
    (hi : (P.info? ty).map (·.size) = some p.2.size) (hz : p.1.size = p.2.size) (h1 : p.2.all (·.oneCell') = true)
    (hk : ∀ W', XL B L W W' → SB p.2 (a.tmps[x]?.getD undef) W' → K a W') : o.wp P a W K Q := by
  obtain ⟨e, hb, hr⟩ := hn
  have hx : a.eval (.tmp x) = .pointer (some ⟨blk (a.tmps[x]?.getD undef), 0, none⟩) := (eval_tmp a x).trans e
  rcases hr with hr | hr
  · obtain ⟨t, hg⟩ := rowOf_some hr
    refine wp_store_row ty (.tmp x) y ho _ p.2 hx hy t p.1 hg hi hz h1 ?_
    rw [hd]
    exact hk _ (xl_setRow hL hp hr hb) ⟨e, (stored_setRow hr p.2).row⟩
  · obtain ⟨t, hg⟩ := rowOf_some hr
    refine wp_store_row ty (.tmp x) y ho _ p.2 hx hy t p.2 hg hi rfl h1 ?_
    rw [hd]
    exact hk _ (xl_setRow_same hr) ⟨e, (stored_setRow hr p.2).row⟩
end
end Go.Proofs.Ytafdcbdbllpcnaa
/- The thirteen spans that are chosen one after the other: breed, animal and day after some of them; where each lies. -/
namespace Go.Proofs.Ytafdcbdbllpcnaa
open Go.RowKit
open Go.Proofs

def pk (xs : List Int) (k j : Nat) (s : Int × Int) : Int × Int := if j < k then prt xs (2 * j) s else s
def bK (xs : List Int) (b : Br) (k : Nat) : Br := ⟨b.full, b.fed, pk xs k 0 b.rest, pk xs k 1 b.heat, pk xs k 2 b.toil, pk xs k 3 b.burn, pk xs k 4 b.rub, pk xs k 5 b.milk, b.heal, pk xs k 6 b.strong⟩
def cK (xs : List Int) (c : Cm) (k : Nat) : Cm := ⟨pk xs k 7 c.water, pk xs k 8 c.fat, pk xs k 9 c.sore, c.milks⟩
def mK (xs : List Int) (m : Mr) (k : Nat) : Mr := ⟨m.hours, m.load, pk xs k 10 m.heat, pk xs k 11 m.grass, pk xs k 12 m.drinks⟩
theorem bK_13 (xs : List Int) (b : Br) : bK xs b 13 = nB xs b := rfl
theorem cK_13 (xs : List Int) (c : Cm) : cK xs c 13 = nC xs c := rfl
theorem mK_13 (xs : List Int) (m : Mr) : mK xs m 13 = nM xs m := rfl
theorem bK_0 (xs : List Int) (b : Br) : bK xs b 0 = b := rfl
theorem cK_0 (xs : List Int) (c : Cm) : cK xs c 0 = c := rfl
theorem mK_0 (xs : List Int) (m : Mr) : mK xs m 0 = m := rfl
/-- Where each of them lies. -/
def ptrs (gd ga gn : Nat) : Array Value := #[.pointer (some ⟨gd, 2, none⟩), .pointer (some ⟨gd, 4, none⟩), .pointer (some ⟨gd, 6, none⟩), .pointer (some ⟨gd, 8, none⟩), .pointer (some ⟨gd, 10, none⟩), .pointer (some ⟨gd, 12, none⟩), .pointer (some ⟨gd, 15, none⟩), .pointer (some ⟨ga, 0, none⟩), .pointer (some ⟨ga, 2, none⟩), .pointer (some ⟨ga, 4, none⟩), .pointer (some ⟨gn, 2, none⟩), .pointer (some ⟨gn, 4, none⟩), .pointer (some ⟨gn, 6, none⟩)]
structure NSt (xs : List Int) (b : Br) (c : Cm) (m : Mr) (gd ga gn k : Nat) (W : World) : Prop where
  rd : rowOf W gd = some #[.int .i64 (bK xs b k).full, .int .i64 (bK xs b k).fed, .int .i64 (bK xs b k).rest.1, .int .i64 (bK xs b k).rest.2, .int .i64 (bK xs b k).heat.1, .int .i64 (bK xs b k).heat.2, .int .i64 (bK xs b k).toil.1, .int .i64 (bK xs b k).toil.2, .int .i64 (bK xs b k).burn.1, .int .i64 (bK xs b k).burn.2, .int .i64 (bK xs b k).rub.1, .int .i64 (bK xs b k).rub.2, .int .i64 (bK xs b k).milk.1, .int .i64 (bK xs b k).milk.2, .int .i64 (bK xs b k).heal, .int .i64 (bK xs b k).strong.1, .int .i64 (bK xs b k).strong.2]
  ra : rowOf W ga = some #[.int .i64 (cK xs c k).water.1, .int .i64 (cK xs c k).water.2, .int .i64 (cK xs c k).fat.1, .int .i64 (cK xs c k).fat.2, .int .i64 (cK xs c k).sore.1, .int .i64 (cK xs c k).sore.2, .bool (cK xs c k).milks]
  rn : rowOf W gn = some #[.int .i64 (mK xs m k).hours, .int .i64 (mK xs m k).load, .int .i64 (mK xs m k).heat.1, .int .i64 (mK xs m k).heat.2, .int .i64 (mK xs m k).grass.1, .int .i64 (mK xs m k).grass.2, .int .i64 (mK xs m k).drinks.1, .int .i64 (mK xs m k).drinks.2]
theorem NSt.ext {xs : List Int} {b : Br} {c : Cm} {m : Mr} {gd ga gn k : Nat} {W W' : World} (h : NSt xs b c m gd ga gn k W) (hE : Ext W W') : NSt xs b c m gd ga gn k W' := ⟨hE.row h.rd, hE.row h.ra, hE.row h.rn⟩
theorem tgt {xs : List Int} {b : Br} {c : Cm} {m : Mr} {gd ga gn k : Nat} (hk : k < 13) (hb : BdB b) (hc : BdC b c) (hm : BdM m) (h1 : gd ≠ ga) (h2 : gd ≠ gn) (h3 : ga ≠ gn) :
    ∃ (g o : Nat) (cs : Array Value) (s : Int × Int), (ptrs gd ga gn)[k]? = some (.pointer (some ⟨g, o, none⟩)) ∧ (g = gd ∨ g = ga ∨ g = gn) ∧ (∀ W, NSt xs b c m gd ga gn k W → rowOf W g = some cs) ∧ cs[o]? = some (.int .i64 s.1) ∧ cs[o + 1]? = some (.int .i64 s.2) ∧ o + 2 ≤ cs.size ∧
      s.1 ≤ s.2 ∧ -1000000000 ≤ s.1 ∧ s.2 ≤ 1000000000 ∧ (∀ W W', NSt xs b c m gd ga gn k W → Stored g (setMany [.int .i64 (prt xs (2 * k) s).1, .int .i64 (prt xs (2 * k) s).2] o cs) W W' → NSt xs b c m gd ga gn (k + 1) W') := by
  have q1 := hb.full
  have q2 := hb.fed
  have hk' : k = 0 ∨ k = 1 ∨ k = 2 ∨ k = 3 ∨ k = 4 ∨ k = 5 ∨ k = 6 ∨ k = 7 ∨ k = 8 ∨ k = 9 ∨ k = 10 ∨ k = 11 ∨ k = 12 := by omega
  rcases hk' with rfl | rfl | rfl | rfl | rfl | rfl | rfl | rfl | rfl | rfl | rfl | rfl | rfl
  · have q := hb.rest
    exact ⟨gd, 2, _, b.rest, rfl, .inl rfl, fun W h => h.rd, rfl, rfl, (by decide : 2 + 2 ≤ 17), q.2.1, by omega, by omega, fun W W' h hS => ⟨hS.row, (hS.other _ h1.symm).trans h.ra, (hS.other _ h2.symm).trans h.rn⟩⟩
  · have q := hb.heat
    exact ⟨gd, 4, _, b.heat, rfl, .inl rfl, fun W h => h.rd, rfl, rfl, (by decide : 4 + 2 ≤ 17), q.2.1, by omega, by omega, fun W W' h hS => ⟨hS.row, (hS.other _ h1.symm).trans h.ra, (hS.other _ h2.symm).trans h.rn⟩⟩
  · have q := hb.toil
    exact ⟨gd, 6, _, b.toil, rfl, .inl rfl, fun W h => h.rd, rfl, rfl, (by decide : 6 + 2 ≤ 17), q.2.1, by omega, by omega, fun W W' h hS => ⟨hS.row, (hS.other _ h1.symm).trans h.ra, (hS.other _ h2.symm).trans h.rn⟩⟩
  · have q := hb.burn
    exact ⟨gd, 8, _, b.burn, rfl, .inl rfl, fun W h => h.rd, rfl, rfl, (by decide : 8 + 2 ≤ 17), q.2.1, by omega, by omega, fun W W' h hS => ⟨hS.row, (hS.other _ h1.symm).trans h.ra, (hS.other _ h2.symm).trans h.rn⟩⟩
  · have q := hb.rub
    exact ⟨gd, 10, _, b.rub, rfl, .inl rfl, fun W h => h.rd, rfl, rfl, (by decide : 10 + 2 ≤ 17), q.2.1, by omega, by omega, fun W W' h hS => ⟨hS.row, (hS.other _ h1.symm).trans h.ra, (hS.other _ h2.symm).trans h.rn⟩⟩
  · have q := hb.milk
    exact ⟨gd, 12, _, b.milk, rfl, .inl rfl, fun W h => h.rd, rfl, rfl, (by decide : 12 + 2 ≤ 17), q.2.1, by omega, by omega, fun W W' h hS => ⟨hS.row, (hS.other _ h1.symm).trans h.ra, (hS.other _ h2.symm).trans h.rn⟩⟩
  · have q := hb.strong
    exact ⟨gd, 15, _, b.strong, rfl, .inl rfl, fun W h => h.rd, rfl, rfl, (by decide : 15 + 2 ≤ 17), q.2.1, by omega, by omega, fun W W' h hS => ⟨hS.row, (hS.other _ h1.symm).trans h.ra, (hS.other _ h2.symm).trans h.rn⟩⟩
  · have q := hc.water
    exact ⟨ga, 0, _, c.water, rfl, .inr (.inl rfl), fun W h => h.ra, rfl, rfl, (by decide : 0 + 2 ≤ 7), q.2.1, by omega, by omega, fun W W' h hS => ⟨(hS.other _ h1).trans h.rd, hS.row, (hS.other _ h3.symm).trans h.rn⟩⟩
  · have q := hc.fat
    exact ⟨ga, 2, _, c.fat, rfl, .inr (.inl rfl), fun W h => h.ra, rfl, rfl, (by decide : 2 + 2 ≤ 7), q.2.1, by omega, by omega, fun W W' h hS => ⟨(hS.other _ h1).trans h.rd, hS.row, (hS.other _ h3.symm).trans h.rn⟩⟩
  · have q := hc.sore
    exact ⟨ga, 4, _, c.sore, rfl, .inr (.inl rfl), fun W h => h.ra, rfl, rfl, (by decide : 4 + 2 ≤ 7), q.2.1, by omega, by omega, fun W W' h hS => ⟨(hS.other _ h1).trans h.rd, hS.row, (hS.other _ h3.symm).trans h.rn⟩⟩
  · have q := hm.heat
    exact ⟨gn, 2, _, m.heat, rfl, .inr (.inr rfl), fun W h => h.rn, rfl, rfl, (by decide : 2 + 2 ≤ 8), q.2.1, by omega, by omega, fun W W' h hS => ⟨(hS.other _ h2).trans h.rd, (hS.other _ h3).trans h.ra, hS.row⟩⟩
  · have q := hm.grass
    exact ⟨gn, 4, _, m.grass, rfl, .inr (.inr rfl), fun W h => h.rn, rfl, rfl, (by decide : 4 + 2 ≤ 8), q.2.1, by omega, by omega, fun W W' h hS => ⟨(hS.other _ h2).trans h.rd, (hS.other _ h3).trans h.ra, hS.row⟩⟩
  · have q := hm.drinks
    exact ⟨gn, 6, _, m.drinks, rfl, .inr (.inr rfl), fun W h => h.rn, rfl, rfl, (by decide : 6 + 2 ≤ 8), q.2.1, by omega, by omega, fun W W' h hS => ⟨(hS.other _ h2).trans h.rd, (hS.other _ h3).trans h.ra, hS.row⟩⟩
/-- The three rows that are copied. -/
def nrL (b : Br) (c : Cm) (m : Mr) : List (Array Value × Array Value) := [(#[.int .i64 0, .int .i64 0, .int .i64 0, .int .i64 0, .int .i64 0, .int .i64 0, .int .i64 0, .int .i64 0, .int .i64 0, .int .i64 0, .int .i64 0, .int .i64 0, .int .i64 0, .int .i64 0, .int .i64 0, .int .i64 0, .int .i64 0], #[.int .i64 b.full, .int .i64 b.fed, .int .i64 b.rest.1, .int .i64 b.rest.2, .int .i64 b.heat.1, .int .i64 b.heat.2, .int .i64 b.toil.1, .int .i64 b.toil.2, .int .i64 b.burn.1, .int .i64 b.burn.2, .int .i64 b.rub.1, .int .i64 b.rub.2, .int .i64 b.milk.1, .int .i64 b.milk.2, .int .i64 b.heal, .int .i64 b.strong.1, .int .i64 b.strong.2]), (#[.int .i64 0, .int .i64 0, .int .i64 0, .int .i64 0, .int .i64 0, .int .i64 0, .bool false], #[.int .i64 c.water.1, .int .i64 c.water.2, .int .i64 c.fat.1, .int .i64 c.fat.2, .int .i64 c.sore.1, .int .i64 c.sore.2, .bool c.milks]), (#[.int .i64 0, .int .i64 0, .int .i64 0, .int .i64 0, .int .i64 0, .int .i64 0, .int .i64 0, .int .i64 0], #[.int .i64 m.hours, .int .i64 m.load, .int .i64 m.heat.1, .int .i64 m.heat.2, .int .i64 m.grass.1, .int .i64 m.grass.2, .int .i64 m.drinks.1, .int .i64 m.drinks.2])]
theorem nrL_ok (b : Br) (c : Cm) (m : Mr) : LX (nrL b c m) := by
  intro p hp q hq
  simp only [nrL, List.mem_cons, List.not_mem_nil, or_false] at hp hq
  rcases hp with rfl | rfl | rfl <;> rcases hq with rfl | rfl | rfl <;> first
    | exact ⟨fun _ => rfl, fun _ => rfl⟩
    | exact ⟨fun e => absurd (congrArg Array.size e) (by simp), fun e => absurd (congrArg Array.size e) (by simp)⟩
end Go.Proofs.Ytafdcbdbllpcnaa
