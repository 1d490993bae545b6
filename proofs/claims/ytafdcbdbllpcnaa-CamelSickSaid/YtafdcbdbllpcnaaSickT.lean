/- What lies in memory while mange is passed on, day by day. -/
import Derived.Test.YtafdcbdbllpcnaaSimS
import Derived.Test.YtafdcbdbllpcnaaLate
import Derived.Test.YtafdcbdbllpcnaaRefA
set_option linter.unusedVariables false
set_option linter.unusedSimpArgs false
namespace Go.Proofs.Ytafdcbdbllpcnaa
open Go.RowKit
open Go.Proofs

def BoAt (W : World) (g : Nat) (cs : List Bool) : Prop := ∃ cur : Array Value, rowOf W g = some cur ∧ ∀ k, k < cs.length → cur[k]? = some (.bool (cs.getD k false))
theorem BoAt.get {W : World} {g : Nat} {cs : List Bool} (h : BoAt W g cs) {k : Nat} (hk : k < cs.length) : W.cell? ⟨g, k, none⟩ = some (.bool (cs.getD k false)) ∧ W.frozen? ⟨g, k, none⟩ = false ∧ g < W.heap.size := by
  obtain ⟨cur, h1, h2⟩ := h
  obtain ⟨c, f, z⟩ := cell_of_rowOf h1
  exact ⟨by rw [c]; exact h2 k hk, f k, z⟩
theorem BoAt.set {W : World} {g : Nat} {cs : List Bool} (h : BoAt W g cs) {k : Nat} (hk : k < cs.length) (v : Bool) : BoAt (W.setCell ⟨g, k, none⟩ (.bool v)) g (cs.set k v) := by
  obtain ⟨cur, h1, h2⟩ := h
  refine ⟨_, rowOf_setCell_o h1 _, fun j hj => ?_⟩
  have hj' : j < cs.length := by simpa using hj
  have hkc : k < cur.size := (Array.getElem?_eq_some_iff.1 (h2 k hk)).1
  rw [Array.getElem?_setIfInBounds]
  by_cases e : k = j
  · subst e
    simp [hkc, hk]
  · rw [if_neg e, h2 j hj']
    simp [List.getD, List.getElem?_set_ne e]
theorem OutAt.row {W W' : World} {g : Nat} {xs : List Int} (h : OutAt W g xs) (hr : ∀ cs, rowOf W g = some cs → rowOf W' g = some cs) : OutAt W' g xs := let ⟨cur, h1, h2⟩ := h; ⟨cur, hr _ h1, h2⟩
theorem BoAt.row {W W' : World} {g : Nat} {xs : List Bool} (h : BoAt W g xs) (hr : ∀ cs, rowOf W g = some cs → rowOf W' g = some cs) : BoAt W' g xs := let ⟨cur, h1, h2⟩ := h; ⟨cur, hr _ h1, h2⟩
theorem ByOut.row {W W' : World} {g : Nat} {xs : List Int} (h : ByOut W g xs) (hr : ∀ cs, rowOf W g = some cs → rowOf W' g = some cs) : ByOut W' g xs := let ⟨cur, h1, h2⟩ := h; ⟨cur, hr _ h1, h2⟩
theorem list_rep {xs : List Int} {n : Nat} {v : Int} (hl : xs.length = n) (h : ∀ q, q < n → xs.getD q 0 = v) : xs = List.replicate n v := by
  apply List.ext_getElem
  · simpa using hl
  · intro q h1 h2
    have := h q (by omega)
    simp [h1] at this
    simp [this]

structure SkW (w : World) (wt : Int × Int) (gs gc g1 : Nat) (v1 xs : List Int) (cs : List Bool) (W : World) : Prop where
  wt : rowOf W w.heap.size = some #[.int .i64 wt.1, .int .i64 wt.2]
  xs : OutAt W gs xs
  cs : BoAt W gc cs
  v1 : ByOut W g1 v1
  below : Below w.heap.size w W
  sep : (w.heap.size < gs ∧ w.heap.size < gc ∧ w.heap.size < g1) ∧ gs ≠ gc ∧ gs ≠ g1 ∧ gc ≠ g1
section
variable {w : World} {wt : Int × Int} {gs gc g1 : Nat} {v1 xs : List Int} {cs : List Bool} {W W' : World}
theorem SkW.ext (h : SkW w wt gs gc g1 v1 xs cs W) (hE : Ext W W') : SkW w wt gs gc g1 v1 xs cs W' :=
  ⟨(keep_row hE h.wt).1, h.xs.row fun _ e => (keep_row hE e).1, h.cs.row fun _ e => (keep_row hE e).1, h.v1.row fun _ e => (keep_row hE e).1, h.below.trans (Below.mono hE h.below.size), h.sep⟩
theorem SkW.alloc (h : SkW w wt gs gc g1 v1 xs cs W) (o : Obj) : SkW w wt gs gc g1 v1 xs cs (W.alloc o) := h.ext (ext_alloc _ _)
theorem SkW.drewN (h : SkW w wt gs gc g1 v1 xs cs W) (n : Nat) : SkW w wt gs gc g1 v1 xs cs (W.drewN n) := ⟨h.wt, h.xs, h.cs, h.v1, below_drewN h.below n, h.sep⟩
theorem SkW.grown (h : SkW w wt gs gc g1 v1 xs cs W) {row : Option Nat} (hG : W.grownBy W' row) (hr : ∀ i, row = some i → w.heap.size < i ∧ gs ≠ i ∧ gc ≠ i ∧ g1 ≠ i) : SkW w wt gs gc g1 v1 xs cs W' :=
  ⟨row_grownO h.wt hG (fun i e => Nat.ne_of_lt (hr i e).1), h.xs.row fun _ e => row_grownO e hG (fun i q => (hr i q).2.1), h.cs.row fun _ e => row_grownO e hG (fun i q => (hr i q).2.2.1), h.v1.row fun _ e => row_grownO e hG (fun i q => (hr i q).2.2.2),
    h.below.grown hG h.below.size (fun i e => Nat.le_of_lt (hr i e).1), h.sep⟩
theorem SkW.setX (h : SkW w wt gs gc g1 v1 xs cs W) {k : Nat} (hk : k < xs.length) (v : Int) : SkW w wt gs gc g1 v1 (xs.set k v) cs (W.setCell ⟨gs, k, none⟩ (.int .i64 v)) := by
  obtain ⟨⟨s1, s2, s3⟩, s4, s5, s6⟩ := h.sep
  have hG := grown_setCell W ⟨gs, k, none⟩ (.int .i64 v)
  exact ⟨row_grown h.wt hG (by simp only; omega), h.xs.set hk v, h.cs.row fun _ e => row_grown e hG (by simp only; omega), h.v1.row fun _ e => row_grown e hG (by simp only; omega), below_grown h.below hG h.below.size (by simp only; omega), h.sep⟩
theorem SkW.setC (h : SkW w wt gs gc g1 v1 xs cs W) {k : Nat} (hk : k < cs.length) (v : Bool) : SkW w wt gs gc g1 v1 xs (cs.set k v) (W.setCell ⟨gc, k, none⟩ (.bool v)) := by
  obtain ⟨⟨s1, s2, s3⟩, s4, s5, s6⟩ := h.sep
  have hG := grown_setCell W ⟨gc, k, none⟩ (.bool v)
  exact ⟨row_grown h.wt hG (by simp only; omega), h.xs.row fun _ e => row_grown e hG (by simp only; omega), h.cs.set hk v, h.v1.row fun _ e => row_grown e hG (by simp only; omega), below_grown h.below hG h.below.size (by simp only; omega), h.sep⟩

/-- The days, in a block of their own. -/
def DsAt (B : Nat) (a : Option Addr) (ds : List Int) (W : World) : Prop := ds = [] ∨ ∃ g, a = some ⟨g, 0, none⟩ ∧ B ≤ g ∧ OutAt W g ds
theorem ds_own {B n : Nat} {v : Value} {ds : List Int} (hn : n = ds.length) (h : W.ownsRow B 3 1 v n (ds.map (.int .i64 ·))) : ∃ a cap, v = .slice a n cap ∧ DsAt B a ds W := by
  by_cases h0 : 0 < n
  · obtain ⟨g, cap, rfl, h1, h2⟩ := out_owns hn h0 h
    exact ⟨_, cap, rfl, .inr ⟨g, rfl, h1, h2⟩⟩
  · have e : ds = [] := List.eq_nil_of_length_eq_zero (by omega)
    rcases h.2 with ⟨rfl, h1⟩ | ⟨g, cap, cur, rfl, -⟩
    · exact ⟨none, 0, by rw [h1], .inl e⟩
    · exact ⟨_, cap, rfl, .inl e⟩
theorem DsAt.ext {B : Nat} {a : Option Addr} {ds : List Int} (h : DsAt B a ds W) (hE : Ext W W') : DsAt B a ds W' := by
  rcases h with h | ⟨g, h1, h2, h3⟩
  · exact .inl h
  · exact .inr ⟨g, h1, h2, h3.row fun _ e => (keep_row hE e).1⟩
theorem DsAt.grown {B : Nat} {a : Option Addr} {ds : List Int} (h : DsAt B a ds W) {r : Nat} (hG : W.grownBy W' (some r)) (hr : r < B) : DsAt B a ds W' := by
  rcases h with h | ⟨g, h1, h2, h3⟩
  · exact .inl h
  · exact .inr ⟨g, h1, h2, h3.row fun _ e => row_grown e hG (by omega)⟩
theorem DsAt.get {B : Nat} {a : Option Addr} {ds : List Int} (h : DsAt B a ds W) (h0 : 0 < ds.length) : ∃ g, a = some ⟨g, 0, none⟩ ∧ B ≤ g ∧ OutAt W g ds := by
  rcases h with h | h
  · subst h; simp at h0
  · exact h
end

/-- Between the two ways of a meeting. -/
def Half (first : List Int) (ms : List Mt) (w : Int × Int) (n : Nat) (D : Int) (P : Mt → Prop) (x : Mt) (a b q : Nat) (xs : List Int) (cs : List Bool) : Prop :=
  (q = 0 ∧ Sim first ms w n D P xs cs) ∨ (q = 1 ∧ Sim first ms w n D P xs cs ∧ (fI xs a ≤ D → fI xs b ≤ D + w.2)) ∨ (q = 2 ∧ Sim first ms w n D (fun y => P y ∨ y = x) xs cs)
theorem Half.len {first : List Int} {ms : List Mt} {w : Int × Int} {n : Nat} {D : Int} {P : Mt → Prop} {x : Mt} {a b q : Nat} {xs : List Int} {cs : List Bool} (h : Half first ms w n D P x a b q xs cs) : xs.length = n ∧ cs.length = n := by
  rcases h with ⟨-, h⟩ | ⟨-, h, -⟩ | ⟨-, h⟩ <;> exact ⟨h.len, h.clen⟩
theorem Half.step {first : List Int} {ms : List Mt} {w : Int × Int} {n : Nat} {D : Int} {P : Mt → Prop} {x : Mt} {a b q : Nat} {xs : List Int} {cs : List Bool} (h : Half first ms w n D P x a b q xs cs) (hq : q < 2) (hms : ∀ x ∈ ms, okMt (n : Int) x) (hf : ∀ i ∈ first, 0 ≤ i) (hw : 1 ≤ w.1) (hw2 : w.2 ≤ 60) (hP : ∀ y, P y → y.day ≤ D) (hx : x ∈ ms) (ha : x.a = (a : Int)) (hb : x.b = (b : Int)) (hd : x.day = D) {v : Int} (hv1 : w.1 ≤ v) (hv2 : v ≤ w.2) {i j : Nat} (hij : (q = 0 ∧ i = a ∧ j = b) ∨ (q = 1 ∧ i = b ∧ j = a)) :
    Half first ms w n D P x a b (q + 1) (ovX D v i j xs cs) (ovC D i j xs cs) := by
  rcases hij with ⟨rfl, rfl, rfl⟩ | ⟨rfl, rfl, rfl⟩
  · rcases h with ⟨-, h⟩ | ⟨h, -⟩ | ⟨h, -⟩
    · obtain ⟨h1, h2, -⟩ := h.over hms hf hw hw2 hP (i := i) (j := j) (v := v) hx (.inl ⟨ha, hb⟩) hd hv1 hv2
      exact .inr (.inl ⟨rfl, h1, h2⟩)
    · omega
    · omega
  · rcases h with ⟨h, -⟩ | ⟨-, h, h2⟩ | ⟨h, -⟩
    · omega
    · obtain ⟨k1, k2, k3⟩ := h.over hms hf hw hw2 hP (i := i) (j := j) (v := v) hx (.inr ⟨hb, ha⟩) hd hv1 hv2
      refine .inr (.inr ⟨rfl, k1.len, k1.clen, k1.free, k1.got, k1.top, k1.base, ?_⟩)
      rintro y (hy | rfl) hE
      · exact k1.reck y hy hE
      · rw [ha, hb, hd]
        refine ⟨fun hh => ?_, k2⟩
        rcases k3 j (by omega) with e | ⟨e1, -, -⟩
        · rw [e] at hh
          have h4 := h2 hh
          rcases k3 i (by omega) with e' | ⟨e1, e2, e3⟩
          · rw [e']; exact h4
          · obtain ⟨o1, o2, o3, o4, o5, o6, o7⟩ := hms y hx
            rw [ha, hb] at o5
            exact absurd e2.symm o5
        · omega
    · omega
end Go.Proofs.Ytafdcbdbllpcnaa
