/- If all meetings pass it on, and nobody waits long; if only close ones do, and all wait long: what is told then. -/
import Derived.Test.YtafdcbdbllpcnaaLeafX
import Derived.Test.YtafdcbdbllpcnaaOutT
import Derived.Test.YtafdcbdbllpcnaaMtCl
import Derived.Test.YtafdcbdbllpcnaaDayT
namespace Go.Proofs.Ytafdcbdbllpcnaa
open Go.RowKit
open Go.Proofs

theorem Sk.map {first : List Int} {E F : Mt → Prop} {w i t : Int} (hE : ∀ x, E x → ∃ y, F y ∧ y.a = x.a ∧ y.b = x.b ∧ y.day = x.day) (h : Sk first E w i t) : Sk first F w i t := by
  induction h with
  | start h => exact .start h
  | @caught i j s x h hx hl hs ih =>
    obtain ⟨y, hy, e1, e2, e3⟩ := hE x hx
    rw [← e3] at hs ⊢
    exact .caught ih hy (by unfold Mt.links at *; rw [e1, e2]; exact hl) hs
theorem SkBy.map {first : List Int} {E F : Mt → Prop} {w d i : Int} (hE : ∀ x, E x → ∃ y, F y ∧ y.a = x.a ∧ y.b = x.b ∧ y.day = x.day) (h : SkBy first E w d i) : SkBy first F w d i := by
  obtain ⟨t, h1, h2⟩ := h
  exact ⟨t, h1.map hE, h2⟩
/-- A meeting that passes it on for sure. -/
def cl1 (x : Mt) : Mt := ⟨x.a, x.b, x.day, true⟩
theorem okX_cl1 (n : Int) (x : Mt) : okX n (cl1 x) = okX n x := rfl
theorem okA_w {n : Int} {wt : Int × Int} {d : Int} (h : okA n wt d = true) {v : Int} (h1 : wt.1 ≤ v) (h2 : v ≤ wt.2) : okA n (v, v) d = true := by
  simp only [okA, okSpan, Bool.and_eq_true, decide_eq_true_eq] at h ⊢
  omega
theorem chkG_iff {n : Int} {first : List Int} {ms : List Mt} {wt : Int × Int} {d : Int} : chkG n first ms wt d = 0 ↔ okA n wt d = true ∧ (first.length ≤ 30 ∧ ms.length ≤ 200) ∧ first.all (inR n) = true ∧ ms.all (okX n) = true := by
  unfold chkG
  by_cases h1 : okA n wt d = true <;> by_cases h2 : first.length ≤ 30 ∧ ms.length ≤ 200 <;> by_cases h3 : first.all (inR n) = true <;> by_cases h4 : ms.all (okX n) = true <;> simp [h1, h2, h3, h4]
theorem chkG_all {n : Int} {first : List Int} {ms : List Mt} {wt : Int × Int} {d : Int} (h : chkG n first ms wt d = 0) : chkG n first (ms.map cl1) (wt.1, wt.1) d = 0 := by
  obtain ⟨-, ⟨-, hw, -⟩, -⟩ := chkG_fine h
  obtain ⟨h1, ⟨h2, h3⟩, h4, h5⟩ := chkG_iff.1 h
  exact chkG_iff.2 ⟨okA_w h1 (Int.le_refl _) hw, ⟨h2, by simpa using h3⟩, h4, by rw [List.all_map]; exact h5⟩
theorem chkG_few {n : Int} {first : List Int} {ms : List Mt} {wt : Int × Int} {d : Int} (h : chkG n first ms wt d = 0) : chkG n first (ms.filter (·.close)) (wt.2, wt.2) d = 0 := by
  obtain ⟨-, ⟨-, hw, -⟩, -⟩ := chkG_fine h
  obtain ⟨h1, ⟨h2, h3⟩, h4, h5⟩ := chkG_iff.1 h
  refine chkG_iff.2 ⟨okA_w h1 hw (Int.le_refl _), ⟨h2, Nat.le_trans (List.length_filter_le _ _) h3⟩, h4, ?_⟩
  rw [List.all_eq_true] at h5 ⊢
  exact fun x hx => h5 x ((List.mem_filter.1 hx).1)
theorem open_said {first : List Int} {ms : List Mt} {w : Int × Int} {d i u v z : Int} (hw : w.1 ≤ w.2) (h1 : Knw first ms w d i u) (h2 : Knw first (ms.map cl1) (w.1, w.1) d i v) (h3 : Knw first (ms.filter (·.close)) (w.2, w.2) d i z) :
    (decide (u = 0) = decide (v ≠ 2)) ∧ (decide (u = 2) = decide (z = 2)) ∧ v ≠ 1 ∧ z ≠ 1 := by
  have hs : SkBy first (fun x => x ∈ ms ∧ x.close = true) w.2 d i → SkBy first (fun x => x ∈ ms) w.1 d i := fun h => h.early (fun _ hx => hx.1) hw
  have a1 : SkBy first (fun x => x ∈ ms.map cl1 ∧ x.close = true) w.1 d i ↔ SkBy first (fun x => x ∈ ms) w.1 d i :=
    ⟨fun h => h.map (fun x hx => by obtain ⟨y, hy, rfl⟩ := List.mem_map.1 hx.1; exact ⟨y, hy, rfl, rfl, rfl⟩), fun h => h.map (fun x hx => ⟨cl1 x, ⟨List.mem_map.2 ⟨x, hx, rfl⟩, rfl⟩, rfl, rfl, rfl⟩)⟩
  have a2 : SkBy first (fun x => x ∈ ms.map cl1) w.1 d i ↔ SkBy first (fun x => x ∈ ms) w.1 d i :=
    ⟨fun h => h.map (fun x hx => by obtain ⟨y, hy, rfl⟩ := List.mem_map.1 hx; exact ⟨y, hy, rfl, rfl, rfl⟩), fun h => h.map (fun x hx => ⟨cl1 x, List.mem_map.2 ⟨x, hx, rfl⟩, rfl, rfl, rfl⟩)⟩
  have a3 : SkBy first (fun x => x ∈ ms.filter (·.close) ∧ x.close = true) w.2 d i ↔ SkBy first (fun x => x ∈ ms ∧ x.close = true) w.2 d i :=
    ⟨fun h => h.map (fun x hx => ⟨x, ⟨(List.mem_filter.1 hx.1).1, hx.2⟩, rfl, rfl, rfl⟩), fun h => h.map (fun x hx => ⟨x, ⟨List.mem_filter.2 hx, hx.2⟩, rfl, rfl, rfl⟩)⟩
  have a4 : SkBy first (fun x => x ∈ ms.filter (·.close)) w.2 d i ↔ SkBy first (fun x => x ∈ ms ∧ x.close = true) w.2 d i :=
    ⟨fun h => h.map (fun x hx => ⟨x, List.mem_filter.1 hx, rfl, rfl, rfl⟩), fun h => h.map (fun x hx => ⟨x, List.mem_filter.2 hx, rfl, rfl, rfl⟩)⟩
  unfold Knw at h1 h2 h3
  simp only [a1, a2, a3, a4] at h2 h3
  generalize SkBy first (fun x => x ∈ ms) w.1 d i = A at *
  generalize SkBy first (fun x => x ∈ ms ∧ x.close = true) w.2 d i = C at *
  by_cases hA : A <;> by_cases hC : C
  · simp only [hA, hC, not_true_eq_false, false_and, true_and, or_false] at h1 h2 h3
    subst h1 h2 h3; decide
  · simp only [hA, hC, not_true_eq_false, not_false_eq_true, false_and, true_and, or_false, false_or] at h1 h2 h3
    subst h1 h2 h3; decide
  · exact absurd (hs hC) hA
  · simp only [hA, hC, not_false_eq_true, false_and, true_and, false_or] at h1 h2 h3
    subst h1 h2 h3; decide
/-- The contract of Mange where its arguments are valid. -/
def MangeC : Prop := ∀ (nn : Nat) (day : Int) (wt : Int × Int) (fa : Option Addr) (fcap nf : Nat) (first : List Int) (ma : Option Addr) (mcap nm : Nat) (ms : List Mt) (w : World), nf = first.length → nm = ms.length → IntsIn w fa fcap first → MeetsIn w ma mcap ms → chkG (nn : Int) first ms wt day = 0 → nm ≤ 250 →
    Calls Try.prog 15 #[.int .i64 (nn : Int), .slice fa nf fcap, .slice ma nm mcap, .agg #[.int .i64 wt.1, .int .i64 wt.2], .int .i64 day] w fun e w' => (∃ g vs, e = .returned (.tuple #[.slice (some ⟨g, 0, none⟩) nn nn, .int .i64 0]) ∧ w.heap.size ≤ g ∧ vs.length = nn ∧ ByOut w' g vs ∧ ∀ i, i < nn → Knw first ms wt day (i : Int) (vs.getD i 0)) ∧ Below w.heap.size w w'
end Go.Proofs.Ytafdcbdbllpcnaa
/- Two lists of meetings of the call's own that grow side by side. -/
namespace Go.Proofs.Ytafdcbdbllpcnaa
open Go.RowKit
open Go.Proofs

structure Two (base : Nat) (xa xf : List Mt) (va vf : Value) (W : World) : Prop where
  all : W.ownsRow base 79 4 va xa.length (xa.flatMap mtCells)
  few : W.ownsRow base 79 4 vf xf.length (xf.flatMap mtCells)
  dif : ∀ i, va.ownBlock = some i → vf.ownBlock ≠ some i
section
variable {base : Nat} {xa xf : List Mt} {va vf : Value} {W W' : World}
theorem own_none {v : Value} {o : Option Nat} (h : ∀ i, v.ownBlock = some i → o ≠ some i) : v.ownBlock = none ∨ v.ownBlock ≠ o := by
  cases hv : v.ownBlock with
  | none => exact .inl rfl
  | some i => exact .inr (fun e => h i hv e.symm)
theorem Two.grow (h : Two base xa xf va vf W) {row : Option Nat} (hg : W.grownBy W' row) (ha : ∀ i, va.ownBlock = some i → row ≠ some i) (hf : ∀ i, vf.ownBlock = some i → row ≠ some i) : Two base xa xf va vf W' :=
  ⟨h.all.kept hg (own_none ha), h.few.kept hg (own_none hf), h.dif⟩
theorem Two.alloc (h : Two base xa xf va vf W) (o : Obj) : Two base xa xf va vf (W.alloc o) := ⟨h.all.alloc o, h.few.alloc o, h.dif⟩
theorem Two.ext (h : Two base xa xf va vf W) (hE : Ext W W') : Two base xa xf va vf W' :=
  h.grow (hE.grown none) (fun _ _ => by simp) (fun _ _ => by simp)
theorem Two.put_few (h : Two base xa xf va vf W) {x : Mt} {v' : Value} (ho : W'.ownsRow base 79 4 v' (xf.length + 1) (xf.flatMap mtCells ++ mtCells x)) (hg : W.grownBy W' vf.ownBlock) (hs : ∀ k, v'.ownBlock = some k → vf.ownBlock = some k ∨ W.heap.size ≤ k) : Two base xa (xf ++ [x]) va v' W' := by
  refine ⟨h.all.kept hg (own_none h.dif), by simpa using ho, fun i hi hv => ?_⟩
  rcases hs i hv with h1 | h1
  · exact h.dif i hi h1
  · have := (h.all.lt i hi).2; omega
theorem Two.put_all (h : Two base xa xf va vf W) {x : Mt} {v' : Value} (ho : W'.ownsRow base 79 4 v' (xa.length + 1) (xa.flatMap mtCells ++ mtCells x)) (hg : W.grownBy W' va.ownBlock) (hs : ∀ k, v'.ownBlock = some k → va.ownBlock = some k ∨ W.heap.size ≤ k) : Two base (xa ++ [x]) xf v' vf W' := by
  refine ⟨by simpa using ho, h.few.kept hg (own_none fun i hi e => h.dif i e hi), fun i hi hv => ?_⟩
  rcases hs i hi with h1 | h1
  · exact h.dif i h1 hv
  · have := (h.few.lt i hv).2; omega
theorem own_meets {v : Value} {n : Nat} {xs : List Mt} (hn : n = xs.length) (h : W.ownsRow base 79 4 v n (xs.flatMap mtCells)) : ∃ a cap, v = .slice a n cap ∧ MeetsIn W a cap xs := by
  rcases h.2 with ⟨rfl, h0⟩ | ⟨g, cap, cur, rfl, -⟩
  · have : xs = [] := List.eq_nil_of_length_eq_zero (by omega)
    subst this
    exact ⟨none, 0, by rw [h0], .inl ⟨rfl, rfl, rfl⟩⟩
  · exact ⟨_, cap, rfl, (meets_own hn h).1⟩
theorem mt_at {W : World} {g : Nat} {x : Mt} (h : rowOf W g = some #[.int .i64 x.a, .int .i64 x.b, .int .i64 x.day, .bool x.close]) : ∀ j u, (mtCells x)[j]? = some u → W.cell? ((⟨g, 0, none⟩ : Addr).add j) = some u := by
  intro j u hj
  rw [add_none, Nat.zero_add, (cell_of_rowOf h).1 j, ← hj]
  simp [mtCells]
end
/-- The first meetings, as they are told twice. -/
def allK (ms : List Mt) (k : Nat) : List Mt := (ms.take k).map cl1
def fewK (ms : List Mt) (k : Nat) : List Mt := (ms.take k).filter (·.close)
theorem take_k {ms : List Mt} {k : Nat} (hk : k < ms.length) : ms.take (k + 1) = ms.take k ++ [mtS ms k] := by
  rw [List.take_add_one, List.getElem?_eq_getElem hk, ← mtS_get hk]; rfl
theorem allK_succ {ms : List Mt} {k : Nat} (hk : k < ms.length) : allK ms (k + 1) = allK ms k ++ [cl1 (mtS ms k)] := by simp [allK, take_k hk]
theorem fewK_yes {ms : List Mt} {k : Nat} (hk : k < ms.length) (h : (mtS ms k).close = true) : fewK ms (k + 1) = fewK ms k ++ [mtS ms k] := by simp [fewK, take_k hk, h]
theorem fewK_no {ms : List Mt} {k : Nat} (hk : k < ms.length) (h : (mtS ms k).close = false) : fewK ms (k + 1) = fewK ms k := by simp [fewK, take_k hk, h]
theorem allK_len {ms : List Mt} {k : Nat} (hk : k ≤ ms.length) : (allK ms k).length = k := by simp [allK]; omega
theorem fewK_len {ms : List Mt} {k : Nat} : (fewK ms k).length ≤ k := by
  have h1 := List.length_filter_le (·.close) (ms.take k)
  have h2 : (ms.take k).length ≤ k := by simp; omega
  exact Nat.le_trans h1 h2
theorem allK_end (ms : List Mt) : allK ms ms.length = ms.map cl1 := by simp [allK]
theorem fewK_end (ms : List Mt) : fewK ms ms.length = ms.filter (·.close) := by simp [fewK]
/-- What is open, told thrice. -/
theorem open_three {first : List Int} {ms : List Mt} {w : Int × Int} {d i u v z : Int} (hw : w.1 ≤ w.2) (h1 : Knw first ms w d i u) (h2 : Knw first (ms.map cl1) (w.1, w.1) d i v) (h3 : Knw first (ms.filter (·.close)) (w.2, w.2) d i z) :
    (u = 0 ∧ v = 0 ∧ z = 0) ∨ (u = 1 ∧ v = 2 ∧ z = 0) ∨ (u = 2 ∧ v = 2 ∧ z = 2) := by
  obtain ⟨a, b, c, e⟩ := open_said hw h1 h2 h3
  have k : ∀ {y}, y = 0 ∨ y = 1 ∨ y = 2 → True := fun _ => trivial
  have q1 : u = 0 ∨ u = 1 ∨ u = 2 := by unfold Knw at h1; omega
  have q2 : v = 0 ∨ v = 1 ∨ v = 2 := by unfold Knw at h2; omega
  have q3 : z = 0 ∨ z = 1 ∨ z = 2 := by unfold Knw at h3; omega
  rcases q1 with rfl | rfl | rfl <;> rcases q2 with rfl | rfl | rfl <;> rcases q3 with rfl | rfl | rfl <;> simp_all
theorem by_cell {W : World} {g : Nat} {xs : List Int} (h : ByOut W g xs) {k : Nat} (hk : k < xs.length) : W.cell? ⟨g, k, none⟩ = some (.int .u8 (xs.getD k 0)) := by
  obtain ⟨cur, h1, h2⟩ := h
  rw [(cell_of_rowOf h1).1 k]
  exact h2 k hk
theorem ByOut.ext {W W' : World} {g : Nat} {xs : List Int} (h : ByOut W g xs) (hE : Ext W W') : ByOut W' g xs := by
  obtain ⟨cur, h1, h2⟩ := h
  exact ⟨cur, hE.row h1, h2⟩
end Go.Proofs.Ytafdcbdbllpcnaa
