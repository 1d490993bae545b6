/- A list of the call's own that grows: its block is the one that it had, or a new one. -/
import Derived.Test.YtafdcbdbllpcnaaShapeL
import Derived.Test.YtafdcbdbllpcnaaLate
import Derived.Test.YtafdcbdbllpcnaaMtCl
import Derived.Test.YtafdcbdbllpcnaaRefA
import Derived.Test.YtafdcbdbllpcnaaRefQ
import Derived.Test.YtafdcbdbllpcnaaMangU
set_option linter.unusedVariables false
set_option linter.unusedSimpArgs false
namespace Go.Proofs.Ytafdcbdbllpcnaa
open Go.RowKit
open Go.Proofs

section
variable {P : Program} (w : World)
/-- The law of the library's 'append' onto a row of one's own, and where what it hands back lies. -/
theorem run_append_sep (base : Nat) (t ty e : TypeId) (i : TypeInfo) (z : Value) (size bytes : Nat) (ht : P.underlying t = some (.slice e)) (hi : P.info? e = some i) (hz : i.zero = some z)
    (hsize : i.size = size) (hby : i.bytes = bytes) (hzs : z.cells.size = size) (hsz : 0 < size)
    (v : Value) (n : Nat) (xs : List Value) (hown : w.ownsRow base e size v n xs)
    (a : Addr) (m c : Nat) (news : List Value) (hl : news.length = m * size) (hnews : ∀ j u, news[j]? = some u → w.cell? (a.add j) = some u) (h1 : ∀ u ∈ news, u.oneCell' = true)
    (h63 : n + m ≤ maxLen) (hbytes : (n + m) * bytes ≤ 140737488355328) (hbase : base ≤ w.heap.size) :
    ∃ v' w', (Builtin.append_ #[t, t] ty #[v, .slice (some a) m c]).run P w = .ok v' w' ∧ w'.ownsRow base e size v' (n + m) (xs ++ news) ∧ w.grownBy w' v.ownBlock ∧
      (∀ k, v'.ownBlock = some k → v.ownBlock = some k ∨ w.heap.size ≤ k) := by
  obtain ⟨v', w', hr, ho, hg, -⟩ := run_append_own (P := P) w base t ty e i z size bytes ht hi hz hsize hby hzs hsz v n xs hown a m c news hl hnews h1 h63 hbytes hbase
  refine ⟨v', w', hr, ho, hg, fun k hk => ?_⟩
  have hb63 : n + m ≤ 9223372036854775807 := by simp only [maxLen] at h63; omega
  rcases hown.2 with ⟨rfl, rfl⟩ | ⟨g, cap, cur, rfl, -, hgg, -, -, hcs, -⟩
  · have hxs : xs = [] := List.eq_nil_of_length_eq_zero (by simpa using hown.1)
    subst hxs
    obtain ⟨v2, w2, hr2, ho2, -⟩ := run_append_own (P := P) w w.heap.size t ty e i z size bytes ht hi hz hsize hby hzs hsz _ 0 [] (World.ownsRow_nil w w.heap.size e size) a m c news hl hnews h1 h63 hbytes (Nat.le_refl _)
    rw [hr] at hr2
    injection hr2 with e1 e2
    subst e1 e2
    exact .inr (ho2.lt k hk).1
  · subst hsize
    by_cases hroom : n + m ≤ cap
    · have hfit : n * i.size + news.length ≤ cur.size := by rw [hl, hcs, ← Nat.add_mul]; exact Nat.mul_le_mul_right _ hroom
      have hr2 := run_append_room (P := P) w t ty e i ht hi g n cap cur hgg a m c news hl hnews h1 hroom hfit
      rw [hr] at hr2
      injection hr2 with e1 e2
      subst e1
      exact .inl hk
    · have hr2 := run_append_grow (P := P) w t ty e i z ht hi hz ⟨g, 0, none⟩ n cap xs hown.1 (hown.cells (g := g) rfl) a m c news hl hnews (by omega) (by omega) (growslice_fits (by omega) (by rw [hby]; exact hbytes))
      rw [hr] at hr2
      injection hr2 with e1 e2
      subst e1
      simp only [Value.ownBlock, Option.some.injEq] at hk
      exact .inr (by omega)
theorem wp_append_sep {o : Oper} {a : Act} {K : Act → World → Prop} {Q : Exit → Act → World → Prop} (s x : Operand) (t : TypeId)
    (ho : o.op = .call { callee := .builtin .append, args := #[s, x], argTypes := #[t, t] })
    (base : Nat) (e : TypeId) (i : TypeInfo) (z : Value) (size bytes : Nat) (ht : P.underlying t = some (.slice e)) (hi : P.info? e = some i) (hz : i.zero = some z)
    (hsize : i.size = size) (hby : i.bytes = bytes) (hzs : z.cells.size = size) (hsz : 0 < size)
    (v : Value) (n : Nat) (xs : List Value) (hs : a.eval s = v) (hown : w.ownsRow base e size v n xs)
    (ad : Addr) (m c : Nat) (news : List Value) (hx : a.eval x = .slice (some ad) m c) (hl : news.length = m * size) (hnews : ∀ j u, news[j]? = some u → w.cell? (ad.add j) = some u) (h1 : ∀ u ∈ news, u.oneCell' = true)
    (h63 : n + m ≤ maxLen) (hbytes : (n + m) * bytes ≤ 140737488355328) (hbase : base ≤ w.heap.size)
    (h : ∀ v' w', w'.ownsRow base e size v' (n + m) (xs ++ news) → w.grownBy w' v.ownBlock → (∀ k, v'.ownBlock = some k → v.ownBlock = some k ∨ w.heap.size ≤ k) → K (a.put o.dst v') w') : o.wp P a w K Q := by
  obtain ⟨v', w', hr, h2, h3, h4⟩ := run_append_sep (P := P) w base t o.type e i z size bytes ht hi hz hsize hby hzs hsz v n xs hown ad m c news hl hnews h1 h63 hbytes hbase
  unfold Oper.wp execOp
  simp only [ho, resolve, invoke, builtin, Sem.run_bind, Sem.run_pure, Result.andThen_ok, List.map_toArray, List.map_cons, List.map_nil, hs, hx, hr]
  exact h v' w' h2 h3 h4
theorem wpList_append_sep {ops : Array Oper} {rest : List Oper} {o : Oper} {a : Act} {Q : Exit → Act → World → Prop} (hgd : o.guard = none) (s x : Operand) (t : TypeId)
    (ho : o.op = .call { callee := .builtin .append, args := #[s, x], argTypes := #[t, t] })
    (base : Nat) (e : TypeId) (i : TypeInfo) (z : Value) (size bytes : Nat) (ht : P.underlying t = some (.slice e)) (hi : P.info? e = some i) (hz : i.zero = some z)
    (hsize : i.size = size) (hby : i.bytes = bytes) (hzs : z.cells.size = size) (hsz : 0 < size)
    (v : Value) (n : Nat) (xs : List Value) (hs : a.eval s = v) (hown : w.ownsRow base e size v n xs)
    (ad : Addr) (m c : Nat) (news : List Value) (hx : a.eval x = .slice (some ad) m c) (hl : news.length = m * size) (hnews : ∀ j u, news[j]? = some u → w.cell? (ad.add j) = some u) (h1 : ∀ u ∈ news, u.oneCell' = true)
    (h63 : n + m ≤ maxLen) (hbytes : (n + m) * bytes ≤ 140737488355328) (hbase : base ≤ w.heap.size)
    (h : ∀ v' w', w'.ownsRow base e size v' (n + m) (xs ++ news) → w.grownBy w' v.ownBlock → (∀ k, v'.ownBlock = some k → v.ownBlock = some k ∨ w.heap.size ≤ k) → wpList P ops Q rest (a.put o.dst v') w') : wpList P ops Q (o :: rest) a w :=
  wpList_plain hgd fun _ hK => wp_append_sep w s x t ho base e i z size bytes ht hi hz hsize hby hzs hsz v n xs hs hown ad m c news hx hl hnews h1 h63 hbytes hbase fun v' w' h2 h3 h4 => hK _ _ (h v' w' h2 h3 h4)
end
end Go.Proofs.Ytafdcbdbllpcnaa
/- If all meetings pass it on, and nobody waits long; if only close ones do, and all wait long: what is told then. -/
namespace Go.Proofs.Ytafdcbdbllpcnaa
open Go.RowKit
open Go.Proofs

theorem Sk.map {first : List Int} {E F : Mt → Prop} {w i t : Int} (hE : ∀ x, E x → ∃ y, F y ∧ y.a = x.a ∧ y.b = x.b ∧ y.day = x.day) (h : Sk first E w i t) : Sk first F w i t := by
  induction h with
  | start h => exact .start h
  | @caught i j s x h hx hl hs ih =>
    obtain ⟨y, hy, e1, e2, e3⟩ := hE x hx
    rw [← e3] at hs ⊢
    exact .caught ih hy (by unfold Mt.links at *; rw [e1, e2]; exact hl) hs
theorem SkBy.map {first : List Int} {E F : Mt → Prop} {w d i : Int} (hE : ∀ x, E x → ∃ y, F y ∧ y.a = x.a ∧ y.b = x.b ∧ y.day = x.day) (h : SkBy first E w d i) : SkBy first F w d i := by
  obtain ⟨t, h1, h2⟩ := h
  exact ⟨t, h1.map hE, h2⟩
/-- A meeting that passes it on for sure. -/
def cl1 (x : Mt) : Mt := ⟨x.a, x.b, x.day, true⟩
theorem okX_cl1 (n : Int) (x : Mt) : okX n (cl1 x) = okX n x := rfl
theorem okA_w {n : Int} {wt : Int × Int} {d : Int} (h : okA n wt d = true) {v : Int} (h1 : wt.1 ≤ v) (h2 : v ≤ wt.2) : okA n (v, v) d = true := by
  simp only [okA, okSpan, Bool.and_eq_true, decide_eq_true_eq] at h ⊢
  omega
theorem chkG_iff {n : Int} {first : List Int} {ms : List Mt} {wt : Int × Int} {d : Int} : chkG n first ms wt d = 0 ↔ okA n wt d = true ∧ (first.length ≤ 30 ∧ ms.length ≤ 200) ∧ first.all (inR n) = true ∧ ms.all (okX n) = true := by
  unfold chkG
  by_cases h1 : okA n wt d = true <;> by_cases h2 : first.length ≤ 30 ∧ ms.length ≤ 200 <;> by_cases h3 : first.all (inR n) = true <;> by_cases h4 : ms.all (okX n) = true <;> simp [h1, h2, h3, h4]
theorem chkG_all {n : Int} {first : List Int} {ms : List Mt} {wt : Int × Int} {d : Int} (h : chkG n first ms wt d = 0) : chkG n first (ms.map cl1) (wt.1, wt.1) d = 0 := by
  obtain ⟨-, ⟨-, hw, -⟩, -⟩ := chkG_fine h
  obtain ⟨h1, ⟨h2, h3⟩, h4, h5⟩ := chkG_iff.1 h
  exact chkG_iff.2 ⟨okA_w h1 (Int.le_refl _) hw, ⟨h2, by simpa using h3⟩, h4, by rw [List.all_map]; exact h5⟩
theorem chkG_few {n : Int} {first : List Int} {ms : List Mt} {wt : Int × Int} {d : Int} (h : chkG n first ms wt d = 0) : chkG n first (ms.filter (·.close)) (wt.2, wt.2) d = 0 := by
  obtain ⟨-, ⟨-, hw, -⟩, -⟩ := chkG_fine h
  obtain ⟨h1, ⟨h2, h3⟩, h4, h5⟩ := chkG_iff.1 h
  refine chkG_iff.2 ⟨okA_w h1 hw (Int.le_refl _), ⟨h2, Nat.le_trans (List.length_filter_le _ _) h3⟩, h4, ?_⟩
  rw [List.all_eq_true] at h5 ⊢
  exact fun x hx => h5 x ((List.mem_filter.1 hx).1)
theorem open_said {first : List Int} {ms : List Mt} {w : Int × Int} {d i u v z : Int} (hw : w.1 ≤ w.2) (h1 : Knw first ms w d i u) (h2 : Knw first (ms.map cl1) (w.1, w.1) d i v) (h3 : Knw first (ms.filter (·.close)) (w.2, w.2) d i z) :
    (decide (u = 0) = decide (v ≠ 2)) ∧ (decide (u = 2) = decide (z = 2)) ∧ v ≠ 1 ∧ z ≠ 1 := by
  have hs : SkBy first (fun x => x ∈ ms ∧ x.close = true) w.2 d i → SkBy first (fun x => x ∈ ms) w.1 d i := fun h => h.early (fun _ hx => hx.1) hw
  have a1 : SkBy first (fun x => x ∈ ms.map cl1 ∧ x.close = true) w.1 d i ↔ SkBy first (fun x => x ∈ ms) w.1 d i :=
    ⟨fun h => h.map (fun x hx => by obtain ⟨y, hy, rfl⟩ := List.mem_map.1 hx.1; exact ⟨y, hy, rfl, rfl, rfl⟩), fun h => h.map (fun x hx => ⟨cl1 x, ⟨List.mem_map.2 ⟨x, hx, rfl⟩, rfl⟩, rfl, rfl, rfl⟩)⟩
  have a2 : SkBy first (fun x => x ∈ ms.map cl1) w.1 d i ↔ SkBy first (fun x => x ∈ ms) w.1 d i :=
    ⟨fun h => h.map (fun x hx => by obtain ⟨y, hy, rfl⟩ := List.mem_map.1 hx; exact ⟨y, hy, rfl, rfl, rfl⟩), fun h => h.map (fun x hx => ⟨cl1 x, List.mem_map.2 ⟨x, hx, rfl⟩, rfl, rfl, rfl⟩)⟩
  have a3 : SkBy first (fun x => x ∈ ms.filter (·.close) ∧ x.close = true) w.2 d i ↔ SkBy first (fun x => x ∈ ms ∧ x.close = true) w.2 d i :=
    ⟨fun h => h.map (fun x hx => ⟨x, ⟨(List.mem_filter.1 hx.1).1, hx.2⟩, rfl, rfl, rfl⟩), fun h => h.map (fun x hx => ⟨x, ⟨List.mem_filter.2 hx, hx.2⟩, rfl, rfl, rfl⟩)⟩
  have a4 : SkBy first (fun x => x ∈ ms.filter (·.close)) w.2 d i ↔ SkBy first (fun x => x ∈ ms ∧ x.close = true) w.2 d i :=
    ⟨fun h => h.map (fun x hx => ⟨x, List.mem_filter.1 hx, rfl, rfl, rfl⟩), fun h => h.map (fun x hx => ⟨x, List.mem_filter.2 hx, rfl, rfl, rfl⟩)⟩
  unfold Knw at h1 h2 h3
  simp only [a1, a2, a3, a4] at h2 h3
  generalize SkBy first (fun x => x ∈ ms) w.1 d i = A at *
  generalize SkBy first (fun x => x ∈ ms ∧ x.close = true) w.2 d i = C at *
  by_cases hA : A <;> by_cases hC : C
  · simp only [hA, hC, not_true_eq_false, false_and, true_and, or_false] at h1 h2 h3
    subst h1 h2 h3; decide
  · simp only [hA, hC, not_true_eq_false, not_false_eq_true, false_and, true_and, or_false, false_or] at h1 h2 h3
    subst h1 h2 h3; decide
  · exact absurd (hs hC) hA
  · simp only [hA, hC, not_false_eq_true, false_and, true_and, false_or] at h1 h2 h3
    subst h1 h2 h3; decide
/-- The contract of Mange where its arguments are valid. -/
def MangeC : Prop := ∀ (nn : Nat) (day : Int) (wt : Int × Int) (fa : Option Addr) (fcap nf : Nat) (first : List Int) (ma : Option Addr) (mcap nm : Nat) (ms : List Mt) (w : World), nf = first.length → nm = ms.length → IntsIn w fa fcap first → MeetsIn w ma mcap ms → chkG (nn : Int) first ms wt day = 0 → nm ≤ 250 →
    Calls Try.prog 15 #[.int .i64 (nn : Int), .slice fa nf fcap, .slice ma nm mcap, .agg #[.int .i64 wt.1, .int .i64 wt.2], .int .i64 day] w fun e w' => (∃ g vs, e = .returned (.tuple #[.slice (some ⟨g, 0, none⟩) nn nn, .int .i64 0]) ∧ w.heap.size ≤ g ∧ vs.length = nn ∧ ByOut w' g vs ∧ ∀ i, i < nn → Knw first ms wt day (i : Int) (vs.getD i 0)) ∧ Below w.heap.size w w'
end Go.Proofs.Ytafdcbdbllpcnaa
/- Two lists of meetings of the call's own that grow side by side. -/
namespace Go.Proofs.Ytafdcbdbllpcnaa
open Go.RowKit
open Go.Proofs

structure Two (base : Nat) (xa xf : List Mt) (va vf : Value) (W : World) : Prop where
  all : W.ownsRow base 79 4 va xa.length (xa.flatMap mtCells)
  few : W.ownsRow base 79 4 vf xf.length (xf.flatMap mtCells)
  dif : ∀ i, va.ownBlock = some i → vf.ownBlock ≠ some i
section
variable {base : Nat} {xa xf : List Mt} {va vf : Value} {W W' : World}
theorem own_none {v : Value} {o : Option Nat} (h : ∀ i, v.ownBlock = some i → o ≠ some i) : v.ownBlock = none ∨ v.ownBlock ≠ o := by
  cases hv : v.ownBlock with
  | none => exact .inl rfl
  | some i => exact .inr (fun e => h i hv e.symm)
theorem Two.grow (h : Two base xa xf va vf W) {row : Option Nat} (hg : W.grownBy W' row) (ha : ∀ i, va.ownBlock = some i → row ≠ some i) (hf : ∀ i, vf.ownBlock = some i → row ≠ some i) : Two base xa xf va vf W' :=
  ⟨h.all.kept hg (own_none ha), h.few.kept hg (own_none hf), h.dif⟩
theorem Two.alloc (h : Two base xa xf va vf W) (o : Obj) : Two base xa xf va vf (W.alloc o) := ⟨h.all.alloc o, h.few.alloc o, h.dif⟩
theorem Two.ext (h : Two base xa xf va vf W) (hE : Ext W W') : Two base xa xf va vf W' :=
  h.grow (hE.grown none) (fun _ _ => by simp) (fun _ _ => by simp)
theorem Two.put_few (h : Two base xa xf va vf W) {x : Mt} {v' : Value} (ho : W'.ownsRow base 79 4 v' (xf.length + 1) (xf.flatMap mtCells ++ mtCells x)) (hg : W.grownBy W' vf.ownBlock) (hs : ∀ k, v'.ownBlock = some k → vf.ownBlock = some k ∨ W.heap.size ≤ k) : Two base xa (xf ++ [x]) va v' W' := by
  refine ⟨h.all.kept hg (own_none h.dif), by simpa using ho, fun i hi hv => ?_⟩
  rcases hs i hv with h1 | h1
  · exact h.dif i hi h1
  · have := (h.all.lt i hi).2; omega
theorem Two.put_all (h : Two base xa xf va vf W) {x : Mt} {v' : Value} (ho : W'.ownsRow base 79 4 v' (xa.length + 1) (xa.flatMap mtCells ++ mtCells x)) (hg : W.grownBy W' va.ownBlock) (hs : ∀ k, v'.ownBlock = some k → va.ownBlock = some k ∨ W.heap.size ≤ k) : Two base (xa ++ [x]) xf v' vf W' := by
  refine ⟨by simpa using ho, h.few.kept hg (own_none fun i hi e => h.dif i e hi), fun i hi hv => ?_⟩
  rcases hs i hi with h1 | h1
  · exact h.dif i h1 hv
  · have := (h.few.lt i hv).2; omega
theorem own_meets {v : Value} {n : Nat} {xs : List Mt} (hn : n = xs.length) (h : W.ownsRow base 79 4 v n (xs.flatMap mtCells)) : ∃ a cap, v = .slice a n cap ∧ MeetsIn W a cap xs := by
  rcases h.2 with ⟨rfl, h0⟩ | ⟨g, cap, cur, rfl, -⟩
  · have : xs = [] := List.eq_nil_of_length_eq_zero (by omega)
    subst this
    exact ⟨none, 0, by rw [h0], .inl ⟨rfl, rfl, rfl⟩⟩
  · exact ⟨_, cap, rfl, (meets_own hn h).1⟩
theorem mt_at {W : World} {g : Nat} {x : Mt} (h : rowOf W g = some #[.int .i64 x.a, .int .i64 x.b, .int .i64 x.day, .bool x.close]) : ∀ j u, (mtCells x)[j]? = some u → W.cell? ((⟨g, 0, none⟩ : Addr).add j) = some u := by
  intro j u hj
  rw [add_none, Nat.zero_add, (cell_of_rowOf h).1 j, ← hj]
  simp [mtCells]
end
/-- The first meetings, as they are told twice. -/
def allK (ms : List Mt) (k : Nat) : List Mt := (ms.take k).map cl1
def fewK (ms : List Mt) (k : Nat) : List Mt := (ms.take k).filter (·.close)
theorem take_k {ms : List Mt} {k : Nat} (hk : k < ms.length) : ms.take (k + 1) = ms.take k ++ [mtS ms k] := by
  rw [List.take_add_one, List.getElem?_eq_getElem hk, ← mtS_get hk]; rfl
theorem allK_succ {ms : List Mt} {k : Nat} (hk : k < ms.length) : allK ms (k + 1) = allK ms k ++ [cl1 (mtS ms k)] := by simp [allK, take_k hk]
theorem fewK_yes {ms : List Mt} {k : Nat} (hk : k < ms.length) (h : (mtS ms k).close = true) : fewK ms (k + 1) = fewK ms k ++ [mtS ms k] := by simp [fewK, take_k hk, h]
theorem fewK_no {ms : List Mt} {k : Nat} (hk : k < ms.length) (h : (mtS ms k).close = false) : fewK ms (k + 1) = fewK ms k := by simp [fewK, take_k hk, h]
theorem allK_len {ms : List Mt} {k : Nat} (hk : k ≤ ms.length) : (allK ms k).length = k := by simp [allK]; omega
theorem fewK_len {ms : List Mt} {k : Nat} : (fewK ms k).length ≤ k := by
  have h1 := List.length_filter_le (·.close) (ms.take k)
  have h2 : (ms.take k).length ≤ k := by simp; omega
  exact Nat.le_trans h1 h2
theorem allK_end (ms : List Mt) : allK ms ms.length = ms.map cl1 := by simp [allK]
theorem fewK_end (ms : List Mt) : fewK ms ms.length = ms.filter (·.close) := by simp [fewK]
/-- What is open, told thrice. -/
theorem open_three {first : List Int} {ms : List Mt} {w : Int × Int} {d i u v z : Int} (hw : w.1 ≤ w.2) (h1 : Knw first ms w d i u) (h2 : Knw first (ms.map cl1) (w.1, w.1) d i v) (h3 : Knw first (ms.filter (·.close)) (w.2, w.2) d i z) :
    (u = 0 ∧ v = 0 ∧ z = 0) ∨ (u = 1 ∧ v = 2 ∧ z = 0) ∨ (u = 2 ∧ v = 2 ∧ z = 2) := by
  obtain ⟨a, b, c, e⟩ := open_said hw h1 h2 h3
  have k : ∀ {y}, y = 0 ∨ y = 1 ∨ y = 2 → True := fun _ => trivial
  have q1 : u = 0 ∨ u = 1 ∨ u = 2 := by unfold Knw at h1; omega
  have q2 : v = 0 ∨ v = 1 ∨ v = 2 := by unfold Knw at h2; omega
  have q3 : z = 0 ∨ z = 1 ∨ z = 2 := by unfold Knw at h3; omega
  rcases q1 with rfl | rfl | rfl <;> rcases q2 with rfl | rfl | rfl <;> rcases q3 with rfl | rfl | rfl <;> simp_all
theorem by_cell {W : World} {g : Nat} {xs : List Int} (h : ByOut W g xs) {k : Nat} (hk : k < xs.length) : W.cell? ⟨g, k, none⟩ = some (.int .u8 (xs.getD k 0)) := by
  obtain ⟨cur, h1, h2⟩ := h
  rw [(cell_of_rowOf h1).1 k]
  exact h2 k hk
theorem ByOut.ext {W W' : World} {g : Nat} {xs : List Int} (h : ByOut W g xs) (hE : Ext W W') : ByOut W' g xs := by
  obtain ⟨cur, h1, h2⟩ := h
  exact ⟨cur, hE.row h1, h2⟩
end Go.Proofs.Ytafdcbdbllpcnaa
/- The walk of the outright property of each end of what is open. -/
namespace Go.Proofs.Ytafdcbdbllpcnaa
open Go.RowKit
open Go.Proofs

attribute [local go_sem ↓] exec31s
attribute [local go_sem] store31 rowOf_alloc rowOf_drew setRow_alloc one_int one_bool
attribute [local irreducible] wpQuiet

theorem setB {w : World} {g : Nat} {x : Mt} (h : rowOf w g = some #[.int .i64 x.a, .int .i64 x.b, .int .i64 x.day, .bool x.close]) : rowOf (w.setCell ⟨g, 3, none⟩ (.bool true)) g = some #[.int .i64 (cl1 x).a, .int .i64 (cl1 x).b, .int .i64 (cl1 x).day, .bool (cl1 x).close] := rowOf_setCell_o h _

set_option maxRecDepth 100000 in
set_option maxHeartbeats 8000000 in
theorem camelOpen_walk (halive : ∀ W, Calls Try.prog 14 #[] W fun e w' => e = .returned (.bool true) ∧ Below W.heap.size W w') (hmange : MangeC) (n day : Int) (wt : Int × Int) (fa : Option Addr) (fcap nf : Nat) (first : List Int) (ma : Option Addr) (mcap nm : Nat) (ms : List Mt) (w : World) (hnf : nf = first.length) (hnm : nm = ms.length) (hf : IntsIn w fa fcap first) (hm : MeetsIn w ma mcap ms) :
    Calls Try.prog 13 #[.int .i64 n, .slice fa nf fcap, .slice ma nm mcap, .agg #[.int .i64 wt.1, .int .i64 wt.2], .int .i64 day] w fun e w' => e = .returned (.bool true) ∧ Below w.heap.size w w' := by
  have HAL := Lib.hid halive
  have HMG := Lib.hid hmange
  have HNF := Lib.hid hnf
  have HNM := Lib.hid hnm
  have HF := Lib.hid hf
  have HM := Lib.hid hm
  obtain ⟨x, hx⟩ : ∃ x, chkG n first ms wt day = x := ⟨_, rfl⟩
  have HX := Lib.hid hx
  by_cases h0 : x = 0
  · subst h0
    obtain ⟨⟨hn1, hn2⟩, ⟨hw1, hw2, hw3⟩, ⟨hd1, hd2⟩, ⟨hf2, hm2⟩, -, -⟩ := chkG_fine hx
    obtain ⟨nn, rfl⟩ : ∃ p : Nat, n = p := ⟨n.toNat, by omega⟩
    have hm250 : (nm : Int) ≤ 250 := by omega
    have hnn : (nn : Int) ≤ 30 := hn2
    obtain ⟨j0, hj0, hy0, hy1, hy2⟩ := info_parts info79y
    have HI := Lib.hid hj0
    have HI0 := Lib.hid hy0
    have HI1 := Lib.hid hy1
    have HI2 := Lib.hid hy2
    clear halive hmange hnf hnm hf hm hx hj0 hy0 hy1 hy2
    go_enter Try.func13, Try.ntmps13
    go_wp2_with fail
    refine (HAL.out _).mono ?_
    rintro e W1 ⟨rfl, hB⟩
    have hW1 : Below w.heap.size w W1 := Below.trans (by go_grown) (hB.mono (by simp; try omega))
    have zW1 := hW1.size
    obtain ⟨rsW1, csW1, gsW1, zsW1⟩ := keep_row hB (g := w.heap.size) (by repeat (first | with_reducible assumption | with_reducible apply row_here0 | with_reducible apply row_here1 | with_reducible apply row_here2 | with_reducible apply row_here3 | with_reducible apply rowSkip))
    clear hB
    go_wp2_with fail
    refine (rMeets_any nn day wt fa fcap nf first ma mcap nm ms 0 _ HNF.out HNM.out (HF.out.below hW1 (Nat.le_refl _)) (HM.out.below hW1 (Nat.le_refl _)) HX.out).mono ?_
    rintro e W2 ⟨rfl, hB⟩
    have hW2 : Below w.heap.size w W2 := hW1.trans (Below.trans (by have := hW1.size; go_grown) (hB.mono (by have := hW1.size; simp; try omega)))
    have zW2 := hW2.size
    obtain ⟨rsW2, csW2, gsW2, zsW2⟩ := keep_row hB (g := w.heap.size) (by repeat (first | with_reducible assumption | with_reducible apply row_here0 | with_reducible apply row_here1 | with_reducible apply row_here2 | with_reducible apply row_here3 | with_reducible apply rowSkip))
    clear hB
    clear hW1 zW1 rsW1 csW1 gsW1 zsW1
    have lmW2 := Lib.hid (HM.out.below hW2 (Nat.le_refl _))
    obtain ⟨B, hBB⟩ : ∃ B, W2.heap.size = B := ⟨_, rfl⟩
    have hsB : w.heap.size < B := hBB ▸ zsW2
    go_wp2_with fail
    go_loopw [12, 13, 36] (fun va vf i wr => ∃ k : Nat, k ≤ nm ∧ i = .int .i64 (k : Int) ∧ Hid (Two B (allK ms k) (fewK ms k) va vf wr) ∧ Hid (rowOf wr w.heap.size = some #[.int .i64 wt.1, .int .i64 wt.2]) ∧ Below w.heap.size w wr ∧ B ≤ wr.heap.size) (fun _ _ i _ => nm - (intOf i).toNat)
    case atStart => exact ⟨0, Nat.zero_le _, rfl, ⟨World.ownsRow_nil _ _ _ _, World.ownsRow_nil _ _ _ _, fun i hi => by simp [Value.ownBlock] at hi⟩, rsW2, hW2, Nat.le_of_eq hBB.symm⟩
    case round =>
      clear lmW2 rsW2 csW2 gsW2 zsW2 hW2 zW2 hBB
      obtain ⟨k, hk, rfl, hT, hrs, hwr, hBz⟩ := hrel
      have zwr := hwr.size
      by_cases hlt : k < nm
      · have hlm : k < ms.length := by have := HNM.out; omega
        obtain ⟨g, off, rfl, m1, l1⟩ := (HM.out.below hwr (Nat.le_refl _)).get hlm
        have HLM := Lib.hid hlm
        obtain ⟨md, hmd⟩ : ∃ y, mtS ms k = y := ⟨_, rfl⟩
        rw [hmd] at m1
        obtain ⟨c0, c1, c2, c3⟩ := m1
        have HMD := Lib.hid hmd
        clear hmd hlm l1
        have hlt' : (k : Int) < (nm : Int) := by omega
        obtain ⟨ya, yb, yd, yc⟩ := md
        simp only at c0 c1 c2 c3
        have hkk : (allK ms k).length = k := allK_len (by have := HNM.out; omega)
        have hkf : (fewK ms k).length ≤ k := fewK_len
        have hk200 : k < 200 := by have := HNM.out; omega
        cases yc with
        | false =>
          have hT2 := (hT.out.alloc (.cells #[.int .i64 ya, .int .i64 yb, .int .i64 yd, .bool true] 79)).alloc (.cells #[.int .i64 ya, .int .i64 yb, .int .i64 yd, .bool true] 79)
          have hlt2 : ∀ i, u12.ownBlock = some i → i < wr.heap.size ∧ B ≤ i := fun i hi => ⟨(hT.out.all.lt i hi).2, (hT.out.all.lt i hi).1⟩
          have HT2 := Lib.hid hT2
          have HL2 := Lib.hid hlt2
          clear hT2 hlt2 hT
          go_wp2_with (first | (at_builtin; refine wpList_append_sep _ rfl _ _ 28 rfl B 79 j0 (.agg #[.int .i64 0, .int .i64 0, .int .i64 0, .bool false]) 4 32 Try.underlying28 HI.out HI0.out HI1.out HI2.out rfl (by decide) _ _ _ rfl HT2.out.all ⟨wr.heap.size + 1, 0, none⟩ 1 1 (mtCells ⟨ya, yb, yd, true⟩) rfl rfl (mt_at (by repeat (first | with_reducible assumption | with_reducible apply row_here0 | with_reducible apply row_here1 | with_reducible apply row_here2 | with_reducible apply row_here3 | with_reducible apply rowSkip))) (mt_one1 _) (by unfold maxLen; omega) (by omega) (by simp; omega) ?_) | fail)
          intro v' W3 ho3 hg3 hs3
          have hT3 : Two B (allK ms (k + 1)) (fewK ms (k + 1)) v' u13 W3 := by
            have e1 := allK_succ HLM.out
            have e2 := fewK_no HLM.out (by rw [HMD.out])
            rw [HMD.out] at e1
            rw [e1, e2]
            exact HT2.out.put_all (by rw [hkk]; exact ho3) hg3 (fun i hi => by simpa using hs3 i hi)
          have hs4 := row_grownO (rowSkip (o := (.cells #[.int .i64 ya, .int .i64 yb, .int .i64 yd, .bool true] 79)) (rowSkip (o := (.cells #[.int .i64 ya, .int .i64 yb, .int .i64 yd, .bool true] 79)) hrs.out)) hg3 (fun i e => by have := (HL2.out i e).2; omega)
          have hw4 : Below w.heap.size w W3 := ((hwr.alloc zwr _).alloc (by simp; omega) _).grown hg3 (by simp; omega) (fun i e => by have := (HL2.out i e).2; omega)
          have hz4 : B ≤ W3.heap.size := by have := hg3.size; simp at this; omega
          have HT3 := Lib.hid hT3
          have HS4 := Lib.hid hs4
          clear ho3 hg3 hs3 hT3 hs4 HT2 HL2
          go_wp2
          exact ⟨⟨k + 1, hlt, by go_num, HT3, HS4, hw4, hz4⟩, by simp [intOf]; omega⟩
        | true =>
          have hT2 := (hT.out.alloc (.cells #[.int .i64 ya, .int .i64 yb, .int .i64 yd, .bool true] 79)).alloc (.cells #[.int .i64 ya, .int .i64 yb, .int .i64 yd, .bool true] 79)
          have hlt2 : ∀ i, u12.ownBlock = some i → i < wr.heap.size ∧ B ≤ i := fun i hi => ⟨(hT.out.all.lt i hi).2, (hT.out.all.lt i hi).1⟩
          have hlf2 : ∀ i, u13.ownBlock = some i → i < wr.heap.size ∧ B ≤ i := fun i hi => ⟨(hT.out.few.lt i hi).2, (hT.out.few.lt i hi).1⟩
          have HT2 := Lib.hid hT2
          have HL2 := Lib.hid hlt2
          have HF2 := Lib.hid hlf2
          clear hT2 hlt2 hlf2 hT
          go_wp2_with (first | (at_builtin; refine wpList_append_sep _ rfl _ _ 28 rfl B 79 j0 (.agg #[.int .i64 0, .int .i64 0, .int .i64 0, .bool false]) 4 32 Try.underlying28 HI.out HI0.out HI1.out HI2.out rfl (by decide) _ _ _ rfl HT2.out.few ⟨wr.heap.size + 1, 0, none⟩ 1 1 (mtCells ⟨ya, yb, yd, true⟩) rfl rfl (mt_at (by repeat (first | with_reducible assumption | with_reducible apply row_here0 | with_reducible apply row_here1 | with_reducible apply row_here2 | with_reducible apply row_here3 | with_reducible apply rowSkip))) (mt_one1 _) (by unfold maxLen; omega) (by omega) (by simp; omega) ?_) | fail)
          intro v' W3 ho3 hg3 hs3
          have hT3 : Two B (allK ms k) (fewK ms (k + 1)) u12 v' W3 := by
            have e2 := fewK_yes HLM.out (by rw [HMD.out])
            rw [HMD.out] at e2
            rw [e2]
            exact HT2.out.put_few ho3 hg3 (fun i hi => by simpa using hs3 i hi)
          have hs4 := row_grownO (rowSkip (o := (.cells #[.int .i64 ya, .int .i64 yb, .int .i64 yd, .bool true] 79)) (rowSkip (o := (.cells #[.int .i64 ya, .int .i64 yb, .int .i64 yd, .bool true] 79)) hrs.out)) hg3 (fun i e => by have := (HF2.out i e).2; omega)
          have rn3 := row_grownO (rowSkip (o := (.cells #[.int .i64 ya, .int .i64 yb, .int .i64 yd, .bool true] 79)) (row_here0 wr _ _ : rowOf (wr.alloc (.cells #[.int .i64 ya, .int .i64 yb, .int .i64 yd, .bool true] 79)) wr.heap.size = some #[.int .i64 ya, .int .i64 yb, .int .i64 yd, .bool true])) hg3 (fun i e => by have := (HF2.out i e).1; omega)
          have hw4 : Below w.heap.size w W3 := ((hwr.alloc zwr _).alloc (by simp; omega) _).grown hg3 (by simp; omega) (fun i e => by have := (HF2.out i e).2; omega)
          have hz4 : wr.heap.size + 1 + 1 ≤ W3.heap.size := by have := hg3.size; simpa using this
          have hnv : ∀ i, v'.ownBlock = some i → i ≠ wr.heap.size := fun i hi e => by
            rcases hs3 i hi with h | h
            · have := (HF2.out i h).1; omega
            · have h2 : wr.heap.size + 1 + 1 ≤ i := by simpa using h
              omega
          have HT3 := Lib.hid hT3
          have HS4 := Lib.hid hs4
          have HNV := Lib.hid hnv
          have hak : ∀ i, u12.ownBlock = some i → i ≠ wr.heap.size := fun i hi e => by have := (HL2.out i hi).1; omega
          have hab : ∀ i, u12.ownBlock = some i → B ≤ i := fun i hi => (HL2.out i hi).2
          have HAK := Lib.hid hak
          have HAB := Lib.hid hab
          have HSB := Lib.hid (show w.heap.size < wr.heap.size by omega)
          obtain ⟨_, cn, fn, zn⟩ := row_facts rn3
          clear ho3 hg3 hs3 hT3 hs4 HT2 HL2 HF2 hnv hak hab c0 c1 c2 c3
          have hG := grown_setCell W3 ⟨wr.heap.size, 3, none⟩ (.bool true)
          have hT5 := (HT3.out.grow hG (fun i hi e => HAK.out i hi (by simpa using e.symm)) (fun i hi e => HNV.out i hi (by simpa using e.symm))).alloc (.cells #[.int .i64 ya, .int .i64 yb, .int .i64 yd, .bool true] 79)
          have hs5 := row_grown HS4.out hG (show w.heap.size ≠ wr.heap.size by have := HSB.out; omega)
          have hw5 := below_grown hw4 hG hw4.size (show w.heap.size ≤ wr.heap.size by have := HSB.out; omega)
          have HT5 := Lib.hid hT5
          have HS5 := Lib.hid hs5
          have e5 : (W3.setCell ⟨wr.heap.size, 3, none⟩ (.bool true)).heap.size = W3.heap.size := by simp [World.setCell]
          have hr5 := row_here0 (W3.setCell ⟨wr.heap.size, 3, none⟩ (.bool true)) #[.int .i64 ya, .int .i64 yb, .int .i64 yd, .bool true] 79
          rw [e5] at hr5
          have HR5 := Lib.hid hr5
          have HE5 := Lib.hid e5
          clear hT5 hs5 hG HT3 HS4 HNV HAK hr5 e5
          go_wp2_with (first | (at_builtin; refine wpList_append_sep _ rfl _ _ 28 rfl B 79 j0 (.agg #[.int .i64 0, .int .i64 0, .int .i64 0, .bool false]) 4 32 Try.underlying28 HI.out HI0.out HI1.out HI2.out rfl (by decide) _ _ _ rfl HT5.out.all ⟨W3.heap.size, 0, none⟩ 1 1 (mtCells ⟨ya, yb, yd, true⟩) rfl rfl (mt_at HR5.out) (mt_one1 _) (by unfold maxLen; omega) (by omega) (by simp; have := HE5.out; omega) ?_) | fail)
          intro v2 W6 ho6 hg6 hs6
          have hT6 : Two B (allK ms (k + 1)) (fewK ms (k + 1)) v2 v' W6 := by
            have e1 := allK_succ HLM.out
            rw [HMD.out] at e1
            rw [e1]
            exact HT5.out.put_all (by rw [hkk]; exact ho6) hg6 (fun i hi => by simpa [HE5.out] using hs6 i hi)
          have hs7 := row_grownO (rowSkip HS5.out) hg6 (fun i e => by have := HAB.out i e; omega)
          have hw7 := (hw5.alloc (by have := HE5.out; omega) (.cells #[.int .i64 ya, .int .i64 yb, .int .i64 yd, .bool true] 79)).grown hg6 (by have := HE5.out; simp; omega) (fun i e => by have := HAB.out i e; omega)
          have hz7 : B ≤ W6.heap.size := by have h1 := hg6.size; have := HE5.out; simp at h1; omega
          have HT6 := Lib.hid hT6
          have HS7 := Lib.hid hs7
          clear ho6 hg6 hs6 hT6 hs7 HT5 HS5 HR5 HE5 hw5
          go_wp2
          exact ⟨⟨k + 1, hlt, by go_num, HT6, HS7, hw7, hz7⟩, by simp [intOf]; omega⟩
      · obtain rfl : k = nm := by omega
        have hTa := hT.out.all
        have hTf := hT.out.few
        rw [show allK ms k = ms.map cl1 by rw [HNM.out]; exact allK_end ms] at hTa
        rw [show fewK ms k = ms.filter (·.close) by rw [HNM.out]; exact fewK_end ms] at hTf
        obtain ⟨la, hla⟩ : ∃ y, (ms.map cl1).length = y := ⟨_, rfl⟩
        obtain ⟨lf, hlf⟩ : ∃ y, (ms.filter (·.close)).length = y := ⟨_, rfl⟩
        rw [hla] at hTa
        rw [hlf] at hTf
        obtain ⟨a1, cap1, rfl, hMa⟩ := own_meets hla.symm hTa
        obtain ⟨a2, cap2, rfl, hMf⟩ := own_meets hlf.symm hTf
        have q1wr := Lib.hid hMa
        have q2wr := Lib.hid hMf
        have HLA := Lib.hid hla.symm
        have HLF := Lib.hid hlf.symm
        have la250 : la ≤ 250 := by rw [← hla, List.length_map]; have := HNM.out; omega
        have lf250 : lf ≤ 250 := by have h1 := List.length_filter_le (·.close) ms; rw [hlf] at h1; have := HNM.out; omega
        have kk250 : k ≤ 250 := by omega
        have rswr := hrs.out
        obtain ⟨_, cswr, gswr, zswr⟩ := row_facts hrs.out
        have LMwr := Lib.hid (HM.out.below hwr (Nat.le_refl _))
        have LFwr := Lib.hid (HF.out.below hwr (Nat.le_refl _))
        have HXA := Lib.hid (chkG_all HX.out)
        have HXF := Lib.hid (chkG_few HX.out)
        clear hT hTa hTf hMa hMf hla hlf hrs HM HF hBz hsB hlt
        go_wp2_with fail
        refine (HMG.out nn day wt fa fcap nf first ma mcap k ms _ HNF.out HNM.out LFwr.out LMwr.out HX.out kk250).mono ?_
        rintro e W3 ⟨⟨g1, v1, rfl, hg, hl1, ho, hk⟩, hB⟩
        have xW3 : Ext wr W3 := Below.trans (by go_grown) (hB.mono (by simp; try omega))
        have q1W3 := Lib.hid (q1wr.out.ext xW3)
        have q2W3 := Lib.hid (q2wr.out.ext xW3)
        have LMW3 := Lib.hid (LMwr.out.ext xW3)
        have LFW3 := Lib.hid (LFwr.out.ext xW3)
        have hW3 : Below w.heap.size w W3 := hwr.trans (Below.trans (by have := hwr.size; go_grown) (hB.mono (by have := hwr.size; simp; try omega)))
        have zW3 := hW3.size
        obtain ⟨rsW3, csW3, gsW3, zsW3⟩ := keep_row hB (g := w.heap.size) (by repeat (first | with_reducible assumption | with_reducible apply row_here0 | with_reducible apply row_here1 | with_reducible apply row_here2 | with_reducible apply row_here3 | with_reducible apply rowSkip))
        clear hB
        clear hwr zwr rswr cswr gswr zswr xW3 q1wr q2wr LMwr LFwr
        have o1W3 := Lib.hid ho
        have K1 := Lib.hid hk
        clear ho hk hg
        go_wp2_with fail
        refine (span_any wt.1 wt.1 _).mono ?_
        rintro e W4 ⟨rfl, hB⟩
        have xW4 : Ext W3 W4 := Below.trans (by go_grown) (hB.mono (by simp; try omega))
        have q1W4 := Lib.hid (q1W3.out.ext xW4)
        have q2W4 := Lib.hid (q2W3.out.ext xW4)
        have LMW4 := Lib.hid (LMW3.out.ext xW4)
        have LFW4 := Lib.hid (LFW3.out.ext xW4)
        have o1W4 := Lib.hid (o1W3.out.ext xW4)
        have hW4 : Below w.heap.size w W4 := hW3.trans (Below.trans (by have := hW3.size; go_grown) (hB.mono (by have := hW3.size; simp; try omega)))
        have zW4 := hW4.size
        obtain ⟨rsW4, csW4, gsW4, zsW4⟩ := keep_row hB (g := w.heap.size) (by repeat (first | with_reducible assumption | with_reducible apply row_here0 | with_reducible apply row_here1 | with_reducible apply row_here2 | with_reducible apply row_here3 | with_reducible apply rowSkip))
        clear hB
        clear hW3 zW3 rsW3 csW3 gsW3 zsW3 xW4 q1W3 q2W3 LMW3 LFW3 o1W3
        go_wp2_with fail
        refine (HMG.out nn day (wt.1, wt.1) fa fcap nf first a1 cap1 la (ms.map cl1) _ HNF.out HLA.out LFW4.out q1W4.out HXA.out la250).mono ?_
        rintro e W5 ⟨⟨g2, v2, rfl, hg, hl2, ho, hk⟩, hB⟩
        have xW5 : Ext W4 W5 := Below.trans (by go_grown) (hB.mono (by simp; try omega))
        have q1W5 := Lib.hid (q1W4.out.ext xW5)
        have q2W5 := Lib.hid (q2W4.out.ext xW5)
        have LMW5 := Lib.hid (LMW4.out.ext xW5)
        have LFW5 := Lib.hid (LFW4.out.ext xW5)
        have o1W5 := Lib.hid (o1W4.out.ext xW5)
        have hW5 : Below w.heap.size w W5 := hW4.trans (Below.trans (by have := hW4.size; go_grown) (hB.mono (by have := hW4.size; simp; try omega)))
        have zW5 := hW5.size
        obtain ⟨rsW5, csW5, gsW5, zsW5⟩ := keep_row hB (g := w.heap.size) (by repeat (first | with_reducible assumption | with_reducible apply row_here0 | with_reducible apply row_here1 | with_reducible apply row_here2 | with_reducible apply row_here3 | with_reducible apply rowSkip))
        clear hB
        clear hW4 zW4 rsW4 csW4 gsW4 zsW4 xW5 q1W4 q2W4 LMW4 LFW4 o1W4
        have o2W5 := Lib.hid ho
        have K2 := Lib.hid hk
        clear ho hk hg
        go_wp2_with fail
        refine (span_any wt.2 wt.2 _).mono ?_
        rintro e W6 ⟨rfl, hB⟩
        have xW6 : Ext W5 W6 := Below.trans (by go_grown) (hB.mono (by simp; try omega))
        have q1W6 := Lib.hid (q1W5.out.ext xW6)
        have q2W6 := Lib.hid (q2W5.out.ext xW6)
        have LMW6 := Lib.hid (LMW5.out.ext xW6)
        have LFW6 := Lib.hid (LFW5.out.ext xW6)
        have o1W6 := Lib.hid (o1W5.out.ext xW6)
        have o2W6 := Lib.hid (o2W5.out.ext xW6)
        have hW6 : Below w.heap.size w W6 := hW5.trans (Below.trans (by have := hW5.size; go_grown) (hB.mono (by have := hW5.size; simp; try omega)))
        have zW6 := hW6.size
        obtain ⟨rsW6, csW6, gsW6, zsW6⟩ := keep_row hB (g := w.heap.size) (by repeat (first | with_reducible assumption | with_reducible apply row_here0 | with_reducible apply row_here1 | with_reducible apply row_here2 | with_reducible apply row_here3 | with_reducible apply rowSkip))
        clear hB
        clear hW5 zW5 rsW5 csW5 gsW5 zsW5 xW6 q1W5 q2W5 LMW5 LFW5 o1W5 o2W5
        go_wp2_with fail
        refine (HMG.out nn day (wt.2, wt.2) fa fcap nf first a2 cap2 lf (ms.filter (·.close)) _ HNF.out HLF.out LFW6.out q2W6.out HXF.out lf250).mono ?_
        rintro e W7 ⟨⟨g3, v3, rfl, hg, hl3, ho, hk⟩, hB⟩
        have xW7 : Ext W6 W7 := Below.trans (by go_grown) (hB.mono (by simp; try omega))
        have q1W7 := Lib.hid (q1W6.out.ext xW7)
        have q2W7 := Lib.hid (q2W6.out.ext xW7)
        have LMW7 := Lib.hid (LMW6.out.ext xW7)
        have LFW7 := Lib.hid (LFW6.out.ext xW7)
        have o1W7 := Lib.hid (o1W6.out.ext xW7)
        have o2W7 := Lib.hid (o2W6.out.ext xW7)
        have hW7 : Below w.heap.size w W7 := hW6.trans (Below.trans (by have := hW6.size; go_grown) (hB.mono (by have := hW6.size; simp; try omega)))
        have zW7 := hW7.size
        obtain ⟨rsW7, csW7, gsW7, zsW7⟩ := keep_row hB (g := w.heap.size) (by repeat (first | with_reducible assumption | with_reducible apply row_here0 | with_reducible apply row_here1 | with_reducible apply row_here2 | with_reducible apply row_here3 | with_reducible apply rowSkip))
        clear hB
        clear hW6 zW6 rsW6 csW6 gsW6 zsW6 xW7 q1W6 q2W6 LMW6 LFW6 o1W6 o2W6
        have o3W7 := Lib.hid ho
        have K3 := Lib.hid hk
        clear ho hk hg
        clear q1W7 q2W7 LMW7 LFW7 rsW7 csW7 gsW7 zsW7 HXA HXF HLA HLF
        go_wp2_with fail
        go_loopw [117] (fun i wr => ∃ k : Nat, k ≤ nn ∧ i = .int .i64 (k : Int) ∧ Hid (Ext W7 wr)) (fun i _ => nn - (intOf i).toNat)
        case atStart => exact ⟨0, Nat.zero_le _, rfl, Ext.refl _⟩
        case round =>
          obtain ⟨i, hi, rfl, hE8⟩ := hrel
          by_cases hlt : i < nn
          · have hlt' : (i : Int) < (nn : Int) := by omega
            have d1 := by_cell (o1W7.out.ext hE8.out) (show i < v1.length by omega)
            have d2 := by_cell (o2W7.out.ext hE8.out) (show i < v2.length by omega)
            have d3 := by_cell (o3W7.out.ext hE8.out) (show i < v3.length by omega)
            have hop := open_three hw2 (K1.out i hlt) (K2.out i hlt) (K3.out i hlt)
            generalize v1.getD i 0 = u at d1 hop
            generalize v2.getD i 0 = v at d2 hop
            generalize v3.getD i 0 = z at d3 hop
            rcases hop with ⟨rfl, rfl, rfl⟩ | ⟨rfl, rfl, rfl⟩ | ⟨rfl, rfl, rfl⟩
            · go_wp2_with fail
              go_quiet (fail)
              go_wp2
              exact ⟨⟨i + 1, by omega, by go_num, below_drewN hE8.out _⟩, by simp [intOf]; omega⟩
            · go_wp2_with fail
              go_quiet (fail)
              go_wp2
              exact ⟨⟨i + 1, by omega, by go_num, below_drewN hE8.out _⟩, by simp [intOf]; omega⟩
            · go_wp2_with fail
              go_quiet (fail)
              go_wp2
              exact ⟨⟨i + 1, by omega, by go_num, below_drewN hE8.out _⟩, by simp [intOf]; omega⟩
          · obtain rfl : i = nn := by omega
            have hW8 := hW7.trans (Below.mono hE8.out zW7)
            clear K1 K2 K3 o1W7 o2W7 o3W7 hE8
            go_wp2
            go_returns
            exact ⟨rfl, hW8⟩
  · have HNE := Lib.hid h0
    clear halive hmange hnf hnm hf hm hx
    go_enter Try.func13, Try.ntmps13
    go_wp2_with fail
    refine (HAL.out _).mono ?_
    rintro e W1 ⟨rfl, hB⟩
    have hW1 : Below w.heap.size w W1 := Below.trans (by go_grown) (hB.mono (by simp; try omega))
    have zW1 := hW1.size
    obtain ⟨rsW1, csW1, gsW1, zsW1⟩ := keep_row hB (g := w.heap.size) (by repeat (first | with_reducible assumption | with_reducible apply row_here0 | with_reducible apply row_here1 | with_reducible apply row_here2 | with_reducible apply row_here3 | with_reducible apply rowSkip))
    clear hB
    go_wp2_with fail
    refine (rMeets_any n day wt fa fcap nf first ma mcap nm ms x _ HNF.out HNM.out (HF.out.below hW1 (Nat.le_refl _)) (HM.out.below hW1 (Nat.le_refl _)) HX.out).mono ?_
    rintro e W2 ⟨rfl, hB⟩
    have hW2 : Below w.heap.size w W2 := hW1.trans (Below.trans (by have := hW1.size; go_grown) (hB.mono (by have := hW1.size; simp; try omega)))
    have zW2 := hW2.size
    obtain ⟨rsW2, csW2, gsW2, zsW2⟩ := keep_row hB (g := w.heap.size) (by repeat (first | with_reducible assumption | with_reducible apply row_here0 | with_reducible apply row_here1 | with_reducible apply row_here2 | with_reducible apply row_here3 | with_reducible apply rowSkip))
    clear hB
    clear hW1 zW1 rsW1 csW1 gsW1 zsW1
    have hb : (x == 0) = false := by simpa using h0
    go_wp2
    go_returns
    exact ⟨rfl, hW2⟩
end Go.Proofs.Ytafdcbdbllpcnaa
/- The shape of the arguments: numbers, a span, lists of numbers and of meetings. -/
namespace Go.Proofs.Ytafdcbdbllpcnaa
open Go.ChangeShapes Go.WideShapes Go.ChangeAt Go.RowKit
open Go.Proofs

set_option maxRecDepth 100000
section
variable {H : Type} {enc : TypeId × Value → H} {W : World} {base : Nat} {spare : Nat → Bool} {held : Bool}

theorem cells79 : Try.prog.cellsOf 79 = 4 := by kernel_rfl
theorem types31 : Try.prog.cellTypes Try.prog.depth 31 = some (List.replicate 2 3) := by kernel_rfl
theorem shapeI {w : World} {r : Reach} {b0 : Nat} {v : Value} (h : Value.okWide Try.prog w r b0 3 v) : ∃ n, v = .int .i64 n := by
  simp only [Value.okWide, Try.underlying3] at h
  exact cell_int Try.underlying3 h
theorem shapeS {w : World} {r : Reach} {b0 : Nat} {v : Value} (h : Value.okWide Try.prog w r b0 31 v) : ∃ s : Int × Int, v = .agg #[.int .i64 s.1, .int .i64 s.2] := by
  obtain ⟨cs, rfl, hs, hc⟩ := shape_cells 2 Try.underlying31 (by kernel_rfl) types31 (by simp) h
  obtain ⟨f, hf⟩ := ints_of (cs := cs) (n := 2) fun i hi => by
    obtain ⟨c, u, h1, h2, h3⟩ := hc i hi
    rw [List.getElem?_replicate, if_pos hi] at h2
    obtain rfl := Option.some.inj h2
    obtain ⟨n, rfl⟩ := cell_int Try.underlying3 h3
    exact ⟨n, h1⟩
  refine ⟨(f 0, f 1), ?_⟩
  have e := cells_eq (cs := cs) ((List.range 2).map fun i => .int .i64 (f i)) (by simpa using hs) (fun i hi => by
    simp only [List.length_map, List.length_range] at hi
    rw [hf i hi]; simp [hi])
  subst e
  rfl
theorem trod_meet {n : Nat} {cs : List Value} {x : DataW H × List MemPlace} (h : DataW.trod enc Try.prog W base spare held n 79 cs = some x) : ∃ c : Mt, cs = mtCells c := by
  obtain ⟨xs, k, -, -, hl, hxl, hf⟩ := DataW.trod_struct Try.underlying79 h
  rw [cells79] at hl
  match cs, hl with
  | [v0, v1, v2, v3], _ =>
    match xs, hxl with
    | [y0, y1, y2, y3], _ =>
      have g0 := hf 0 _ rfl
      have g1 := hf 1 _ rfl
      have g2 := hf 2 _ rfl
      have g3 := hf 3 _ rfl
      simp [cells4, cells3] at g0 g1 g2 g3
      obtain ⟨a0, h0, -, -⟩ := DataW.trod_int Try.underlying3 g0
      obtain ⟨a1, h1, -, -⟩ := DataW.trod_int Try.underlying3 g1
      obtain ⟨a2, h2, -, -⟩ := DataW.trod_int Try.underlying3 g2
      obtain ⟨a3, h3, -⟩ := DataW.trod_bool Try.underlying4 g3
      simp at h0 h1 h2 h3
      subst h0 h1 h2 h3
      exact ⟨⟨a0, a1, a2, a3⟩, rfl⟩

theorem shapeMeets {v : Value} {d : DataW H} {ps : List MemPlace} {b0 : Nat} (hv : Value.okWide Try.prog W .any b0 28 v) (h : DataW.Trod enc Try.prog W base (fun _ => true) held 28 v d ps) : ∃ a cap ms, v = .slice a ms.length cap ∧ MeetsIn W a cap ms := by
  rcases okWide_slice Try.underlying28 hv with rfl | ⟨b, off, len, cap, rfl, hlc, hb⟩
  · exact ⟨none, 0, [], rfl, .inl ⟨rfl, rfl, rfl⟩⟩
  · obtain ⟨fuel, h⟩ := h
    rcases Go.Deep.open_slice Try.underlying28 h with ⟨h, -⟩ | ⟨a, len', cap', m, n, D, Pl, he, -, -, -, hm, hx, hel⟩
    · simp [Value.cells] at h
    · simp [Value.cells] at he
      obtain ⟨rfl, rfl, rfl⟩ := he
      simp at hm
      subst hm
      obtain ⟨ms, hl, hms⟩ := choose_list len (fun i (m : Mt) => MeetAt W b (off + i * 4) m) (fun i hi => by
        obtain ⟨cs, h1, h2⟩ := hel i (by omega)
        obtain ⟨m, rfl⟩ := trod_meet h2
        refine ⟨m, ?_⟩
        rw [cells79] at h1
        obtain ⟨-, -, hc⟩ := World.cells?_some h1
        have k : ∀ j, j < 4 → W.cell? ⟨b, off + i * 4 + j, none⟩ = (mtCells m)[j]? := by
          intro j hj
          have := hc j hj
          rw [add_none, add_none] at this
          exact this
        exact ⟨k 0 (by omega), k 1 (by omega), k 2 (by omega), k 3 (by omega)⟩)
      exact ⟨some ⟨b, off, none⟩, _, ms, by rw [hl], .inr ⟨b, off, rfl, hms, hb⟩⟩
theorem shapeInts {v : Value} {d : DataW H} {ps : List MemPlace} {b0 : Nat} (hv : Value.okWide Try.prog W .any b0 27 v) (h : DataW.Trod enc Try.prog W base (fun _ => true) held 27 v d ps) : ∃ a cap ms, v = .slice a ms.length cap ∧ IntsIn W a cap ms := by
  rcases okWide_slice Try.underlying27 hv with rfl | ⟨b, off, len, cap, rfl, hlc, hb⟩
  · exact ⟨none, 0, [], rfl, .inl ⟨rfl, rfl, rfl⟩⟩
  · obtain ⟨fuel, h⟩ := h
    rcases Go.Deep.open_slice Try.underlying27 h with ⟨h, -⟩ | ⟨a, len', cap', m, n, D, Pl, he, -, -, -, hm, hx, hel⟩
    · simp [Value.cells] at h
    · simp [Value.cells] at he
      obtain ⟨rfl, rfl, rfl⟩ := he
      simp at hm
      subst hm
      obtain ⟨ms, hl, hms⟩ := choose_list len (fun i (m : Int) => W.cell? ⟨b, off + i, none⟩ = some (.int .i64 m)) (fun i hi => by
        obtain ⟨cs, h1, h2⟩ := hel i (by omega)
        obtain ⟨m, rfl, -, -⟩ := DataW.trod_int Try.underlying3 h2
        refine ⟨m, ?_⟩
        rw [cells3] at h1
        obtain ⟨-, -, hc⟩ := World.cells?_some h1
        have := hc 0 (by omega)
        rw [add_none, add_none, Nat.mul_one] at this
        exact this)
      exact ⟨some ⟨b, off, none⟩, _, ms, by rw [hl], .inr ⟨b, off, rfl, hms, hb⟩⟩
end
end Go.Proofs.Ytafdcbdbllpcnaa
/- Mange's contract where its arguments are valid. -/
namespace Go.Proofs.Ytafdcbdbllpcnaa
open Go.RowKit
open Go.Proofs

/-- The contract of Mange where its arguments are valid. -/
theorem mange_k (nn : Nat) (day : Int) (wt : Int × Int) (fa : Option Addr) (fcap nf : Nat) (first : List Int) (ma : Option Addr) (mcap nm : Nat) (ms : List Mt) (w : World) (hnf : nf = first.length) (hnm : nm = ms.length) (hf : IntsIn w fa fcap first) (hm : MeetsIn w ma mcap ms) (hx : chkG (nn : Int) first ms wt day = 0) (h250 : nm ≤ 250) :
    Calls Try.prog 15 #[.int .i64 (nn : Int), .slice fa nf fcap, .slice ma nm mcap, .agg #[.int .i64 wt.1, .int .i64 wt.2], .int .i64 day] w fun e w' => (∃ g vs, e = .returned (.tuple #[.slice (some ⟨g, 0, none⟩) nn nn, .int .i64 0]) ∧ w.heap.size ≤ g ∧ vs.length = nn ∧ ByOut w' g vs ∧ ∀ i, i < nn → Knw first ms wt day (i : Int) (vs.getD i 0)) ∧ Below w.heap.size w w' := by
  have hsick : ∀ W, Below w.heap.size w W → Calls Try.prog 56 #[.int .i64 (nn : Int), .slice fa nf fcap, .slice ma nm mcap, .agg #[.int .i64 wt.1, .int .i64 wt.2], .int .i64 day] W fun e W' => (∃ g cap ss, e = .returned (.slice (some ⟨g, 0, none⟩) nn cap) ∧ W.heap.size ≤ g ∧ SpOut W' g ss ∧ SickBy first ms wt day nn ss) ∧ Below W.heap.size W W' := fun W hW =>
    sickFrom_any nn day wt fa fcap nf first ma mcap nm ms W hnf hnm (hf.below hW (Nat.le_refl _)) (hm.below hW (Nat.le_refl _)) hx (fun W' hW' => inOrder_any ma mcap nm ms W' hnm ((hm.below hW (Nat.le_refl _)).below hW' (Nat.le_refl _)) h250)
  refine (Mange_ok nn day wt fa fcap nf first ma mcap nm ms w hnf hnm hf hm hx hsick).mono ?_
  rintro e w' ⟨⟨g, rfl, hg, vs, hl, ho, hk⟩, hB⟩
  exact ⟨⟨g, vs, rfl, hg, hl, ho, hk⟩, hB⟩
theorem mangeC : MangeC := fun nn day wt fa fcap nf first ma mcap nm ms w h1 h2 h3 h4 h5 h6 => mange_k nn day wt fa fcap nf first ma mcap nm ms w h1 h2 h3 h4 h5 h6
end Go.Proofs.Ytafdcbdbllpcnaa
