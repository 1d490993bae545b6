/- What the walks of the outright properties share. -/
import Derived.Test.YtafdcbdbllpcnaaLawRdy
import Derived.Test.YtafdcbdbllpcnaaLawPick
import Derived.Test.YtafdcbdbllpcnaaLeafL
import Derived.Test.YtafdcbdbllpcnaaLeafI
import Derived.Test.YtafdcbdbllpcnaaDayT
import Derived.Test.YtafdcbdbllpcnaaMtCl
import Derived.Laws.OwnMore
namespace Go.Proofs.Ytafdcbdbllpcnaa
open Go.RowKit
open Go.Proofs

theorem rdyS_one {b : Br} {c : Cm} {m : Mr} (h : rdyS b c [m] = true) : chkC b c = 0 ∧ okM m = true := by
  simp only [rdyS, Bool.and_eq_true, decide_eq_true_eq, List.all_cons, List.all_nil, Bool.and_true] at h
  exact ⟨h.1.1, h.2⟩
theorem okM_of {m : Mr} (h : BdM m) : okM m = true := by
  obtain ⟨⟨a1, a2⟩, ⟨a3, a4⟩, ⟨a5, a6, a7⟩, ⟨a8, a9, a10⟩, ⟨a11, a12, a13⟩⟩ := h
  simp [okM, inB, okSpan, a1, a2, a3, a4, a5, a6, a7, a8, a9, a10, a11, a12, a13]

theorem After_x (b : Br) (c : Cm) (m : Mr) (p : Cm) (f x : Int) (hp : aftC b c m = p) (hf : aftF b c m = f) (hx : chkA b c m = x) (w : World) :
    Calls Try.prog 25 #[.agg #[.int .i64 b.full, .int .i64 b.fed, .int .i64 b.rest.1, .int .i64 b.rest.2, .int .i64 b.heat.1, .int .i64 b.heat.2, .int .i64 b.toil.1, .int .i64 b.toil.2, .int .i64 b.burn.1, .int .i64 b.burn.2, .int .i64 b.rub.1, .int .i64 b.rub.2, .int .i64 b.milk.1, .int .i64 b.milk.2, .int .i64 b.heal, .int .i64 b.strong.1, .int .i64 b.strong.2], .agg #[.int .i64 c.water.1, .int .i64 c.water.2, .int .i64 c.fat.1, .int .i64 c.fat.2, .int .i64 c.sore.1, .int .i64 c.sore.2, .bool c.milks], .agg #[.int .i64 m.hours, .int .i64 m.load, .int .i64 m.heat.1, .int .i64 m.heat.2, .int .i64 m.grass.1, .int .i64 m.grass.2, .int .i64 m.drinks.1, .int .i64 m.drinks.2]] w fun e w' => e = .returned (.tuple #[.agg #[.int .i64 p.water.1, .int .i64 p.water.2, .int .i64 p.fat.1, .int .i64 p.fat.2, .int .i64 p.sore.1, .int .i64 p.sore.2, .bool p.milks], .int .u8 f, .int .i64 x]) ∧ Below w.heap.size w w' := by
  subst hp hf hx; exact After_any b c m w
theorem tmod_x {a k q : Int} (h0 : 0 ≤ a) (hq : a % k = q) : Int.tmod a k = q := by rw [Int.tmod_eq_emod_of_nonneg h0, hq]
theorem emod_in {a k q : Int} (hk : 0 < k) (hq : a % k = q) : 0 ≤ q ∧ q < k := by
  subst hq
  exact ⟨Int.emod_nonneg _ (by omega), Int.emod_lt_of_pos _ hk⟩
theorem Carries_x (b : Br) (c : Cm) (f : Int × Int) (x : Int) (hf : carR b c = f) (hx : chkC b c = x) (w : World) :
    Calls Try.prog 28 #[.agg #[.int .i64 b.full, .int .i64 b.fed, .int .i64 b.rest.1, .int .i64 b.rest.2, .int .i64 b.heat.1, .int .i64 b.heat.2, .int .i64 b.toil.1, .int .i64 b.toil.2, .int .i64 b.burn.1, .int .i64 b.burn.2, .int .i64 b.rub.1, .int .i64 b.rub.2, .int .i64 b.milk.1, .int .i64 b.milk.2, .int .i64 b.heal, .int .i64 b.strong.1, .int .i64 b.strong.2], .agg #[.int .i64 c.water.1, .int .i64 c.water.2, .int .i64 c.fat.1, .int .i64 c.fat.2, .int .i64 c.sore.1, .int .i64 c.sore.2, .bool c.milks]] w fun e w' => e = .returned (.tuple #[.agg #[.int .i64 f.1, .int .i64 f.2], .int .i64 x]) ∧ Below w.heap.size w w' := by
  subst hf hx; exact Carries_any b c w
theorem Fitness_x (b : Br) (c : Cm) (f : Int × Int) (x : Int) (hf : fitR b c = f) (hx : chkC b c = x) (w : World) :
    Calls Try.prog 23 #[.agg #[.int .i64 b.full, .int .i64 b.fed, .int .i64 b.rest.1, .int .i64 b.rest.2, .int .i64 b.heat.1, .int .i64 b.heat.2, .int .i64 b.toil.1, .int .i64 b.toil.2, .int .i64 b.burn.1, .int .i64 b.burn.2, .int .i64 b.rub.1, .int .i64 b.rub.2, .int .i64 b.milk.1, .int .i64 b.milk.2, .int .i64 b.heal, .int .i64 b.strong.1, .int .i64 b.strong.2], .agg #[.int .i64 c.water.1, .int .i64 c.water.2, .int .i64 c.fat.1, .int .i64 c.fat.2, .int .i64 c.sore.1, .int .i64 c.sore.2, .bool c.milks]] w fun e w' => e = .returned (.tuple #[.agg #[.int .i64 f.1, .int .i64 f.2], .int .i64 x]) ∧ Below w.heap.size w w' := by
  subst hf hx; exact Fitness_any b c w
theorem Cost_x (b : Br) (k : Bool) (m : Mr) (y z : Int × Int) (x : Int) (hy : coW b k m = y) (hz : coF b m = z) (hx : chkM b m = x) (w : World) :
    Calls Try.prog 24 #[.agg #[.int .i64 b.full, .int .i64 b.fed, .int .i64 b.rest.1, .int .i64 b.rest.2, .int .i64 b.heat.1, .int .i64 b.heat.2, .int .i64 b.toil.1, .int .i64 b.toil.2, .int .i64 b.burn.1, .int .i64 b.burn.2, .int .i64 b.rub.1, .int .i64 b.rub.2, .int .i64 b.milk.1, .int .i64 b.milk.2, .int .i64 b.heal, .int .i64 b.strong.1, .int .i64 b.strong.2], .bool k, .agg #[.int .i64 m.hours, .int .i64 m.load, .int .i64 m.heat.1, .int .i64 m.heat.2, .int .i64 m.grass.1, .int .i64 m.grass.2, .int .i64 m.drinks.1, .int .i64 m.drinks.2]] w fun e w' => e = .returned (.tuple #[.agg #[.int .i64 y.1, .int .i64 y.2], .agg #[.int .i64 z.1, .int .i64 z.2], .int .i64 x]) ∧ Below w.heap.size w w' := by
  subst hy hz hx; exact Cost_any b k m w
end Go.Proofs.Ytafdcbdbllpcnaa
/- A list of the call's own that grows: its block is the one that it had, or a new one. -/
namespace Go.Proofs.Ytafdcbdbllpcnaa
open Go.RowKit
open Go.Proofs

section
variable {P : Program} (w : World)
/-- The law of the library's 'append' onto a row of one's own, and where what it hands back lies. -/
theorem run_append_sep (base : Nat) (t ty e : TypeId) (i : TypeInfo) (z : Value) (size bytes : Nat) (ht : P.underlying t = some (.slice e)) (hi : P.info? e = some i) (hz : i.zero = some z)
    (hsize : i.size = size) (hby : i.bytes = bytes) (hzs : z.cells.size = size) (hsz : 0 < size)
    (v : Value) (n : Nat) (xs : List Value) (hown : w.ownsRow base e size v n xs)
    (a : Addr) (m c : Nat) (news : List Value) (hl : news.length = m * size) (hnews : ∀ j u, news[j]? = some u → w.cell? (a.add j) = some u) (h1 : ∀ u ∈ news, u.oneCell' = true)
    (h63 : n + m ≤ maxLen) (hbytes : (n + m) * bytes ≤ 140737488355328) (hbase : base ≤ w.heap.size) :
    ∃ v' w', (Builtin.append_ #[t, t] ty #[v, .slice (some a) m c]).run P w = .ok v' w' ∧ w'.ownsRow base e size v' (n + m) (xs ++ news) ∧ w.grownBy w' v.ownBlock ∧
      (∀ k, v'.ownBlock = some k → v.ownBlock = some k ∨ w.heap.size ≤ k) := by
  obtain ⟨v', w', hr, ho, hg, -⟩ := run_append_own (P := P) w base t ty e i z size bytes ht hi hz hsize hby hzs hsz v n xs hown a m c news hl hnews h1 h63 hbytes hbase
  refine ⟨v', w', hr, ho, hg, fun k hk => ?_⟩
  have hb63 : n + m ≤ 9223372036854775807 := by simp only [maxLen] at h63; omega
  rcases hown.2 with ⟨rfl, rfl⟩ | ⟨g, cap, cur, rfl, -, hgg, -, -, hcs, -⟩
  · have hxs : xs = [] := List.eq_nil_of_length_eq_zero (by simpa using hown.1)
    subst hxs
    obtain ⟨v2, w2, hr2, ho2, -⟩ := run_append_own (P := P) w w.heap.size t ty e i z size bytes ht hi hz hsize hby hzs hsz _ 0 [] (World.ownsRow_nil w w.heap.size e size) a m c news hl hnews h1 h63 hbytes (Nat.le_refl _)
    rw [hr] at hr2
    injection hr2 with e1 e2
    subst e1 e2
    exact .inr (ho2.lt k hk).1
  · subst hsize
    by_cases hroom : n + m ≤ cap
    · have hfit : n * i.size + news.length ≤ cur.size := by rw [hl, hcs, ← Nat.add_mul]; exact Nat.mul_le_mul_right _ hroom
      have hr2 := run_append_room (P := P) w t ty e i ht hi g n cap cur hgg a m c news hl hnews h1 hroom hfit
      rw [hr] at hr2
      injection hr2 with e1 e2
      subst e1
      exact .inl hk
    · have hr2 := run_append_grow (P := P) w t ty e i z ht hi hz ⟨g, 0, none⟩ n cap xs hown.1 (hown.cells (g := g) rfl) a m c news hl hnews (by omega) (by omega) (growslice_fits (by omega) (by rw [hby]; exact hbytes))
      rw [hr] at hr2
      injection hr2 with e1 e2
      subst e1
      simp only [Value.ownBlock, Option.some.injEq] at hk
      exact .inr (by omega)
theorem wp_append_sep {o : Oper} {a : Act} {K : Act → World → Prop} {Q : Exit → Act → World → Prop} (s x : Operand) (t : TypeId)
    (ho : o.op = .call { callee := .builtin .append, args := #[s, x], argTypes := #[t, t] })
    (base : Nat) (e : TypeId) (i : TypeInfo) (z : Value) (size bytes : Nat) (ht : P.underlying t = some (.slice e)) (hi : P.info? e = some i) (hz : i.zero = some z)
    (hsize : i.size = size) (hby : i.bytes = bytes) (hzs : z.cells.size = size) (hsz : 0 < size)
    (v : Value) (n : Nat) (xs : List Value) (hs : a.eval s = v) (hown : w.ownsRow base e size v n xs)
    (ad : Addr) (m c : Nat) (news : List Value) (hx : a.eval x = .slice (some ad) m c) (hl : news.length = m * size) (hnews : ∀ j u, news[j]? = some u → w.cell? (ad.add j) = some u) (h1 : ∀ u ∈ news, u.oneCell' = true)
    (h63 : n + m ≤ maxLen) (hbytes : (n + m) * bytes ≤ 140737488355328) (hbase : base ≤ w.heap.size)
    (h : ∀ v' w', w'.ownsRow base e size v' (n + m) (xs ++ news) → w.grownBy w' v.ownBlock → (∀ k, v'.ownBlock = some k → v.ownBlock = some k ∨ w.heap.size ≤ k) → K (a.put o.dst v') w') : o.wp P a w K Q := by
  obtain ⟨v', w', hr, h2, h3, h4⟩ := run_append_sep (P := P) w base t o.type e i z size bytes ht hi hz hsize hby hzs hsz v n xs hown ad m c news hl hnews h1 h63 hbytes hbase
  unfold Oper.wp execOp
  simp only [ho, resolve, invoke, builtin, Sem.run_bind, Sem.run_pure, Result.andThen_ok, List.map_toArray, List.map_cons, List.map_nil, hs, hx, hr]
  exact h v' w' h2 h3 h4
theorem wpList_append_sep {ops : Array Oper} {rest : List Oper} {o : Oper} {a : Act} {Q : Exit → Act → World → Prop} (hgd : o.guard = none) (s x : Operand) (t : TypeId)
    (ho : o.op = .call { callee := .builtin .append, args := #[s, x], argTypes := #[t, t] })
    (base : Nat) (e : TypeId) (i : TypeInfo) (z : Value) (size bytes : Nat) (ht : P.underlying t = some (.slice e)) (hi : P.info? e = some i) (hz : i.zero = some z)
    (hsize : i.size = size) (hby : i.bytes = bytes) (hzs : z.cells.size = size) (hsz : 0 < size)
    (v : Value) (n : Nat) (xs : List Value) (hs : a.eval s = v) (hown : w.ownsRow base e size v n xs)
    (ad : Addr) (m c : Nat) (news : List Value) (hx : a.eval x = .slice (some ad) m c) (hl : news.length = m * size) (hnews : ∀ j u, news[j]? = some u → w.cell? (ad.add j) = some u) (h1 : ∀ u ∈ news, u.oneCell' = true)
    (h63 : n + m ≤ maxLen) (hbytes : (n + m) * bytes ≤ 140737488355328) (hbase : base ≤ w.heap.size)
    (h : ∀ v' w', w'.ownsRow base e size v' (n + m) (xs ++ news) → w.grownBy w' v.ownBlock → (∀ k, v'.ownBlock = some k → v.ownBlock = some k ∨ w.heap.size ≤ k) → wpList P ops Q rest (a.put o.dst v') w') : wpList P ops Q (o :: rest) a w :=
  wpList_plain hgd fun _ hK => wp_append_sep w s x t ho base e i z size bytes ht hi hz hsize hby hzs hsz v n xs hs hown ad m c news hx hl hnews h1 h63 hbytes hbase fun v' w' h2 h3 h4 => hK _ _ (h v' w' h2 h3 h4)
end
end Go.Proofs.Ytafdcbdbllpcnaa
/- The reckoning of mange until nothing changes, plain. -/
namespace Go.Proofs.Ytafdcbdbllpcnaa

/-- A list of days as a function of the animal. -/
def fI (xs : List Int) (i : Int) : Int := xs.getD i.toNat 0
theorem fI_nat (xs : List Int) (k : Nat) : fI xs (k : Int) = xs.getD k 0 := by simp [fI]
theorem fI_set {xs : List Int} {k : Nat} {v : Int} (hk : k < xs.length) {j : Int} (hj : 0 ≤ j) : fI (xs.set k v) j = if j = (k : Int) then v else fI xs j := by
  unfold fI
  by_cases h : j = (k : Int)
  · subst h
    simp [hk]
  · rw [if_neg h]
    have : k ≠ j.toNat := by omega
    simp [List.getD, List.getElem?_set_ne this]
def sumN (xs : List Int) : Nat := (xs.map Int.toNat).sum
theorem sumN_set : ∀ {xs : List Int} {k : Nat} {v : Int}, k < xs.length → 0 ≤ v → v < xs.getD k 0 → sumN (xs.set k v) < sumN xs
  | [], k, v, h, _, _ => by simp at h
  | x :: xs, 0, v, h, h1, h2 => by
    simp [sumN] at h2 ⊢
    omega
  | x :: xs, k + 1, v, h, h1, h2 => by
    have := sumN_set (xs := xs) (k := k) (v := v) (by simpa using h) h1 (by simpa using h2)
    simp [sumN] at this ⊢
    omega

/-- One direction of a meeting, as the document's reckoning goes. -/
def half (D w : Int) (i j : Nat) (xs : List Int) : List Int := if xs.getD i 0 ≤ D ∧ D + w < xs.getD j 0 then xs.set j (D + w) else xs
theorem half_len (D w : Int) (i j : Nat) (xs : List Int) : (half D w i j xs).length = xs.length := by
  unfold half; split <;> simp
/-- What stands at any time. -/
structure Fine (first : List Int) (E : Mt → Prop) (w n N : Int) (xs : List Int) : Prop where
  len : (xs.length : Int) = n
  snd : Snd first E w n N (fI xs)
structure Inn (first : List Int) (ms : List Mt) (E : Mt → Prop) (w n N : Int) (xs0 xs : List Int) (cb : Bool) (j : Nat) : Prop where
  good : Fine first E w n N xs
  base : ∀ i ∈ first, fI xs i ≤ 0
  calm : cb = false → xs = xs0 ∧ Reck E (fun x => x ∈ ms.take j) w (fI xs)
  less : cb = true → sumN xs < sumN xs0
theorem Fine.half {first : List Int} {E : Mt → Prop} {w n N : Int} {xs : List Int} (h : Fine first E w n N xs) {x : Mt} (hx : E x) (ho : okMt n x) (hN : 100000 < N) {i j : Nat} (hl : x.links i j) (hj : j < xs.length) : Fine first E w n N (half x.day w i j xs) := by
  refine ⟨by rw [half_len]; exact h.len, ?_⟩
  unfold Proofs.Ytafdcbdbllpcnaa.half
  split
  · rename_i hc
    intro k h1 h2
    rw [fI_set hj h1]
    split
    · rename_i hk
      subst hk
      exact .inr (h.snd.caught hx ho hN hl (by rw [fI_nat]; exact hc.1))
    · exact h.snd k h1 h2
  · exact h.snd
theorem half_base {D w : Int} {i j : Nat} {xs : List Int} {k : Int} (hk : 0 ≤ k) (hj : j < xs.length) (h : fI xs k ≤ 0) : fI (half D w i j xs) k ≤ 0 := by
  unfold half
  split
  · rename_i hc
    rw [fI_set hj hk]
    split
    · rename_i e
      subst e
      rw [fI_nat] at h
      omega
    · exact h
  · exact h
def moved (D w : Int) (i j : Nat) (xs : List Int) : Bool := decide (xs.getD i 0 ≤ D) && decide (D + w < xs.getD j 0)
theorem half_moved {D w : Int} {i j : Nat} {xs : List Int} (h : moved D w i j xs = true) : half D w i j xs = xs.set j (D + w) := by
  simp only [moved, Bool.and_eq_true, decide_eq_true_eq] at h
  exact if_pos h
theorem half_still {D w : Int} {i j : Nat} {xs : List Int} (h : moved D w i j xs = false) : half D w i j xs = xs := by
  refine if_neg fun h' => ?_
  simp only [moved, Bool.and_eq_false_iff, decide_eq_false_iff_not] at h
  rcases h with h | h
  · exact h h'.1
  · exact h h'.2
theorem half_sum {D w : Int} {i j : Nat} {xs : List Int} (hj : j < xs.length) (hD : 0 ≤ D + w) : sumN (half D w i j xs) ≤ sumN xs ∧ (moved D w i j xs = true → sumN (half D w i j xs) < sumN xs) := by
  cases h : moved D w i j xs with
  | false => rw [half_still h]; exact ⟨Nat.le_refl _, fun h => by cases h⟩
  | true =>
    have hs : sumN (half D w i j xs) < sumN xs := by
      rw [half_moved h]
      simp only [moved, Bool.and_eq_true, decide_eq_true_eq] at h
      exact sumN_set hj hD h.2
    exact ⟨Nat.le_of_lt hs, fun _ => hs⟩
/-- A meeting, reckoned. -/
theorem Inn.step {first : List Int} {ms : List Mt} {E : Mt → Prop} {w n N : Int} {xs0 xs : List Int} {cb : Bool} {k : Nat} (h : Inn first ms E w n N xs0 xs cb k) (hk : k < ms.length) (hx : E ms[k]) (ho : okMt n ms[k]) (hN : 100000 < N) (hw : 1 ≤ w) (hf : ∀ i ∈ first, 0 ≤ i) {i j : Nat} (hi : ms[k].a = (i : Int)) (hj : ms[k].b = (j : Int)) :
    Inn first ms E w n N xs0 (half ms[k].day w j i (half ms[k].day w i j xs)) (cb || moved ms[k].day w i j xs || moved ms[k].day w j i (half ms[k].day w i j xs)) (k + 1) := by
  obtain ⟨o1, o2, o3, o4, o5, o6, o7⟩ := id ho
  have hlen := h.good.len
  have li : i < xs.length := by omega
  have lj : j < xs.length := by omega
  have g1 := h.good.half (x := ms[k]) (i := i) (j := j) hx ho hN (.inl ⟨hi, hj⟩) lj
  have li' : i < (Proofs.Ytafdcbdbllpcnaa.half ms[k].day w i j xs).length := by rw [half_len]; exact li
  have g2 := g1.half (x := ms[k]) (i := j) (j := i) hx ho hN (.inr ⟨hj, hi⟩) li'
  have s1 := half_sum (D := ms[k].day) (w := w) (i := i) (j := j) (xs := xs) lj (by omega)
  have s2 := half_sum (D := ms[k].day) (w := w) (i := j) (j := i) (xs := Proofs.Ytafdcbdbllpcnaa.half ms[k].day w i j xs) li' (by omega)
  refine ⟨g2, fun q hq => half_base (hf q hq) li' (half_base (hf q hq) lj (h.base q hq)), ?_, ?_⟩
  · intro hc
    simp only [Bool.or_eq_false_iff] at hc
    obtain ⟨⟨c1, c2⟩, c3⟩ := hc
    rw [half_still c2] at c3 ⊢
    rw [half_still c3]
    obtain ⟨e, hr⟩ := h.calm c1
    refine ⟨e, fun y hy hE => ?_⟩
    rw [List.take_succ_eq_append_getElem hk, List.mem_append] at hy
    rcases hy with hy | hy
    · exact hr y hy hE
    · obtain rfl : y = ms[k] := by simpa using hy
      rw [hi, hj, fI_nat, fI_nat]
      simp only [moved, Bool.and_eq_false_iff, decide_eq_false_iff_not] at c2 c3
      constructor <;> intro hh <;> omega
  · intro hc
    simp only [Bool.or_eq_true] at hc
    rcases hc with (hc | hc) | hc
    · have := h.less hc; omega
    · have := s1.2 hc
      cases hcb : cb with
      | true => have := h.less hcb; omega
      | false => obtain ⟨e, -⟩ := h.calm hcb; rw [← e]; omega
    · have := s2.2 hc
      cases hcb : cb with
      | true => have := h.less hcb; omega
      | false => obtain ⟨e, -⟩ := h.calm hcb; rw [← e]; omega
theorem Inn.skip {first : List Int} {ms : List Mt} {E : Mt → Prop} {w n N : Int} {xs0 xs : List Int} {cb : Bool} {k : Nat} (h : Inn first ms E w n N xs0 xs cb k) (hk : k < ms.length) (hx : ¬ E ms[k]) : Inn first ms E w n N xs0 xs cb (k + 1) := by
  refine ⟨h.good, h.base, fun hc => ⟨(h.calm hc).1, fun y hy hE => ?_⟩, h.less⟩
  rw [List.take_succ_eq_append_getElem hk, List.mem_append] at hy
  rcases hy with hy | hy
  · exact (h.calm hc).2 y hy hE
  · obtain rfl : y = ms[k] := by simpa using hy
    exact absurd hE hx
theorem Inn.start {first : List Int} {ms : List Mt} {E : Mt → Prop} {w n N : Int} {xs : List Int} (g : Fine first E w n N xs) (hb : ∀ i ∈ first, fI xs i ≤ 0) : Inn first ms E w n N xs xs false 0 :=
  ⟨g, hb, fun _ => ⟨rfl, fun y hy => by simp at hy⟩, fun h => by cases h⟩
theorem Inn.calms {first : List Int} {ms : List Mt} {E : Mt → Prop} {w n N : Int} {xs0 xs : List Int} (h : Inn first ms E w n N xs0 xs false ms.length) : Reck E (fun x => x ∈ ms) w (fI xs) := by
  have := (h.calm rfl).2
  rwa [List.take_length] at this
theorem good_start {first : List Int} {E : Mt → Prop} {w n N : Int} {k : Nat} (hk : (k : Int) = n) : Fine first E w n N (List.replicate k N) :=
  ⟨by simpa using hk, fun i h1 h2 => .inl (by
    unfold fI
    have : i.toNat < k := by omega
    simp [this])⟩
theorem good_first {first : List Int} {E : Mt → Prop} {w n N : Int} {xs : List Int} (h : Fine first E w n N xs) {j : Nat} (hj : j < xs.length) (hm : (j : Int) ∈ first) : Fine first E w n N (xs.set j 0) := by
  refine ⟨by simpa using h.len, fun i h1 h2 => ?_⟩
  rw [fI_set hj h1]
  split
  · rename_i e
    subst e
    exact .inr (.start hm)
  · exact h.snd i h1 h2
theorem base_first {xs : List Int} {j : Nat} (hj : j < xs.length) {L : List Int} (hL : ∀ i ∈ L, 0 ≤ i) (h : ∀ i ∈ L, fI xs i ≤ 0) : ∀ i ∈ L ++ [(j : Int)], fI (xs.set j 0) i ≤ 0 := by
  intro i hi
  rw [List.mem_append] at hi
  have h0 : 0 ≤ i := by
    rcases hi with hi | hi
    · exact hL i hi
    · simp at hi; omega
  rw [fI_set hj h0]
  split
  · exact Int.le_refl _
  · rename_i hne
    rcases hi with hi | hi
    · exact h i hi
    · simp at hi; exact absurd hi hne
end Go.Proofs.Ytafdcbdbllpcnaa
/- A list of numbers in a block of one's own that is written into. -/
namespace Go.Proofs.Ytafdcbdbllpcnaa
open Go.RowKit
open Go.Proofs

def OutAt (W : World) (g : Nat) (xs : List Int) : Prop := ∃ cur : Array Value, rowOf W g = some cur ∧ ∀ k, k < xs.length → cur[k]? = some (.int .i64 (xs.getD k 0))
theorem OutAt.get {W : World} {g : Nat} {xs : List Int} (h : OutAt W g xs) {k : Nat} (hk : k < xs.length) : W.cell? ⟨g, k, none⟩ = some (.int .i64 (xs.getD k 0)) ∧ W.frozen? ⟨g, k, none⟩ = false ∧ g < W.heap.size := by
  obtain ⟨cur, h1, h2⟩ := h
  obtain ⟨c, f, z⟩ := cell_of_rowOf h1
  exact ⟨by rw [c]; exact h2 k hk, f k, z⟩
theorem OutAt.lt {W : World} {g : Nat} {xs : List Int} (h : OutAt W g xs) : g < W.heap.size := by
  obtain ⟨cur, h1, -⟩ := h
  exact (cell_of_rowOf h1).2.2
theorem rowOf_setCell_o {w : World} {g off : Nat} {cs : Array Value} (h : rowOf w g = some cs) (v : Value) : rowOf (w.setCell ⟨g, off, none⟩ v) g = some (cs.setIfInBounds off v) := by
  obtain ⟨t, hg⟩ := rowOf_some h
  rw [setCell_eq_setRow w g off cs t (0, 0) v hg]
  exact (stored_setRow h _).row
theorem OutAt.set {W : World} {g : Nat} {xs : List Int} (h : OutAt W g xs) {k : Nat} (hk : k < xs.length) (v : Int) : OutAt (W.setCell ⟨g, k, none⟩ (.int .i64 v)) g (xs.set k v) := by
  obtain ⟨cur, h1, h2⟩ := h
  refine ⟨_, rowOf_setCell_o h1 _, fun j hj => ?_⟩
  have hj' : j < xs.length := by simpa using hj
  have hkc : k < cur.size := (Array.getElem?_eq_some_iff.1 (h2 k hk)).1
  rw [Array.getElem?_setIfInBounds]
  by_cases e : k = j
  · subst e
    simp [hkc, hk]
  · rw [if_neg e, h2 j hj']
    simp [List.getD, List.getElem?_set_ne e]
theorem OutAt.keep {B : Nat} {W W' : World} {g : Nat} {xs : List Int} (h : OutAt W g xs) (hB : Below B W W') (hg : g < B) : OutAt W' g xs := by
  obtain ⟨cur, h1, h2⟩ := h
  exact ⟨cur, by rw [← h1]; simp only [rowOf, hB.block g hg], h2⟩
theorem OutAt.alloc {W : World} {g : Nat} {xs : List Int} (h : OutAt W g xs) (o : Obj) : OutAt (W.alloc o) g xs := h.keep (ext_alloc _ _) h.lt
theorem OutAt.drewN {W : World} {g : Nat} {xs : List Int} (h : OutAt W g xs) (n : Nat) : OutAt (W.drewN n) g xs := h
theorem OutAt.ints {W : World} {g cap : Nat} {xs : List Int} (h : OutAt W g xs) : IntsIn W (some ⟨g, 0, none⟩) cap xs :=
  .inr ⟨g, 0, rfl, fun k hk => by rw [Nat.zero_add, (h.get hk).1]; simp [hk], h.lt⟩
theorem row_heap {W : World} {g : Nat} {cs : Array Value} {t : TypeId} (h : W.heap[g]? = some (.cells cs t (0, 0))) : rowOf W g = some cs := by unfold rowOf; rw [h]; rfl
theorem out_owns {W : World} {base n : Nat} {v : Value} {xs : List Int} (hn : n = xs.length) (h0 : 0 < n) (h : W.ownsRow base 3 1 v n (xs.map (.int .i64 ·))) : ∃ g cap, v = .slice (some ⟨g, 0, none⟩) n cap ∧ base ≤ g ∧ OutAt W g xs := by
  have hk := h
  obtain ⟨-, h⟩ := h
  rcases h with ⟨-, h⟩ | ⟨g, cap, cur, rfl, h2, h3, -⟩
  · omega
  · refine ⟨g, cap, rfl, h2, cur, row_heap h3, fun k hkl => ?_⟩
    have hc := hk.cellAt k (by omega)
    rw [(cell_of_rowOf (row_heap h3)).1] at hc
    rw [hc]
    simp [hkl]
def worldSum (W : World) (g n : Nat) : Nat := ((List.range n).map fun k => (intOf ((W.cell? ⟨g, k, none⟩).getD undef)).toNat).sum
theorem worldSum_out {W : World} {g n : Nat} {xs : List Int} (h : OutAt W g xs) (hn : n = xs.length) : worldSum W g n = sumN xs := by
  subst hn
  unfold worldSum sumN
  congr 1
  apply List.ext_getElem
  · simp
  · intro k h1 h2
    have hk : k < xs.length := by simpa using h1
    simp only [List.getElem_map, List.getElem_range]
    rw [(h.get hk).1]
    simp [intOf, hk]
end Go.Proofs.Ytafdcbdbllpcnaa
