/- A list that is appended to an empty one of one's own: a copy of it; over every program. Copies of lists of days and animals. -/
import Derived.Test.YtafdcbdbllpcnaaSpec3
import Derived.Test.YtafdcbdbllpcnaaDayT
import Derived.Laws.OwnMore
import Derived.Test.YtafdcbdbllpcnaaDraws
import Derived.Test.YtafdcbdbllpcnaaPart
namespace Go.Proofs.Ytafdcbdbllpcnaa
open Go.RowKit
open Go.Proofs

section
variable {P : Program}
theorem wpList_clone {ops : Array Oper} {rest : List Oper} {o : Oper} {a : Act} {w : World} {Q : Exit → Act → World → Prop} (hgd : o.guard = none) (s x : Operand) (t : TypeId) (ho : o.op = .call { callee := .builtin .append, args := #[s, x], argTypes := #[t, t] })
    (base : Nat) (e : TypeId) (i : TypeInfo) (z : Value) (size bytes : Nat) (ht : P.underlying t = some (.slice e)) (hi : P.info? e = some i) (hz : i.zero = some z) (hsize : i.size = size) (hby : i.bytes = bytes) (hzs : z.cells.size = size) (hsz : 0 < size)
    (g0 cap0 : Nat) (hs : a.eval s = .slice (some ⟨g0, 0, none⟩) 0 cap0) (hown : w.ownsRow base e size (.slice (some ⟨g0, 0, none⟩) 0 cap0) 0 []) (xa : Option Addr) (n c : Nat) (cells : List Value) (hx : a.eval x = .slice xa n c) (hl : cells.length = n * size)
    (hsrc : (xa = none ∧ n = 0 ∧ c = 0) ∨ ∃ ad, xa = some ad ∧ ∀ j u, cells[j]? = some u → w.cell? (ad.add j) = some u) (h1 : ∀ u ∈ cells, u.oneCell' = true) (b1 : n ≤ maxLen) (b2 : n * bytes ≤ 140737488355328) (b3 : base ≤ w.heap.size)
    (hK : ∀ g cap w1, w1.ownsRow base e size (.slice (some ⟨g, 0, none⟩) n cap) n cells → w.grownBy w1 (some g0) → wpList P ops Q rest (a.put o.dst (.slice (some ⟨g, 0, none⟩) n cap)) w1) : wpList P ops Q (o :: rest) a w := by
  rcases hsrc with ⟨rfl, rfl, rfl⟩ | ⟨ad, rfl, hsrc⟩
  · obtain rfl : cells = [] := List.eq_nil_of_length_eq_zero (by simpa using hl)
    refine wpList_plain hgd fun K hK' => ?_
    have hr := run_append_owned_none (P := P) (w := w) base t o.type e i size ht hi _ 0 [] hown
    unfold Oper.wp execOp
    simp only [ho, resolve, invoke, builtin, Sem.run_bind, Sem.run_pure, Result.andThen_ok, List.map_toArray, List.map_cons, List.map_nil, hs, hx, hr]
    exact hK' _ _ (hK g0 cap0 w hown ⟨rfl, rfl, rfl, Nat.le_refl _, fun _ _ _ => rfl⟩)
  · refine wpList_append_own w hgd s x t ho base e i z size bytes ht hi hz hsize hby hzs hsz _ 0 [] hs hown ad n c cells hx hl hsrc h1 (by omega) (by rw [Nat.zero_add]; exact b2) b3 ?_
    intro v' w1 hown' hgrow hnil
    rw [Nat.zero_add, List.nil_append] at hown'
    rcases hown'.2 with ⟨rfl, h0⟩ | ⟨g, cap, cur, rfl, _⟩
    · exact absurd (hnil.1 rfl).1 (by simp)
    · exact hK g cap w1 hown' hgrow
end

/-- Cells of a list of things of one width, one by one. -/
theorem flat_at {α : Type} (f : α → List Value) (s : Nat) (hf : ∀ x, (f x).length = s) : ∀ (xs : List α) (k i : Nat) (hk : k < xs.length), i < s → (xs.flatMap f)[k * s + i]? = (f xs[k])[i]?
  | [], k, i, hk, _ => by simp at hk
  | x :: xs, 0, i, hk, hi => by
    rw [List.flatMap_cons, Nat.zero_mul, Nat.zero_add, List.getElem?_append_left (by rw [hf]; exact hi)]
    simp
  | x :: xs, k + 1, i, hk, hi => by
    rw [List.flatMap_cons, Nat.add_mul, Nat.one_mul, List.getElem?_append_right (by rw [hf]; omega), hf, show k * s + s + i - s = k * s + i by omega, flat_at f s hf xs k i (by simpa using hk) hi]
    rfl
theorem flat_len {α : Type} (f : α → List Value) (s : Nat) (hf : ∀ x, (f x).length = s) : ∀ (xs : List α), (xs.flatMap f).length = xs.length * s
  | [] => by simp
  | x :: xs => by rw [List.flatMap_cons, List.length_append, hf, flat_len f s hf xs, List.length_cons, Nat.add_mul]; omega
theorem flat_all {α : Type} (f : α → List Value) (s : Nat) (hf : ∀ x, (f x).length = s) (hs : 0 < s) (P : Nat → Value → Prop) (xs : List α) (h : ∀ k (hk : k < xs.length) i u, (f xs[k])[i]? = some u → P (k * s + i) u) : ∀ j u, (xs.flatMap f)[j]? = some u → P j u := by
  intro j u hj
  have hjl : j < xs.length * s := by rw [← flat_len f s hf xs]; exact (List.getElem?_eq_some_iff.1 hj).1
  have hk : j / s < xs.length := Nat.div_lt_of_lt_mul (by rw [Nat.mul_comm]; exact hjl)
  have e : j / s * s + j % s = j := by rw [Nat.mul_comm]; exact Nat.div_add_mod j s
  have := h (j / s) hk (j % s) u (by rw [← flat_at f s hf xs (j / s) (j % s) hk (Nat.mod_lt _ hs), e]; exact hj)
  rw [e] at this
  exact this

theorem add_none (g o j : Nat) : (⟨g, o, none⟩ : Addr).add j = ⟨g, o + j, none⟩ := by unfold Addr.add; split <;> simp_all
theorem mar_len (m : Mr) : (marCells m).length = 8 := rfl
theorem mar_one {ms : List Mr} : ∀ u ∈ ms.flatMap marCells, u.oneCell' = true := by
  intro u hu
  obtain ⟨m, _, hu⟩ := List.mem_flatMap.1 hu
  simp only [marCells, List.mem_cons, List.not_mem_nil, or_false] at hu
  rcases hu with rfl | rfl | rfl | rfl | rfl | rfl | rfl | rfl <;> rfl
theorem mar_cell {w : World} {g o : Nat} {m : Mr} (h : MarchAt w g o m) : ∀ i u, (marCells m)[i]? = some u → w.cell? ⟨g, o + i, none⟩ = some u := by
  obtain ⟨c0, c1, c2, c3, c4, c5, c6, c7⟩ := h
  intro i u hu
  match i with
  | 0 => simp [marCells] at hu; subst hu; exact c0
  | 1 => simp [marCells] at hu; subst hu; exact c1
  | 2 => simp [marCells] at hu; subst hu; exact c2
  | 3 => simp [marCells] at hu; subst hu; exact c3
  | 4 => simp [marCells] at hu; subst hu; exact c4
  | 5 => simp [marCells] at hu; subst hu; exact c5
  | 6 => simp [marCells] at hu; subst hu; exact c6
  | 7 => simp [marCells] at hu; subst hu; exact c7
  | n + 8 => simp [marCells] at hu
theorem days_src {w : World} {a : Option Addr} {cap : Nat} {ms : List Mr} (h : DaysIn w a cap ms) : (a = none ∧ ms.length = 0 ∧ cap = 0) ∨ ∃ ad, a = some ad ∧ ∀ j u, (ms.flatMap marCells)[j]? = some u → w.cell? (ad.add j) = some u := by
  rcases h with ⟨h1, h2, h3⟩ | ⟨b, off, h1, h2, h3⟩
  · exact .inl ⟨h1, by rw [h3]; rfl, h2⟩
  · refine .inr ⟨_, h1, ?_⟩
    refine flat_all marCells 8 mar_len (by omega) (fun j u => w.cell? ((⟨b, off, none⟩ : Addr).add j) = some u) ms ?_
    intro k hk i u hu
    rw [add_none, ← Nat.add_assoc]
    exact mar_cell (h2 k hk) i u hu
theorem days_own {w : World} {base g n cap : Nat} {ms : List Mr} (hn : n = ms.length) (h : w.ownsRow base 45 8 (.slice (some ⟨g, 0, none⟩) n cap) n (ms.flatMap marCells)) : DaysIn w (some ⟨g, 0, none⟩) cap ms ∧ base ≤ g := by
  subst hn
  have hb : base ≤ g ∧ g < w.heap.size := h.lt g rfl
  refine ⟨.inr ⟨g, 0, rfl, ?_, hb.2⟩, hb.1⟩
  intro k hk
  have key : ∀ i u, (marCells ms[k])[i]? = some u → w.cell? ⟨g, 0 + k * 8 + i, none⟩ = some u := by
    intro i u hu
    have hi : i < 8 := (List.getElem?_eq_some_iff.1 hu).1
    have h2 := h.cellAt (0 + k * 8 + i) (by have : (k + 1) * 8 ≤ ms.length * 8 := Nat.mul_le_mul_right 8 hk; omega)
    rw [h2, Nat.zero_add, flat_at marCells 8 mar_len ms k i hk hi]
    exact hu
  exact ⟨key 0 _ rfl, key 1 _ rfl, key 2 _ rfl, key 3 _ rfl, key 4 _ rfl, key 5 _ rfl, key 6 _ rfl, key 7 _ rfl⟩
end Go.Proofs.Ytafdcbdbllpcnaa
/- The law for drawn regions, wider again: over any relation of worlds; a store is told of through the slot that it goes by. Over every program. -/
namespace Go.Proofs.Ytafdcbdbllpcnaa
open Go.RowKit

/-- The value that an operation is told of: its own slot's, or that of the slot that it watches. -/
def valY (wt : Nat → Tmp) (a : Act) (j : Nat) : Option Tmp → Value
  | some d => a.tmps[d]?.getD undef
  | none => a.tmps[wt j]?.getD undef
def valYF (wt : Nat → Tmp) (f : Tmp → Value) (j : Nat) : Option Tmp → Value
  | some d => f d
  | none => f (wt j)

section
variable {P : Program} {ops : Array Oper} {Q : Exit → Act → World → Prop}

structure GoodY (X : World → World → Prop) (wt : Nat → Tmp) (ds : List (Option Tmp)) (R : Nat → Value → World → Prop) (a0 : Act) (w0 : World) (listed : Array Bool) (a : Act) (w : World) (n : Nat) : Prop where
  size : listed.size = n
  last : ∀ k, ds.length ≤ k → k < n → listed.getD k true = false
  ext : X w0 w
  defers : a.defers = a0.defers
  tsize : a.tmps.size = a0.tmps.size
  rest : ∀ t, (∀ j, listed.getD j false = true → ds[j]? ≠ some (some t)) → a.tmps[t]? = a0.tmps[t]?
  watch : ∀ j i, listed.getD j false = true → ds[j]? = some none → ds[i]? = some (some (wt j)) → listed.getD i false = true
  done : ∀ j d, ds[j]? = some d → listed.getD j false = true → ∃ W, X W w ∧ R j (valY wt a j d) W

theorem wpAny_drawy (X : World → World → Prop) (wt : Nat → Tmp) (xr : ∀ W, X W W) (xt : ∀ a b c, X a b → X b c → X a c) (ds : List (Option Tmp)) (R : Nat → Value → World → Prop) (a0 : Act) (w0 : World) (hs : Region.shaped ops ds a0.tmps.size = true) (hwt : ∀ j i : Nat, ds[j]? = some none → ds[i]? = some (some (wt j)) → waitsFor ops j i = true)
    (step : ∀ (k : Nat) (o : Oper) (d : Option Tmp) (b : Act) (W : World), ops[k]? = some o → ds[k]? = some d → X w0 W → (∀ t, some t ∉ ds → b.tmps[t]?.getD undef = a0.tmps[t]?.getD undef) →
      (∀ j dj, waitsFor ops k j = true → ds[j]? = some dj → ∃ Wj, X Wj W ∧ R j (valY wt b j dj) Wj) →
      (∀ g, o.guard = some g → ∀ v W, R g.1 v W → v = .bool g.2) ∧
      ∀ K : Act → World → Prop, (∀ v W', d ≠ none → X W W' → R k v W' → K (b.put d v) W') → (d = none → ∀ W', X W W' → R k (b.tmps[wt k]?.getD undef) W' → K b W') → o.wp P b W K Q)
    (last : ∀ (f : Tmp → Value) (W : World), X w0 W → (∀ j d, ds[j]? = some d → ∃ Wj, X Wj W ∧ R j (valYF wt f j d) Wj) →
      wpList P ops Q (ops.toList.drop ds.length) (puts f (ds.filterMap id) a0) W) :
    ∀ (fuel : Nat) (listed : Array Bool) (a : Act) (w : World), GoodY X wt ds R a0 w0 listed a w ops.size → left ops.size listed ≤ fuel → wpAny P .any ops Q fuel listed a w := by
  simp only [Region.shaped, Bool.and_eq_true, decide_eq_true_eq, List.all_eq_true, List.mem_range] at hs
  obtain ⟨⟨⟨⟨⟨⟨hm, hnd⟩, hdst⟩, hin⟩, hback⟩, hwait⟩, hgd⟩ := hs
  have hback' : ∀ (k : Nat) (o : Oper), ops[k]? = some o → ∀ e ∈ o.after, Region.binds .any e = true → Edge.on e < k := by
    intro k o ho e he hbd
    have h1 := hback k (Array.getElem?_eq_some_iff.1 ho).1
    rw [ho] at h1
    simp only [Option.map_some, Option.getD_some, Array.all_eq_true_iff_forall_mem, Bool.or_eq_true, Bool.not_eq_true', decide_eq_true_eq] at h1
    exact (h1 e he).resolve_left (by rw [hbd]; simp)
  have hwait' : ∀ k j, ds.length ≤ k → j < k → k < ops.size → waitsFor ops k j = true := by
    intro k j hk hj hk2
    have h1 := hwait k hk2
    rw [Bool.or_eq_true, decide_eq_true_eq] at h1
    have h2 := h1.resolve_left (by omega)
    rw [List.all_eq_true] at h2
    exact h2 j (List.mem_range.2 hj)
  have hdin : ∀ (j : Nat) (d : Tmp), ds[j]? = some (some d) → d < a0.tmps.size := by
    intro j d hj
    have h1 := hin j (List.getElem?_eq_some_iff.1 hj).1
    rw [hj] at h1
    simpa using h1
  have hnd' : ∀ (i j : Nat) (d : Tmp), ds[i]? = some (some d) → ds[j]? = some (some d) → i = j := by
    intro i j d hi hj
    have h1 := hnd i (List.getElem?_eq_some_iff.1 hi).1 j (List.getElem?_eq_some_iff.1 hj).1
    rw [hi, hj] at h1
    simpa using h1
  intro fuel
  induction fuel with
  | zero =>
    intro listed a w hg hl
    exfalso
    have := left_set (listed := listed) hm hg.size (hg.last _ (Nat.le_refl _) hm)
    omega
  | succ fuel ih =>
    intro listed a w hg hl
    refine ⟨fun hr => ?_, fun i hi => ?_⟩
    · exfalso
      have hex : ∃ i, i < ops.size ∧ listed.getD i true = false ∧ ∀ j, j < i → listed.getD j true = true := by
        have : ∀ n, (∃ i, i < n ∧ listed.getD i true = false) → ∃ i, i < n ∧ listed.getD i true = false ∧ ∀ j, j < i → listed.getD j true = true := by
          intro n
          induction n with
          | zero => rintro ⟨i, hi, _⟩; omega
          | succ n ihn =>
            rintro ⟨i, hi, hf⟩
            by_cases hx : ∃ i, i < n ∧ listed.getD i true = false
            · obtain ⟨i, h1, h2⟩ := ihn hx
              exact ⟨i, by omega, h2⟩
            · have hin : i = n := by
                rcases Nat.lt_or_ge i n with h | h
                · exact absurd ⟨i, h, hf⟩ hx
                · omega
              subst hin
              refine ⟨i, hi, hf, fun j hj => ?_⟩
              cases hjj : listed.getD j true with
              | true => rfl
              | false => exact absurd ⟨j, hj, hjj⟩ hx
        exact this _ ⟨ds.length, hm, hg.last _ (Nat.le_refl _) hm⟩
      obtain ⟨i, hi, hf, hb⟩ := hex
      have : i ∈ Region.ready .any ops listed := by
        rw [mem_ready]
        refine ⟨hf, ops[i], Array.getElem?_eq_getElem hi, fun e he hbd => ?_⟩
        have h2 := hback' i _ (Array.getElem?_eq_getElem hi) e he hbd
        rw [← getD_false_of (by have := hg.size; omega) true]
        exact hb _ h2
      rw [hr] at this
      simp at this
    · have hi' := hi
      rw [mem_ready] at hi
      obtain ⟨hf, o, ho, hed⟩ := hi
      have hlt : i < ops.size := (Array.getElem?_eq_some_iff.1 ho).1
      have hcnt := left_set hlt hg.size hf
      have hsz' : (listed.setIfInBounds i true).size = ops.size := by simp [hg.size]
      have hdone : ∀ j, waitsFor ops i j = true → listed.getD j false = true := by
        intro j hj
        simp only [waitsFor, ho, Option.map_some, Option.getD_some, List.any_eq_true, Bool.and_eq_true, beq_iff_eq] at hj
        obtain ⟨e, he, h1, h2⟩ := hj
        rw [← h1]
        exact hed e (by simpa using he) h2
      rcases Nat.lt_or_ge i ds.length with hil | hil
      · obtain ⟨d, hdd⟩ : ∃ d, ds[i]? = some d := ⟨ds[i], List.getElem?_eq_getElem hil⟩
        have hd : o.dst = d := by
          have h1 := hdst i hil
          rw [ho, hdd] at h1
          simpa using h1
        have hst := step i o d a w ho hdd hg.ext (fun t ht => by rw [hg.rest t (fun j _ e => ht (List.mem_of_getElem? e))]) (fun j dj hj hdj => hg.done j dj hdj (hdone j hj))
        have hw : Region.wanted o (yielded ops a.tmps) = true := by
          cases hgo : o.guard with
          | none => simp [Region.wanted, hgo]
          | some g =>
            have h1 := hgd i hil
            rw [ho] at h1
            simp only [Option.map_some, Option.getD_some, hgo, Bool.and_eq_true, decide_eq_true_eq] at h1
            obtain ⟨⟨h2, h3⟩, h4⟩ := h1
            obtain ⟨dg, hdg⟩ : ∃ dg, ds[g.1]? = some dg := ⟨ds[g.1], List.getElem?_eq_getElem h3⟩
            rw [hdg] at h4
            cases dg with
            | none => simp at h4
            | some t =>
              obtain ⟨Wg, _, hR⟩ := hg.done g.1 _ hdg (hdone _ h2)
              have hv := hst.1 g hgo _ _ hR
              simp only [valY] at hv
              have htl : t < a.tmps.size := by rw [hg.tsize]; exact hdin _ _ hdg
              have hog : ((ops[g.1]?).bind (·.dst)) = some t := by
                have h5 := hdst g.1 h3
                rw [hdg] at h5
                cases hop : ops[g.1]? with
                | none => simp [hop] at h5
                | some og => simp only [hop, Option.map_some, Option.getD_some, beq_iff_eq, Option.some.injEq] at h5; simp [h5]
              obtain ⟨gj, gw⟩ := g
              rw [Array.getElem?_eq_getElem htl, Option.getD_some] at hv
              simp only at hog hv
              simp only [Region.wanted, hgo, yielded, hog, Option.bind_some, Array.getElem?_eq_getElem htl, hv]
              simp
        have hwatch : ∀ j i', (listed.setIfInBounds i true).getD j false = true → ds[j]? = some none → ds[i']? = some (some (wt j)) → (listed.setIfInBounds i true).getD i' false = true := by
          intro j i' h1 h2 h3
          have h4 : listed.getD i' false = true := by
            by_cases hij : i = j
            · subst hij; exact hdone _ (hwt _ _ h2 h3)
            · rw [getD_set_ne false hij] at h1
              exact hg.watch j i' h1 h2 h3
          by_cases hii : i = i'
          · subst hii; simp [show i < listed.size by have := hg.size; omega]
          · rw [getD_set_ne false hii]; exact h4
        have hkeep : ∀ (v : Value) (j : Nat) (dj : Option Tmp), i ≠ j → ds[j]? = some dj → listed.getD j false = true → valY wt (a.put d v) j dj = valY wt a j dj := by
          intro v j dj hij hdj hj
          cases d with
          | none => rfl
          | some d =>
            cases dj with
            | some dj =>
              have hne : d ≠ dj := fun e => hij (hnd' i j d hdd (by rw [hdj, e]))
              simp [valY, Act.put, Array.getElem?_setIfInBounds_ne hne]
            | none =>
              have hne : d ≠ wt j := by
                intro e
                subst e
                have h1 := hg.watch j i hj hdj hdd
                rw [getD_false_of (by have := hg.size; omega) true] at hf
                rw [hf] at h1
                simp at h1
              simp [valY, Act.put, Array.getElem?_setIfInBounds_ne hne]
        simp only [wpOp, ho, hw, if_true]
        refine .inl (hst.2 _ (fun v W' hdn hE hR => ?_) (fun hdn W' hE hR => ?_))
        · refine ih _ _ _ ⟨hsz', fun k hk hk2 => ?_, xt _ _ _ hg.ext hE, ?_, ?_, fun t ht => ?_, hwatch, fun j dj hdj hj => ?_⟩ (by omega)
          · rw [getD_set_ne true (by omega)]; exact hg.last k hk hk2
          · cases d <;> exact hg.defers
          · cases d <;> simp [Act.put, hg.tsize]
          · have h2 : (a.put d v).tmps[t]? = a.tmps[t]? := by
              cases d with
              | none => rfl
              | some d =>
                have htd : t ≠ d := fun e => by
                  refine ht i ?_ (by rw [e]; exact hdd)
                  simp [show i < listed.size by have := hg.size; omega]
                simp [Act.put, Array.getElem?_setIfInBounds_ne (Ne.symm htd)]
            rw [h2]
            refine hg.rest t fun j hj => ht j ?_
            by_cases hij : i = j
            · subst hij; simp [show i < listed.size by have := hg.size; omega]
            · rw [getD_set_ne false hij]; exact hj
          · by_cases hij : i = j
            · subst hij
              obtain rfl : d = dj := Option.some.inj (hdd.symm.trans hdj)
              cases d with
              | none => exact absurd rfl hdn
              | some d =>
                refine ⟨W', xr _, ?_⟩
                have hdl : d < a.tmps.size := by rw [hg.tsize]; exact hdin _ _ hdd
                have : valY wt (a.put (some d) v) i (some d) = v := by simp [valY, Act.put, hdl]
                rw [this]; exact hR
            · rw [getD_set_ne false hij] at hj
              obtain ⟨Wj, h3, h4⟩ := hg.done j dj hdj hj
              refine ⟨Wj, xt _ _ _ h3 hE, ?_⟩
              rw [hkeep v j dj hij hdj hj]; exact h4
        · subst hdn
          refine ih _ _ _ ⟨hsz', fun k hk hk2 => ?_, xt _ _ _ hg.ext hE, hg.defers, hg.tsize, fun t ht => ?_, hwatch, fun j dj hdj hj => ?_⟩ (by omega)
          · rw [getD_set_ne true (by omega)]; exact hg.last k hk hk2
          · refine hg.rest t fun j hj => ht j ?_
            by_cases hij : i = j
            · subst hij; simp [show i < listed.size by have := hg.size; omega]
            · rw [getD_set_ne false hij]; exact hj
          · by_cases hij : i = j
            · subst hij
              obtain rfl : none = dj := Option.some.inj (hdd.symm.trans hdj)
              exact ⟨W', xr _, hR⟩
            · rw [getD_set_ne false hij] at hj
              obtain ⟨Wj, h3, h4⟩ := hg.done j dj hdj hj
              exact ⟨Wj, xt _ _ _ h3 hE, h4⟩
      · have hall : ∀ j, j < i → listed.getD j true = true := fun j hj => by
          rw [getD_false_of (by have := hg.size; omega)]
          exact hdone j (hwait' i j hil hj hlt)
        obtain rfl : i = ds.length := by
          rcases Nat.eq_or_lt_of_le hil with h | h
          · exact h.symm
          · have := hall ds.length h
            rw [hg.last _ (Nat.le_refl _) hm] at this
            simp at this
        have ha : puts (fun t => a.tmps[t]?.getD undef) (ds.filterMap id) a0 = a := by
          obtain ⟨p1, p2, p3⟩ := puts_spec (fun t => a.tmps[t]?.getD undef) (ds.filterMap id) a0
          have e1 : (puts (fun t => a.tmps[t]?.getD undef) (ds.filterMap id) a0).tmps = a.tmps := by
            apply Array.ext_getElem?
            intro t
            by_cases ht : t < a0.tmps.size
            · rw [p3 t ht]
              by_cases hmm : t ∈ ds.filterMap id
              · rw [if_pos hmm, Array.getElem?_eq_getElem (by rw [hg.tsize]; exact ht)]
                simp
              · rw [if_neg hmm]
                exact (hg.rest t fun j _ e => hmm (List.mem_filterMap.2 ⟨some t, List.mem_of_getElem? e, rfl⟩)).symm
            · rw [Array.getElem?_eq_none (by omega), Array.getElem?_eq_none (by rw [hg.tsize]; omega)]
          have e2 : (puts (fun t => a.tmps[t]?.getD undef) (ds.filterMap id) a0).defers = a.defers := by rw [p1, hg.defers]
          cases hp : puts (fun t => a.tmps[t]?.getD undef) (ds.filterMap id) a0 with
          | mk x y =>
            cases a with
            | mk x' y' =>
              rw [hp] at e1 e2
              simp only at e1 e2
              rw [e1, e2]
        have hl' := last (fun t => a.tmps[t]?.getD undef) w hg.ext (fun j d hd => by
          obtain ⟨Wj, h1, h2⟩ := hg.done j d hd (by rw [← getD_false_of (by have := hg.size; have := (List.getElem?_eq_some_iff.1 hd).1; omega) true]; exact hall j (List.getElem?_eq_some_iff.1 hd).1)
          exact ⟨Wj, h1, by cases d <;> exact h2⟩)
        rw [ha] at hl'
        have hch := wpAny_chain (P := P) (Q := Q) (ops := ops) (ops.size - ds.length) (fuel + 1) ds.length listed a w (by omega) hg.size hall hg.last hwait' hback' (by
          have : ∀ (r i : Nat) (listed : Array Bool), i + r = ops.size → listed.size = ops.size → (∀ j, i ≤ j → j < ops.size → listed.getD j true = false) → r ≤ left ops.size listed := by
            intro r
            induction r with
            | zero => intro _ _ _ _ _; omega
            | succ r ihr =>
              intro i listed h1 h2 h3
              have h4 := left_set (show i < ops.size by omega) h2 (h3 i (Nat.le_refl _) (by omega))
              have h5 := ihr (i + 1) (listed.setIfInBounds i true) (by omega) (by simpa using h2) (fun j hj hj2 => by rw [getD_set_ne true (by omega)]; exact h3 j (by omega) hj2)
              omega
          exact Nat.le_trans (this _ ds.length listed (by omega) hg.size hg.last) hl) hl'
        exact hch.2 _ hi'
/-- An obligation an operation, in the text's order; then the last operations. -/
def stepsY (P : Program) (ops : Array Oper) (Q : Exit → Act → World → Prop) (X : World → World → Prop) (wt : Nat → Tmp) (ds0 : List (Option Tmp)) (a0 : Act) (w1 : World) (R : Nat → Value → World → Prop) : Nat → List Oper → List (Option Tmp) → Prop
  | k, o :: os, some d :: ds => ((∀ g, o.guard = some g → ∀ v W, R g.1 v W → v = .bool g.2) ∧ ∀ (b : Act) (W : World), X w1 W → (∀ t, some t ∉ ds0 → b.tmps[t]?.getD undef = a0.tmps[t]?.getD undef) →
      (∀ j dj, waitsFor ops k j = true → ds0[j]? = some dj → ∃ Wj, X Wj W ∧ R j (valY wt b j dj) Wj) →
      ∀ K : Act → World → Prop, (∀ v W', X W W' → R k v W' → K (b.put (some d) v) W') → o.wp P b W K Q) ∧ stepsY P ops Q X wt ds0 a0 w1 R (k + 1) os ds
  | k, o :: os, none :: ds => ((∀ g, o.guard = some g → ∀ v W, R g.1 v W → v = .bool g.2) ∧ ∀ (b : Act) (W : World), X w1 W → (∀ t, some t ∉ ds0 → b.tmps[t]?.getD undef = a0.tmps[t]?.getD undef) →
      (∀ j dj, waitsFor ops k j = true → ds0[j]? = some dj → ∃ Wj, X Wj W ∧ R j (valY wt b j dj) Wj) →
      ∀ K : Act → World → Prop, (∀ W', X W W' → R k (b.tmps[wt k]?.getD undef) W' → K b W') → o.wp P b W K Q) ∧ stepsY P ops Q X wt ds0 a0 w1 R (k + 1) os ds
  | _, os, [] => ∀ (f : Tmp → Value) (W : World), X w1 W → (∀ j d, ds0[j]? = some d → ∃ Wj, X Wj W ∧ R j (valYF wt f j d) Wj) → wpList P ops Q os (puts f (ds0.filterMap id) a0) W
  | _, [], _ :: _ => True

theorem stepsY_get {X : World → World → Prop} {wt : Nat → Tmp} {ds0 : List (Option Tmp)} {a0 : Act} {w1 : World} {R : Nat → Value → World → Prop} : ∀ (os : List Oper) (ds : List (Option Tmp)) (k i : Nat), stepsY P ops Q X wt ds0 a0 w1 R k os ds → ∀ (o : Oper) (d : Option Tmp), os[i]? = some o → ds[i]? = some d →
    (∀ g, o.guard = some g → ∀ v W, R g.1 v W → v = .bool g.2) ∧ (∀ (b : Act) (W : World), X w1 W → (∀ t, some t ∉ ds0 → b.tmps[t]?.getD undef = a0.tmps[t]?.getD undef) →
      (∀ j dj, waitsFor ops (k + i) j = true → ds0[j]? = some dj → ∃ Wj, X Wj W ∧ R j (valY wt b j dj) Wj) →
      ∀ K : Act → World → Prop, (∀ v W', d ≠ none → X W W' → R (k + i) v W' → K (b.put d v) W') → (d = none → ∀ W', X W W' → R (k + i) (b.tmps[wt (k + i)]?.getD undef) W' → K b W') → o.wp P b W K Q)
  | [], _, _, _, _, _, _, h, _ => by simp at h
  | _ :: _, [], _, _, _, _, _, _, h => by simp at h
  | o' :: os, some d' :: ds, k, 0, h, o, d, ho, hd => by
    simp at ho hd; subst ho; subst hd
    exact ⟨h.1.1, fun b W h1 h2 h3 K hK _ => h.1.2 b W h1 h2 h3 K (fun v W' e r => hK v W' (by simp) e r)⟩
  | o' :: os, none :: ds, k, 0, h, o, d, ho, hd => by
    simp at ho hd; subst ho; subst hd
    exact ⟨h.1.1, fun b W h1 h2 h3 K _ hK => h.1.2 b W h1 h2 h3 K (fun W' e r => hK rfl W' e r)⟩
  | o' :: os, some d' :: ds, k, i + 1, h, o, d, ho, hd => by
    have := stepsY_get os ds (k + 1) i h.2 o d (by simpa using ho) (by simpa using hd)
    rw [show k + 1 + i = k + (i + 1) by omega] at this
    exact this
  | o' :: os, none :: ds, k, i + 1, h, o, d, ho, hd => by
    have := stepsY_get os ds (k + 1) i h.2 o d (by simpa using ho) (by simpa using hd)
    rw [show k + 1 + i = k + (i + 1) by omega] at this
    exact this

theorem stepsY_last {X : World → World → Prop} {wt : Nat → Tmp} {ds0 : List (Option Tmp)} {a0 : Act} {w1 : World} {R : Nat → Value → World → Prop} : ∀ (os : List Oper) (ds : List (Option Tmp)) (k : Nat), stepsY P ops Q X wt ds0 a0 w1 R k os ds → ds.length < os.length →
    ∀ (f : Tmp → Value) (W : World), X w1 W → (∀ j d, ds0[j]? = some d → ∃ Wj, X Wj W ∧ R j (valYF wt f j d) Wj) → wpList P ops Q (os.drop ds.length) (puts f (ds0.filterMap id) a0) W
  | [], _, _, _, hl => by simp at hl
  | _ :: _, [], _, h, _ => h
  | _ :: os, some _ :: ds, k, h, hl => stepsY_last os ds (k + 1) h.2 (by simpa using hl)
  | _ :: os, none :: ds, k, h, hl => stepsY_last os ds (k + 1) h.2 (by simpa using hl)

/-- THE LAW, WIDER. -/
theorem wp_drawy {id : Nat} {a0 : Act} {w0 : World} {os : List Oper} (hm : P.follows .mixedOrders = true) (X : World → World → Prop) (wt : Nat → Tmp) (xr : ∀ W, X W W) (xt : ∀ a b c, X a b → X b c → X a c) (ds : List (Option Tmp)) (hs : Region.shaped os.toArray ds a0.tmps.size = true)
    (hwt : (List.range ds.length).all (fun j => (List.range ds.length).all fun i => ds[j]? != some none || ds[i]? != some (some (wt j)) || waitsFor os.toArray j i) = true) (R : Nat → Value → World → Prop)
    (step : stepsY P os.toArray Q X wt ds a0 w0.drew R 0 os ds) : (Code.region id os.toArray true).wp P Q a0 w0 := by
  have hlt : ds.length < os.length := by
    simp only [Region.shaped, Bool.and_eq_true, decide_eq_true_eq] at hs
    simpa using hs.1.1.1.1.1.1
  refine wp_region_any hm (wpAny_drawy X wt xr xt ds R a0 w0.drew hs (fun j i h1 h2 => ?_) (fun k o d b W ho hd hE hb hdep => ?_) (fun f W hE hR => ?_) _ _ _ _ ⟨by simp, fun k _ hk => by simp at hk; simp [Array.getElem?_replicate, hk], xr _, rfl, rfl, fun _ _ => rfl, fun j i hj _ _ => ?_, fun j d hd hj => ?_⟩ ?_)
  · simp only [List.all_eq_true, List.mem_range, Bool.or_eq_true, bne_iff_ne, ne_eq] at hwt
    have h3 := hwt j (List.getElem?_eq_some_iff.1 h1).1 i (List.getElem?_eq_some_iff.1 h2).1
    rcases h3 with (h3 | h3) | h3
    · exact absurd h1 h3
    · exact absurd h2 h3
    · exact h3
  · have h := stepsY_get (ops := os.toArray) os ds 0 k step o d (by simpa using ho) hd
    refine ⟨fun g hg v W' hR => h.1 g hg v W' hR, fun K hK hK2 => h.2 b W hE hb (fun j dj h1 h2 => hdep j dj (by simpa using h1) h2) K (fun v W' hn e r => hK v W' hn e (by simpa using r)) (fun hn W' e r => hK2 hn W' e (by simpa using r))⟩
  · have := stepsY_last (ops := os.toArray) os ds 0 step hlt f W hE (fun j d hd => hR j d hd)
    simpa using this
  · exfalso
    rw [Array.getD_eq_getD_getElem?, Array.getElem?_replicate] at hj
    split at hj <;> simp at hj
  · exfalso
    rw [Array.getD_eq_getD_getElem?, Array.getElem?_replicate] at hj
    split at hj <;> simp at hj
  · exact Nat.le_trans List.countP_le_length (by simp)
end
end Go.Proofs.Ytafdcbdbllpcnaa
/- A relation of worlds for a drawn region that makes a block and stores a row into it, while other operations may still wait. Over every program. -/
namespace Go.Proofs.Ytafdcbdbllpcnaa
open Go.RowKit

/-- W' is W with more memory; a block from B on whose row is z may have got the row r. -/
structure XN (B : Nat) (z r : Array Value) (W W' : World) : Prop where
  os : W'.os = W.os
  tape : W'.tape = W.tape
  output : W'.output = W.output
  size : W.heap.size ≤ W'.heap.size
  block : ∀ k, k < W.heap.size → (k < B ∨ rowOf W k ≠ some z) → W'.heap[k]? = W.heap[k]?
  fresh : ∀ k, rowOf W k = some z → rowOf W' k = some z ∨ rowOf W' k = some r

theorem rowOf_heap {W W' : World} {k : Nat} (h : W'.heap[k]? = W.heap[k]?) : rowOf W' k = rowOf W k := by unfold rowOf; rw [h]
section
variable {B : Nat} {z r : Array Value}
theorem XN.refl (W : World) : XN B z r W W := ⟨rfl, rfl, rfl, Nat.le_refl _, fun _ _ _ => rfl, fun _ h => .inl h⟩
theorem XN.lt {a : World} {k : Nat} {cs : Array Value} (h : rowOf a k = some cs) : k < a.heap.size := (cell_of_rowOf h).2.2
theorem XN.last {b c : World} (q : XN B z r b c) {k : Nat} (h : rowOf b k = some r) : rowOf c k = some r := by
  by_cases e : z = r
  · subst e
    rcases q.fresh k h with h | h <;> exact h
  · rw [rowOf_heap (q.block k (XN.lt h) (.inr (by rw [h]; intro x; exact e (Option.some.inj x).symm)))]; exact h
theorem XN.trans {a b c : World} (p : XN B z r a b) (q : XN B z r b c) : XN B z r a c := by
  refine ⟨q.os.trans p.os, q.tape.trans p.tape, q.output.trans p.output, Nat.le_trans p.size q.size, fun k hk h => ?_, fun k h => ?_⟩
  · have h1 := p.block k hk h
    rw [← h1]
    refine q.block k (Nat.lt_of_lt_of_le hk p.size) ?_
    rcases h with h | h
    · exact .inl h
    · exact .inr (by rw [rowOf_heap h1]; exact h)
  · rcases p.fresh k h with h1 | h1
    · exact q.fresh k h1
    · exact .inr (q.last h1)
theorem Ext.xn {W W' : World} (h : Ext W W') : XN B z r W W' := ⟨h.os, h.tape, h.output, h.size, fun k hk _ => h.block k hk, fun k e => .inl (keep_row h e).1⟩
theorem XN.row {W W' : World} (h : XN B z r W W') {g : Nat} {cs : Array Value} (hr : rowOf W g = some cs) (hg : g < B) : rowOf W' g = some cs := by
  rw [rowOf_heap (h.block g (XN.lt hr) (.inl hg))]; exact hr
theorem XN.rowz {W W' : World} (h : XN B z r W W') {g : Nat} {cs : Array Value} (hr : rowOf W g = some cs) (hz : cs.size ≠ z.size) : rowOf W' g = some cs := by
  rw [rowOf_heap (h.block g (XN.lt hr) (.inr (by rw [hr]; intro x; exact hz (by rw [Option.some.inj x]))))]; exact hr
theorem XN.below {B0 : Nat} {w W W' : World} (h : XN B z r W W') (hw : Below B0 w W) (hB : B0 ≤ W.heap.size) (hf : B0 ≤ B) : Below B0 w W' :=
  hw.trans ⟨h.os, h.tape, h.output, h.size, fun k hk => h.block k (by omega) (.inl (by omega))⟩
theorem xn_setRow {W : World} {g : Nat} (hr : rowOf W g = some z) (hg : B ≤ g) : XN B z r W (W.setRow g r) := by
  have hS := stored_setRow hr r
  refine ⟨rfl, rfl, rfl, by simp, fun k _ hk => ?_, fun k h => ?_⟩
  · refine setRow_other W g k r ?_
    rintro rfl
    rcases hk with hk | hk
    · omega
    · exact hk hr
  · by_cases e : k = g
    · subst e; exact .inr hS.row
    · exact .inl ((hS.other k e).trans h)
theorem xn_setRow_same {W : World} {g : Nat} (hr : rowOf W g = some r) : XN B z r W (W.setRow g r) := by
  obtain ⟨t, hg⟩ := rowOf_some hr
  rw [setRow_same W g r t (0, 0) hg]
  exact XN.refl _

/-- A pointer to a new block, before the store or behind it; behind it. -/
structure NB (B : Nat) (z r : Array Value) (v : Value) (W : World) : Prop where
  eq : v = .pointer (some ⟨blk v, 0, none⟩)
  base : B ≤ blk v
  row : rowOf W (blk v) = some z ∨ rowOf W (blk v) = some r
structure SB (r : Array Value) (v : Value) (W : World) : Prop where
  eq : v = .pointer (some ⟨blk v, 0, none⟩)
  row : rowOf W (blk v) = some r
theorem nbR {v : Value} {W : World} (h : ∃ Wj, XN B z r Wj W ∧ NB B z r v Wj) : NB B z r v W := let ⟨_, e, h⟩ := h; ⟨h.1, h.2, h.3.elim (fun k => e.fresh _ k) fun k => .inr (e.last k)⟩
theorem sbR {v : Value} {W : World} (h : ∃ Wj, XN B z r Wj W ∧ SB r v Wj) : SB r v W := let ⟨_, e, h⟩ := h; ⟨h.1, e.last h.2⟩
theorem pureN {W : World} {p : Prop} (h : ∃ Wj, XN B z r Wj W ∧ p) : p := let ⟨_, _, h⟩ := h; h
theorem sliceN {W : World} {v : Value} {n : Nat} {row : Array Value} (hz : row.size ≠ z.size) (h : ∃ Wj, XN B z r Wj W ∧ SL v n row Wj) : SL v n row W := let ⟨_, e, h⟩ := h; ⟨h.1, e.rowz h.2 hz⟩
theorem wp_store_nb {P : Program} {Q : Exit → Act → World → Prop} {o : Oper} {a : Act} {W : World} {K : Act → World → Prop} (ty : TypeId) (x : Tmp) (y : Operand) (ho : o.op = .store ty (.tmp x) y) (hd : o.dst = none) (hn : NB B z r (a.tmps[x]?.getD undef) W) (hy : a.eval y = .agg r)
    (hi : (P.info? ty).map (·.size) = some r.size) (hz : z.size = r.size) (h1 : r.all (·.oneCell') = true)
    (hk : ∀ W', XN B z r W W' → SB r (a.tmps[x]?.getD undef) W' → K a W') : o.wp P a W K Q := by
  obtain ⟨e, hb, hr⟩ := hn
  have hx : a.eval (.tmp x) = .pointer (some ⟨blk (a.tmps[x]?.getD undef), 0, none⟩) := (eval_tmp a x).trans e
  rcases hr with hr | hr
  · obtain ⟨t, hg⟩ := rowOf_some hr
    refine wp_store_row ty (.tmp x) y ho _ r hx hy t z hg hi hz h1 ?_
    rw [hd]
    exact hk _ (xn_setRow hr hb) ⟨e, (stored_setRow hr r).row⟩
  · obtain ⟨t, hg⟩ := rowOf_some hr
    refine wp_store_row ty (.tmp x) y ho _ r hx hy t r hg hi rfl h1 ?_
    rw [hd]
    exact hk _ (xn_setRow_same hr) ⟨e, (stored_setRow hr r).row⟩
end
end Go.Proofs.Ytafdcbdbllpcnaa
