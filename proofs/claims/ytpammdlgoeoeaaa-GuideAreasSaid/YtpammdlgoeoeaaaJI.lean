/- A call's arguments, as they are read, are data. -/
import Derived.Test.YtpammdlgoeoeaaaJH
import Derived.Deep.Slices
import Derived.ChangeArms
import Derived.Below
import Derived.ProofKit
import Derived.OpenShut
import Derived.ChangeOld
import Derived.IntWalk
set_option linter.unusedVariables false
set_option linter.unusedSimpArgs false
namespace Go.Q
open Go.V Go.ChangeShapes Go.WideShapes Go.ChangeAt Go.RowKit

/-- What data of a type are like. -/
inductive Kd where
  | int (k : IntKind)
  | bool
  | list (cs : List Kd)
  deriving Inhabited
mutual
def Conf : Kd → D → Prop
  | .int k, d => ∃ n, d = .int k n ∧ (Lit.int k n).wf = true
  | .bool, d => ∃ b, d = .bool b
  | .list cs, d => ∃ xs, d = .list xs ∧ xs.length ≤ maxLen ∧ ∀ x ∈ xs, ConfL cs x
def ConfL : List Kd → List D → Prop
  | [], ds => ds = []
  | k :: ks, ds => ∃ d t, ds = d :: t ∧ Conf k d ∧ ConfL ks t
end
def kdF (P : Program) (rec : TypeId → Option (List Kd)) : List Field → Nat → Option (List Kd)
  | [], _ => some []
  | f :: fs, off => if f.offset = off then match rec f.type with
      | some ks => if ks.length = P.cellsOf f.type then (kdF P rec fs (off + ks.length)).map (ks ++ ·) else none
      | none => none
    else none
def kdK (P : Program) : Nat → TypeId → Option (List Kd)
  | 0, _ => none
  | n + 1, t => match P.underlying t with
    | some (.int k) => some [.int k]
    | some .bool => some [.bool]
    | some (.slice e) => match kdK P n e with
      | some ks => if ks.length = P.cellsOf e ∧ 0 < ks.length then some [.list ks] else none
      | none => none
    | some (.struct fs) => match kdF P (kdK P n) fs.toList 0 with
      | some ks => if ks.length = P.cellsOf t then some ks else none
      | none => none
    | _ => none
theorem ConfL.len : ∀ {ks : List Kd} {ds : List D}, ConfL ks ds → ds.length = ks.length
  | [], ds, h => by rw [show ds = [] from h]; rfl
  | k :: ks, ds, h => by obtain ⟨d, t, rfl, -, h2⟩ := h; simp [ConfL.len h2]
theorem ConfL.append : ∀ {ks ks' : List Kd} {ds ds' : List D}, ConfL ks ds → ConfL ks' ds' → ConfL (ks ++ ks') (ds ++ ds')
  | [], ks', ds, ds', h, h' => by rw [show ds = [] from h]; exact h'
  | k :: ks, ks', ds, ds', h, h' => by
    obtain ⟨d, t, rfl, h1, h2⟩ := h
    exact ⟨d, t ++ ds', rfl, h1, ConfL.append h2 h'⟩
theorem cell_there {W : World} {a : Addr} {v : Value} (h : W.cell? a = some v) : a.spot = none ∧ a.block < W.heap.size := by
  unfold World.cell? at h
  split at h
  · rename_i c t s hc
    by_cases hs : a.spot.isSome
    · rw [if_pos hs] at h; cases h
    · refine ⟨by simpa using hs, ?_⟩
      rcases Nat.lt_or_ge a.block W.heap.size with h1 | h1
      · exact h1
      · rw [Array.getElem?_eq_none h1] at hc; cases hc
  · cases h
theorem choose_fun {α : Type} [Inhabited α] (n : Nat) (p : Nat → α → Prop) (h : ∀ i, i < n → ∃ x, p i x) : ∃ f : Nat → α, ∀ i, i < n → p i (f i) := by
  induction n with
  | zero => exact ⟨fun _ => default, fun i hi => by omega⟩
  | succ n ih =>
    obtain ⟨f, hf⟩ := ih (fun i hi => h i (by omega))
    obtain ⟨x, hx⟩ := h n (by omega)
    exact ⟨fun i => if i = n then x else f i, fun i hi => by
      by_cases e : i = n
      · subst e; simpa using hx
      · simp only [if_neg e]; exact hf i (by omega)⟩
section
variable {H : Type} {enc : TypeId × Value → H} {P : Program} {W : World} {base : Nat} {held : Bool}
/-- Cells that stand for data. -/
def Stand (W : World) (ks : List Kd) (cs : List Value) : Prop := ∃ (ds : List D) (as : List AV), ConfL ks ds ∧ F2 RD ds as ∧ as.all AV.one = true ∧ as.length = cs.length ∧ ∀ (i : Nat) a v, as[i]? = some a → cs[i]? = some v → Rep W (fun b => b < W.heap.size) (fun _ => none) a v
theorem Stand.append {ks ks' : List Kd} {cs cs' : List Value} (h : Stand W ks cs) (h' : Stand W ks' cs') : Stand W (ks ++ ks') (cs ++ cs') := by
  obtain ⟨ds, as, h1, h2, h3, h4, h5⟩ := h
  obtain ⟨ds', as', k1, k2, k3, k4, k5⟩ := h'
  refine ⟨ds ++ ds', as ++ as', h1.append k1, h2.append k2, by rw [List.all_append, h3, k3]; rfl, by simp [h4, k4], fun i a v ha hv => ?_⟩
  by_cases hi : i < as.length
  · rw [List.getElem?_append_left hi] at ha
    rw [List.getElem?_append_left (by omega)] at hv
    exact h5 i a v ha hv
  · rw [List.getElem?_append_right (by omega)] at ha
    rw [List.getElem?_append_right (by omega), ← h4] at hv
    exact k5 _ a v ha hv
theorem stand_ok : ∀ (n : Nat) {t : TypeId} {ks : List Kd} {fuel : Nat} {cs : List Value} {x : DataW H × List MemPlace}, kdK P n t = some ks → DataW.trod enc P W base (fun _ => true) held fuel t cs = some x → Stand W ks cs
  | 0, t, ks, fuel, cs, x, hk, _ => by cases hk
  | n + 1, t, ks, fuel, cs, x, hk, h => by
    simp only [kdK] at hk
    split at hk
    · rename_i k hu
      cases hk
      obtain ⟨m, rfl, -, hw⟩ := DataW.trod_int hu h
      exact ⟨[.int k m], [.int k m], ⟨_, _, rfl, ⟨m, rfl, hw⟩, rfl⟩, .single .int, rfl, rfl, fun i a v ha hv => by
        cases i with
        | zero => cases ha; cases hv; exact .int
        | succ i => simp at ha⟩
    · rename_i hu
      cases hk
      obtain ⟨b, rfl, -⟩ := DataW.trod_bool hu h
      exact ⟨[.bool b], [.bool b], ⟨_, _, rfl, ⟨b, rfl⟩, rfl⟩, .single .bool, rfl, rfl, fun i a v ha hv => by
        cases i with
        | zero => cases ha; cases hv; exact .bool
        | succ i => simp at ha⟩
    · rename_i e hu
      split at hk
      · rename_i ke e1
        split at hk
        · rename_i hc
          cases hk
          rcases Go.Deep.open_slice hu h with ⟨rfl, -⟩ | ⟨a, len, cap, m, n', Df, Pl, rfl, -, hlc, hml, hm, hx, hel⟩
          · exact ⟨[.list []], [.nilS], ⟨_, _, rfl, ⟨[], rfl, by simp, by simp⟩, rfl⟩, .single .nilS, rfl, rfl, fun i a v ha hv => by
              cases i with
              | zero => cases ha; cases hv; exact .nilS
              | succ i => simp at ha⟩
          · simp at hm
            subst hm
            by_cases h0 : len = 0
            · subst h0
              exact ⟨[.list []], [.emp false], ⟨_, _, rfl, ⟨[], rfl, by simp, by simp⟩, rfl⟩, .single .emp, rfl, rfl, fun i a v ha hv => by
                cases i with
                | zero => cases ha; cases hv; exact .emp (by simp)
                | succ i => simp at ha⟩
            · have hsp : a.spot = none ∧ a.block < W.heap.size := by
                obtain ⟨cs', h1, h2⟩ := hel 0 (by omega)
                obtain ⟨-, hl, hc'⟩ := World.cells?_some h1
                have h3 := hc' 0 (by omega)
                rw [List.getElem?_eq_getElem (by omega)] at h3
                have h4 := cell_there h3
                obtain ⟨b, off, sp⟩ := a
                cases sp with
                | none => exact ⟨rfl, by simpa [add_none] using h4.2⟩
                | some q => exact absurd h4.1 (by unfold Addr.add; simp)
              obtain ⟨b, off, sp⟩ := a
              obtain ⟨hsp1, hsp2⟩ := hsp
              simp only at hsp1 hsp2
              subst hsp1
              -- the elements
              have hst : ∀ i, i < len → ∃ y : List D × List AV × List Value, ConfL ke y.1 ∧ F2 RD y.1 y.2.1 ∧ y.2.1.all AV.one = true ∧ y.2.1.length = ke.length ∧ y.2.2.length = ke.length ∧ (∀ j, j < ke.length → W.cell? ⟨b, off + i * ke.length + j, none⟩ = y.2.2[j]?) ∧
                  ∀ (j : Nat) a v, y.2.1[j]? = some a → y.2.2[j]? = some v → Rep W (fun b => b < W.heap.size) (fun _ => none) a v := fun i hi => by
                obtain ⟨cs', h1, h2⟩ := hel i (by omega)
                obtain ⟨-, hl, hc'⟩ := World.cells?_some h1
                obtain ⟨ds, as, k1, k2, k3, k4, k5⟩ := stand_ok n e1 h2
                refine ⟨(ds, as, cs'), k1, k2, k3, by rw [← k2.len, k1.len], by rw [hl, hc.1], fun j hj => ?_, k5⟩
                have := hc' j (by omega)
                rw [add_none, add_none, ← hc.1] at this
                exact this
              obtain ⟨f, hf⟩ := choose_fun len _ hst
              let xs : List (List D) := (List.range len).map fun i => (f i).1
              let rows : List (List AV) := (List.range len).map fun i => (f i).2.1
              have hxl : xs.length = len := by simp [xs]
              have hrl : rows.length = len := by simp [rows]
              have hrow : ∀ (i : Nat) y, rows[i]? = some y → i < len ∧ y = (f i).2.1 := fun i y hy => by
                have hi : i < len := by rw [← hrl]; exact (List.getElem?_eq_some_iff.1 hy).1
                simp only [rows, List.getElem?_map] at hy
                rw [List.getElem?_range hi] at hy
                cases hy; exact ⟨hi, rfl⟩
              have hxrow : ∀ (i : Nat) y, xs[i]? = some y → i < len ∧ y = (f i).1 := fun i y hy => by
                have hi : i < len := by rw [← hxl]; exact (List.getElem?_eq_some_iff.1 hy).1
                simp only [xs, List.getElem?_map] at hy
                rw [List.getElem?_range hi] at hy
                cases hy; exact ⟨hi, rfl⟩
              have hs : ∀ y ∈ rows, y.length = ke.length ∧ y.all AV.one = true := fun y hy => by
                obtain ⟨i, hi, e⟩ := List.getElem_of_mem hy
                obtain ⟨h1, rfl⟩ := hrow i y (by rw [List.getElem?_eq_getElem hi, e])
                exact ⟨(hf i h1).2.2.2.1, (hf i h1).2.2.1⟩
              refine ⟨[.list xs], [.lst ke.length rows], ⟨_, _, rfl, ⟨xs, rfl, by rw [hxl]; omega, fun y hy => ?_⟩, rfl⟩, .single (.lst (fun e => h0 (by rw [← hxl, e]; rfl)) hs (F2.of_get (by rw [hxl, hrl]) fun i y z hy hz => ?_)), rfl, rfl, fun i a v ha hv => ?_⟩
              · obtain ⟨i, hi, e⟩ := List.getElem_of_mem hy
                obtain ⟨h1, rfl⟩ := hxrow i y (by rw [List.getElem?_eq_getElem hi, e])
                exact (hf i h1).1
              · obtain ⟨h1, rfl⟩ := hxrow i y hy
                obtain ⟨-, rfl⟩ := hrow i z hz
                exact (hf i h1).2.1
              · cases i with
                | succ i => simp at ha
                | zero =>
                  cases ha; cases hv
                  have := Rep.lst (w := W) (S := fun b => b < W.heap.size) (φ := fun _ => none) (sz := ke.length) (xs := rows) (b := b) (base := off) (cap := m) (fun i j => ((f i).2.2)[j]?.getD undef) hs hsp2 (by rw [hrl]; exact hlc)
                    (fun i j y c hy hc' => by
                      obtain ⟨h1, rfl⟩ := hrow i y hy
                      have hj : j < ke.length := by rw [← (hf i h1).2.2.2.1]; exact (List.getElem?_eq_some_iff.1 hc').1
                      rw [(hf i h1).2.2.2.2.2.1 j hj, List.getElem?_eq_getElem (by rw [(hf i h1).2.2.2.2.1]; exact hj)]
                      rfl)
                    (fun i j y c hy hc' => by
                      obtain ⟨h1, rfl⟩ := hrow i y hy
                      have hj : j < ke.length := by rw [← (hf i h1).2.2.2.1]; exact (List.getElem?_eq_some_iff.1 hc').1
                      have hj' : ((f i).2.2)[j]? = some (((f i).2.2)[j]'(by rw [(hf i h1).2.2.2.2.1]; exact hj)) := List.getElem?_eq_getElem _
                      rw [hj']
                      exact (hf i h1).2.2.2.2.2.2 j c _ hc' hj')
                  rw [hrl] at this
                  exact this
        · cases hk
      · cases hk
    · rename_i fs hu
      obtain ⟨ys, k, -, -, hl, hyl, hf⟩ := DataW.trod_struct hu h
      have key : ∀ (l : List Field) (off i0 : Nat) {ks : List Kd}, kdF P (kdK P n) l off = some ks → (∀ (i : Nat) f, l[i]? = some f → fs[i0 + i]? = some f) → i0 + l.length = fs.size → off + ks.length ≤ cs.length → Stand W ks ((cs.drop off).take ks.length) := by
        intro l
        induction l with
        | nil =>
          intro off i0 ks hk _ _ _
          cases hk
          exact ⟨[], [], rfl, .nil, rfl, by simp, fun i a v ha => by simp at ha⟩
        | cons f l ih =>
          intro off i0 ks hk hl' hlen hle
          simp only [kdF] at hk
          split at hk
          · rename_i hoff
            subst hoff
            split at hk
            · rename_i kf e1
              split at hk
              · rename_i hc
                cases e2 : kdF P (kdK P n) l (f.offset + kf.length) with
                | none => rw [e2] at hk; cases hk
                | some kl =>
                  rw [e2] at hk
                  cases hk
                  have hfi := hf i0 f (hl' 0 f rfl)
                  have hi0 : i0 < ys.length := by rw [hyl]; simp at hlen; omega
                  rw [List.getElem?_eq_getElem hi0, ← hc] at hfi
                  have s1 := stand_ok n e1 hfi
                  rw [List.length_append] at hle
                  have s2 := ih (f.offset + kf.length) (i0 + 1) e2 (fun i g hg => by
                    have := hl' (i + 1) g (by simpa using hg)
                    rwa [show i0 + (i + 1) = i0 + 1 + i by omega] at this) (by simp at hlen; omega) (by omega)
                  have : (cs.drop f.offset).take (kf ++ kl).length = (cs.drop f.offset).take kf.length ++ (cs.drop (f.offset + kf.length)).take kl.length := by
                    rw [List.length_append, List.take_add, List.drop_drop]
                  rw [this]
                  exact s1.append s2
              · cases hk
            · cases hk
          · cases hk
      split at hk
      · rename_i ks' e1
        split at hk
        · rename_i hc
          cases hk
          have := key fs.toList 0 0 e1 (fun i f hi => by simpa using hi) (by simp) (by rw [hl, hc]; omega)
          rw [List.drop_zero, hc, ← hl, List.take_length] at this
          exact this
        · cases hk
      · cases hk
    · cases hk
end
end Go.Q
/- A law's call. -/
set_option linter.unusedVariables false
set_option linter.unusedSimpArgs false
namespace Go.Q
open Go.V Go.ChangeShapes Go.WideShapes Go.ChangeAt Go.RowKit
section
variable {H : Type} {enc : TypeId × Value → H} {P : Program} {W : World} {base : Nat} {held : Bool}
/-- An argument of several cells. -/
theorem arg_agg {n : Nat} {t : TypeId} {ks : List Kd} {v : Value} {d : DataW H} {ps : List MemPlace} {b0 : Nat} (hk : kdK P n t = some ks) (ha : aggK P t = true) (hv : Value.okWide P W .any b0 t v) (h : DataW.Trod enc P W base (fun _ => true) held t v d ps) :
    ∃ ds a, ConfL ks ds ∧ RD (.node ds) a ∧ Rep W (fun b => b < W.heap.size) (fun _ => none) a v := by
  obtain ⟨fuel, h⟩ := h
  obtain ⟨ds, as, h1, h2, h3, h4, h5⟩ := stand_ok n hk h
  unfold aggK at ha
  split at ha
  · rename_i td hu
    have : ∃ cs, v = .agg cs := by
      unfold Value.okWide at hv
      rw [hu] at hv
      cases td <;> simp only [isAggD, Bool.false_eq_true] at ha
      · obtain ⟨cs, h, -⟩ := hv; exact ⟨cs, h⟩
      · obtain ⟨cs, h, -⟩ := hv; exact ⟨cs, h⟩
    obtain ⟨cs, rfl⟩ := this
    refine ⟨ds, .agg as, h1, .node h2, .agg (by simpa [Value.cells] using h4.symm) fun i c v hc hv => h5 i c v hc (by simpa [Value.cells] using hv)⟩
  · cases ha
theorem arg_one {n : Nat} {t : TypeId} {k : Kd} {v : Value} {d : DataW H} {ps : List MemPlace} {b0 : Nat} (hk : kdK P n t = some [k]) (ha : aggK P t = false) (hv : Value.okWide P W .any b0 t v) (h : DataW.Trod enc P W base (fun _ => true) held t v d ps) :
    ∃ d a, Conf k d ∧ RD d a ∧ Rep W (fun b => b < W.heap.size) (fun _ => none) a v := by
  obtain ⟨fuel, h⟩ := h
  obtain ⟨ds, as, h1, h2, h3, h4, h5⟩ := stand_ok n hk h
  have hc : v.cells = #[v] := by
    cases n with
    | zero => cases hk
    | succ n =>
      simp only [kdK] at hk
      unfold Value.okWide Cell.okWide at hv
      unfold aggK at ha
      cases hu : P.underlying t with
      | none => rw [hu] at hk; cases hk
      | some td =>
        rw [hu] at hk hv ha
        cases td <;> simp only [reduceCtorEq, isAggD, Bool.true_eq_false] at hk ha <;> cases v <;> first | rfl | simp_all [Cell.ok]
  rw [hc] at h4 h5
  obtain ⟨d', t', rfl, hd, ht⟩ := h1
  rw [show t' = [] from ht] at h2
  obtain ⟨a, t2, rfl, hr, hn⟩ := F2.inv_cons h2
  exact ⟨d', a, hd, hr, h5 0 a v rfl rfl⟩
end
theorem detach_bool {H : Heap} {v : AV} {b : Bool} {ids : List Nat} (h : detach H v = some (.bool b, ids)) : v = .bool b := by
  have hC : ∀ {v : AV}, detachC H v = some (.bool b, ids) → v = .bool b := fun {v} h => by
    unfold detachC at h
    split at h
    · split at h
      · split at h
        · cases h
        · cases h
      · cases h
    · split at h
      · cases h; rfl
      · cases h
  have h1 : ∀ {v : AV}, detach1 H v = some (.bool b, ids) → v = .bool b := fun {v} h => by
    unfold detach1 at h
    split at h
    · rename_i cs
      cases e : detachL H cs with
      | none => simp [e] at h
      | some p => simp [e] at h
    · exact hC h
  unfold detach at h
  split at h
  · rename_i cs
    cases e : detachM H cs with
    | none => simp [e] at h
    | some p => simp [e] at h
  · exact h1 h
theorem law_ok {P : Program} {TT : FuncId → Option IFn} {FN : FuncId → Option Fn} (h : Tabs P TT FN) {f : FuncId} {F : Fn} (hF : FN f = some F) (hrs : F.rs = .e) {ds : List D} {b : Bool} (he : evL FN f ds = some (.bool b)) {W : World} {args : List AV} {us : Array Value}
    (ha : F2 RD ds args) (hu : Reps W (fun b => b < W.heap.size) (fun _ => none) args us) : Calls P f us W fun e w' => e = .returned (.bool b) ∧ Below W.heap.size W w' := by
  obtain ⟨F', t, h1, h2, h3⟩ := evL_ok h he ha
  rw [hF] at h1; cases h1
  rw [hrs] at h3
  obtain ⟨h3, -⟩ := (show RD (.bool b) t ∧ t.one = true from h3)
  cases h3
  refine (h2 (fun b => b < W.heap.size) W us ⟨fun id b hb => by simp [hget, noH] at hb, fun id id' b b' l l' hb => by simp [hget, noH] at hb, fun b hb => hb⟩ hu).mono ?_
  rintro e w' ⟨vv, rfl, v, H', ids, S', φ', adv, sim, rep, e1, -⟩
  have := detach_bool e1
  subst this
  rw [rep.inv_bool]
  exact ⟨rfl, adv.below (by rintro b ⟨id, x, loc, q1, q2, q3⟩; cases q2)⟩
theorem Reps.cons {w : World} {S : Nat → Prop} {φ : Phi} {a : AV} {v : Value} {as : List AV} {vs : List Value} (h : Rep w S φ a v) (h' : Reps w S φ as vs.toArray) : Reps w S φ (a :: as) (v :: vs).toArray := by
  refine ⟨by simpa using h'.1, fun i c u h1 h2 => ?_⟩
  cases i with
  | zero => simp at h1 h2; subst h1 h2; exact h
  | succ i => exact h'.2 i c u (by simpa using h1) (by simpa using h2)
theorem Reps.nil {w : World} {S : Nat → Prop} {φ : Phi} : Reps w S φ [] (#[] : Array Value) := ⟨rfl, fun i c v h => by simp at h⟩
end Go.Q
/- Loops over lists. -/
set_option linter.unusedVariables false
set_option linter.unusedSimpArgs false
namespace Go.Q
open Go.V
abbrev I (n : Int) : D := .int .i64 n
theorem wrapN {n : Nat} (h : n < 9223372036854775807) : IntKind.i64.wrap ((n : Int) + 1) = ((n + 1 : Nat) : Int) := by rw [IntWalk.i64_in _ (by omega)]; omega
/-- A list gone through with a state, until it is over or left. -/
def foldE {σ α ε : Type} (step : σ → α → Except ε σ) : σ → List α → Except ε σ
  | s, [] => .ok s
  | s, x :: xs => match step s x with
    | .ok s' => foldE step s' xs
    | .error e => .error e
theorem iter_foldE {σ α : Type} {f : List D → Option (Option Nat × List D)} {enc : Nat → σ → List D} {step : σ → α → Except (Nat × List D) σ} {u : Nat} {fin : σ → List D} {xs : List α} (Inv : σ → Prop)
    (hstep : ∀ (i : Nat) x s, xs[i]? = some x → Inv s → f (enc i s) = match step s x with
      | .ok s' => some (none, enc (i + 1) s')
      | .error r => some (some r.1, r.2))
    (hinv : ∀ (i : Nat) x s s', xs[i]? = some x → Inv s → step s x = .ok s' → Inv s')
    (hend : ∀ s, Inv s → f (enc xs.length s) = some (some u, fin s)) {s : σ} (h0 : Inv s) :
    iterL f (enc 0 s) = match foldE step s xs with
      | .ok s' => some (u, fin s')
      | .error r => some r := by
  have key : ∀ (l pre : List α) (s : σ), xs = pre ++ l → Inv s → iterL f (enc pre.length s) = match foldE step s l with
      | .ok s' => some (u, fin s')
      | .error r => some r := by
    intro l
    induction l with
    | nil =>
      intro pre s hx hs
      rw [iterL_eq]
      have : pre.length = xs.length := by rw [hx]; simp
      rw [this, hend s hs]; rfl
    | cons x l ih =>
      intro pre s hx hs
      have hget : xs[pre.length]? = some x := by rw [hx]; simp
      rw [iterL_eq, hstep _ x s hget hs]
      simp only [foldE]
      cases e : step s x with
      | error r => rfl
      | ok s' =>
        simp only
        have := ih (pre ++ [x]) s' (by rw [hx]; simp) (hinv _ x s s' hget hs e)
        rw [List.length_append] at this
        exact this
  exact key xs [] s rfl h0
/-- Whether all are so. -/
theorem iter_all {α : Type} {f : List D → Option (Option Nat × List D)} {p : α → Bool} {t u : Nat} {xs : List α}
    (hstep : ∀ (i : Nat) x, xs[i]? = some x → f [I i] = if p x then some (none, [I ((i + 1 : Nat) : Int)]) else some (some t, []))
    (hend : f [I xs.length] = some (some u, [])) : iterL f [I 0] = if xs.all p then some (u, []) else some (t, []) := by
  have := iter_foldE (σ := Unit) (f := f) (enc := fun i _ => [I i]) (step := fun _ x => if p x then .ok () else .error (t, [])) (u := u) (fin := fun _ => []) (xs := xs) (fun _ => True)
    (fun i x s hx _ => by rw [hstep i x hx]; cases p x <;> rfl) (fun _ _ _ _ _ _ _ => trivial) (fun _ _ => hend) (s := ()) trivial
  have e : ((0 : Nat) : Int) = 0 := rfl
  simp only [e] at this
  rw [this]
  have key : ∀ l : List α, foldE (ε := Nat × List D) (fun (_ : Unit) x => if p x then .ok () else .error (t, [])) () l = if l.all p then .ok () else .error (t, []) := by
    intro l
    induction l with
    | nil => rfl
    | cons x l ih =>
      simp only [foldE, List.all_cons]
      by_cases hp : p x = true
      · simp only [hp, if_true, Bool.true_and]; exact ih
      · simp [hp]
  rw [key]
  cases xs.all p <;> rfl
theorem getElem?_map_some {α β : Type} {f : α → β} {l : List α} {i : Nat} {x : α} (h : l[i]? = some x) : (l.map f)[i]? = some (f x) := by simp [h]
theorem idx_nat {n : Nat} {i : Nat} (h : i < n) : (I i).idx n = some i := by simp [I, D.idx, h]
end Go.Q
