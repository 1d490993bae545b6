/- Soundness: loads and stores. -/
import Derived.Test.YtemlkeknpjbcnaaVd
set_option linter.unusedVariables false
set_option linter.unusedSimpArgs false
namespace Go.V
open Go.RowKit
variable {P : Program}

theorem add_none (b o n : Nat) : (⟨b, o, none⟩ : Addr).add n = ⟨b, o + n, none⟩ := by unfold Addr.add; split <;> simp_all
theorem run_isAgg {P : Program} {t : TypeId} {d : TypeDesc} (h : P.underlying t = some d) (w : World) : (isAgg t).run P w = .ok (isAggD d) w := by
  unfold isAgg
  rw [Sem.run_bind, run_underlying h]
  cases d <;> rfl
theorem run_size {P : Program} {t : TypeId} {i : TypeInfo} (h : P.info? t = some i) (w : World) : (sizeOf t).run P w = .ok i.size w := by
  simp [sizeOf, typeInfo, h]
theorem sizeK_spec {P : Program} {t : TypeId} {n : Nat} (h : sizeK P t = some n) : ∃ i, P.info? t = some i ∧ i.size = n := by
  unfold sizeK at h
  cases hi : P.info? t with
  | none => rw [hi] at h; cases h
  | some i => rw [hi] at h; cases h; exact ⟨i, rfl, rfl⟩
theorem run_sizeK {P : Program} {t : TypeId} {n : Nat} (h : sizeK P t = some n) (w : World) : (sizeOf t).run P w = .ok n w := by
  obtain ⟨i, h1, rfl⟩ := sizeK_spec h
  exact run_size h1 w
theorem partK_spec {P : Program} {t : TypeId} {k : Option Nat} (h : partK P t = some k) : ∃ d i, P.underlying t = some d ∧ P.info? t = some i ∧ ((isAggD d = true ∧ k = some i.size) ∨ (isAggD d = false ∧ k = none)) := by
  unfold partK at h
  split at h
  · rename_i d i h1 h2
    refine ⟨d, i, h1, h2, ?_⟩
    split at h
    · rename_i h3; cases h; exact .inl ⟨h3, rfl⟩
    · rename_i h3; cases h; exact .inr ⟨by simpa using h3, rfl⟩
  · cases h
/-- A variable of a type that lies where an element's cells lie, from a place on. -/
theorem run_loadPart {P : Program} {t : TypeId} {k : Option Nat} (hk : partK P t = some k) {w : World} {S : Nat → Prop} {φ : Phi} {b o j : Nat} {x : List AV} {pv : AV}
    (hx : ∀ (i : Nat) c, x[i]? = some c → ∃ v, w.cell? ⟨b, o + i, none⟩ = some v ∧ Rep w S φ c v) (hp : part k x j = some pv) :
    ∃ vv, (loadVar t ⟨b, o + j, none⟩).run P w = .ok vv w ∧ Rep w S φ pv vv := by
  obtain ⟨d, inf, h1, h2, h3⟩ := partK_spec hk
  rcases h3 with ⟨h3, rfl⟩ | ⟨h3, rfl⟩
  · simp only [part] at hp
    split at hp
    · rename_i hle
      cases hp
      have hcell : ∀ i, i < inf.size → ∃ v, w.cell? ((⟨b, o + j, none⟩ : Addr).add i) = some v ∧ ∀ c, ((x.drop j).take inf.size)[i]? = some c → Rep w S φ c v := by
        intro i hi
        have hlt : j + i < x.length := by omega
        obtain ⟨v, e1, e2⟩ := hx (j + i) x[j + i] (by simp [hlt])
        refine ⟨v, by rw [add_none, Nat.add_assoc]; exact e1, fun c hc => ?_⟩
        rw [List.getElem?_take, if_pos hi, List.getElem?_drop] at hc
        rw [show x[j + i]? = some x[j + i] by simp [hlt]] at hc
        cases hc; exact e2
      let f : Nat → Value := fun i => (w.cell? ((⟨b, o + j, none⟩ : Addr).add i)).getD undef
      have hf : ∀ i, i < inf.size → w.cell? ((⟨b, o + j, none⟩ : Addr).add i) = some (f i) := fun i hi => by
        obtain ⟨v, e1, -⟩ := hcell i hi
        show _ = some ((w.cell? _).getD undef)
        rw [e1]; rfl
      have hrun := run_loadCells (P := P) w ⟨b, o + j, none⟩ inf.size f hf
      refine ⟨.agg ((List.range inf.size).map f).toArray, ?_, ?_⟩
      · simp only [loadVar, Sem.run_bind, run_isAgg h1, Result.andThen_ok, h3, if_true, run_size h2, hrun]
        rfl
      · refine .agg (by simp; omega) fun i c v e1 e2 => ?_
        have hi : i < inf.size := by
          rcases Nat.lt_or_ge i inf.size with h' | h'
          · exact h'
          · rw [List.getElem?_take, if_neg (by omega)] at e1; cases e1
        obtain ⟨v', e3, e4⟩ := hcell i hi
        have : v = v' := by
          have e5 : (List.range inf.size)[i]? = some i := by simp [hi]
          have e6 : (((List.range inf.size).map f).toArray)[i]? = some (f i) := by simp [hi]
          rw [e6] at e2; cases e2
          have := hf i hi
          rw [e3] at this; cases this; rfl
        rw [this]; exact e4 c e1
    · cases hp
  · simp only [part] at hp
    obtain ⟨v, e1, e2⟩ := hx j pv hp
    refine ⟨v, ?_, e2⟩
    simp only [loadVar, Sem.run_bind, run_isAgg h1, Result.andThen_ok, h3, Bool.false_eq_true, if_false, run_load, e1]
/-- What lies at an element of a block of the evaluator's own. -/
theorem SimBlk.cells {w : World} {S : Nat → Prop} {φ : Phi} {loc : Loc} {sz : Nat} {xs : List (List AV)} (h : SimBlk P w S φ loc (.row sz xs)) {i : Nat} {x : List AV} (hx : xs[i]? = some x) :
    ∀ (j : Nat) c, x[j]? = some c → ∃ v, w.cell? ⟨loc.blk, loc.base + i * loc.sz + j, none⟩ = some v ∧ Rep w S φ c v := by
  intro j c hc
  obtain ⟨f1, f2, cs, e, f3, f4, f5⟩ := h
  obtain ⟨-, v, h1, h2⟩ := f5 i j x c hx hc
  refine ⟨v, ?_, h2⟩
  simp [World.cell?, f3, f1, h1]

/-! A store -/
theorem shape_setRow {w : World} {g : Nat} {old cs : Array Value} {t : TypeId} {fr : Nat × Nat} (hg : w.heap[g]? = some (.cells old t fr)) (hs : cs.size = old.size) {b : Nat} {e : TypeId} {n : Nat} (h : w.shape? b = some (e, n)) : (w.setRow g cs).shape? b = some (e, n) := by
  by_cases hb : b = g
  · subst hb
    unfold World.shape? at *
    rw [hg] at h
    rw [setRow_heap w b old cs t fr hg]
    simp at h ⊢
    rw [hs]; exact h
  · unfold World.shape? at *
    rw [setRow_other w g b cs hb]; exact h
/-- One element of a block is turned. -/
theorem set_ends {S : Nat → Prop} {φ : Phi} {h : Mem} {w : World} {id sz i : Nat} {xs : List (List AV)} {x' : List AV} {loc : Loc} {old new : Array Value} {e : TypeId} (hs : Sim P S φ h w) (hb : h id = some (.row sz xs)) (hφ : φ id = some loc)
    (ho : w.heap[loc.blk]? = some (.cells old e (0, 0))) (hsz : new.size = old.size) (hi : i < xs.length) (hl : x'.length = sz) (h1 : x'.all AV.one = true)
    (hnew : ∀ (j : Nat) a, x'[j]? = some a → ∃ v, new[loc.base + i * sz + j]? = some v ∧ Rep w S φ a v)
    (hold : ∀ (i' j : Nat), i' ≠ i → j < sz → new[loc.base + i' * sz + j]? = old[loc.base + i' * sz + j]?) :
    let h' : Mem := fun k => if k = id then some (.row sz (xs.set i x')) else h k
    Adv S φ h w S φ h' (w.setRow loc.blk new) ∧ Sim P S φ h' (w.setRow loc.blk new) := by
  intro h'
  obtain ⟨loc', q1, q2, q3⟩ := hs.blk id _ hb
  rw [hφ] at q1; cases q1
  have hown : Own φ h loc.blk := ⟨id, _, loc, hb, hφ, rfl⟩
  have hadv : Adv S φ h w S φ h' (w.setRow loc.blk new) := by
    refine ⟨fun _ _ e => e, fun _ e => e, fun _ e => .inl e, rfl, rfl, rfl, by simp, fun b _ hn => setRow_other _ _ _ _ (fun e => hn (e ▸ hown)), ?_, fun b e n hb => shape_setRow ho hsz hb⟩
    rintro b ⟨k, y, l, e1, e2, e3⟩
    by_cases hk : k = id
    · subst hk; rw [hφ] at e2; cases e2; exact .inl (e3 ▸ hown)
    · exact .inl ⟨k, y, l, by simpa [h', hk] using e1, e2, e3⟩
  refine ⟨hadv, ?_, ?_, fun b hb => by simpa using hs.bd b hb⟩
  · intro k b hk
    by_cases hid : k = id
    · subst hid
      have hk' : some (Blk.row sz (xs.set i x')) = some b := by simpa [h'] using hk
      cases hk'
      refine ⟨loc, hφ, ?_, q3⟩
      obtain ⟨f1, f2, c, e', f3, f4, f5⟩ := q2
      rw [ho] at f3; cases f3
      refine ⟨f1, fun y hy => ?_, new, e, setRow_heap w _ _ _ _ _ ho, by simp; omega, fun i' j y a g1 g2 => ?_⟩
      · rcases List.mem_or_eq_of_mem_set hy with hy | hy
        · exact f2 y hy
        · rw [hy]; exact hl
      · by_cases hii : i' = i
        · subst hii
          rw [List.getElem?_set_self hi] at g1; cases g1
          obtain ⟨v, r1, r2⟩ := hnew j a g2
          rw [List.all_eq_true] at h1
          exact ⟨h1 a (List.mem_of_getElem? g2), v, r1, hadv.rep hs r2⟩
        · rw [List.getElem?_set_ne (Ne.symm hii)] at g1
          obtain ⟨o1, v, r1, r2⟩ := f5 i' j y a g1 g2
          have hj : j < sz := by
            have := f2 y (List.mem_of_getElem? g1)
            rcases Nat.lt_or_ge j y.length with h' | h'
            · omega
            · rw [List.getElem?_eq_none h'] at g2; cases g2
          exact ⟨o1, v, by rw [hold i' j hii hj]; exact r1, hadv.rep hs r2⟩
    · have hk' : h k = some b := by simpa [h', hid] using hk
      obtain ⟨l, p1, p2, p3⟩ := hs.blk k b hk'
      refine ⟨l, p1, ?_, p3⟩
      have hne : l.blk ≠ loc.blk := fun e => hid (hs.inj k id b _ l loc hk' hb p1 hφ e)
      exact p2.adv hadv hs (setRow_other _ _ _ _ hne)
  · intro k k' b b' l l' a1 a2 a3 a4 a5
    have key : ∀ k b, h' k = some b → ∃ b, h k = some b := fun k b hk => by
      by_cases hid : k = id
      · exact ⟨_, hid ▸ hb⟩
      · exact ⟨b, by simpa [h', hid] using hk⟩
    obtain ⟨c, a1'⟩ := key k b a1
    obtain ⟨c', a2'⟩ := key k' b' a2
    exact hs.inj k k' c c' l l' a1' a2' a3 a4 a5
theorem put_spec {x cs x' : List AV} {j : Nat} (h : put x j cs = some x') : j + cs.length ≤ x.length ∧ x' = x.take j ++ cs ++ x.drop (j + cs.length) := by
  unfold put at h
  split at h
  · rename_i hle; cases h; exact ⟨hle, rfl⟩
  · cases h
theorem put_length {x cs x' : List AV} {j : Nat} (h : put x j cs = some x') : x'.length = x.length := by
  obtain ⟨h1, rfl⟩ := put_spec h
  simp; omega
theorem put_get {x cs x' : List AV} {j : Nat} (h : put x j cs = some x') (i : Nat) : x'[i]? = if i < j then x[i]? else if i < j + cs.length then cs[i - j]? else x[i]? := by
  obtain ⟨h1, rfl⟩ := put_spec h
  by_cases a : i < j
  · rw [if_pos a, List.append_assoc, List.getElem?_append_left (by simp; omega), List.getElem?_take, if_pos a]
  · rw [if_neg a]
    by_cases b : i < j + cs.length
    · rw [if_pos b, List.append_assoc, List.getElem?_append_right (by simp; omega), List.getElem?_append_left (by simp; omega)]
      congr 1; simp; omega
    · rw [if_neg b, List.append_assoc, List.getElem?_append_right (by simp; omega), List.getElem?_append_right (by simp; omega), List.getElem?_drop]
      congr 1; simp; omega
theorem run_storePart {P : Program} {t : TypeId} {n : Nat} (hn : sizeK P t = some n) {S : Nat → Prop} {φ : Phi} {h : Mem} {w : World} {id sz i j : Nat} {xs : List (List AV)} {x x' : List AV} {loc : Loc} {y : AV} {vy : Value} (hs : Sim P S φ h w) (hb : h id = some (.row sz xs)) (hφ : φ id = some loc)
    (hx : xs[i]? = some x) (hy : Rep w S φ y vy) (hyn : y.cells.length = n) (hy1 : y.cells.all AV.one = true) (hp : put x j y.cells = some x') :
    ∃ w', (storeVar t ⟨loc.blk, loc.base + i * loc.sz + j, none⟩ vy).run P w = .ok () w' ∧
      Adv S φ h w S φ (fun k => if k = id then some (.row sz (xs.set i x')) else h k) w' ∧ Sim P S φ (fun k => if k = id then some (.row sz (xs.set i x')) else h k) w' := by
  obtain ⟨loc', q1, q2, q3⟩ := hs.blk id _ hb
  rw [hφ] at q1; cases q1
  obtain ⟨f1, f2, c, e, f3, f4, f5⟩ := q2
  have hi : i < xs.length := by
    rcases Nat.lt_or_ge i xs.length with h' | h'
    · exact h'
    · rw [List.getElem?_eq_none h'] at hx; cases hx
  have hxl : x.length = sz := f2 x (List.mem_of_getElem? hx)
  have hc := cells_rep hy
  obtain ⟨g1, -⟩ := put_spec hp
  have hbound : i * sz + sz ≤ xs.length * sz := by have := Nat.mul_le_mul_right sz (show i + 1 ≤ xs.length from hi); rw [Nat.succ_mul] at this; exact this
  have hfit : (loc.base + i * loc.sz + j) + 0 + vy.cells.toList.length ≤ c.size := by
    have := hc.1; simp at this ⊢; rw [f1]; omega
  have hrun := run_storeCells_at P loc.blk (loc.base + i * loc.sz + j) e vy.cells.toList 0 c w f3 hfit (reps_oneCell hc hy1)
  have hvl : vy.cells.toList.length = y.cells.length := by simpa using hc.1
  obtain ⟨new, hnew⟩ : ∃ new, new = (List.take (loc.base + i * loc.sz + j + 0) c.toList ++ vy.cells.toList ++ List.drop (loc.base + i * loc.sz + j + 0 + vy.cells.toList.length) c.toList).toArray := ⟨_, rfl⟩
  rw [← hnew] at hrun
  rw [f1, Nat.add_zero] at hfit hnew
  have hsize : new.size = c.size := by rw [hnew]; simp at hfit ⊢; omega
  have hget : ∀ m, new[m]? = if m < loc.base + i * sz + j then c[m]? else if m < loc.base + i * sz + j + y.cells.length then vy.cells[m - (loc.base + i * sz + j)]? else c[m]? := by
    intro m
    rw [hnew]
    simp only [List.getElem?_toArray]
    have hlen : (List.take (loc.base + i * sz + j) c.toList).length = loc.base + i * sz + j := by simp; omega
    by_cases a : m < loc.base + i * sz + j
    · rw [if_pos a, List.append_assoc, List.getElem?_append_left (by omega), List.getElem?_take, if_pos a]; simp
    · rw [if_neg a]
      by_cases b : m < loc.base + i * sz + j + y.cells.length
      · rw [if_pos b, List.append_assoc, List.getElem?_append_right (by omega), List.getElem?_append_left (by omega), hlen]; simp
      · rw [if_neg b, List.append_assoc, List.getElem?_append_right (by omega), List.getElem?_append_right (by omega), List.getElem?_drop, hlen, hvl]
        simp only [Array.getElem?_toList]
        congr 1; omega
  refine ⟨w.setRow loc.blk new, ?_, set_ends (id := id) (i := i) (x' := x') (new := new) hs hb hφ f3 hsize hi (by rw [put_length hp]; exact hxl) ?_ ?_ ?_⟩
  · simp only [storeVar, Sem.run_bind, run_sizeK hn, Result.andThen_ok]
    have : vy.cells.size = n := by rw [hc.1]; exact hyn
    simp only [this, ne_eq, not_true_eq_false, if_false]
    exact hrun
  · rw [List.all_eq_true]
    intro a ha
    obtain ⟨k, hk, rfl⟩ := List.getElem_of_mem ha
    have hg := put_get hp k
    rw [show x'[k]? = some x'[k] by simp [hk]] at hg
    have hold : ∀ b, x[k]? = some b → b.one = true := fun b hb => (f5 i k x b hx hb).1
    split at hg
    · exact hold _ hg.symm
    · split at hg
      · rw [List.all_eq_true] at hy1
        exact hy1 _ (List.mem_of_getElem? hg.symm)
      · exact hold _ hg.symm
  · intro k a ha
    have hk : k < sz := by
      rcases Nat.lt_or_ge k x'.length with h' | h'
      · rw [put_length hp] at h'; omega
      · rw [List.getElem?_eq_none h'] at ha; cases ha
    rw [put_get hp k] at ha
    rw [hget]
    split at ha
    · rename_i hlt
      obtain ⟨-, v, r1, r2⟩ := f5 i k x a hx ha
      exact ⟨v, by rw [if_pos (by omega)]; exact r1, r2⟩
    · split at ha
      · rename_i hlt hlt2
        obtain ⟨v, r1, r2⟩ := hc.get ha
        exact ⟨v, by rw [if_neg (by omega), if_pos (by omega), show loc.base + i * sz + k - (loc.base + i * sz + j) = k - j by omega]; exact r1, r2⟩
      · rename_i hlt hlt2
        obtain ⟨-, v, r1, r2⟩ := f5 i k x a hx ha
        exact ⟨v, by rw [if_neg (by omega), if_neg (by omega)]; exact r1, r2⟩
  · intro i' k hii hk
    rw [hget]
    have hb1 : ∀ p q : Nat, p < q → p * sz + sz ≤ q * sz := fun p q hpq => by have := Nat.mul_le_mul_right sz (show p + 1 ≤ q from hpq); rw [Nat.succ_mul] at this; exact this
    rcases Nat.lt_or_gt_of_ne hii with hlt | hlt
    · have := hb1 i' i hlt
      rw [if_pos (by omega)]
    · have := hb1 i i' hlt
      rw [if_neg (by omega), if_neg (by omega)]
end Go.V
