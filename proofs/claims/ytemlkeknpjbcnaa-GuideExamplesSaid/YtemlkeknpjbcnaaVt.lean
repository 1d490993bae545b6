/- Soundness: code, and functions. -/
import Derived.Test.YtemlkeknpjbcnaaVs
import Derived.RangeFuncLeaves
set_option linter.unusedVariables false
set_option linter.unusedSimpArgs false
namespace Go.V
open Go.RowKit
variable {P : Program}

theorem World.putObj_heap {w : World} {r k : Nat} {o : Obj} (h : r < w.heap.size) : (w.putObj r o).heap[k]? = if k = r then some o else w.heap[k]? := by
  by_cases hk : k = r
  · subst hk; rw [if_pos rfl]; exact World.putObj_heap_same h
  · rw [if_neg hk]; exact World.putObj_heap_other hk
def Ex.to : Ex → Exit
  | .normal => .normal
  | .exit id => .exit id
  | .ret => .ret
theorem Ex.to_then {K : Act → World → Prop} {Q : Exit → Act → World → Prop} {e : Ex} (h : e ≠ .normal) (a : Act) (w : World) : Exit.then K Q e.to a w = Q e.to a w := by cases e <;> first | rfl | exact absurd rfl h

/-- A loop, by how often it goes round at most. -/
theorem wpIn_rounds {F : Fence} {n : Nat} {P : Program} {c : Code} {Q : Exit → Act → World → Prop} (J : Nat → Act → World → Prop) (h0 : ∀ a w, ¬ J 0 a w)
    (round : ∀ k a w, J (k + 1) a w → c.wpIn F n P (Exit.then (J k) Q) a w) {m : Nat} {a : Act} {w : World} (h : J m a w) : (Code.loop c).wpIn F n P Q a w := by
  intro b k cs hro hb hr
  have key : ∀ j a w, J j a w → ∃ e a' w', Q e a' w' ∧ ArrivesIn (Machine.fenced P F) P (lone (b.atR a (.code c :: .inLoop c :: k)) cs w) b k cs e a' w' := by
    intro j
    induction j with
    | zero => intro a w hJ; exact absurd hJ (h0 a w)
    | succ j ih =>
      intro a w hJ
      obtain ⟨e, a₁, w₁, hq, harr⟩ := round j a w hJ b (.inLoop c :: k) cs hro hb hr
      cases e with
      | normal =>
        obtain ⟨e₂, a₂, w₂, hq₂, harr₂⟩ := ih a₁ w₁ hq
        exact ⟨e₂, a₂, w₂, hq₂, .of_steps (StepsIn.trans harr (.one (fenced_calm hb hr rfl) stepR_inLoop)) harr₂⟩
      | exit id => exact ⟨_, a₁, w₁, hq, .pass (x := .inLoop c) rfl (fun _ _ => .inl (by simp)) harr⟩
      | goto l => exact ⟨_, a₁, w₁, hq, .pass (x := .inLoop c) rfl (fun _ _ => .inl (by simp)) harr⟩
      | ret => exact ⟨_, a₁, w₁, hq, .pass (x := .inLoop c) rfl (fun _ _ => .inl (by simp)) harr⟩
      | panic ch => exact ⟨_, a₁, w₁, hq, .pass (x := .inLoop c) rfl (fun _ _ => .inl (by simp)) harr⟩
      | outgrown => exact ⟨_, a₁, w₁, hq, .pass (x := .inLoop c) rfl (fun _ _ => .inl (by simp)) harr⟩
  obtain ⟨e, a', w', hq, harr⟩ := key _ a w h
  exact ⟨e, a', w', hq, .of_steps (.one (fenced_calm hb hr rfl) stepR_loop) harr⟩

/-! A scope that no jump goes through -/
section
variable {b : Frame} {a : Act} {k : List Item} {cs : List Frame} {w : World} {F : Fence} {n : Nat}
theorem stepR_scope {c : Code} : step P (lone (b.atR a (.code (.scope c) :: k)) cs w) = .next (lone (b.atR a (.code c :: .inScope c :: k)) cs w) :=
  step_lone_go (by simp [stepG, stepG.exec, Frame.atR])
theorem stepR_inScope {c : Code} : step P (lone (b.atR a (.inScope c :: k)) cs w) = .next (lone (b.atR a k) cs w) :=
  step_lone_go (by simp [stepG, stepG.exec, Frame.atR])
theorem wpIn_scope {c : Code} {Q : Exit → Act → World → Prop} (h : c.wpIn F n P (fun e a w => (∀ l, e ≠ .goto l) ∧ Q e a w) a w) : (Code.scope c).wpIn F n P Q a w := by
  intro b k cs hro hb hr
  have h0 : (lone (b.atR a (.code (.scope c) :: k)) cs w).fenced P F := fenced_calm hb hr rfl
  obtain ⟨e, a₁, w₁, ⟨hng, hq⟩, harr⟩ := h b (.inScope c :: k) cs hro hb hr
  cases e with
  | normal => exact ⟨.normal, a₁, w₁, hq, .head h0 stepR_scope (StepsIn.trans harr (.one (fenced_calm (fr := b.atR a₁ (.inScope c :: k)) hb hr rfl) stepR_inScope))⟩
  | exit id => exact ⟨.exit id, a₁, w₁, hq, .of_steps (.one h0 stepR_scope) ⟨fun k' hk => harr.1 k' (by simp [exitTo, hk]), fun hr hk => harr.2 hr (by simp [exitTo, hk])⟩⟩
  | goto l => exact absurd rfl (hng l)
  | ret => exact ⟨_, a₁, w₁, hq, .of_steps (.one h0 stepR_scope) harr⟩
  | panic ch => exact ⟨_, a₁, w₁, hq, .of_steps (.one h0 stepR_scope) harr⟩
  | outgrown => exact ⟨_, a₁, w₁, hq, .of_steps (.one h0 stepR_scope) harr⟩
end
theorem Ex.to_goto (e : Ex) (l : Nat) : e.to ≠ .goto l := by cases e <;> simp [Ex.to]

/-! New objects, and objects put in the place of others -/
theorem alloc_sim {S : Nat → Prop} {φ : Phi} {h : Mem} {w : World} {nx : Nat} {b : Blk} {o : Obj} (hs : Sim P S φ h w) (hn : φ nx = none)
    (hb : Adv S φ h w S (fun id => if id = nx then some ⟨w.heap.size, 0, 0⟩ else φ id) (fun id => if id = nx then some b else h id) (w.alloc o) → SimBlk P (w.alloc o) S (fun id => if id = nx then some ⟨w.heap.size, 0, 0⟩ else φ id) ⟨w.heap.size, 0, 0⟩ b) :
    Adv S φ h w S (fun id => if id = nx then some ⟨w.heap.size, 0, 0⟩ else φ id) (fun id => if id = nx then some b else h id) (w.alloc o) ∧ Sim P S (fun id => if id = nx then some ⟨w.heap.size, 0, 0⟩ else φ id) (fun id => if id = nx then some b else h id) (w.alloc o) := by
  have hadv : Adv S φ h w S (fun id => if id = nx then some ⟨w.heap.size, 0, 0⟩ else φ id) (fun id => if id = nx then some b else h id) (w.alloc o) := by
    refine ⟨fun id loc e1 => ?_, fun _ e => e, fun _ e => .inl e, rfl, rfl, rfl, by simp, fun b hb _ => Below.heap_alloc w _ b hb, ?_, fun b e n hb => shape_alloc hb⟩
    · have : id ≠ nx := by rintro rfl; rw [hn] at e1; cases e1
      simp [this, e1]
    · rintro b ⟨id, x, loc, e1, e2, e3⟩
      by_cases hid : id = nx
      · subst hid; simp at e2; subst e2; right; simp at e3; omega
      · simp [hid] at e1 e2; exact .inl ⟨id, x, loc, e1, e2, e3⟩
  refine ⟨hadv, ?_, ?_, fun b hb => Nat.lt_of_lt_of_le (hs.bd b hb) (by simp)⟩
  · intro id b' hb'
    by_cases hid : id = nx
    · subst hid
      simp at hb'; subst hb'
      exact ⟨⟨w.heap.size, 0, 0⟩, by simp, hb hadv, fun hS => absurd (hs.bd _ hS) (by simp)⟩
    · simp [hid] at hb'
      obtain ⟨loc, e1, e2, e3⟩ := hs.blk id b' hb'
      exact ⟨loc, by simp [hid, e1], e2.adv hadv hs (Below.heap_alloc w _ _ e2.lt), e3⟩
  · intro id id' b b' loc loc' a1 a2 a3 a4 a5
    by_cases hid : id = nx <;> by_cases hid' : id' = nx
    · rw [hid, hid']
    · subst hid
      simp at a3; subst a3
      simp [hid'] at a2 a4
      have := hs.lt a2 a4
      simp at a5; omega
    · subst hid'
      simp at a4; subst a4
      simp [hid] at a1 a3
      have := hs.lt a1 a3
      simp at a5; omega
    · simp [hid] at a1 a3; simp [hid'] at a2 a4
      exact hs.inj id id' b b' loc loc' a1 a2 a3 a4 a5
theorem put_sim {S : Nat → Prop} {φ : Phi} {h : Mem} {w : World} {id : Nat} {b : Blk} {b' : Option Blk} {loc : Loc} {o : Obj} (hs : Sim P S φ h w) (hb : h id = some b) (hφ : φ id = some loc) (hno : w.shape? loc.blk = none)
    (hnew : ∀ x, b' = some x → Adv S φ h w S φ (fun k => if k = id then b' else h k) (w.putObj loc.blk o) → SimBlk P (w.putObj loc.blk o) S φ loc x) :
    Adv S φ h w S φ (fun k => if k = id then b' else h k) (w.putObj loc.blk o) ∧ Sim P S φ (fun k => if k = id then b' else h k) (w.putObj loc.blk o) := by
  have hlt := hs.lt hb hφ
  have hown : Own φ h loc.blk := ⟨id, _, loc, hb, hφ, rfl⟩
  have hadv : Adv S φ h w S φ (fun k => if k = id then b' else h k) (w.putObj loc.blk o) := by
    refine ⟨fun _ _ e => e, fun _ e => e, fun _ e => .inl e, rfl, rfl, rfl, by simp, fun b _ hn => World.putObj_heap_other (fun e => hn (e ▸ hown)), ?_, fun b e n hbs => ?_⟩
    · rintro b ⟨k, y, l, e1, e2, e3⟩
      by_cases hk : k = id
      · subst hk; rw [hφ] at e2; cases e2; exact .inl (e3 ▸ hown)
      · exact .inl ⟨k, y, l, by simpa [hk] using e1, e2, e3⟩
    · have hne : b ≠ loc.blk := by rintro rfl; rw [hno] at hbs; cases hbs
      unfold World.shape? at *
      rw [World.putObj_heap_other hne]; exact hbs
  obtain ⟨loc', q1, q2, q3⟩ := hs.blk id _ hb
  rw [hφ] at q1; cases q1
  refine ⟨hadv, ?_, ?_, fun b hb => by simpa using hs.bd b hb⟩
  · intro k x hk
    by_cases hid : k = id
    · subst hid
      exact ⟨loc, hφ, hnew x (by simpa using hk) hadv, q3⟩
    · have hk' : h k = some x := by simpa [hid] using hk
      obtain ⟨l, p1, p2, p3⟩ := hs.blk k x hk'
      have hne : l.blk ≠ loc.blk := fun e => hid (hs.inj k id x _ l loc hk' hb p1 hφ e)
      exact ⟨l, p1, p2.adv hadv hs (World.putObj_heap_other hne), p3⟩
  · intro k k' c c' l l' a1 a2 a3 a4 a5
    have key : ∀ k c, (if k = id then b' else h k) = some c → ∃ c, h k = some c := fun k c hk => by
      by_cases hid : k = id
      · exact ⟨_, hid ▸ hb⟩
      · exact ⟨c, by simpa [hid] using hk⟩
    obtain ⟨d, a1'⟩ := key k c a1
    obtain ⟨d', a2'⟩ := key k' c' a2
    exact hs.inj k k' d d' l l' a1' a2' a3 a4 a5
theorem shape_loop {w : World} {b : Nat} {r : Loop} (h : w.heap[b]? = some (.loop r)) : w.shape? b = none := by unfold World.shape?; rw [h]
theorem shape_deferred {w : World} {b : Nat} {d : Option (List Deferred)} (h : w.heap[b]? = some (.deferred d)) : w.shape? b = none := by unfold World.shape?; rw [h]
theorem hget_wr1 (H : Heap) (id : Nat) (b : Option Blk) (nx : Nat) : hget (wrH H [(id, b)] nx) = fun k => if k = id then b else hget H k := by rw [hget_wrH, updH_one]

/-! Marks; the frames of rounds -/
def Marks (φ : Phi) : List Nat → List Deferred → Prop
  | [], [] => True
  | id :: ids, d :: ds => (∃ loc, φ id = some loc ∧ d = { target := .collected loc.blk, args := #[] }) ∧ Marks φ ids ds
  | _, _ => False
theorem Marks.mono {φ φ' : Phi} (h : ∀ id loc, φ id = some loc → φ' id = some loc) : ∀ {ids : List Nat} {ds : List Deferred}, Marks φ ids ds → Marks φ' ids ds
  | [], [], _ => trivial
  | id :: ids, d :: ds, hm => ⟨by obtain ⟨loc, h1, h2⟩ := hm.1; exact ⟨loc, h _ _ h1, h2⟩, Marks.mono h hm.2⟩
  | [], _ :: _, hm => hm
  | _ :: _, [], hm => hm
theorem Marks.append {φ : Phi} : ∀ {ids ids' : List Nat} {ds ds' : List Deferred}, Marks φ ids ds → Marks φ ids' ds' → Marks φ (ids ++ ids') (ds ++ ds')
  | [], _, [], _, _, h => h
  | id :: ids, _, d :: ds, _, hm, h => ⟨hm.1, Marks.append hm.2 h⟩
  | [], _, _ :: _, _, hm, _ => hm.elim
  | _ :: _, _, [], _, hm, _ => hm.elim
def FR (φ : Phi) : Option Nat → Fence → Prop
  | none, F => F = Fence.wide
  | some id, F => ∃ loc, φ id = some loc ∧ F = Fence.wide.inRound loc.blk
theorem FR.wf {φ : Phi} {rd : Option Nat} {F : Fence} (h : FR φ rd F) : WF F := by
  cases rd with
  | none => cases h; exact .wide
  | some id => obtain ⟨loc, -, rfl⟩ := h; exact .rnd _
theorem FR.mono {φ φ' : Phi} (hφ : ∀ id loc, φ id = some loc → φ' id = some loc) {rd : Option Nat} {F : Fence} (h : FR φ rd F) : FR φ' rd F := by
  cases rd with
  | none => exact h
  | some id => obtain ⟨loc, h1, h2⟩ := h; exact ⟨loc, hφ _ _ h1, h2⟩
structure InvR (P : Program) (S : Nat → Prop) (φ : Phi) (w : World) (r : RSt) (a : Act) : Prop where
  inv : Inv P S φ w r.st a
  mrk : Marks φ r.ds a.defers
def ReachR (P : Program) (S : Nat → Prop) (φ : Phi) (w : World) (r : RSt) (r' : RSt) (a' : Act) (w' : World) : Prop :=
  ∃ S' φ', InvR P S' φ' w' r' a' ∧ Adv S φ (hget r.st.H) w S' φ' (hget r'.st.H) w' ∧ r.st.H.nx ≤ r'.st.H.nx
theorem ReachR.refl {S : Nat → Prop} {φ : Phi} {w : World} {r : RSt} {a : Act} (h : InvR P S φ w r a) : ReachR P S φ w r r a w := ⟨S, φ, h, Adv.refl _ _ _ _, Nat.le_refl _⟩
theorem ReachR.step {S S' : Nat → Prop} {φ φ' : Phi} {w w' w'' : World} {r r' r'' : RSt} {a'' : Act} (h2 : Adv S φ (hget r.st.H) w S' φ' (hget r'.st.H) w') (h4 : r.st.H.nx ≤ r'.st.H.nx) (k : ReachR P S' φ' w' r' r'' a'' w'') : ReachR P S φ w r r'' a'' w'' := by
  obtain ⟨S'', φ'', k1, k2, k4⟩ := k
  exact ⟨S'', φ'', k1, h2.trans k2, Nat.le_trans h4 k4⟩
theorem ReachR.of {S : Nat → Prop} {φ : Phi} {w w' : World} {st st' : St} {a a' : Act} {ds : List Nat} (hm : Marks φ ds a.defers) (h : Reach P S φ w st a st' a' w') : ReachR P S φ w ⟨st, ds⟩ ⟨st', ds⟩ a' w' := by
  obtain ⟨S', φ', k1, k2, k3, k4⟩ := h
  exact ⟨S', φ', ⟨k1, by rw [k3]; exact hm.mono k2.phi⟩, k2, k4⟩
end Go.V
