/- A law for a range over an iterator that keeps a block of its own and yields items by their numbers; a drawing region in a round. Over every program. -/
import Derived.RangeFuncIn
import Derived.RangeFuncRecord
import Derived.RangeFuncSeq
import Derived.RangeFuncBox
import Derived.RangeFuncLeaves
import Derived.OrdersIn
import Derived.TacticsIn
import Derived.Deep.QuietTactic
import Derived.BigQuiet
import Derived.Test.YtafdcbdbllpcnaaDraws
namespace Go.Proofs.Ytafdcbdbllpcnaa
open Go.RowKit

/-- What a round leaves as it lay: some blocks; three from B on; what is newer than s0. -/
structure Kept (Kb : Nat → Prop) (B s0 : Nat) (W W' : World) : Prop where
  size : W.heap.size ≤ W'.heap.size
  same : ∀ b, b < W.heap.size → (Kb b ∨ (B ≤ b ∧ b < B + 3) ∨ s0 ≤ b) → W'.heap[b]? = W.heap[b]?
theorem Kept.refl (Kb : Nat → Prop) (B s0 : Nat) (W : World) : Kept Kb B s0 W W := ⟨Nat.le_refl _, fun _ _ _ => rfl⟩
theorem Kept.trans {Kb : Nat → Prop} {B s0 : Nat} {a b c : World} (h : Kept Kb B s0 a b) (k : Kept Kb B s0 b c) : Kept Kb B s0 a c :=
  ⟨Nat.le_trans h.size k.size, fun i hi hc => (k.same i (Nat.lt_of_lt_of_le hi h.size) hc).trans (h.same i hi hc)⟩
theorem Kept.ofExt {Kb : Nat → Prop} {B s0 : Nat} {a b : World} (h : Ext a b) : Kept Kb B s0 a b := ⟨h.size, fun i hi _ => h.block i hi⟩
theorem Kept.ofGrown {Kb : Nat → Prop} {B s0 : Nat} {a b : World} {row : Option Nat} (h : a.grownBy b row) (hr : ∀ r, row = some r → ¬ Kb r ∧ r < s0 ∧ (r < B ∨ B + 3 ≤ r)) : Kept Kb B s0 a b :=
  ⟨h.size, fun i hi hc => h.block i hi (fun e => by
    obtain ⟨h1, h2, h3⟩ := hr i e.symm
    rcases hc with hc | hc | hc
    · exact h1 hc
    · omega
    · omega)⟩

/-- The iterator's word, in the world w: it yields items 0, 1, .. by their numbers, fewer than N; S: so many have come and it ended; Sp: so many have come and a round said 'no more'. M, the heap's size when its closure is called, is its own block. -/
def IterAt {P : Program} (gf : Nat) (lb : Array Value) (encs : Nat → Array Value) (Kb : Nat → Prop) (N : Nat) (S Sp : Nat → Prop) (w : World) : Prop :=
  ∀ (l : Nat) (J Jx : Nat → World → Prop) (W : World), Below w.heap.size w W → w.heap.size ≤ W.heap.size →
    (∀ k A A', J k A → A.grownBy A' (some W.heap.size) → J k A') → (∀ k A A', Jx k A → A.grownBy A' (some W.heap.size) → Jx k A') →
    (∀ k W0 W1, k < N → J k W0 → W.heap.size < W0.heap.size → W0.grownBy W1 (some W.heap.size) → YieldAt Fence.wide 0 P l (encs k) W1 fun e W' =>
      (e = .returned (.bool true) ∧ J (k + 1) W' ∧ W1.heap.size ≤ W'.heap.size ∧ ∀ b, b < W1.heap.size → (Kb b ∨ b = W.heap.size ∨ W0.heap.size ≤ b) → W'.heap[b]? = W1.heap[b]?) ∨ (e = .returned (.bool false) ∧ Jx (k + 1) W')) →
    J 0 W →
    CallsIn Fence.wide 0 P gf (#[.func (.yield l) #[] #[]] ++ lb) W fun e W' => (∃ v, e = .returned v) ∧ ((∃ k, S k ∧ J k W') ∨ (∃ k, Sp k ∧ Jx k W'))

/-- How a round's body may be left. -/
def iterPost (Kb : Nat → Prop) (B s0 : Nat) (I : Nat → World → Prop) (Ix : Code → Nat → World → Prop) (k : Nat) (W : World) : Exit → Act → World → Prop
  | .normal, _, W' => Kept Kb B s0 W W' ∧ I k W'
  | .ret, _, W' => Kept Kb B s0 W W' ∧ Ix .ret k W'
  | .exit id, _, W' => Kept Kb B s0 W W' ∧ Ix (.exit id) k W'
  | .goto t, _, W' => Kept Kb B s0 W W' ∧ Ix (.goto t) k W'
  | .panic _, _, _ => False
  | .outgrown, _, _ => False

section
variable {P : Program}
theorem grown_put (W : World) {l k : Nat} (o : Obj) (h : l ≠ k) : (W.putObj l o).heap[k]? = W.heap[k]? := World.putObj_heap_other (fun e => h e.symm)

theorem wpIn_iter {g : Operand} {ps : Array Tmp} {assign body : Code} {Q : Exit → Act → World → Prop} {a : Act} {w : World}
    {gf : Nat} {lb : Array Value} (hg : a.eval g = .func (.func gf) #[] lb) (eg : ∀ args w, (callFunc gf args).run P w = .ok (.enter gf args) w)
    {encs : Nat → Array Value} (hps : ∀ k, (encs k).size = ps.size) {Kb : Nat → Prop} {N : Nat} {S Sp : Nat → Prop} (hit : IterAt (P := P) gf lb encs Kb N S Sp w) (hn : ∀ i, Kb i → i < w.heap.size)
    (I : Nat → World → Prop) (Ix : Code → Nat → World → Prop) (hI : ∀ k A A' r, I k A → A.grownBy A' (some r) → w.heap.size ≤ r → r < w.heap.size + 3 → I k A')
    (hIx : ∀ c k A A' r, Ix c k A → A.grownBy A' (some r) → w.heap.size ≤ r → r < w.heap.size + 3 → Ix c k A') (h0 : I 0 w)
    (o : Nat → Obj) (av : Nat → Nat → Act)
    (hassign : ∀ (l k : Nat) (W : World) (K : Act → World → Prop), K (av k W.heap.size) (W.alloc (o k)) → assign.wpIn (Fence.wide.inRound l) 0 P (Exit.then K (fun _ _ _ => False)) { tmps := (ps.zip (encs k)).foldl (fun t (p, v) => t.setIfInBounds p v) a.tmps, defers := [] } W)
    (hbody : ∀ (l k : Nat) (W0 W1 W2 : World), k < N → w.heap.size + 3 ≤ W0.heap.size → W0.heap.size ≤ W1.heap.size → I k W0 → I k W2 → (W1.alloc (o k)).grownBy W2 (some (w.heap.size + 1)) → (∀ i, i < W0.heap.size → i ≠ w.heap.size + 1 → i ≠ w.heap.size + 2 → W2.heap[i]? = W0.heap[i]?) → body.wpIn (Fence.wide.inRound l) 0 P (iterPost Kb w.heap.size W0.heap.size I Ix (k + 1) W2) (av k W1.heap.size) W2)
    (hdone : ∀ (k : Nat) (W : World), S k → I k W → W.heap[w.heap.size]? = some (.deferred (some [])) → Q .normal { a with defers := { target := .collected w.heap.size, args := #[] } :: a.defers } W)
    (hstop : ∀ (c : Code) (k : Nat) (W : World), Sp k → Ix c k W → W.heap[w.heap.size]? = some (.deferred (some [])) → c.wpIn Fence.wide 0 P Q { a with defers := { target := .collected w.heap.size, args := #[] } :: a.defers } W) :
    (Code.rangeFunc g ps assign body).wpIn Fence.wide 0 P Q a w := by
  refine wpIn_rangeFunc fun fn _ => ?_
  obtain ⟨rec, hrec⟩ : ∃ rec : LoopState → Option Code → Obj, rec = fun st pe => .loop { state := st, pending := pe, fn, tmps := a.tmps, params := ps, assign, body, defers := w.heap.size } := ⟨_, rfl⟩
  obtain ⟨W1, hW1⟩ : ∃ W1, (w.alloc (.deferred (some []))).alloc (rec .ready none) = W1 := ⟨_, rfl⟩
  have z1 : W1.heap.size = w.heap.size + 2 := by rw [← hW1]; simp
  have gr : ∀ (o : Obj) (W : World) (r : Nat), W.grownBy (W.alloc o) (some r) := fun o W r => World.grownBy_alloc W o _
  have I1 : I 0 W1 := by
    rw [← hW1]
    exact hI 0 _ _ w.heap.size (hI 0 _ _ w.heap.size h0 (gr _ _ _) (Nat.le_refl _) (by omega)) (gr _ _ _) (Nat.le_refl _) (by omega)
  have B1 : Below w.heap.size w W1 := by
    rw [← hW1]
    exact ((Below.refl _ w).alloc (Nat.le_refl _) _).alloc (by simp) _
  have L1 : W1.heap[w.heap.size + 1]? = some (rec .ready none) := by
    have := World.alloc_heap_new (w.alloc (.deferred (some []))) (rec .ready none)
    rw [World.size_alloc, hW1] at this
    exact this
  have D1 : W1.heap[w.heap.size]? = some (.deferred (some [])) := by
    rw [← hW1]
    exact (Below.heap_alloc _ _ _ (by simp)).trans (World.alloc_heap_new w _)
  refine ⟨w.heap.size + 1, [{ target := .collected w.heap.size, args := #[] }], W1, { target := .fn (.func gf) lb, args := #[.func (.yield (w.heap.size + 1)) #[] #[]] }, W1, gf,
    #[.func (.yield (w.heap.size + 1)) #[] #[]] ++ lb, W1, ?_, ?_, fun _ _ => trivial, ?_, fun h => by simp [Fence.wide] at h, ?_⟩
  · rw [← hW1, hrec]
    exact run_enterLoop_outer _ _ _ _ _
  · simp only [resolve, hg]
    simp [go_sem]
  · simp [invoke, go_sem, eg]
  · refine (hit (w.heap.size + 1)
      (fun k W => I k W ∧ W.heap[w.heap.size + 1]? = some (rec .ready none) ∧ W.heap[w.heap.size]? = some (.deferred (some [])))
      (fun k W => ∃ c, Ix c k W ∧ W.heap[w.heap.size + 1]? = some (rec .done (some c)) ∧ W.heap[w.heap.size]? = some (.deferred (some [])))
      W1 B1 (by omega) ?_ ?_ ?_ ⟨I1, L1, D1⟩).mono ?_
    · rintro k A A' ⟨h1, h2, h3⟩ hgr
      have hlt := (Array.getElem?_eq_some_iff.1 h2).1
      exact ⟨hI k A A' _ h1 hgr (by omega) (by omega), (hgr.block _ hlt (by rw [z1]; simp)).trans h2, (hgr.block _ (by omega) (by rw [z1]; simp)).trans h3⟩
    · rintro k A A' ⟨c, h1, h2, h3⟩ hgr
      have hlt := (Array.getElem?_eq_some_iff.1 h2).1
      exact ⟨c, hIx c k A A' _ h1 hgr (by omega) (by omega), (hgr.block _ hlt (by rw [z1]; simp)).trans h2, (hgr.block _ (by omega) (by rw [z1]; simp)).trans h3⟩
    · rintro k W0 W2 hk ⟨h1, h2, h3⟩ hlt hgr
      have l2 := (Array.getElem?_eq_some_iff.1 h2).1
      have e2 : W2.heap[w.heap.size + 1]? = some (rec .ready none) := (hgr.block _ l2 (by rw [z1]; simp)).trans h2
      have e3 : W2.heap[w.heap.size]? = some (.deferred (some [])) := (hgr.block _ (by omega) (by rw [z1]; simp)).trans h3
      have i2 : I k W2 := hI k W0 W2 _ h1 hgr (by omega) (by omega)
      have s2 := hgr.size
      rw [hrec] at e2
      refine ⟨fn, _, assign, body, run_yield (P := P) (args := encs k) e2 (hps k), roundIn_of_wpIn trivial (hassign (w.heap.size + 1) k W2 _ ?_)⟩
      have e2' : (W2.alloc (o k)).heap[w.heap.size + 1]? = some (rec .ready none) := by rw [hrec]; exact (Below.heap_alloc _ _ _ (by omega)).trans e2
      have e3' : (W2.alloc (o k)).heap[w.heap.size]? = some (.deferred (some [])) := (Below.heap_alloc _ _ _ (by omega)).trans e3
      have i2' : I k (W2.alloc (o k)) := hI k _ _ w.heap.size i2 (gr _ _ _) (Nat.le_refl _) (by omega)
      refine ⟨_, run_beginRound (by rw [hrec] at e2'; exact e2') rfl, ?_⟩
      obtain ⟨W3, hW3⟩ : ∃ W3, (W2.alloc (o k)).putObj (w.heap.size + 1) (rec .busy none) = W3 := ⟨_, rfl⟩
      have g3 : (W2.alloc (o k)).grownBy W3 (some (w.heap.size + 1)) := by rw [← hW3]; exact grownBy_putObj' _ _ _
      have s3 : W3.heap.size = W2.heap.size + 1 := by rw [← hW3]; simp
      have e4 : W3.heap[w.heap.size + 1]? = some (rec .busy none) := by rw [← hW3]; exact World.putObj_heap_same (by simp; omega)
      have e5 : W3.heap[w.heap.size]? = some (.deferred (some [])) := by rw [← hW3]; exact (World.putObj_heap_other (by omega)).trans e3'
      have i3 : I k W3 := hI k _ _ _ i2' g3 (by omega) (by omega)
      have hb := hbody (w.heap.size + 1) k W0 W2 W3 hk (by omega) s2 h1 i3 g3 (fun i hi n1 n2 => (g3.block i (by simp; omega) (by simpa using n1)).trans ((Below.heap_alloc _ _ _ (by omega)).trans (hgr.block i hi (by rw [z1]; simpa using n2))))
      rw [hrec] at hW3
      simp only at hW3
      rw [hW3]
      refine wpIn_mono hb ?_
      have fin : ∀ (jump : Option Code) (W4 : World), Kept Kb w.heap.size W0.heap.size W3 W4 →
          ∃ W5, (Instr.endRound (w.heap.size + 1) jump).run P W4 = .ok (.bool jump.isNone) W5 ∧ W4.grownBy W5 (some (w.heap.size + 1)) ∧
            W5.heap[w.heap.size + 1]? = some (rec (if jump.isNone then .ready else .done) jump) ∧ W5.heap[w.heap.size]? = some (.deferred (some [])) := fun jump W4 hk4 => by
        have e6 := (hk4.same (w.heap.size + 1) (by omega) (.inr (.inl ⟨by omega, by omega⟩))).trans e4
        have e7 := (hk4.same w.heap.size (by omega) (.inr (.inl ⟨by omega, by omega⟩))).trans e5
        have := hk4.size
        have hr := run_endRound (P := P) jump (by rw [hrec] at e6; exact e6)
        refine ⟨_, hr, grownBy_putObj' _ _ _, ?_, (World.putObj_heap_other (by omega)).trans e7⟩
        rw [hrec]
        exact World.putObj_heap_same (by omega)
      rintro e a3 W4 hp
      cases e with
      | normal =>
        obtain ⟨hk4, hi4⟩ := hp
        obtain ⟨W5, hr, hg5, hl5, hd5⟩ := fin none W4 hk4
        have s5 := hg5.size
        have s4 := hk4.size
        refine ⟨_, _, hr, .inl ⟨rfl, ⟨hI _ _ _ _ hi4 hg5 (by omega) (by omega), hl5, hd5⟩, by omega, fun b hb hc => ?_⟩⟩
        have n1 : b ≠ w.heap.size + 1 := by
          rcases hc with hc | hc | hc
          · have := hn b hc; omega
          · omega
          · omega
        have hc' : Kb b ∨ (w.heap.size ≤ b ∧ b < w.heap.size + 3) ∨ W0.heap.size ≤ b := by
          rcases hc with hc | hc | hc
          · exact .inl hc
          · exact .inr (.inl ⟨by omega, by omega⟩)
          · exact .inr (.inr hc)
        refine (hg5.block b (by omega) (by simpa using n1)).trans ((hk4.same b (by omega) hc').trans ((g3.block b (by simp; omega) (by simpa using n1)).trans (Below.heap_alloc _ _ _ hb)))
      | ret =>
        obtain ⟨hk4, hi4⟩ := hp
        obtain ⟨W5, hr, hg5, hl5, hd5⟩ := fin (some .ret) W4 hk4
        exact ⟨_, _, hr, .inr ⟨rfl, _, hIx _ _ _ _ _ hi4 hg5 (by omega) (by omega), hl5, hd5⟩⟩
      | exit id =>
        obtain ⟨hk4, hi4⟩ := hp
        obtain ⟨W5, hr, hg5, hl5, hd5⟩ := fin (some (.exit id)) W4 hk4
        exact ⟨_, _, hr, .inr ⟨rfl, _, hIx _ _ _ _ _ hi4 hg5 (by omega) (by omega), hl5, hd5⟩⟩
      | goto t =>
        obtain ⟨hk4, hi4⟩ := hp
        obtain ⟨W5, hr, hg5, hl5, hd5⟩ := fin (some (.goto t)) W4 hk4
        exact ⟨_, _, hr, .inr ⟨rfl, _, hIx _ _ _ _ _ hi4 hg5 (by omega) (by omega), hl5, hd5⟩⟩
      | panic ch => exact hp.elim
      | outgrown => exact hp.elim
    · rintro e W2 ⟨⟨v, rfl⟩, (⟨k, hS, hi, hl, hd⟩ | ⟨k, hSp, c, hi, hl, hd⟩)⟩
      · rw [hrec] at hl
        exact ⟨none, _, run_endLoop (P := P) hl (by simp), hdone k _ hS (hI _ _ _ _ hi (grownBy_putObj' _ _ _) (by omega) (by omega)) ((World.putObj_heap_other (by omega)).trans hd)⟩
      · rw [hrec] at hl
        exact ⟨some c, _, run_endLoop (P := P) hl (by simp), hstop c k _ hSp (hIx _ _ _ _ _ hi (grownBy_putObj' _ _ _) (by omega) (by omega)) ((World.putObj_heap_other (by omega)).trans hd)⟩

/-! A drawing region in a round of the wide fence: as outside. -/
theorem callsW {n : Nat} {f : FuncId} {args : Array Value} {w : World} {R : Ending → World → Prop} (l : Nat) (h : Calls P f args w R) : CallsIn (Fence.wide.inRound l) n P f args w R := callsIn_wide.2 h
theorem oper_round {o : Oper} {a : Act} {w : World} {K : Act → World → Prop} {Q : Exit → Act → World → Prop} (l n : Nat) (hd : ∀ c, o.op ≠ .defer c) (h : o.wp P a w K Q) : o.wpIn (Fence.wide.inRound l) n P a w K Q := by
  unfold Oper.wp at h
  unfold Oper.wpIn
  refine ⟨fun _ _ => trivial, ?_⟩
  rw [Oper.semAt_eq _ _ _ hd]
  generalize (execOp a.eval o).run P w = r at *
  have hF : (Fence.wide.inRound l).depth.isSome = true → 1 ≤ n := fun h => by simp [Fence.wide] at h
  cases r with
  | ok x w' =>
    cases x <;> simp only [Oper.upon, Oper.uponIn] at h ⊢ <;>
      first
        | exact h
        | exact ⟨hF, callsW l h⟩
        | exact ⟨hF, fun c cs _ => let ⟨v, w'', r, s⟩ := h c cs; ⟨v, w'', r, stepsIn_wide.2 s⟩⟩
  | halt x w' => cases x <;> simp only [Oper.upon, Oper.uponIn] at h ⊢ <;> exact h

def noDefer (o : Oper) : Bool := match o.op with | .defer _ => false | _ => true
theorem noDefer_ne {o : Oper} (h : noDefer o = true) : ∀ c, o.op ≠ .defer c := fun c e => by simp [noDefer, e] at h

theorem any_round {ops : Array Oper} {Q : Exit → Act → World → Prop} {md : Region.Mode} (l n : Nat) (hd : ops.all noDefer = true) (hL : ¬ LetsOut Q) : ∀ (fuel : Nat) (listed : Array Bool) (a : Act) (w : World), wpAny P md ops Q fuel listed a w → wpAnyIn (Fence.wide.inRound l) n P md ops Q fuel listed a w
  | 0, _, _, _, h => h
  | fuel + 1, listed, a, w, h => by
    refine ⟨h.1, fun i hi => ?_⟩
    have := h.2 i hi
    unfold wpOp at this
    unfold wpOpIn
    cases ho : ops[i]? with
    | none => simp only [ho] at this ⊢; exact any_round l n hd hL fuel _ _ _ this
    | some o =>
      have hdo : noDefer o = true := by
        obtain ⟨hlt, rfl⟩ := Array.getElem?_eq_some_iff.1 ho
        exact Array.all_eq_true.1 hd i hlt
      simp only [ho] at this ⊢
      split at this
      · rename_i hw
        rw [if_pos hw]
        rcases this with h' | h'
        · exact oper_round l n (noDefer_ne hdo) (Oper.wp_mono (fun a w h => any_round l n hd hL fuel _ a w h) h')
        · exact absurd h'.2 hL
      · rename_i hw
        rw [if_neg hw]
        exact ⟨fun _ _ => trivial, any_round l n hd hL fuel _ _ _ this⟩

/-- The same, where nothing grows out. -/
def noOut (Q : Exit → Act → World → Prop) : Exit → Act → World → Prop
  | .outgrown, _, _ => False
  | e, a, w => Q e a w
theorem noOut_le {Q : Exit → Act → World → Prop} : ∀ e a w, noOut Q e a w → Q e a w
  | .normal, _, _, h => h
  | .ret, _, _, h => h
  | .exit _, _, _, h => h
  | .goto _, _, _, h => h
  | .panic _, _, _, h => h
theorem region_round {id : Nat} {ops : Array Oper} {Q : Exit → Act → World → Prop} {a : Act} {w : World} (l n : Nat) (hm : P.follows .mixedOrders = true) (hd : ops.all noDefer = true)
    (h : wpAny P .any ops (noOut Q) ops.size (Array.replicate ops.size false) a w.drew) : (Code.region id ops true).wpIn (Fence.wide.inRound l) n P Q a w :=
  wpIn_mono (wpIn_region_any hm (any_round l n hd (fun ⟨_, _, h⟩ => h) _ _ _ _ h)) noOut_le

theorem ext_drew (w : World) : Ext w w.drew := (Below.refl _ w).drew
/-- A drawing region whose operations yield values that don't hang on the world, be memory made or not. -/
theorem quiet_wp {id : Nat} {Q : Exit → Act → World → Prop} {a : Act} {w : World} {os : List Oper} (hm : P.follows .mixedOrders = true) (hB : Region.lexB .any os.toArray = true)
    (h : wpQuiet P os.toArray (Ext w) (fun a' => ∀ w', Ext w w' → Q .normal a' w') os a) : (Code.region id os.toArray true).wp P Q a w :=
  wp_region_quiet hm hB (ext_drew w) (by simpa using h)
theorem quiet_round {id : Nat} {Q : Exit → Act → World → Prop} {a : Act} {w : World} {os : List Oper} (l n : Nat) (hm : P.follows .mixedOrders = true) (hd : os.toArray.all noDefer = true) (hB : Region.lexB .any os.toArray = true)
    (h : wpQuiet P os.toArray (Ext w) (fun a' => ∀ w', Ext w w' → Q .normal a' w') os a) : (Code.region id os.toArray true).wpIn (Fence.wide.inRound l) n P Q a w := by
  refine region_round l n hm hd ?_
  simp only [Region.lexB, Bool.and_eq_true] at hB
  refine wpAny_of_quiet (C := Ext w) (Q := fun a' => ∀ w', Ext w w' → Q .normal a' w') (Q' := noOut Q) (fun _ w' hw' h => h w' hw') _ _ _ _ (ext_drew w) ?_
  have := wpAnyQ_lex (P := P) (C := Ext w) (md := .any) hB.1 os 0 (Array.replicate os.toArray.size false) a (by simp) (by simpa using hB.2) h
  simpa using this
theorem quiet_step {ops : Array Oper} {C : World → Prop} {K : Act → Prop} {o : Oper} {rest : List Oper} {a : Act} (hw : Region.wanted o (yielded ops a.tmps) = true) (v : Value) (h : ∀ W, C W → o.quietAt P a C W v) (hk : wpQuiet P ops C K rest (a.put o.dst v)) : wpQuiet P ops C K (o :: rest) a :=
  Go.BigFrame.wpQuiet_want hw fun _ hK => ⟨v, h, hK _ hk⟩
end
end Go.Proofs.Ytafdcbdbllpcnaa
