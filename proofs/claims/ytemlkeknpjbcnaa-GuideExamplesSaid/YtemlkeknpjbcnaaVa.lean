/- The evaluator's memory, and how its values and memory stand to the model's world. -/
import Derived.Test.YtemlkeknpjbcnaaV0
set_option linter.unusedVariables false
set_option linter.unusedSimpArgs false
namespace Go.V
open Go.RowKit

structure Loc where
  blk : Nat
  base : Nat
  sz : Nat
abbrev Phi := Nat → Option Loc

inductive Rep (w : World) (S : Nat → Prop) : Phi → AV → Value → Prop
  | int {φ k n} : Rep w S φ (.int k n) (.int k n)
  | bool {φ b} : Rep w S φ (.bool b) (.bool b)
  | str {φ s} : Rep w S φ (.str s) (.string s)
  | agg {φ cs vs} (hl : vs.size = cs.length) (h : ∀ (i : Nat) c v, cs[i]? = some c → vs[i]? = some v → Rep w S φ c v) : Rep w S φ (.agg cs) (.agg vs)
  | tup {φ cs vs} (hl : vs.size = cs.length) (h : ∀ (i : Nat) c v, cs[i]? = some c → vs[i]? = some v → Rep w S φ c v) : Rep w S φ (.tup cs) (.tuple vs)
  | lst {φ sz xs b base cap} (vals : Nat → Nat → Value) (hs : ∀ x ∈ xs, x.length = sz ∧ x.all AV.one = true) (hS : S b) (hl : xs.length ≤ cap)
      (hc : ∀ (i j : Nat) x c, xs[i]? = some x → x[j]? = some c → w.cell? ⟨b, base + i * sz + j, none⟩ = some (vals i j))
      (hr : ∀ (i j : Nat) x c, xs[i]? = some x → x[j]? = some c → Rep w S (fun _ => none) c (vals i j)) : Rep w S φ (.lst sz xs) (.slice (some ⟨b, base, none⟩) xs.length cap)
  | lstNil {φ sz a cap} : Rep w S φ (.lst sz []) (.slice a 0 cap)
  | ptrL {φ sz xs b base i j} (vals : Nat → Nat → Value) (hs : ∀ x ∈ xs, x.length = sz ∧ x.all AV.one = true) (hS : S b)
      (hc : ∀ (i j : Nat) x c, xs[i]? = some x → x[j]? = some c → w.cell? ⟨b, base + i * sz + j, none⟩ = some (vals i j))
      (hr : ∀ (i j : Nat) x c, xs[i]? = some x → x[j]? = some c → Rep w S (fun _ => none) c (vals i j)) : Rep w S φ (.ptrL sz xs i j) (.pointer (some ⟨b, base + i * sz + j, none⟩))
  | own {φ id off len loc cap e n} (hφ : φ id = some loc) (hsh : w.shape? loc.blk = some (e, n)) (hn : loc.base + (off + cap) * loc.sz ≤ n) (hl : len ≤ cap) :
      Rep w S φ (.own id off len) (.slice (some ⟨loc.blk, loc.base + off * loc.sz, none⟩) len cap)
  | ptr {φ id i j loc} (hφ : φ id = some loc) : Rep w S φ (.ptr id i j) (.pointer (some ⟨loc.blk, loc.base + i * loc.sz + j, none⟩))
  | emp {φ z a cap} (h : z = true → cap = 0) : Rep w S φ (.emp z) (.slice (some a) 0 cap)
  | nilS {φ} : Rep w S φ .nilS (.slice none 0 0)
  | nilP {φ} : Rep w S φ .nilP (.pointer none)
  | nilF {φ} : Rep w S φ .nilF .nilFunc
  | fn {φ f first caps vf vc} (hl : vf.size = first.length) (h : ∀ (i : Nat) c v, first[i]? = some c → vf[i]? = some v → Rep w S φ c v)
      (hl' : vc.size = caps.length) (h' : ∀ (i : Nat) c v, caps[i]? = some c → vc[i]? = some v → Rep w S φ c v) : Rep w S φ (.fn f first caps) (.func (.func f) vf vc)
  | yld {φ id loc} (hφ : φ id = some loc) : Rep w S φ (.yld id) (.func (.yield loc.blk) #[] #[])

/-- Lists of values. -/
def Reps (w : World) (S : Nat → Prop) (φ : Phi) (cs : List AV) (vs : Array Value) : Prop := vs.size = cs.length ∧ ∀ (i : Nat) c v, cs[i]? = some c → vs[i]? = some v → Rep w S φ c v

theorem Rep.mono {w w' : World} {S S' : Nat → Prop} (hS : ∀ b, S b → S' b) (hk : ∀ b, S b → w'.heap[b]? = w.heap[b]?) (hsh : ∀ b e n, w.shape? b = some (e, n) → w'.shape? b = some (e, n)) {φ φ' : Phi} {a : AV} {v : Value} (h : Rep w S φ a v) :
    (∀ id loc, φ id = some loc → φ' id = some loc) → Rep w' S' φ' a v := by
  induction h generalizing φ' with
  | int => intro _; exact .int
  | bool => intro _; exact .bool
  | str => intro _; exact .str
  | agg hl _ ih => intro hφ; exact .agg hl fun i c v h1 h2 => ih i c v h1 h2 hφ
  | tup hl _ ih => intro hφ; exact .tup hl fun i c v h1 h2 => ih i c v h1 h2 hφ
  | lst vals hs h1 hl hc hr ih =>
    intro _
    exact .lst vals hs (hS _ h1) hl (fun i j x c e1 e2 => by rw [← hc i j x c e1 e2]; exact World.cell?_of_block (hk _ h1)) (fun i j x c e1 e2 => ih i j x c e1 e2 (fun id loc e => by cases e))
  | lstNil => intro _; exact .lstNil
  | ptrL vals hs h1 hc hr ih =>
    intro _
    exact .ptrL vals hs (hS _ h1) (fun i j x c e1 e2 => by rw [← hc i j x c e1 e2]; exact World.cell?_of_block (hk _ h1)) (fun i j x c e1 e2 => ih i j x c e1 e2 (fun id loc e => by cases e))
  | own h1 h2 h3 h4 => intro hφ; exact .own (hφ _ _ h1) (hsh _ _ _ h2) h3 h4
  | ptr h1 => intro hφ; exact .ptr (hφ _ _ h1)
  | emp h => intro _; exact .emp h
  | nilS => intro _; exact .nilS
  | nilP => intro _; exact .nilP
  | nilF => intro _; exact .nilF
  | fn hl _ hl' _ ih ih' => intro hφ; exact .fn hl (fun i c v h1 h2 => ih i c v h1 h2 hφ) hl' (fun i c v h1 h2 => ih' i c v h1 h2 hφ)
  | yld h1 => intro hφ; exact .yld (hφ _ _ h1)

/-- Blocks of the evaluator's memory: rows; the record of a loop over a function; where the deferred calls of its rounds would lie. -/
inductive Blk where
  | row (sz : Nat) (xs : List (List AV))
  | loop (env : List AV) (ps : List Nat) (a b : IC) (st : LoopState) (pend : Ex) (d : Nat)
  | mark
  deriving Inhabited
abbrev Mem := Nat → Option Blk
def Ex.code : Ex → Option Code
  | .normal => none
  | .exit id => some (.exit id)
  | .ret => some .ret

def SimBlk (P : Program) (w : World) (S : Nat → Prop) (φ : Phi) (loc : Loc) : Blk → Prop
  | .row sz xs => loc.sz = sz ∧ (∀ x ∈ xs, x.length = sz) ∧ ∃ c e, w.heap[loc.blk]? = some (.cells c e (0, 0)) ∧ loc.base + xs.length * sz ≤ c.size ∧
      ∀ (i j : Nat) x a, xs[i]? = some x → x[j]? = some a → a.one = true ∧ ∃ v, c[loc.base + i * sz + j]? = some v ∧ Rep w S φ a v
  | .loop env ps a b st pend d => ∃ r : Loop, w.heap[loc.blk]? = some (.loop r) ∧ Reps w S φ env r.tmps ∧ r.params.toList = ps ∧ cCode P r.assign = some a ∧ cCode P r.body = some b ∧ r.state = st ∧ r.pending = pend.code ∧ ∃ ld, φ d = some ld ∧ r.defers = ld.blk
  | .mark => w.heap[loc.blk]? = some (.deferred (some []))
theorem SimBlk.lt {P : Program} {w : World} {S : Nat → Prop} {φ : Phi} {loc : Loc} {b : Blk} (h : SimBlk P w S φ loc b) : loc.blk < w.heap.size := by
  cases b with
  | row s ys => exact (Array.getElem?_eq_some_iff.1 h.2.2.choose_spec.choose_spec.1).1
  | loop => obtain ⟨r, h, -⟩ := h; exact (Array.getElem?_eq_some_iff.1 h).1
  | mark => exact (Array.getElem?_eq_some_iff.1 h).1

structure Sim (P : Program) (S : Nat → Prop) (φ : Phi) (h : Mem) (w : World) : Prop where
  blk : ∀ id b, h id = some b → ∃ loc, φ id = some loc ∧ SimBlk P w S φ loc b ∧ ¬ S loc.blk
  inj : ∀ id id' b b' loc loc', h id = some b → h id' = some b' → φ id = some loc → φ id' = some loc' → loc.blk = loc'.blk → id = id'
  bd : ∀ b, S b → b < w.heap.size
variable {P : Program}

def Own (φ : Phi) (h : Mem) (b : Nat) : Prop := ∃ id x loc, h id = some x ∧ φ id = some loc ∧ loc.blk = b

/-- What a step leaves as it was. -/
structure Adv (S : Nat → Prop) (φ : Phi) (h : Mem) (w : World) (S' : Nat → Prop) (φ' : Phi) (h' : Mem) (w' : World) : Prop where
  phi : ∀ id loc, φ id = some loc → φ' id = some loc
  up : ∀ b, S b → S' b
  new : ∀ b, S' b → S b ∨ w.heap.size ≤ b
  os : w'.os = w.os
  tape : w'.tape = w.tape
  output : w'.output = w.output
  size : w.heap.size ≤ w'.heap.size
  keep : ∀ b, b < w.heap.size → ¬ Own φ h b → w'.heap[b]? = w.heap[b]?
  own : ∀ b, Own φ' h' b → Own φ h b ∨ w.heap.size ≤ b
  shape : ∀ b e n, w.shape? b = some (e, n) → w'.shape? b = some (e, n)

theorem Adv.refl (S : Nat → Prop) (φ : Phi) (h : Mem) (w : World) : Adv S φ h w S φ h w :=
  ⟨fun _ _ e => e, fun _ e => e, fun _ e => .inl e, rfl, rfl, rfl, Nat.le_refl _, fun _ _ _ => rfl, fun _ e => .inl e, fun _ _ _ e => e⟩
theorem Adv.trans {S S' S'' : Nat → Prop} {φ φ' φ'' : Phi} {h h' h'' : Mem} {w w' w'' : World} (p : Adv S φ h w S' φ' h' w') (q : Adv S' φ' h' w' S'' φ'' h'' w'') : Adv S φ h w S'' φ'' h'' w'' where
  phi id loc e := q.phi _ _ (p.phi _ _ e)
  up b e := q.up _ (p.up _ e)
  new b e := by
    rcases q.new b e with h1 | h1
    · exact p.new b h1
    · exact .inr (Nat.le_trans p.size h1)
  os := q.os.trans p.os
  tape := q.tape.trans p.tape
  output := q.output.trans p.output
  size := Nat.le_trans p.size q.size
  keep b hb hn := by
    rw [q.keep b (Nat.lt_of_lt_of_le hb p.size) (fun ho => by
      rcases p.own b ho with h1 | h1
      · exact hn h1
      · omega), p.keep b hb hn]
  own b ho := by
    rcases q.own b ho with h1 | h1
    · exact p.own b h1
    · exact .inr (Nat.le_trans p.size h1)
  shape b e n hs := q.shape _ _ _ (p.shape _ _ _ hs)
theorem Sim.notOwn {S : Nat → Prop} {φ : Phi} {h : Mem} {w : World} (hs : Sim P S φ h w) {b : Nat} (hb : S b) : ¬ Own φ h b := by
  rintro ⟨id, x, loc, h1, h2, h3⟩
  obtain ⟨loc', e, -, hn⟩ := hs.blk id x h1
  rw [h2] at e; cases e
  exact hn (h3 ▸ hb)
theorem Adv.rep {S S' : Nat → Prop} {φ φ' : Phi} {h h' : Mem} {w w' : World} (p : Adv S φ h w S' φ' h' w') (hs : Sim P S φ h w) {a : AV} {v : Value} (hr : Rep w S φ a v) : Rep w' S' φ' a v :=
  hr.mono p.up (fun b hb => p.keep b (hs.bd b hb) (hs.notOwn hb)) p.shape p.phi
theorem Adv.reps {S S' : Nat → Prop} {φ φ' : Phi} {h h' : Mem} {w w' : World} (p : Adv S φ h w S' φ' h' w') (hs : Sim P S φ h w) {cs : List AV} {vs : Array Value} (hr : Reps w S φ cs vs) : Reps w' S' φ' cs vs :=
  ⟨hr.1, fun i c v h1 h2 => p.rep hs (hr.2 i c v h1 h2)⟩
theorem SimBlk.adv {S S' : Nat → Prop} {φ φ' : Phi} {h h' : Mem} {w w' : World} (p : Adv S φ h w S' φ' h' w') (hs : Sim P S φ h w) {loc : Loc} {b : Blk} (hb : SimBlk P w S φ loc b) (hk : w'.heap[loc.blk]? = w.heap[loc.blk]?) : SimBlk P w' S' φ' loc b := by
  cases b with
  | row s ys =>
    obtain ⟨f1, f2, c, e, f3, f4, f5⟩ := hb
    exact ⟨f1, f2, c, e, hk.trans f3, f4, fun i j x a g1 g2 => by obtain ⟨o1, v, r1, r2⟩ := f5 i j x a g1 g2; exact ⟨o1, v, r1, p.rep hs r2⟩⟩
  | loop env ps a b st pend d =>
    obtain ⟨r, f1, f2, f3, f4, f5, f6, f7, ld, f8, f9⟩ := hb
    exact ⟨r, hk.trans f1, p.reps hs f2, f3, f4, f5, f6, f7, ld, p.phi _ _ f8, f9⟩
  | mark => exact hk.trans hb
theorem Sim.lt {S : Nat → Prop} {φ : Phi} {h : Mem} {w : World} (hs : Sim P S φ h w) {id : Nat} {b : Blk} {loc : Loc} (h1 : h id = some b) (h2 : φ id = some loc) : loc.blk < w.heap.size := by
  obtain ⟨l', q1, q2, -⟩ := hs.blk id b h1
  rw [h2] at q1; cases q1
  exact q2.lt
/-- For whoever owned nothing: all that was stays. -/
theorem Adv.below {S S' : Nat → Prop} {φ φ' : Phi} {h h' : Mem} {w w' : World} (p : Adv S φ h w S' φ' h' w') (hn : ∀ b, ¬ Own φ h b) : Below w.heap.size w w' :=
  ⟨p.os, p.tape, p.output, p.size, fun b hb => p.keep b hb (hn b)⟩
end Go.V
