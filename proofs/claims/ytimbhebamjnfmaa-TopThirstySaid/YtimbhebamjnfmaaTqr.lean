/- slices.Repeat of one march, sixty times, as a tree of one's own. -/
import Derived.Test.YtimbhebamjnfmaaTqd
import Derived.Test.YtimbhebamjnfmaaJL
set_option linter.unusedVariables false
set_option linter.unusedSimpArgs false
set_option maxRecDepth 100000
namespace Go.Q
open Go.V
open Go.Proofs.Try (prog)
theorem rep_run : ∀ n0 n1 n2 n3 n4 n5 n6 n7 : Int, callFn TP 400 .nil 60 (.pu 127) [.lst 8 [[.int .i64 n0, .int .i64 n1, .int .i64 n2, .int .i64 n3, .int .i64 n4, .int .i64 n5, .int .i64 n6, .int .i64 n7]], .int .i64 60] noH = some (.fresh 8 (List.replicate 60 [.int .i64 n0, .int .i64 n1, .int .i64 n2, .int .i64 n3, .int .i64 n4, .int .i64 n5, .int .i64 n6, .int .i64 n7]), noH) := by
  intro n0 n1 n2 n3 n4 n5 n6 n7
  kernel_rfl
theorem op_some {m : Nat} {C : FuncId → List D → Option D} {ρ : List D} {p : Prim} {xs : List E} {k : T} {r : Nat × List D} (h : T.den m C ρ (.op p xs k) = some r) : ∃ v, D.den1 p (denL ρ xs) = some v ∧ T.den m C (ρ ++ [v]) k = some r := by
  rw [T.den] at h
  split at h
  · rename_i v e; exact ⟨v, e, h⟩
  · cases h
theorem ite_some {m : Nat} {C : FuncId → List D → Option D} {ρ : List D} {c : E} {a b : T} {r : Nat × List D} (h : T.den m C ρ (.ite c a b) = some r) : (c.den ρ = .bool true ∧ a.den m C ρ = some r) ∨ (c.den ρ = .bool false ∧ b.den m C ρ = some r) := by
  rw [T.den] at h
  split at h
  · rename_i v e
    cases v
    · exact .inr ⟨e, by simpa using h⟩
    · exact .inl ⟨e, by simpa using h⟩
  · cases h
theorem fail_some {m : Nat} {C : FuncId → List D → Option D} {ρ : List D} {r : Nat × List D} (h : T.den m C ρ .fail = some r) : False := by
  rw [T.den] at h; cases h
theorem int_of {d v : D} {k : IntKind} {n : Int} (h : D.den1 (.bin .eql) [d, .int k n] = some v) : ∃ a, d = .int k a ∧ v = .bool (a == n) := by
  cases d <;> simp only [D.den1, binD] at h <;> try (cases h; done)
  split at h
  · rename_i e; subst e; cases h; exact ⟨_, rfl, rfl⟩
  · cases h
theorem elem_of {xs : List (List D)} {sz : Nat} {v : D} (h : D.den1 (.idx sz) [.list xs, .int .i64 0] = some v) : ∃ r t, xs = r :: t ∧ r.length = sz := by
  cases xs with
  | nil => simp [D.den1, D.idx] at h
  | cons r t =>
    refine ⟨r, t, rfl, ?_⟩
    simp [D.den1, D.idx] at h
    exact h.1
theorem eight {α : Type} {r : List α} (h : r.length = 8) : ∃ a b c d e f g i, r = [a, b, c, d, e, f, g, i] := by
  match r, h with
  | [a, b, c, d, e, f, g, i], _ => exact ⟨a, b, c, d, e, f, g, i, rfl⟩
theorem rep_ok {FN' : FuncId → Option Fn} : ∀ m n ds d args, F127.den m (ev FN' m n) ds = some d → F2 RD ds args → ∃ t, PuOK prog 127 args t ∧ RR F127.rs d t := by
  intro m n ds d args h ha
  unfold Fn.den at h
  by_cases hfit : fits F127.ps ds = true
  rotate_left
  · rw [if_neg hfit] at h; cases h
  rw [if_pos hfit] at h
  replace hfit : fits [none, none] ds = true := hfit
  have hds : ∃ x y, ds = [x, y] := by
    rcases ds with _ | ⟨x, _ | ⟨y, _ | ⟨z, t⟩⟩⟩
    · simp [fits] at hfit
    · simp [fits] at hfit
    · exact ⟨x, y, rfl⟩
    · simp [fits] at hfit
  obtain ⟨x, y, rfl⟩ := hds
  cases e : T.den m (ev FN' m n) [x, y] F127.tree with
  | none => rw [e] at h; cases h
  | some r =>
    obtain ⟨j, ρ⟩ := r
    rw [e] at h
    obtain ⟨v2, e2, e⟩ := op_some e
    have hx : ∃ xs, x = .list xs := by
      replace e2 : D.den1 .len [x] = some v2 := e2
      cases x <;> first | exact ⟨_, rfl⟩ | (simp [D.den1] at e2; done)
    obtain ⟨xs, rfl⟩ := hx
    replace e2 : some (D.int .i64 xs.length) = some v2 := e2
    cases e2
    obtain ⟨v3, e3, e⟩ := op_some e
    obtain ⟨a, q, rfl⟩ := int_of (d := .int .i64 xs.length) (k := .i64) (n := 1) e3
    cases q
    rcases ite_some e with ⟨q3, e⟩ | ⟨-, e⟩
    rotate_left
    · exact (fail_some e).elim
    obtain ⟨v4, e4, e⟩ := op_some e
    obtain ⟨b, rfl, rfl⟩ := int_of (d := y) (k := .i64) (n := 60) e4
    rcases ite_some e with ⟨q4, e⟩ | ⟨-, e⟩
    rotate_left
    · exact (fail_some e).elim
    replace q3 : D.bool ((xs.length : Int) == 1) = .bool true := q3
    replace q4 : D.bool (b == 60) = .bool true := q4
    have hb : b = 60 := by simpa using D.bool.inj q4
    subst hb
    obtain ⟨v5, e5, e⟩ := op_some e
    obtain ⟨row, t, rfl, hr⟩ := elem_of (sz := 8) e5
    have ht : t = [] := by
      have := D.bool.inj q3
      simp at this
      exact List.eq_nil_of_length_eq_zero (by omega)
    subst ht
    obtain ⟨c0, c1, c2, c3, c4, c5, c6, c7, rfl⟩ := eight hr
    obtain ⟨v6, e6, e⟩ := op_some e
    replace e6 : some (D.node [c0, c1, c2, c3, c4, c5, c6, c7]) = some v6 := e6
    cases e6
    obtain ⟨v7, e7, e⟩ := op_some e
    obtain ⟨n0, rfl, rfl⟩ := int_of (d := c0) (k := .i64) (n := 0) e7
    obtain ⟨v8, e8, e⟩ := op_some e
    obtain ⟨n1, rfl, rfl⟩ := int_of (d := c1) (k := .i64) (n := 0) e8
    obtain ⟨v9, e9, e⟩ := op_some e
    obtain ⟨n2, rfl, rfl⟩ := int_of (d := c2) (k := .i64) (n := 0) e9
    obtain ⟨v10, e10, e⟩ := op_some e
    obtain ⟨n3, rfl, rfl⟩ := int_of (d := c3) (k := .i64) (n := 0) e10
    obtain ⟨v11, e11, e⟩ := op_some e
    obtain ⟨n4, rfl, rfl⟩ := int_of (d := c4) (k := .i64) (n := 0) e11
    obtain ⟨v12, e12, e⟩ := op_some e
    obtain ⟨n5, rfl, rfl⟩ := int_of (d := c5) (k := .i64) (n := 0) e12
    obtain ⟨v13, e13, e⟩ := op_some e
    obtain ⟨n6, rfl, rfl⟩ := int_of (d := c6) (k := .i64) (n := 0) e13
    obtain ⟨v14, e14, e⟩ := op_some e
    obtain ⟨n7, rfl, rfl⟩ := int_of (d := c7) (k := .i64) (n := 0) e14
    obtain ⟨v15, e15, e⟩ := op_some e
    have hv : some (D.list (List.replicate 60 [.int .i64 n0, .int .i64 n1, .int .i64 n2, .int .i64 n3, .int .i64 n4, .int .i64 n5, .int .i64 n6, .int .i64 n7])) = some v15 := by rw [← e15]; kernel_rfl
    cases hv
    rw [T.den] at e
    cases e
    have hd : some (D.list (List.replicate 60 [.int .i64 n0, .int .i64 n1, .int .i64 n2, .int .i64 n3, .int .i64 n4, .int .i64 n5, .int .i64 n6, .int .i64 n7])) = some d := h
    cases hd
    obtain ⟨a0, as1, rfl, h0, ha⟩ := F2.inv_cons ha
    obtain ⟨a1, as2, rfl, h1, ha⟩ := F2.inv_cons ha
    have := F2.inv_nil ha
    subst this
    cases h1
    cases h0 with
    | lst hne hs hh =>
      obtain ⟨r, rs, rfl, hr0, hh⟩ := F2.inv_cons hh
      have := F2.inv_nil hh
      subst this
      obtain ⟨b0, t0, rfl, k0, hr0⟩ := F2.inv_cons hr0
      obtain ⟨b1, t1, rfl, k1, hr0⟩ := F2.inv_cons hr0
      obtain ⟨b2, t2, rfl, k2, hr0⟩ := F2.inv_cons hr0
      obtain ⟨b3, t3, rfl, k3, hr0⟩ := F2.inv_cons hr0
      obtain ⟨b4, t4, rfl, k4, hr0⟩ := F2.inv_cons hr0
      obtain ⟨b5, t5, rfl, k5, hr0⟩ := F2.inv_cons hr0
      obtain ⟨b6, t6, rfl, k6, hr0⟩ := F2.inv_cons hr0
      obtain ⟨b7, t7, rfl, k7, hr0⟩ := F2.inv_cons hr0
      have := F2.inv_nil hr0
      subst this
      cases k0; cases k1; cases k2; cases k3; cases k4; cases k5; cases k6; cases k7
      have hsz := (hs _ (List.mem_singleton.2 rfl)).1
      simp at hsz
      subst hsz
      have hcb := callFn_ok TP_ok mixed 400 (L := .nil) trivial 60
      refine ⟨_, hcb.pu 127 _ noH _ noH (rep_run n0 n1 n2 n3 n4 n5 n6 n7), .inl ⟨_, _, rfl, rfl, fun q hq => ?_, ?_⟩⟩
      · have := List.eq_of_mem_replicate hq
        subst this
        exact ⟨rfl, rfl⟩
      · have hrow : F2 RD [D.int .i64 n0, .int .i64 n1, .int .i64 n2, .int .i64 n3, .int .i64 n4, .int .i64 n5, .int .i64 n6, .int .i64 n7] [AV.int .i64 n0, .int .i64 n1, .int .i64 n2, .int .i64 n3, .int .i64 n4, .int .i64 n5, .int .i64 n6, .int .i64 n7] := .cons .int (.cons .int (.cons .int (.cons .int (.cons .int (.cons .int (.cons .int (.cons .int .nil)))))))
        have all : ∀ k, F2 (F2 RD) (List.replicate k [D.int .i64 n0, .int .i64 n1, .int .i64 n2, .int .i64 n3, .int .i64 n4, .int .i64 n5, .int .i64 n6, .int .i64 n7]) (List.replicate k [AV.int .i64 n0, .int .i64 n1, .int .i64 n2, .int .i64 n3, .int .i64 n4, .int .i64 n5, .int .i64 n6, .int .i64 n7]) := fun k => by
          induction k with
          | zero => exact .nil
          | succ k ih => rw [List.replicate_succ, List.replicate_succ]; exact .cons hrow ih
        exact all 60
end Go.Q
