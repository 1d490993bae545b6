/- Soundness: append. -/
import Derived.Test.YtemlkeknpjbcnaaVi
import Derived.Laws.Append
set_option linter.unusedVariables false
set_option linter.unusedSimpArgs false
namespace Go.V
open Go.RowKit
variable {P : Program}

section ops
variable {P : Program} {S : Nat → Prop} {φ : Phi} {h : Mem} {H : Heap} {w : World} {env : List AV} {a : Act} {o : Oper} {nx : Nat}
/-- So many elements that lie in memory, read. -/
theorem run_cells {sz b base : Nat} {xs : List (List AV)} (hl : ∀ x ∈ xs, x.length = sz) (hc : ∀ (i j : Nat) x c, xs[i]? = some x → x[j]? = some c → ∃ v, w.cell? ⟨b, base + i * sz + j, none⟩ = some v ∧ Rep w S φ c v) :
    ∃ c, (loadCells ⟨b, base, none⟩ (xs.length * sz)).run P w = .ok c w ∧ Flat w S φ sz xs c := by
  let f : Nat → Value := fun k => (w.cell? ((⟨b, base, none⟩ : Addr).add k)).getD undef
  have split : ∀ k, k < xs.length * sz → 0 < sz ∧ k / sz < xs.length ∧ k % sz < sz ∧ k / sz * sz + k % sz = k := fun k hk => by
    have h0 : 0 < sz := by
      rcases Nat.eq_zero_or_pos sz with e | e
      · subst e; simp at hk
      · exact e
    exact ⟨h0, Nat.div_lt_of_lt_mul (by rw [Nat.mul_comm]; exact hk), Nat.mod_lt _ h0, Nat.div_add_mod' k sz⟩
  have hf : ∀ k, k < xs.length * sz → w.cell? ((⟨b, base, none⟩ : Addr).add k) = some (f k) := fun k hk => by
    obtain ⟨h0, h1, h2, h3⟩ := split k hk
    have hx : xs[k / sz]? = some xs[k / sz] := by simp [h1]
    have hlen := hl xs[k / sz] (List.getElem_mem h1)
    have hj : k % sz < xs[k / sz].length := by omega
    obtain ⟨v, e1, -⟩ := hc (k / sz) (k % sz) _ (xs[k / sz][k % sz]) hx (by simp [hj])
    show _ = some ((w.cell? _).getD undef)
    rw [add_none]
    rw [Nat.add_assoc, h3] at e1
    rw [e1]; rfl
  refine ⟨_, run_loadCells (P := P) w ⟨b, base, none⟩ (xs.length * sz) f hf, by simp, hl, fun i j x c e1 e2 => ?_⟩
  obtain ⟨v, e3, e4⟩ := hc i j x c e1 e2
  refine ⟨v, ?_, e4⟩
  have hi : i < xs.length := by
    rcases Nat.lt_or_ge i xs.length with h' | h'
    · exact h'
    · rw [List.getElem?_eq_none h'] at e1; cases e1
  have hj : j < sz := by
    have := hl x (List.mem_of_getElem? e1)
    rcases Nat.lt_or_ge j x.length with h' | h'
    · omega
    · rw [List.getElem?_eq_none h'] at e2; cases e2
  have hlt := cell_lt hi hj
  have hfk : f (i * sz + j) = v := by
    show (w.cell? _).getD undef = v
    rw [add_none, ← Nat.add_assoc, e3]; rfl
  simp [hlt, hfk]
theorem SimBlk.sub {loc : Loc} {sz off len : Nat} {xs : List (List AV)} (hb : SimBlk P w S φ loc (.row sz xs)) :
    (∀ x ∈ (xs.drop off).take len, x.length = sz) ∧ ∀ (i j : Nat) x c, ((xs.drop off).take len)[i]? = some x → x[j]? = some c → c.one = true ∧ ∃ v, w.cell? ⟨loc.blk, loc.base + off * loc.sz + i * sz + j, none⟩ = some v ∧ Rep w S φ c v := by
  refine ⟨fun x hx => hb.2.1 x (List.mem_of_mem_drop (List.mem_of_mem_take hx)), fun i j x c e1 e2 => ?_⟩
  rw [List.getElem?_take] at e1
  split at e1
  · rw [List.getElem?_drop] at e1
    obtain ⟨v, r1, r2⟩ := hb.cells e1 j c e2
    obtain ⟨f1, f2, cs, e, f3, f4, f5⟩ := hb
    refine ⟨(f5 _ j x c e1 e2).1, v, ?_, r2⟩
    rw [mul_add'] at r1
    rw [f1] at r1 ⊢; exact r1
  · cases e1
theorem noPhi {a : AV} {v : Value} (hr : Rep w S (fun _ => none) a v) : Rep w S φ a v := hr.mono (fun _ e => e) (fun _ _ => rfl) (fun _ _ _ e => e) (fun _ _ e => by cases e)
theorem run_first0 (sz : Nat) (b : Option Addr) (cap : Nat) (w : World) : (Builtin.firstCells sz 0 (.slice b 0 cap)).run P w = .ok #[] w := by
  cases b with
  | none => rfl
  | some b =>
    have := run_loadCells (P := P) w b (0 * sz) (fun _ => undef) (fun k hk => by simp at hk)
    simp only [Builtin.firstCells]
    rw [this]; simp
theorem elems_rep {sz : Nat} {y : AV} {v : Value} {ys : List (List AV)} {rd : List Nat} (he : elems H sz y = some (ys, rd)) (hrd : ∀ id ∈ rd, h id = hget H id) (hs : Sim P S φ h w) (hv : Rep w S φ y v) :
    ∃ b cap, v = .slice b ys.length cap ∧ ∃ c, (Builtin.firstCells sz ys.length v).run P w = .ok c w ∧ Flat w S φ sz ys c := by
  unfold elems at he
  split at he
  · cases he
    refine ⟨none, 0, ?_, #[], ?_, by simp, by simp, by simp⟩
    · generalize v = q at hv; cases hv; rfl
    · generalize v = q at hv; cases hv; rfl
  · cases he
    obtain ⟨aa, cap, f1, -⟩ := hv.inv_emp
    exact ⟨some aa, cap, f1, #[], by rw [f1]; exact run_first0 _ _ _ _, by simp, by simp, by simp⟩
  · rename_i s xs
    split at he
    · rename_i hsz
      cases he
      subst hsz
      obtain ⟨aa, cap, f1, f0, f2⟩ := hv.inv_lst
      refine ⟨aa, cap, f1, ?_⟩
      rcases f2 with f2 | ⟨b, base, rfl, f2⟩
      · subst f2
        refine ⟨#[], ?_, by simp, by simp, by simp⟩
        rw [f1]
        cases aa with
        | none => rfl
        | some aa => simp [Builtin.firstCells, loadCells, loadCellsFrom]
      · rw [f1]
        exact run_cells (fun x hx => (f2.1 x hx).1) (fun i j x c e1 e2 => by obtain ⟨v, r1, r2⟩ := f2.2.2 i j x c e1 e2; exact ⟨v, r1, noPhi r2⟩)
    · cases he
  · rename_i id off len
    split at he
    · rename_i s xs e1
      split at he
      · rename_i hc
        obtain ⟨hsz, hle⟩ := hc
        cases he
        subst hsz
        have hb : h id = some (.row s xs) := by rw [hrd id (by simp)]; exact e1
        obtain ⟨loc, cap, e', n', hφ, hsh, hn', hlc, hval⟩ := hv.inv_own
        obtain ⟨loc', g1, g2, g3⟩ := hs.blk id _ hb
        rw [hφ] at g1; cases g1
        have hlen : ((xs.drop off).take len).length = len := by simp; omega
        obtain ⟨q1, q2⟩ := g2.sub (off := off) (len := len)
        refine ⟨_, cap, by rw [hlen]; exact hval, ?_⟩
        rw [hval]
        exact run_cells q1 (fun i j x c e1 e2 => (q2 i j x c e1 e2).2)
      · cases he
    · cases he
  · cases he
theorem elems_one {sz : Nat} {y : AV} {ys : List (List AV)} {rd : List Nat} {v : Value} (he : elems H sz y = some (ys, rd)) (hrd : ∀ id ∈ rd, h id = hget H id) (hs : Sim P S φ h w) (hv : Rep w S φ y v) : ∀ x ∈ ys, x.all AV.one = true := by
  unfold elems at he
  split at he
  · cases he; simp
  · cases he; simp
  · rename_i s xs'
    split at he
    · rename_i hsz; cases he; subst hsz
      obtain ⟨aa, cap, f1, f0, f2⟩ := hv.inv_lst
      rcases f2 with f2 | ⟨b, base, rfl, f2⟩
      · subst f2; simp
      · exact fun x hx => (f2.1 x hx).2
    · cases he
  · rename_i id off len
    split at he
    · rename_i s xs e1
      split at he
      · rename_i hc
        cases he
        have hb : h id = some (.row s xs) := by rw [hrd id (by simp)]; exact e1
        obtain ⟨loc', g1, g2, g3⟩ := hs.blk id _ hb
        obtain ⟨q1, q2⟩ := g2.sub (off := off) (len := len)
        intro x hx
        obtain ⟨i, hi, rfl⟩ := List.getElem_of_mem hx
        rw [List.all_eq_true]
        intro c hc
        obtain ⟨j, hj, rfl⟩ := List.getElem_of_mem hc
        exact (q2 i j _ _ (List.getElem?_eq_getElem hi) (List.getElem?_eq_getElem hj)).1
      · cases he
    · cases he
  · cases he

/-! What 'append' does -/
theorem run_append_in {ats : Array TypeId} {ty t u e e' : TypeId} {i : TypeInfo} {base b : Option Addr} {sLen sCap n capy : Nat} {new : Array Value} {w' : World} (ht : ats[0]? = some t) (hu : P.underlying t = some (.slice e)) (ht' : ats[1]? = some u) (hu' : P.underlying u = some (.slice e')) (hi : P.info? e = some i)
    (hfit : sLen + n ≤ sCap) (hnew : (Builtin.firstCells i.size n (.slice b n capy)).run P w = .ok new w)
    (hst : (match base with | some a => storeCells (a.add (sLen * i.size)) new.toList | none => pure ()).run P w = .ok () w') :
    (Builtin.append_ ats ty #[.slice base sLen sCap, .slice b n capy]).run P w = .ok (.slice base (sLen + n) sCap) w' := by
  unfold Builtin.append_
  simp only [ht, ht', List.getElem?_toArray, List.getElem?_cons_zero, List.getElem?_cons_succ, Sem.run_bind, run_underlying hu, run_underlying hu', Result.andThen_ok, run_size hi, Builtin.lenOf, Sem.run_pure, Bool.false_eq_true, if_false, hfit, if_true, Bool.not_false, hnew]
  cases base with
  | none => simp at hst; simp [hst]
  | some a => simp only at hst; simp only [Sem.run_bind, hst, Result.andThen_ok, Sem.run_pure]
theorem run_append_move {ats : Array TypeId} {ty t u e e' : TypeId} {i : TypeInfo} {zv : Value} {base b : Option Addr} {sLen sCap n capy : Nat} {old new : Array Value} (ht : ats[0]? = some t) (hu : P.underlying t = some (.slice e)) (ht' : ats[1]? = some u) (hu' : P.underlying u = some (.slice e')) (hi : P.info? e = some i) (hz : i.zero = some zv)
    (hfit : sCap < sLen + n) (hb : (sLen + n + 1) * (i.bytes + 1) ≤ 1099511627776) (hold : (Builtin.firstCells i.size sLen (.slice base sLen sCap)).run P w.drew = .ok old w.drew) (hnew : (Builtin.firstCells i.size n (.slice b n capy)).run P w.drew = .ok new w.drew) :
    ∃ newCap, sLen + n ≤ newCap ∧ (Builtin.append_ ats ty #[.slice base sLen sCap, .slice b n capy]).run P w = .ok (.slice (some ⟨w.heap.size, 0, none⟩) (sLen + n) newCap) (w.drew.alloc (.cells (old ++ new ++ Builtin.zeroCells zv.cells (newCap - (sLen + n))) e)) := by
  refine ⟨(Question.appendCap (sLen + n) sCap e).cut (w.tape w.drawn (.appendCap (sLen + n) sCap e)), by simp [Question.cut], ?_⟩
  have hn : sLen + n ≤ 1099511627776 := by
    have : (sLen + n + 1) * 1 ≤ (sLen + n + 1) * (i.bytes + 1) := Nat.mul_le_mul_left _ (by omega)
    omega
  have hcap : ¬ Builtin.nextslicecap (sLen + n) sCap * i.bytes > 2 ^ 48 := by
    have h1 := nextslicecap_le hfit
    have h2 : Builtin.nextslicecap (sLen + n) sCap * i.bytes ≤ 2 * (sLen + n) * i.bytes := Nat.mul_le_mul_right _ h1
    have h3 : (sLen + n) * i.bytes ≤ (sLen + n + 1) * (i.bytes + 1) := Nat.mul_le_mul (by omega) (by omega)
    rw [Nat.mul_assoc] at h2
    omega
  have hp : ¬ ((sLen + n : Nat) : Int) > IntKind.i64.max := by
    simp only [IntKind.max, IntKind.bits, IntKind.signed]
    simp
    omega
  have hch : (choose (.appendCap (sLen + n) sCap e)).run P w = .ok ((Question.appendCap (sLen + n) sCap e).cut (w.tape w.drawn (.appendCap (sLen + n) sCap e))) w.drew := by
    simp [Question.forced]
  unfold Builtin.append_
  simp only [ht, ht', List.getElem?_toArray, List.getElem?_cons_zero, List.getElem?_cons_succ, Sem.run_bind, run_underlying hu, run_underlying hu', Result.andThen_ok, run_size hi, Builtin.lenOf, Sem.run_pure, Bool.false_eq_true, if_false, Bool.not_false, if_true]
  rw [if_neg (by omega)]
  simp only [Sem.run_bind, Sem.run_pure, typeInfo, run_program, Result.andThen_ok, hi, hp, false_and, if_false, hcap, hch, run_askRoom, hold, hnew, zeroValue, hz, newRow, run_newObj_alloc]
  rfl

/-- ... so many zeros, to a slice without room. -/
theorem run_appendZ_move {ats : Array TypeId} {ty t u e : TypeId} {k k' : IntKind} {i : TypeInfo} {zv : Value} {base : Option Addr} {n : Nat} (ht : ats[0]? = some t) (hu : P.underlying t = some (.slice e)) (ht' : ats[1]? = some u) (hu' : P.underlying u = some (.int k')) (hi : P.info? e = some i) (hz : i.zero = some zv)
    (h0 : 0 < n) (hb : (n + 1) * (i.bytes + 1) ≤ 1099511627776) (hzs : zv.cells.size = i.size) :
    ∃ newCap, n ≤ newCap ∧ (Builtin.append_ ats ty #[.slice base 0 0, .int k n]).run P w = .ok (.slice (some ⟨w.heap.size, 0, none⟩) n newCap) (w.drew.alloc (.cells (Builtin.zeroCells zv.cells n ++ Builtin.zeroCells zv.cells (newCap - n)) e)) := by
  refine ⟨(Question.appendCap (0 + n) 0 e).cut (w.tape w.drawn (.appendCap (0 + n) 0 e)), by simp [Question.cut], ?_⟩
  have hn : n ≤ 1099511627776 := by
    have : (n + 1) * 1 ≤ (n + 1) * (i.bytes + 1) := Nat.mul_le_mul_left _ (by omega)
    omega
  have hbb : n * i.bytes ≤ 1099511627776 := by
    have : n * i.bytes ≤ (n + 1) * (i.bytes + 1) := Nat.mul_le_mul (by omega) (by omega)
    omega
  have hwrap : IntKind.i64.wrap (n : Int) = n := by rw [IntKind.wrap_i64]; omega
  have hneg : ¬ ((n : Int) < 0) := by omega
  have hbig : ¬ ((n : Int) * (i.bytes : Int) > 2 ^ 48) := by
    have : ((n * i.bytes : Nat) : Int) ≤ 1099511627776 := by omega
    rw [Int.natCast_mul] at this
    omega
  have hcap : ¬ Builtin.nextslicecap (0 + n) 0 * i.bytes > 2 ^ 48 := by
    have h1 := nextslicecap_le (need := 0 + n) (old := 0) (by omega)
    have h2 : Builtin.nextslicecap (0 + n) 0 * i.bytes ≤ 2 * (0 + n) * i.bytes := Nat.mul_le_mul_right _ h1
    rw [Nat.mul_assoc] at h2
    rw [Nat.zero_add] at h2 ⊢
    omega
  have hp : ¬ ((0 + n : Nat) : Int) > IntKind.i64.max := by
    simp only [IntKind.max, IntKind.bits, IntKind.signed]
    simp
    omega
  have hch : (choose (.appendCap (0 + n) 0 e)).run P w = .ok ((Question.appendCap (0 + n) 0 e).cut (w.tape w.drawn (.appendCap (0 + n) 0 e))) w.drew := by
    simp [Question.forced]
  unfold Builtin.append_
  simp only [ht, ht', List.getElem?_toArray, List.getElem?_cons_zero, List.getElem?_cons_succ, Sem.run_bind, run_underlying hu, run_underlying hu', Result.andThen_ok, run_size hi, asInt, asIntOf, Sem.run_pure, hwrap, hneg, if_false, if_true, typeInfo, run_program, hi, hbig, Int.toNat_natCast, Bool.not_true, Bool.false_eq_true]
  rw [if_neg (by omega)]
  simp only [Sem.run_bind, Sem.run_pure, typeInfo, run_program, Result.andThen_ok, hi, hp, false_and, if_false, hcap, hch, run_askRoom, run_first0, zeroValue, hz, newRow, run_newObj_alloc]
  by_cases hc : n * i.size = 0
  · have : Builtin.zeroCells zv.cells n = #[] := by unfold Builtin.zeroCells; rw [hzs, hc]; simp
    simp [hc, this]
  · simp [hc, hi, hz]
theorem run_appendZ_none {ats : Array TypeId} {ty t u e : TypeId} {k k' : IntKind} {i : TypeInfo} {base : Option Addr} {len cap : Nat} (ht : ats[0]? = some t) (hu : P.underlying t = some (.slice e)) (ht' : ats[1]? = some u) (hu' : P.underlying u = some (.int k')) (hi : P.info? e = some i) (hlc : len ≤ cap) :
    (Builtin.append_ ats ty #[.slice base len cap, .int k 0]).run P w = .ok (.slice base len cap) w := by
  have hwrap : IntKind.i64.wrap 0 = 0 := by rw [IntKind.wrap_i64]; omega
  unfold Builtin.append_
  simp only [ht, ht', List.getElem?_toArray, List.getElem?_cons_zero, List.getElem?_cons_succ, Sem.run_bind, run_underlying hu, run_underlying hu', Result.andThen_ok, run_size hi, asInt, asIntOf, Sem.run_pure, hwrap, if_true, typeInfo, run_program, hi, Bool.not_true, Bool.false_eq_true, if_false]
  have : ¬ ((0 : Int) * (i.bytes : Int) > 2 ^ 48) := by simp
  cases base <;> simp [hlc, storeCells, hi]

theorem Adv.drewR (S : Nat → Prop) (φ : Phi) (h : Mem) (w : World) : Adv S φ h w S φ h w.drew :=
  ⟨fun _ _ e => e, fun _ e => e, fun _ e => .inl e, rfl, rfl, rfl, Nat.le_refl _, fun _ _ _ => rfl, fun _ e => .inl e, fun _ _ _ e => e⟩
theorem Sim.drewR {S : Nat → Prop} {φ : Phi} {h : Mem} {w : World} (hs : Sim P S φ h w) : Sim P S φ h w.drew :=
  ⟨fun id b hb => by obtain ⟨loc, e1, e2, e3⟩ := hs.blk id b hb; exact ⟨loc, e1, e2.adv (Adv.drewR _ _ _ _) hs rfl, e3⟩, hs.inj, hs.bd⟩
theorem flat_append {sz : Nat} {xs ys : List (List AV)} {c d r : Array Value} (h1 : Flat w S φ sz xs c) (h2 : Flat w S φ sz ys d) :
    ∀ (i j : Nat) x b, (xs ++ ys)[i]? = some x → x[j]? = some b → ∃ v, (c ++ d ++ r)[i * sz + j]? = some v ∧ Rep w S φ b v := by
  intro i j x b e1 e2
  have hj : j < sz := by
    have hm := List.mem_of_getElem? e1
    rw [List.mem_append] at hm
    have : x.length = sz := hm.elim (h1.2.1 x) (h2.2.1 x)
    rcases Nat.lt_or_ge j x.length with h' | h'
    · omega
    · rw [List.getElem?_eq_none h'] at e2; cases e2
  by_cases hi : i < xs.length
  · rw [List.getElem?_append_left hi] at e1
    obtain ⟨v, r1, r2⟩ := h1.2.2 i j x b e1 e2
    refine ⟨v, ?_, r2⟩
    have := cell_lt hi hj
    rw [Array.append_assoc, Array.getElem?_append_left (by rw [h1.1]; exact this)]; exact r1
  · rw [List.getElem?_append_right (by omega)] at e1
    obtain ⟨v, r1, r2⟩ := h2.2.2 (i - xs.length) j x b e1 e2
    refine ⟨v, ?_, r2⟩
    have hk : i - xs.length < ys.length := by
      rcases Nat.lt_or_ge (i - xs.length) ys.length with h' | h'
      · exact h'
      · rw [List.getElem?_eq_none h'] at e1; cases e1
    have h3 := cell_lt hk hj
    have h4 : i * sz = xs.length * sz + (i - xs.length) * sz := by rw [← Nat.add_mul]; congr 1; omega
    rw [Array.append_assoc, Array.getElem?_append_right (by rw [h1.1]; omega), Array.getElem?_append_left (by rw [h1.1, h2.1]; omega), h1.1]
    rw [show i * sz + j - xs.length * sz = (i - xs.length) * sz + j by omega]; exact r1
/-- One place of the evaluator's memory is given up; another one holds what a slice and more were. -/
theorem swap_sim {S : Nat → Prop} {φ : Phi} {h : Mem} {w w' : World} {id nx sz : Nat} {xs zs : List (List AV)} {loc loc' : Loc} {new : Array Value} {e : TypeId} (hs : Sim P S φ h w) (hb : h id = some (.row sz xs)) (hφ : φ id = some loc) (hn : φ nx = none)
    (hkeep : ∀ b, b < w.heap.size → b ≠ loc.blk → w'.heap[b]? = w.heap[b]?) (hsize : w.heap.size ≤ w'.heap.size) (hos : w'.os = w.os) (hta : w'.tape = w.tape) (hou : w'.output = w.output)
    (hshape : ∀ b e n, w.shape? b = some (e, n) → w'.shape? b = some (e, n))
    (hl' : loc'.sz = sz) (hblk : loc'.blk = loc.blk ∨ w.heap.size ≤ loc'.blk) (hnb : ¬ S loc'.blk) (hnew : w'.heap[loc'.blk]? = some (.cells new e (0, 0))) (hfit : loc'.base + zs.length * sz ≤ new.size) (hlen : ∀ x ∈ zs, x.length = sz)
    (hone : ∀ x ∈ zs, x.all AV.one = true) (hc : ∀ (i j : Nat) x b, zs[i]? = some x → x[j]? = some b → ∃ v, new[loc'.base + i * sz + j]? = some v ∧ Rep w S φ b v) :
    let φ' : Phi := fun k => if k = nx then some loc' else φ k
    let h' : Mem := fun k => if k = nx then some (.row sz zs) else if k = id then none else h k
    Adv S φ h w S φ' h' w' ∧ Sim P S φ' h' w' := by
  intro φ' h'
  have hid : id ≠ nx := by rintro rfl; rw [hφ] at hn; cases hn
  have hnone : h nx = none := by
    cases hb' : h nx with
    | none => rfl
    | some b => obtain ⟨l, e1, -⟩ := hs.blk nx b hb'; rw [hn] at e1; cases e1
  have hown : Own φ h loc.blk := ⟨id, _, loc, hb, hφ, rfl⟩
  have hadv : Adv S φ h w S φ' h' w' := by
    refine ⟨fun k l e1 => ?_, fun _ e => e, fun _ e => .inl e, hos, hta, hou, hsize, fun b hbb hnn => hkeep b hbb (fun e => hnn (e ▸ hown)), ?_, hshape⟩
    · have : k ≠ nx := by rintro rfl; rw [hn] at e1; cases e1
      simp [φ', this, e1]
    · rintro b ⟨k, x, l, e1, e2, e3⟩
      by_cases hk : k = nx
      · subst hk; simp [φ'] at e2; subst e2
        rcases hblk with e | e
        · exact .inl (by rw [← e3, e]; exact hown)
        · exact .inr (e3 ▸ e)
      · by_cases hk2 : k = id
        · subst hk2; simp [h', hk] at e1
        · simp [φ', h', hk, hk2] at e1 e2
          exact .inl ⟨k, x, l, e1, e2, e3⟩
  refine ⟨hadv, ?_, ?_, fun b hb => Nat.lt_of_lt_of_le (hs.bd b hb) hsize⟩
  · intro k b hk
    by_cases hkn : k = nx
    · subst hkn
      have : b = .row sz zs := by simpa [h'] using hk.symm
      subst this
      refine ⟨loc', by simp [φ'], ⟨hl', hlen, new, e, hnew, hfit, fun i j x a e1 e2 => ?_⟩, hnb⟩
      obtain ⟨v, e3, e4⟩ := hc i j x a e1 e2
      have hx := hone x (List.mem_of_getElem? e1)
      rw [List.all_eq_true] at hx
      exact ⟨hx a (List.mem_of_getElem? e2), v, e3, hadv.rep hs e4⟩
    · by_cases hk2 : k = id
      · subst hk2; simp [h', hkn] at hk
      · have hk' : h k = some b := by simpa [h', hkn, hk2] using hk
        obtain ⟨l, p1, p2, p3⟩ := hs.blk k b hk'
        refine ⟨l, by simp [φ', hkn, p1], p2.adv hadv hs ?_, p3⟩
        have hne : l.blk ≠ loc.blk := fun e => hk2 (hs.inj k id b _ l loc hk' hb p1 hφ e)
        exact hkeep _ p2.lt hne
  · have bd : ∀ k b l, h k = some b → φ k = some l → l.blk < w.heap.size := fun k b l e1 e2 => hs.lt e1 e2
    intro k k' b b' l l' a1 a2 a3 a4 a5
    by_cases hk : k = nx <;> by_cases hk' : k' = nx
    · rw [hk, hk']
    · subst hk
      have hk2 : k' ≠ id := by rintro rfl; simp [h', hk'] at a2
      simp [φ'] at a3; subst a3
      simp [φ', h', hk', hk2] at a2 a4
      rcases hblk with e | e
      · exact absurd (hs.inj k' id b' _ l' loc a2 hb a4 hφ (by rw [← a5, e])) hk2
      · have := bd k' b' l' a2 a4; omega
    · subst hk'
      have hk2 : k ≠ id := by rintro rfl; simp [h', hk] at a1
      simp [φ'] at a4; subst a4
      simp [φ', h', hk, hk2] at a1 a3
      rcases hblk with e | e
      · exact absurd (hs.inj k id b _ l loc a1 hb a3 hφ (by rw [a5, e])) hk2
      · have := bd k b l a1 a3; omega
    · have hk2 : k ≠ id := by rintro rfl; simp [h', hk] at a1
      have hk2' : k' ≠ id := by rintro rfl; simp [h', hk'] at a2
      simp [φ', h', hk, hk2] at a1 a3
      simp [φ', h', hk', hk2'] at a2 a4
      exact hs.inj k k' b b' l l' a1 a2 a3 a4 a5
end ops
end Go.V
