/- Soundness: the other operations that call nothing. -/
import Derived.Test.YtemlkeknpjbcnaaVf
set_option linter.unusedVariables false
set_option linter.unusedSimpArgs false
namespace Go.V
open Go.RowKit
variable {P : Program}

section ops
variable {P : Program} {S : Nat → Prop} {φ : Phi} {h : Mem} {H : Heap} {w : World} {env : List AV} {a : Act} {o : Oper} {nx : Nat}

/-! Loads, stores, places -/
theorem snd_load {t : TypeId} {x : Operand} {k : Option Nat} {ax : Arg} {v : AV} {rd : List Nat} {wr : Wr} {nx' : Nat} {T : FuncId → Option IFn} {cb : Cb} (ho : o.op = .load t x) (hk : partK P t = some k) (hx : cOpd x = some ax)
    (he : evalOp T cb env H nx (.load k ax) = some (.eff v rd wr nx')) (hrd : ∀ id ∈ rd, h id = hget H id) (hs : Sim P S φ h w) (hr : Reps w S φ env a.tmps) : OpOK P o a w (Ends P S φ h w v wr nx nx') := by
  have hv := arg_rep hr hx
  have hex : execOp a.eval o = (do pure (.value (← Instr.loadAt t (a.eval x)))) := by unfold execOp; simp only [ho]
  simp only [evalOp] at he
  split at he
  · rename_i id i j e1
    rw [e1] at hv
    split at he
    · rename_i sz xs e2
      cases e3 : xs[i]? with
      | none => simp [e3] at he
      | some y =>
        cases e4 : part k y j with
        | none => simp [e3, e4] at he
        | some pv =>
          simp [e3, e4] at he
          obtain ⟨rfl, rfl, rfl, rfl⟩ := he
          obtain ⟨loc, f1, f2⟩ := hv.inv_ptr
          have hb : h id = some (.row sz xs) := by rw [hrd id (by simp)]; exact e2
          obtain ⟨loc', g1, g2, g3⟩ := hs.blk id _ hb
          rw [f1] at g1; cases g1
          obtain ⟨vv, r1, r2⟩ := run_loadPart (P := P) hk (o := loc.base + i * loc.sz) (g2.cells e3) e4
          refine opOK_value hex ?_ (ends_pure hs r2)
          simp only [Instr.loadAt, f2, Instr.sureAddr]
          exact r1
    · cases he
  · rename_i sz xs i j e1
    rw [e1] at hv
    cases e3 : xs[i]? with
    | none => simp [e3] at he
    | some y =>
      cases e4 : part k y j with
      | none => simp [e3, e4] at he
      | some pv =>
        simp [e3, e4] at he
        obtain ⟨rfl, rfl, rfl, rfl⟩ := he
        obtain ⟨b, base, f2, f3⟩ := hv.inv_ptrL
        obtain ⟨vv, r1, r2⟩ := run_loadPart (P := P) (φ := fun _ => none) hk (o := base + i * sz) (fun n c hc => f3.2.2 i n y c e3 hc) e4
        refine opOK_value hex ?_ (ends_pure hs (r2.mono (fun _ e => e) (fun _ _ => rfl) (fun _ _ _ e => e) (fun _ _ e => by cases e)))
        simp only [Instr.loadAt, f2, Instr.sureAddr]
        exact r1
  · cases he
theorem snd_store {t : TypeId} {x y : Operand} {n : Nat} {ax ay : Arg} {v : AV} {rd : List Nat} {wr : Wr} {nx' : Nat} {T : FuncId → Option IFn} {cb : Cb} (ho : o.op = .store t x y) (hk : sizeK P t = some n) (hx : cOpd x = some ax) (hy : cOpd y = some ay)
    (he : evalOp T cb env H nx (.store n ax ay) = some (.eff v rd wr nx')) (hrd : ∀ id ∈ rd, h id = hget H id) (hs : Sim P S φ h w) (hr : Reps w S φ env a.tmps) : OpOK P o a w (Ends P S φ h w v wr nx nx') := by
  have hv := arg_rep hr hx
  have hvy := arg_rep hr hy
  have hex : execOp a.eval o = (do Instr.storeAt t (a.eval x) (a.eval y); pure .skip) := by unfold execOp; simp only [ho]
  simp only [evalOp] at he
  split at he
  · rename_i id i j e1
    rw [e1] at hv
    split at he
    · rename_i sz xs e2
      split at he
      · rename_i hc
        cases e3 : xs[i]? with
        | none => simp [e3] at he
        | some z =>
          cases e4 : put z j (arg env ay).cells with
          | none => simp [e3, e4] at he
          | some z' =>
            simp [e3, e4] at he
            obtain ⟨rfl, rfl, rfl, rfl⟩ := he
            obtain ⟨loc, f1, f2⟩ := hv.inv_ptr
            have hb : h id = some (.row sz xs) := by rw [hrd id (by simp)]; exact e2
            obtain ⟨w', r1, r2, r3⟩ := run_storePart (P := P) hk hs hb f1 e3 hvy hc.1 hc.2 e4
            refine opOK_skip hex ?_ ⟨S, φ, r2, r3, undef_rep, fun _ _ => rfl⟩
            simp only [Instr.storeAt, f2, Instr.sureAddr]
            exact r1
      · cases he
    · cases he
  · cases he
theorem snd_fieldA {s : TypeId} {x : Operand} {i n : Nat} {fs : Array Field} {f : Field} {ax : Arg} {v : AV} {rd : List Nat} {wr : Wr} {nx' : Nat} {T : FuncId → Option IFn} {cb : Cb} (ho : o.op = .fieldAddr s x i) (hu : P.underlying s = some (.struct fs)) (hf : fs[i]? = some f) (hn : sizeK P f.type = some n) (h0 : n ≠ 0) (hx : cOpd x = some ax)
    (he : evalOp T cb env H nx (.fieldA f.offset ax) = some (.eff v rd wr nx')) (hs : Sim P S φ h w) (hr : Reps w S φ env a.tmps) : OpOK P o a w (Ends P S φ h w v wr nx nx') := by
  have hv := arg_rep hr hx
  have hex : execOp a.eval o = (do pure (.value (← Instr.fieldAt s (a.eval x) i))) := by unfold execOp; simp only [ho]
  have hrun : ∀ b off, a.eval x = .pointer (some ⟨b, off, none⟩) → (Instr.fieldAt s (a.eval x) i).run P w = .ok (.pointer (some ⟨b, off + f.offset, none⟩)) w := by
    intro b off e
    simp only [Instr.fieldAt, Sem.run_bind, run_underlying hu, Result.andThen_ok, hf, e, Instr.sureAddr, Sem.run_pure, fieldPlace, run_sizeK hn, h0, if_false, add_none]
  simp only [evalOp] at he
  split at he
  · rename_i id k j e1
    cases he
    rw [e1] at hv
    obtain ⟨loc, f1, f2⟩ := hv.inv_ptr
    refine opOK_value hex (hrun _ _ f2) (ends_pure hs ?_)
    have := Rep.ptr (w := w) (S := S) (i := k) (j := j + f.offset) f1
    rwa [← Nat.add_assoc] at this
  · rename_i sz xs k j e1
    cases he
    rw [e1] at hv
    obtain ⟨b, base, f2, f3⟩ := hv.inv_ptrL
    refine opOK_value hex (hrun _ _ f2) (ends_pure hs ?_)
    have := f3.ptrL (φ := φ) (i := k) (j := j + f.offset)
    rwa [← Nat.add_assoc] at this
  · cases he
theorem idx_spec {v : AV} {n i : Nat} (h : idx v n = some i) : ∃ k m, v = .int k m ∧ 0 ≤ m ∧ m < n ∧ i = m.toNat := by
  cases v with
  | int k m =>
    simp only [idx] at h
    split at h
    · rename_i hc; cases h; exact ⟨k, m, rfl, hc.1, hc.2, rfl⟩
    · cases h
  | _ => simp [idx] at h
theorem Rep.inv_own {id off len : Nat} {v : Value} (h : Rep w S φ (.own id off len) v) : ∃ loc cap e n, φ id = some loc ∧ w.shape? loc.blk = some (e, n) ∧ loc.base + (off + cap) * loc.sz ≤ n ∧ len ≤ cap ∧ v = .slice (some ⟨loc.blk, loc.base + off * loc.sz, none⟩) len cap := by
  cases h with
  | own h1 h2 h3 h4 => exact ⟨_, _, _, _, h1, h2, h3, h4, rfl⟩
theorem mul_add' (a b c d : Nat) : a + (b + c) * d = a + b * d + c * d := by rw [Nat.add_mul]; omega
theorem snd_indexS {t e : TypeId} {x y : Operand} {n : Nat} {ax ay : Arg} {v : AV} {rd : List Nat} {wr : Wr} {nx' : Nat} {T : FuncId → Option IFn} {cb : Cb} (ho : o.op = .indexAddr t x y) (hu : P.underlying t = some (.slice e)) (hk : sizeK P e = some n) (hx : cOpd x = some ax) (hy : cOpd y = some ay)
    (he : evalOp T cb env H nx (.indexS n ax ay) = some (.eff v rd wr nx')) (hrd : ∀ id ∈ rd, h id = hget H id) (hs : Sim P S φ h w) (hr : Reps w S φ env a.tmps) : OpOK P o a w (Ends P S φ h w v wr nx nx') := by
  have hv := arg_rep hr hx
  have hvy := arg_rep hr hy
  have hex : execOp a.eval o = (do pure (.value (← Instr.indexAt t (a.eval x) (a.eval y)))) := by unfold execOp; simp only [ho]
  have hrun : ∀ b off len cap k (m : Int), a.eval x = .slice (some ⟨b, off, none⟩) len cap → a.eval y = .int k m → 0 ≤ m → m < len → (Instr.indexAt t (a.eval x) (a.eval y)).run P w = .ok (.pointer (some ⟨b, off + m.toNat * n, none⟩)) w := by
    intro b off len cap k m e1 e2 e3 e4
    simp only [Instr.indexAt, Sem.run_bind, e1, e2, asIntOf, Sem.run_pure, Result.andThen_ok, run_underlying hu, run_sizeK hk]
    rw [if_pos ⟨e3, e4⟩]
    simp [run_sizeK hk, add_none]
  simp only [evalOp] at he
  split at he
  · rename_i sz xs e1
    rw [e1] at hv
    split at he
    · rename_i hsz
      subst hsz
      cases e2 : idx (arg env ay) xs.length with
      | none => simp [e2] at he
      | some i =>
        simp [e2] at he
        obtain ⟨rfl, rfl, rfl, rfl⟩ := he
        obtain ⟨k, m, e3, e4, e5, rfl⟩ := idx_spec e2
        rw [e3] at hvy
        have hvy := hvy.inv_int
        obtain ⟨aa, cap, f1, -, f2⟩ := hv.inv_lst
        rcases f2 with f2 | ⟨b, base, rfl, f2⟩
        · subst f2; simp at e5; omega
        · refine opOK_value hex (hrun _ _ _ _ _ _ f1 hvy e4 e5) (ends_pure hs ?_)
          simpa using f2.ptrL (φ := φ) (i := m.toNat) (j := 0)
    · cases he
  · rename_i id off len e1
    rw [e1] at hv
    split at he
    · rename_i sz xs e2
      split at he
      · rename_i hsz
        subst hsz
        cases e3 : idx (arg env ay) len with
        | none => simp [e3] at he
        | some i =>
          simp [e3] at he
          obtain ⟨rfl, rfl, rfl, rfl⟩ := he
          obtain ⟨k, m, e6, e4, e5, rfl⟩ := idx_spec e3
          rw [e6] at hvy
          have hvy := hvy.inv_int
          have hb : h id = some (.row sz xs) := by rw [hrd id (by simp)]; exact e2
          obtain ⟨loc, cap, e', n', hφ, hsh, hn, -, hval⟩ := hv.inv_own
          obtain ⟨loc', g1, g2, g3⟩ := hs.blk id _ hb
          rw [hφ] at g1; cases g1
          have hls : loc.sz = sz := g2.1
          refine opOK_value hex (hrun _ _ _ _ _ _ hval hvy e4 e5) (ends_pure hs ?_)
          have := Rep.ptr (w := w) (S := S) (i := off + m.toNat) (j := 0) hφ
          rw [Nat.add_zero, mul_add', hls] at this
          rw [hls]; exact this
      · cases he
    · cases he
  · cases he
theorem snd_indexA {t e : TypeId} {x y : Operand} {len n : Nat} {ax ay : Arg} {v : AV} {rd : List Nat} {wr : Wr} {nx' : Nat} {T : FuncId → Option IFn} {cb : Cb} (ho : o.op = .indexAddr t x y) (hu : P.underlying t = some (.array len e)) (hk : sizeK P e = some n) (hx : cOpd x = some ax) (hy : cOpd y = some ay)
    (he : evalOp T cb env H nx (.indexA len n ax ay) = some (.eff v rd wr nx')) (hs : Sim P S φ h w) (hr : Reps w S φ env a.tmps) : OpOK P o a w (Ends P S φ h w v wr nx nx') := by
  have hv := arg_rep hr hx
  have hvy := arg_rep hr hy
  have hex : execOp a.eval o = (do pure (.value (← Instr.indexAt t (a.eval x) (a.eval y)))) := by unfold execOp; simp only [ho]
  have hrun : ∀ b off k (m : Int), a.eval x = .pointer (some ⟨b, off, none⟩) → a.eval y = .int k m → 0 ≤ m → m < len → (Instr.indexAt t (a.eval x) (a.eval y)).run P w = .ok (.pointer (some ⟨b, off + m.toNat * n, none⟩)) w := by
    intro b off k m e1 e2 e3 e4
    simp only [Instr.indexAt, Sem.run_bind, e1, e2, asIntOf, Sem.run_pure, Result.andThen_ok, run_underlying hu, run_sizeK hk, Instr.sureAddr]
    rw [if_pos ⟨e3, e4⟩]
    simp [run_sizeK hk, add_none]
  simp only [evalOp] at he
  split at he
  · rename_i id k j e1
    rw [e1] at hv
    cases e2 : idx (arg env ay) len with
    | none => simp [e2] at he
    | some i =>
      simp [e2] at he
      obtain ⟨rfl, rfl, rfl, rfl⟩ := he
      obtain ⟨ki, m, e3, e4, e5, rfl⟩ := idx_spec e2
      rw [e3] at hvy
      obtain ⟨loc, f1, f2⟩ := hv.inv_ptr
      refine opOK_value hex (hrun _ _ _ _ f2 hvy.inv_int e4 e5) (ends_pure hs ?_)
      have := Rep.ptr (w := w) (S := S) (i := k) (j := j + m.toNat * n) f1
      rwa [← Nat.add_assoc] at this
  · rename_i sz xs k j e1
    rw [e1] at hv
    cases e2 : idx (arg env ay) len with
    | none => simp [e2] at he
    | some i =>
      simp [e2] at he
      obtain ⟨rfl, rfl, rfl, rfl⟩ := he
      obtain ⟨ki, m, e3, e4, e5, rfl⟩ := idx_spec e2
      rw [e3] at hvy
      obtain ⟨b, base, f2, f3⟩ := hv.inv_ptrL
      refine opOK_value hex (hrun _ _ _ _ f2 hvy.inv_int e4 e5) (ends_pure hs ?_)
      have := f3.ptrL (φ := φ) (i := k) (j := j + m.toNat * n)
      rwa [← Nat.add_assoc] at this
  · cases he

/-! Parts of values -/
theorem run_part {t : TypeId} {k : Option Nat} (hk : partK P t = some k) {cs : List AV} {vs : Array Value} {j : Nat} {pv : AV} (hr : Reps w S φ cs vs) (hp : part k cs j = some pv) : ∃ vv, (Go.part t vs j).run P w = .ok vv w ∧ Rep w S φ pv vv := by
  obtain ⟨d, inf, h1, h2, h3⟩ := partK_spec hk
  rcases h3 with ⟨h3, rfl⟩ | ⟨h3, rfl⟩
  · simp only [V.part] at hp
    split at hp
    · rename_i hle
      cases hp
      refine ⟨.agg (vs.extract j (j + inf.size)), ?_, .agg ?_ fun i c v e1 e2 => ?_⟩
      · simp only [Go.part, Sem.run_bind, run_isAgg h1, Result.andThen_ok, h3, if_true, run_size h2]
        rfl
      · simp [hr.1]; omega
      · rw [List.getElem?_take] at e1
        split at e1
        · rename_i hi
          rw [List.getElem?_drop] at e1
          rw [Array.getElem?_extract] at e2
          split at e2
          · exact hr.2 _ c v e1 e2
          · cases e2
        · cases e1
    · cases hp
  · simp only [V.part] at hp
    obtain ⟨v, e1, e2⟩ := hr.get hp
    refine ⟨v, ?_, e2⟩
    simp only [Go.part, Sem.run_bind, run_isAgg h1, Result.andThen_ok, h3, Bool.false_eq_true, if_false, e1, Sem.run_pure]
theorem snd_field {t : TypeId} {x : Operand} {i : Nat} {k : Option Nat} {fs : Array Field} {f : Field} {ax : Arg} {v : AV} {rd : List Nat} {wr : Wr} {nx' : Nat} {T : FuncId → Option IFn} {cb : Cb} (ho : o.op = .field t x i) (hu : P.underlying t = some (.struct fs)) (hf : fs[i]? = some f) (hk : partK P f.type = some k) (hx : cOpd x = some ax)
    (he : evalOp T cb env H nx (.field k f.offset ax) = some (.eff v rd wr nx')) (hs : Sim P S φ h w) (hr : Reps w S φ env a.tmps) : OpOK P o a w (Ends P S φ h w v wr nx nx') := by
  have hv := arg_rep hr hx
  have hex : execOp a.eval o = (do pure (.value (← Instr.field t (a.eval x) i))) := by unfold execOp; simp only [ho]
  simp only [evalOp] at he
  split at he
  · rename_i cs e1
    rw [e1] at hv
    cases e2 : V.part k cs f.offset with
    | none => simp [e2] at he
    | some pv =>
      simp [e2] at he
      obtain ⟨rfl, rfl, rfl, rfl⟩ := he
      obtain ⟨vs, f1, f2⟩ := hv.inv_agg
      obtain ⟨vv, r1, r2⟩ := run_part (P := P) hk f2 e2
      refine opOK_value hex ?_ (ends_pure hs r2)
      simp only [Instr.field, Sem.run_bind, run_underlying hu, Result.andThen_ok, hf, f1, asAgg, Sem.run_pure]
      exact r1
  · cases he
theorem snd_indexV {t e : TypeId} {x y : Operand} {len n : Nat} {k : Option Nat} {ax ay : Arg} {v : AV} {rd : List Nat} {wr : Wr} {nx' : Nat} {T : FuncId → Option IFn} {cb : Cb} (ho : o.op = .index t x y) (hu : P.underlying t = some (.array len e)) (hk : partK P e = some k) (hn : sizeK P e = some n) (hx : cOpd x = some ax) (hy : cOpd y = some ay)
    (he : evalOp T cb env H nx (.indexV len k n ax ay) = some (.eff v rd wr nx')) (hs : Sim P S φ h w) (hr : Reps w S φ env a.tmps) : OpOK P o a w (Ends P S φ h w v wr nx nx') := by
  have hv := arg_rep hr hx
  have hvy := arg_rep hr hy
  have hex : execOp a.eval o = (do pure (.value (← Instr.index t (a.eval x) (a.eval y)))) := by unfold execOp; simp only [ho]
  simp only [evalOp] at he
  split at he
  · rename_i cs e1
    rw [e1] at hv
    cases e2 : idx (arg env ay) len with
    | none => simp [e2] at he
    | some i =>
      cases e3 : V.part k cs (i * n) with
      | none => simp [e2, e3] at he
      | some pv =>
        simp [e2, e3] at he
        obtain ⟨rfl, rfl, rfl, rfl⟩ := he
        obtain ⟨ki, m, g3, g4, g5, rfl⟩ := idx_spec e2
        rw [g3] at hvy
        obtain ⟨vs, f1, f2⟩ := hv.inv_agg
        obtain ⟨vv, r1, r2⟩ := run_part (P := P) hk f2 e3
        refine opOK_value hex ?_ (ends_pure hs r2)
        simp only [Instr.index, Sem.run_bind, f1, hvy.inv_int, asIntOf, Sem.run_pure, Result.andThen_ok, run_underlying hu]
        rw [if_pos ⟨g4, g5⟩]
        simp only [Sem.run_bind, run_sizeK hn, Result.andThen_ok]
        exact r1
  · cases he

/-! Numbers -/
theorem snd_bin {op : BinOp} {t t' : TypeId} {x y : Operand} {ax ay : Arg} {v : AV} (ho : o.op = .binOp op t x y t') (hx : cOpd x = some ax) (hy : cOpd y = some ay) (he : binA op (arg env ax) (arg env ay) = some v) (hs : Sim P S φ h w) (hr : Reps w S φ env a.tmps) : OpOK P o a w (Ends P S φ h w v [] nx nx) := by
  have hv := arg_rep hr hx
  have hvy := arg_rep hr hy
  have hex : execOp a.eval o = (do pure (.value (← (do eqGuard op t x y (a.eval x) (a.eval y); binOp op t (a.eval x) (a.eval y))))) := by unfold execOp; simp only [ho]
  unfold binA at he
  split at he
  · rename_i k m k' m' e1 e2
    rw [e1] at hv
    rw [e2] at hvy
    have q1 := hv.inv_int
    have q2 := hvy.inv_int
    have hg : (eqGuard op t x y (a.eval x) (a.eval y)).run P w = .ok () w := by
      unfold eqGuard
      rw [q1, q2]
      cases op <;> rfl
    have hrun : ∃ vv, (binOp op t (a.eval x) (a.eval y)).run P w = .ok vv w ∧ Rep w S φ v vv := by
      rw [q1, q2]
      cases op <;> simp only at he
      case shl =>
        split at he
        · rename_i h0; cases he; exact ⟨_, by simp [binOp, Op.shift, show ¬ m' < 0 by omega], .int⟩
        · cases he
      case shr =>
        split at he
        · rename_i h0; cases he; exact ⟨_, by simp [binOp, Op.shift, show ¬ m' < 0 by omega], .int⟩
        · cases he
      case quo =>
        split at he
        · rename_i hk; subst hk
          split at he
          · cases he
          · rename_i h0; cases he; exact ⟨_, by simp [binOp, Op.intDiv, h0], .int⟩
        · cases he
      case rem =>
        split at he
        · rename_i hk; subst hk
          split at he
          · cases he
          · rename_i h0; cases he; exact ⟨_, by simp [binOp, Op.intDiv, h0], .int⟩
        · cases he
      case add =>
        split at he
        · rename_i hk; subst hk; cases he; exact ⟨_, by simp [binOp, Op.intArith], .int⟩
        · cases he
      case sub =>
        split at he
        · rename_i hk; subst hk; cases he; exact ⟨_, by simp [binOp, Op.intArith], .int⟩
        · cases he
      case mul =>
        split at he
        · rename_i hk; subst hk; cases he; exact ⟨_, by simp [binOp, Op.intArith], .int⟩
        · cases he
      case eql =>
        split at he
        · rename_i hk; subst hk; cases he; exact ⟨.bool _, by simp [binOp, Op.intCmp], .bool⟩
        · cases he
      case neq =>
        split at he
        · rename_i hk; subst hk; cases he; exact ⟨.bool _, by simp [binOp, Op.intCmp], .bool⟩
        · cases he
      case lss =>
        split at he
        · rename_i hk; subst hk; cases he; exact ⟨.bool _, by simp [binOp, Op.intCmp], .bool⟩
        · cases he
      case leq =>
        split at he
        · rename_i hk; subst hk; cases he; exact ⟨.bool _, by simp [binOp, Op.intCmp], .bool⟩
        · cases he
      case gtr =>
        split at he
        · rename_i hk; subst hk; cases he; exact ⟨.bool _, by simp [binOp, Op.intCmp], .bool⟩
        · cases he
      case geq =>
        split at he
        · rename_i hk; subst hk; cases he; exact ⟨.bool _, by simp [binOp, Op.intCmp], .bool⟩
        · cases he
      all_goals (split at he <;> cases he)
    obtain ⟨vv, r1, r2⟩ := hrun
    exact opOK_value hex (by rw [Sem.run_bind, hg]; exact r1) (ends_pure hs r2)
  · cases he
theorem snd_un {op : UnOp} {t : TypeId} {x : Operand} {ax : Arg} {v : AV} (ho : o.op = .unOp op t x) (hx : cOpd x = some ax) (he : unA op (arg env ax) = some v) (hs : Sim P S φ h w) (hr : Reps w S φ env a.tmps) : OpOK P o a w (Ends P S φ h w v [] nx nx) := by
  have hv := arg_rep hr hx
  have hex : execOp a.eval o = (do pure (.value (← Op.unary op (a.eval x)))) := by unfold execOp; simp only [ho]
  unfold unA at he
  split at he
  · rename_i b e1
    rw [e1] at hv
    cases op <;> simp only at he <;> cases he
    exact opOK_value hex (by rw [hv.inv_bool]; rfl) (ends_pure hs .bool)
  · rename_i k n e1
    rw [e1] at hv
    cases op <;> simp only at he <;> cases he
    exact opOK_value hex (by rw [hv.inv_int]; rfl) (ends_pure hs .int)
  · cases he
theorem snd_conv {s d : TypeId} {x : Operand} {ax : Arg} {k0 k : IntKind} {n : Int} {k' : IntKind} (ho : o.op = .convert s d x) (h1 : P.underlying s = some (.int k0)) (h2 : P.underlying d = some (.int k)) (hx : cOpd x = some ax) (he : arg env ax = .int k' n) (hs : Sim P S φ h w) (hr : Reps w S φ env a.tmps) : OpOK P o a w (Ends P S φ h w (.int k (k.wrap n)) [] nx nx) := by
  have hv := arg_rep hr hx
  rw [he] at hv
  have hex : execOp a.eval o = (do pure (.value (← convert s d (a.eval x)))) := by unfold execOp; simp only [ho]
  exact opOK_value hex (by rw [hv.inv_int]; simp [convert, run_underlying h1, run_underlying h2, Conv.intToInt]) (ends_pure hs .int)
theorem snd_ext {x : Operand} {i : Nat} {ax : Arg} {vs : List AV} {v : AV} (ho : o.op = .extract x i) (hx : cOpd x = some ax) (e1 : arg env ax = .tup vs) (e2 : vs[i]? = some v) (hs : Sim P S φ h w) (hr : Reps w S φ env a.tmps) : OpOK P o a w (Ends P S φ h w v [] nx nx) := by
  have hv := arg_rep hr hx
  rw [e1] at hv
  obtain ⟨us, f1, f2⟩ := hv.inv_tup
  obtain ⟨u, f3, f4⟩ := f2.get e2
  have hex : execOp a.eval o = (do pure (.value (← Instr.extract (a.eval x) i))) := by unfold execOp; simp only [ho]
  exact opOK_value hex (by rw [f1]; simp [Instr.extract, f3]) (ends_pure hs f4)
theorem snd_mkF {f : FuncId} {first caps : Array Operand} {af ac : List Arg} (ho : o.op = .makeFunc (.func f) first caps) (h1 : cOpds first.toList = some af) (h2 : cOpds caps.toList = some ac) (hs : Sim P S φ h w) (hr : Reps w S φ env a.tmps) : OpOK P o a w (Ends P S φ h w (.fn f (af.map (arg env)) (ac.map (arg env))) [] nx nx) := by
  have hex : execOp a.eval o = (do pure (.value (← Instr.makeFunc (.func f) (first.map a.eval) (caps.map a.eval)))) := by unfold execOp; simp only [ho]
  have r1 := args_rep hr h1
  have r2 := args_rep hr h2
  have e1 : (first.toList.map a.eval).toArray = first.map a.eval := by rw [← Array.toList_map]
  have e2 : (caps.toList.map a.eval).toArray = caps.map a.eval := by rw [← Array.toList_map]
  rw [e1] at r1
  rw [e2] at r2
  exact opOK_value hex rfl (ends_pure hs (.fn r1.1 r1.2 r2.1 r2.2))
end ops
end Go.V
