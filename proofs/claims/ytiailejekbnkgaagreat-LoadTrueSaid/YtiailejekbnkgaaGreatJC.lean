/- Soundness: the other operations that call nothing. -/
import Derived.Test.YtiailejekbnkgaaGreatJB
import Derived.Laws.Append
set_option linter.unusedVariables false
set_option linter.unusedSimpArgs false
namespace Go.V
open Go.RowKit
variable {P : Program}

section ops
variable {P : Program} {S : Nat → Prop} {φ : Phi} {h : Mem} {H : Heap} {w : World} {env : List AV} {a : Act} {o : Oper} {nx : Nat}

/-! Loads, stores, places -/
theorem snd_load {t : TypeId} {x : Operand} {k : Option Nat} {ax : Arg} {v : AV} {rd : List Nat} {wr : Wr} {nx' : Nat} {T : FuncId → Option IFn} {cb : Cb} (ho : o.op = .load t x) (hk : partK P t = some k) (hx : cOpd x = some ax)
    (he : evalOp T cb env H nx (.load k ax) = some (.eff v rd wr nx')) (hrd : ∀ id ∈ rd, h id = hget H id) (hs : Sim P S φ h w) (hr : Reps w S φ env a.tmps) : OpOK P o a w (Ends P S φ h w v wr nx nx') := by
  have hv := arg_rep hr hx
  have hex : execOp a.eval o = (do pure (.value (← Instr.loadAt t (a.eval x)))) := by unfold execOp; simp only [ho]
  simp only [evalOp] at he
  split at he
  · rename_i id i j e1
    rw [e1] at hv
    split at he
    · rename_i sz xs e2
      cases e3 : xs[i]? with
      | none => simp [e3] at he
      | some y =>
        cases e4 : part k y j with
        | none => simp [e3, e4] at he
        | some pv =>
          simp [e3, e4] at he
          obtain ⟨rfl, rfl, rfl, rfl⟩ := he
          obtain ⟨loc, f1, f2⟩ := hv.inv_ptr
          have hb : h id = some (.row sz xs) := by rw [hrd id (by simp)]; exact e2
          obtain ⟨loc', g1, g2, g3⟩ := hs.blk id _ hb
          rw [f1] at g1; cases g1
          obtain ⟨vv, r1, r2⟩ := run_loadPart (P := P) hk (o := loc.base + i * loc.sz) (g2.cells e3) e4
          refine opOK_value hex ?_ (ends_pure hs r2)
          simp only [Instr.loadAt, f2, Instr.sureAddr]
          exact r1
    · cases he
  · rename_i sz xs i j e1
    rw [e1] at hv
    cases e3 : xs[i]? with
    | none => simp [e3] at he
    | some y =>
      cases e4 : part k y j with
      | none => simp [e3, e4] at he
      | some pv =>
        simp [e3, e4] at he
        obtain ⟨rfl, rfl, rfl, rfl⟩ := he
        obtain ⟨b, base, f2, f3⟩ := hv.inv_ptrL
        obtain ⟨vv, r1, r2⟩ := run_loadPart (P := P) (φ := fun _ => none) hk (o := base + i * sz) (fun n c hc => f3.2.2 i n y c e3 hc) e4
        refine opOK_value hex ?_ (ends_pure hs (r2.mono (fun _ e => e) (fun _ _ => rfl) (fun _ _ _ e => e) (fun _ _ e => by cases e)))
        simp only [Instr.loadAt, f2, Instr.sureAddr]
        exact r1
  · cases he
theorem snd_store {t : TypeId} {x y : Operand} {n : Nat} {ax ay : Arg} {v : AV} {rd : List Nat} {wr : Wr} {nx' : Nat} {T : FuncId → Option IFn} {cb : Cb} (ho : o.op = .store t x y) (hk : sizeK P t = some n) (hx : cOpd x = some ax) (hy : cOpd y = some ay)
    (he : evalOp T cb env H nx (.store n ax ay) = some (.eff v rd wr nx')) (hrd : ∀ id ∈ rd, h id = hget H id) (hs : Sim P S φ h w) (hr : Reps w S φ env a.tmps) : OpOK P o a w (Ends P S φ h w v wr nx nx') := by
  have hv := arg_rep hr hx
  have hvy := arg_rep hr hy
  have hex : execOp a.eval o = (do Instr.storeAt t (a.eval x) (a.eval y); pure .skip) := by unfold execOp; simp only [ho]
  simp only [evalOp] at he
  split at he
  · rename_i id i j e1
    rw [e1] at hv
    split at he
    · rename_i sz xs e2
      split at he
      · rename_i hc
        cases e3 : xs[i]? with
        | none => simp [e3] at he
        | some z =>
          cases e4 : put z j (arg env ay).cells with
          | none => simp [e3, e4] at he
          | some z' =>
            simp [e3, e4] at he
            obtain ⟨rfl, rfl, rfl, rfl⟩ := he
            obtain ⟨loc, f1, f2⟩ := hv.inv_ptr
            have hb : h id = some (.row sz xs) := by rw [hrd id (by simp)]; exact e2
            obtain ⟨w', r1, r2, r3⟩ := run_storePart (P := P) hk hs hb f1 e3 hvy hc.1 hc.2 e4
            refine opOK_skip hex ?_ ⟨S, φ, r2, r3, undef_rep, fun _ _ => rfl⟩
            simp only [Instr.storeAt, f2, Instr.sureAddr]
            exact r1
      · cases he
    · cases he
  · cases he
theorem snd_fieldA {s : TypeId} {x : Operand} {i n : Nat} {fs : Array Field} {f : Field} {ax : Arg} {v : AV} {rd : List Nat} {wr : Wr} {nx' : Nat} {T : FuncId → Option IFn} {cb : Cb} (ho : o.op = .fieldAddr s x i) (hu : P.underlying s = some (.struct fs)) (hf : fs[i]? = some f) (hn : sizeK P f.type = some n) (h0 : n ≠ 0) (hx : cOpd x = some ax)
    (he : evalOp T cb env H nx (.fieldA f.offset ax) = some (.eff v rd wr nx')) (hs : Sim P S φ h w) (hr : Reps w S φ env a.tmps) : OpOK P o a w (Ends P S φ h w v wr nx nx') := by
  have hv := arg_rep hr hx
  have hex : execOp a.eval o = (do pure (.value (← Instr.fieldAt s (a.eval x) i))) := by unfold execOp; simp only [ho]
  have hrun : ∀ b off, a.eval x = .pointer (some ⟨b, off, none⟩) → (Instr.fieldAt s (a.eval x) i).run P w = .ok (.pointer (some ⟨b, off + f.offset, none⟩)) w := by
    intro b off e
    simp only [Instr.fieldAt, Sem.run_bind, run_underlying hu, Result.andThen_ok, hf, e, Instr.sureAddr, Sem.run_pure, fieldPlace, run_sizeK hn, h0, if_false, add_none]
  simp only [evalOp] at he
  split at he
  · rename_i id k j e1
    cases he
    rw [e1] at hv
    obtain ⟨loc, f1, f2⟩ := hv.inv_ptr
    refine opOK_value hex (hrun _ _ f2) (ends_pure hs ?_)
    have := Rep.ptr (w := w) (S := S) (i := k) (j := j + f.offset) f1
    rwa [← Nat.add_assoc] at this
  · rename_i sz xs k j e1
    cases he
    rw [e1] at hv
    obtain ⟨b, base, f2, f3⟩ := hv.inv_ptrL
    refine opOK_value hex (hrun _ _ f2) (ends_pure hs ?_)
    have := f3.ptrL (φ := φ) (i := k) (j := j + f.offset)
    rwa [← Nat.add_assoc] at this
  · cases he
theorem idx_spec {v : AV} {n i : Nat} (h : idx v n = some i) : ∃ k m, v = .int k m ∧ 0 ≤ m ∧ m < n ∧ i = m.toNat := by
  cases v with
  | int k m =>
    simp only [idx] at h
    split at h
    · rename_i hc; cases h; exact ⟨k, m, rfl, hc.1, hc.2, rfl⟩
    · cases h
  | _ => simp [idx] at h
theorem Rep.inv_own {id off len : Nat} {v : Value} (h : Rep w S φ (.own id off len) v) : ∃ loc cap e n, φ id = some loc ∧ w.shape? loc.blk = some (e, n) ∧ loc.base + (off + cap) * loc.sz ≤ n ∧ len ≤ cap ∧ v = .slice (some ⟨loc.blk, loc.base + off * loc.sz, none⟩) len cap := by
  cases h with
  | own h1 h2 h3 h4 => exact ⟨_, _, _, _, h1, h2, h3, h4, rfl⟩
theorem mul_add' (a b c d : Nat) : a + (b + c) * d = a + b * d + c * d := by rw [Nat.add_mul]; omega
theorem snd_indexS {t e : TypeId} {x y : Operand} {n : Nat} {ax ay : Arg} {v : AV} {rd : List Nat} {wr : Wr} {nx' : Nat} {T : FuncId → Option IFn} {cb : Cb} (ho : o.op = .indexAddr t x y) (hu : P.underlying t = some (.slice e)) (hk : sizeK P e = some n) (hx : cOpd x = some ax) (hy : cOpd y = some ay)
    (he : evalOp T cb env H nx (.indexS n ax ay) = some (.eff v rd wr nx')) (hrd : ∀ id ∈ rd, h id = hget H id) (hs : Sim P S φ h w) (hr : Reps w S φ env a.tmps) : OpOK P o a w (Ends P S φ h w v wr nx nx') := by
  have hv := arg_rep hr hx
  have hvy := arg_rep hr hy
  have hex : execOp a.eval o = (do pure (.value (← Instr.indexAt t (a.eval x) (a.eval y)))) := by unfold execOp; simp only [ho]
  have hrun : ∀ b off len cap k (m : Int), a.eval x = .slice (some ⟨b, off, none⟩) len cap → a.eval y = .int k m → 0 ≤ m → m < len → (Instr.indexAt t (a.eval x) (a.eval y)).run P w = .ok (.pointer (some ⟨b, off + m.toNat * n, none⟩)) w := by
    intro b off len cap k m e1 e2 e3 e4
    simp only [Instr.indexAt, Sem.run_bind, e1, e2, asIntOf, Sem.run_pure, Result.andThen_ok, run_underlying hu, run_sizeK hk]
    rw [if_pos ⟨e3, e4⟩]
    simp [run_sizeK hk, add_none]
  simp only [evalOp] at he
  split at he
  · rename_i sz xs e1
    rw [e1] at hv
    split at he
    · rename_i hsz
      subst hsz
      cases e2 : idx (arg env ay) xs.length with
      | none => simp [e2] at he
      | some i =>
        simp [e2] at he
        obtain ⟨rfl, rfl, rfl, rfl⟩ := he
        obtain ⟨k, m, e3, e4, e5, rfl⟩ := idx_spec e2
        rw [e3] at hvy
        have hvy := hvy.inv_int
        obtain ⟨aa, cap, f1, -, f2⟩ := hv.inv_lst
        rcases f2 with f2 | ⟨b, base, rfl, f2⟩
        · subst f2; simp at e5; omega
        · refine opOK_value hex (hrun _ _ _ _ _ _ f1 hvy e4 e5) (ends_pure hs ?_)
          simpa using f2.ptrL (φ := φ) (i := m.toNat) (j := 0)
    · cases he
  · rename_i id off len e1
    rw [e1] at hv
    split at he
    · rename_i sz xs e2
      split at he
      · rename_i hsz
        subst hsz
        cases e3 : idx (arg env ay) len with
        | none => simp [e3] at he
        | some i =>
          simp [e3] at he
          obtain ⟨rfl, rfl, rfl, rfl⟩ := he
          obtain ⟨k, m, e6, e4, e5, rfl⟩ := idx_spec e3
          rw [e6] at hvy
          have hvy := hvy.inv_int
          have hb : h id = some (.row sz xs) := by rw [hrd id (by simp)]; exact e2
          obtain ⟨loc, cap, e', n', hφ, hsh, hn, -, hval⟩ := hv.inv_own
          obtain ⟨loc', g1, g2, g3⟩ := hs.blk id _ hb
          rw [hφ] at g1; cases g1
          have hls : loc.sz = sz := g2.1
          refine opOK_value hex (hrun _ _ _ _ _ _ hval hvy e4 e5) (ends_pure hs ?_)
          have := Rep.ptr (w := w) (S := S) (i := off + m.toNat) (j := 0) hφ
          rw [Nat.add_zero, mul_add', hls] at this
          rw [hls]; exact this
      · cases he
    · cases he
  · rename_i id a' j s len e1
    rw [e1] at hv
    split at he
    · rename_i hsz
      subst hsz
      cases e3 : idx (arg env ay) len with
      | none => simp [e3] at he
      | some i =>
        simp [e3] at he
        obtain ⟨rfl, rfl, rfl, rfl⟩ := he
        obtain ⟨k, m, e6, e4, e5, rfl⟩ := idx_spec e3
        rw [e6] at hvy
        have hvy := hvy.inv_int
        obtain ⟨loc, cap, hφ, hval⟩ : ∃ loc cap, φ id = some loc ∧ a.eval x = .slice (some ⟨loc.blk, loc.base + a' * loc.sz + j, none⟩) len cap := by
          generalize a.eval x = q at hv
          cases hv with | sub h1 h2 h3 h4 => exact ⟨_, _, h1, rfl⟩
        refine opOK_value hex (hrun _ _ _ _ _ _ hval hvy e4 e5) (ends_pure hs ?_)
        have := Rep.ptr (w := w) (S := S) (i := a') (j := j + m.toNat * s) hφ
        rw [← Nat.add_assoc] at this
        exact this
    · cases he
  · cases he
theorem snd_indexA {t e : TypeId} {x y : Operand} {len n : Nat} {ax ay : Arg} {v : AV} {rd : List Nat} {wr : Wr} {nx' : Nat} {T : FuncId → Option IFn} {cb : Cb} (ho : o.op = .indexAddr t x y) (hu : P.underlying t = some (.array len e)) (hk : sizeK P e = some n) (hx : cOpd x = some ax) (hy : cOpd y = some ay)
    (he : evalOp T cb env H nx (.indexA len n ax ay) = some (.eff v rd wr nx')) (hs : Sim P S φ h w) (hr : Reps w S φ env a.tmps) : OpOK P o a w (Ends P S φ h w v wr nx nx') := by
  have hv := arg_rep hr hx
  have hvy := arg_rep hr hy
  have hex : execOp a.eval o = (do pure (.value (← Instr.indexAt t (a.eval x) (a.eval y)))) := by unfold execOp; simp only [ho]
  have hrun : ∀ b off k (m : Int), a.eval x = .pointer (some ⟨b, off, none⟩) → a.eval y = .int k m → 0 ≤ m → m < len → (Instr.indexAt t (a.eval x) (a.eval y)).run P w = .ok (.pointer (some ⟨b, off + m.toNat * n, none⟩)) w := by
    intro b off k m e1 e2 e3 e4
    simp only [Instr.indexAt, Sem.run_bind, e1, e2, asIntOf, Sem.run_pure, Result.andThen_ok, run_underlying hu, run_sizeK hk, Instr.sureAddr]
    rw [if_pos ⟨e3, e4⟩]
    simp [run_sizeK hk, add_none]
  simp only [evalOp] at he
  split at he
  · rename_i id k j e1
    rw [e1] at hv
    cases e2 : idx (arg env ay) len with
    | none => simp [e2] at he
    | some i =>
      simp [e2] at he
      obtain ⟨rfl, rfl, rfl, rfl⟩ := he
      obtain ⟨ki, m, e3, e4, e5, rfl⟩ := idx_spec e2
      rw [e3] at hvy
      obtain ⟨loc, f1, f2⟩ := hv.inv_ptr
      refine opOK_value hex (hrun _ _ _ _ f2 hvy.inv_int e4 e5) (ends_pure hs ?_)
      have := Rep.ptr (w := w) (S := S) (i := k) (j := j + m.toNat * n) f1
      rwa [← Nat.add_assoc] at this
  · rename_i sz xs k j e1
    rw [e1] at hv
    cases e2 : idx (arg env ay) len with
    | none => simp [e2] at he
    | some i =>
      simp [e2] at he
      obtain ⟨rfl, rfl, rfl, rfl⟩ := he
      obtain ⟨ki, m, e3, e4, e5, rfl⟩ := idx_spec e2
      rw [e3] at hvy
      obtain ⟨b, base, f2, f3⟩ := hv.inv_ptrL
      refine opOK_value hex (hrun _ _ _ _ f2 hvy.inv_int e4 e5) (ends_pure hs ?_)
      have := f3.ptrL (φ := φ) (i := k) (j := j + m.toNat * n)
      rwa [← Nat.add_assoc] at this
  · cases he

/-! Parts of values -/
theorem run_part {t : TypeId} {k : Option Nat} (hk : partK P t = some k) {cs : List AV} {vs : Array Value} {j : Nat} {pv : AV} (hr : Reps w S φ cs vs) (hp : part k cs j = some pv) : ∃ vv, (Go.part t vs j).run P w = .ok vv w ∧ Rep w S φ pv vv := by
  obtain ⟨d, inf, h1, h2, h3⟩ := partK_spec hk
  rcases h3 with ⟨h3, rfl⟩ | ⟨h3, rfl⟩
  · simp only [V.part] at hp
    split at hp
    · rename_i hle
      cases hp
      refine ⟨.agg (vs.extract j (j + inf.size)), ?_, .agg ?_ fun i c v e1 e2 => ?_⟩
      · simp only [Go.part, Sem.run_bind, run_isAgg h1, Result.andThen_ok, h3, if_true, run_size h2]
        rfl
      · simp [hr.1]; omega
      · rw [List.getElem?_take] at e1
        split at e1
        · rename_i hi
          rw [List.getElem?_drop] at e1
          rw [Array.getElem?_extract] at e2
          split at e2
          · exact hr.2 _ c v e1 e2
          · cases e2
        · cases e1
    · cases hp
  · simp only [V.part] at hp
    obtain ⟨v, e1, e2⟩ := hr.get hp
    refine ⟨v, ?_, e2⟩
    simp only [Go.part, Sem.run_bind, run_isAgg h1, Result.andThen_ok, h3, Bool.false_eq_true, if_false, e1, Sem.run_pure]
theorem snd_field {t : TypeId} {x : Operand} {i : Nat} {k : Option Nat} {fs : Array Field} {f : Field} {ax : Arg} {v : AV} {rd : List Nat} {wr : Wr} {nx' : Nat} {T : FuncId → Option IFn} {cb : Cb} (ho : o.op = .field t x i) (hu : P.underlying t = some (.struct fs)) (hf : fs[i]? = some f) (hk : partK P f.type = some k) (hx : cOpd x = some ax)
    (he : evalOp T cb env H nx (.field k f.offset ax) = some (.eff v rd wr nx')) (hs : Sim P S φ h w) (hr : Reps w S φ env a.tmps) : OpOK P o a w (Ends P S φ h w v wr nx nx') := by
  have hv := arg_rep hr hx
  have hex : execOp a.eval o = (do pure (.value (← Instr.field t (a.eval x) i))) := by unfold execOp; simp only [ho]
  simp only [evalOp] at he
  split at he
  · rename_i cs e1
    rw [e1] at hv
    cases e2 : V.part k cs f.offset with
    | none => simp [e2] at he
    | some pv =>
      simp [e2] at he
      obtain ⟨rfl, rfl, rfl, rfl⟩ := he
      obtain ⟨vs, f1, f2⟩ := hv.inv_agg
      obtain ⟨vv, r1, r2⟩ := run_part (P := P) hk f2 e2
      refine opOK_value hex ?_ (ends_pure hs r2)
      simp only [Instr.field, Sem.run_bind, run_underlying hu, Result.andThen_ok, hf, f1, asAgg, Sem.run_pure]
      exact r1
  · cases he
theorem snd_indexV {t e : TypeId} {x y : Operand} {len n : Nat} {k : Option Nat} {ax ay : Arg} {v : AV} {rd : List Nat} {wr : Wr} {nx' : Nat} {T : FuncId → Option IFn} {cb : Cb} (ho : o.op = .index t x y) (hu : P.underlying t = some (.array len e)) (hk : partK P e = some k) (hn : sizeK P e = some n) (hx : cOpd x = some ax) (hy : cOpd y = some ay)
    (he : evalOp T cb env H nx (.indexV len k n ax ay) = some (.eff v rd wr nx')) (hs : Sim P S φ h w) (hr : Reps w S φ env a.tmps) : OpOK P o a w (Ends P S φ h w v wr nx nx') := by
  have hv := arg_rep hr hx
  have hvy := arg_rep hr hy
  have hex : execOp a.eval o = (do pure (.value (← Instr.index t (a.eval x) (a.eval y)))) := by unfold execOp; simp only [ho]
  simp only [evalOp] at he
  split at he
  · rename_i cs e1
    rw [e1] at hv
    cases e2 : idx (arg env ay) len with
    | none => simp [e2] at he
    | some i =>
      cases e3 : V.part k cs (i * n) with
      | none => simp [e2, e3] at he
      | some pv =>
        simp [e2, e3] at he
        obtain ⟨rfl, rfl, rfl, rfl⟩ := he
        obtain ⟨ki, m, g3, g4, g5, rfl⟩ := idx_spec e2
        rw [g3] at hvy
        obtain ⟨vs, f1, f2⟩ := hv.inv_agg
        obtain ⟨vv, r1, r2⟩ := run_part (P := P) hk f2 e3
        refine opOK_value hex ?_ (ends_pure hs r2)
        simp only [Instr.index, Sem.run_bind, f1, hvy.inv_int, asIntOf, Sem.run_pure, Result.andThen_ok, run_underlying hu]
        rw [if_pos ⟨g4, g5⟩]
        simp only [Sem.run_bind, run_sizeK hn, Result.andThen_ok]
        exact r1
  · cases he

/-! Numbers -/
theorem snd_bin {op : BinOp} {t t' : TypeId} {x y : Operand} {ax ay : Arg} {v : AV} (ho : o.op = .binOp op t x y t') (hx : cOpd x = some ax) (hy : cOpd y = some ay) (he : binA op (arg env ax) (arg env ay) = some v) (hs : Sim P S φ h w) (hr : Reps w S φ env a.tmps) : OpOK P o a w (Ends P S φ h w v [] nx nx) := by
  have hv := arg_rep hr hx
  have hvy := arg_rep hr hy
  have hex : execOp a.eval o = (do pure (.value (← (do eqGuard op t x y (a.eval x) (a.eval y); binOp op t (a.eval x) (a.eval y))))) := by unfold execOp; simp only [ho]
  unfold binA at he
  split at he
  · rename_i k m k' m' e1 e2
    rw [e1] at hv
    rw [e2] at hvy
    have q1 := hv.inv_int
    have q2 := hvy.inv_int
    have hg : (eqGuard op t x y (a.eval x) (a.eval y)).run P w = .ok () w := by
      unfold eqGuard
      rw [q1, q2]
      cases op <;> rfl
    have hrun : ∃ vv, (binOp op t (a.eval x) (a.eval y)).run P w = .ok vv w ∧ Rep w S φ v vv := by
      rw [q1, q2]
      cases op <;> simp only at he
      case shl =>
        split at he
        · rename_i h0; cases he; exact ⟨_, by simp [binOp, Op.shift, show ¬ m' < 0 by omega], .int⟩
        · cases he
      case shr =>
        split at he
        · rename_i h0; cases he; exact ⟨_, by simp [binOp, Op.shift, show ¬ m' < 0 by omega], .int⟩
        · cases he
      case quo =>
        split at he
        · rename_i hk; subst hk
          split at he
          · cases he
          · rename_i h0; cases he; exact ⟨_, by simp [binOp, Op.intDiv, h0], .int⟩
        · cases he
      case rem =>
        split at he
        · rename_i hk; subst hk
          split at he
          · cases he
          · rename_i h0; cases he; exact ⟨_, by simp [binOp, Op.intDiv, h0], .int⟩
        · cases he
      case add =>
        split at he
        · rename_i hk; subst hk; cases he; exact ⟨_, by simp [binOp, Op.intArith], .int⟩
        · cases he
      case sub =>
        split at he
        · rename_i hk; subst hk; cases he; exact ⟨_, by simp [binOp, Op.intArith], .int⟩
        · cases he
      case mul =>
        split at he
        · rename_i hk; subst hk; cases he; exact ⟨_, by simp [binOp, Op.intArith], .int⟩
        · cases he
      case eql =>
        split at he
        · rename_i hk; subst hk; cases he; exact ⟨.bool _, by simp [binOp, Op.intCmp], .bool⟩
        · cases he
      case neq =>
        split at he
        · rename_i hk; subst hk; cases he; exact ⟨.bool _, by simp [binOp, Op.intCmp], .bool⟩
        · cases he
      case lss =>
        split at he
        · rename_i hk; subst hk; cases he; exact ⟨.bool _, by simp [binOp, Op.intCmp], .bool⟩
        · cases he
      case leq =>
        split at he
        · rename_i hk; subst hk; cases he; exact ⟨.bool _, by simp [binOp, Op.intCmp], .bool⟩
        · cases he
      case gtr =>
        split at he
        · rename_i hk; subst hk; cases he; exact ⟨.bool _, by simp [binOp, Op.intCmp], .bool⟩
        · cases he
      case geq =>
        split at he
        · rename_i hk; subst hk; cases he; exact ⟨.bool _, by simp [binOp, Op.intCmp], .bool⟩
        · cases he
      case and =>
        split at he
        · rename_i hk; subst hk; cases he; exact ⟨_, by simp [binOp, Op.intBits, bitI], .int⟩
        · cases he
      case or =>
        split at he
        · rename_i hk; subst hk; cases he; exact ⟨_, by simp [binOp, Op.intBits, bitI], .int⟩
        · cases he
      case xor =>
        split at he
        · rename_i hk; subst hk; cases he; exact ⟨_, by simp [binOp, Op.intBits, bitI], .int⟩
        · cases he
      case andNot =>
        split at he
        · rename_i hk; subst hk; cases he; exact ⟨_, by simp [binOp, Op.intBits, bitI], .int⟩
        · cases he
      all_goals (split at he <;> cases he)
    obtain ⟨vv, r1, r2⟩ := hrun
    exact opOK_value hex (by rw [Sem.run_bind, hg]; exact r1) (ends_pure hs r2)
  · cases he
theorem snd_un {op : UnOp} {t : TypeId} {x : Operand} {ax : Arg} {v : AV} (ho : o.op = .unOp op t x) (hx : cOpd x = some ax) (he : unA op (arg env ax) = some v) (hs : Sim P S φ h w) (hr : Reps w S φ env a.tmps) : OpOK P o a w (Ends P S φ h w v [] nx nx) := by
  have hv := arg_rep hr hx
  have hex : execOp a.eval o = (do pure (.value (← Op.unary op (a.eval x)))) := by unfold execOp; simp only [ho]
  unfold unA at he
  split at he
  · rename_i b e1
    rw [e1] at hv
    cases op <;> simp only at he <;> cases he
    exact opOK_value hex (by rw [hv.inv_bool]; rfl) (ends_pure hs .bool)
  · rename_i k n e1
    rw [e1] at hv
    cases op <;> simp only at he <;> cases he
    exact opOK_value hex (by rw [hv.inv_int]; rfl) (ends_pure hs .int)
  · cases he
theorem snd_conv {s d : TypeId} {x : Operand} {ax : Arg} {k0 k : IntKind} {n : Int} {k' : IntKind} (ho : o.op = .convert s d x) (h1 : P.underlying s = some (.int k0)) (h2 : P.underlying d = some (.int k)) (hx : cOpd x = some ax) (he : arg env ax = .int k' n) (hs : Sim P S φ h w) (hr : Reps w S φ env a.tmps) : OpOK P o a w (Ends P S φ h w (.int k (k.wrap n)) [] nx nx) := by
  have hv := arg_rep hr hx
  rw [he] at hv
  have hex : execOp a.eval o = (do pure (.value (← convert s d (a.eval x)))) := by unfold execOp; simp only [ho]
  exact opOK_value hex (by rw [hv.inv_int]; simp [convert, run_underlying h1, run_underlying h2, Conv.intToInt]) (ends_pure hs .int)
theorem snd_ext {x : Operand} {i : Nat} {ax : Arg} {vs : List AV} {v : AV} (ho : o.op = .extract x i) (hx : cOpd x = some ax) (e1 : arg env ax = .tup vs) (e2 : vs[i]? = some v) (hs : Sim P S φ h w) (hr : Reps w S φ env a.tmps) : OpOK P o a w (Ends P S φ h w v [] nx nx) := by
  have hv := arg_rep hr hx
  rw [e1] at hv
  obtain ⟨us, f1, f2⟩ := hv.inv_tup
  obtain ⟨u, f3, f4⟩ := f2.get e2
  have hex : execOp a.eval o = (do pure (.value (← Instr.extract (a.eval x) i))) := by unfold execOp; simp only [ho]
  exact opOK_value hex (by rw [f1]; simp [Instr.extract, f3]) (ends_pure hs f4)
theorem snd_mkF {f : FuncId} {first caps : Array Operand} {af ac : List Arg} (ho : o.op = .makeFunc (.func f) first caps) (h1 : cOpds first.toList = some af) (h2 : cOpds caps.toList = some ac) (hs : Sim P S φ h w) (hr : Reps w S φ env a.tmps) : OpOK P o a w (Ends P S φ h w (.fn f (af.map (arg env)) (ac.map (arg env))) [] nx nx) := by
  have hex : execOp a.eval o = (do pure (.value (← Instr.makeFunc (.func f) (first.map a.eval) (caps.map a.eval)))) := by unfold execOp; simp only [ho]
  have r1 := args_rep hr h1
  have r2 := args_rep hr h2
  have e1 : (first.toList.map a.eval).toArray = first.map a.eval := by rw [← Array.toList_map]
  have e2 : (caps.toList.map a.eval).toArray = caps.map a.eval := by rw [← Array.toList_map]
  rw [e1] at r1
  rw [e2] at r2
  exact opOK_value hex rfl (ends_pure hs (.fn r1.1 r1.2 r2.1 r2.2))
end ops
end Go.V
/- Soundness: slices that are made, cut, appended to; least and greatest; equal. -/
set_option linter.unusedVariables false
set_option linter.unusedSimpArgs false
namespace Go.V
open Go.RowKit
variable {P : Program}

/-- Elements, one behind the other. -/
def Flat (w : World) (S : Nat → Prop) (φ : Phi) (sz : Nat) (xs : List (List AV)) (c : Array Value) : Prop :=
  c.size = xs.length * sz ∧ (∀ x ∈ xs, x.length = sz) ∧ ∀ (i j : Nat) x b, xs[i]? = some x → x[j]? = some b → ∃ v, c[i * sz + j]? = some v ∧ Rep w S φ b v
theorem cell_lt {i j n sz : Nat} (hi : i < n) (hj : j < sz) : i * sz + j < n * sz := by
  have := Nat.mul_le_mul_right sz (show i + 1 ≤ n from hi)
  rw [Nat.succ_mul] at this; omega
theorem flat_made {w : World} {S : Nat → Prop} {φ : Phi} {z : List AV} {zc : Array Value} (hz : Reps w S φ z zc) (n : Nat) : Flat w S φ z.length (List.replicate n z) ((Array.range (n * z.length)).map (zc[· % zc.size]!)) := by
  refine ⟨by simp, fun x hx => by rw [List.eq_of_mem_replicate hx], fun i j x b h1 h2 => ?_⟩
  have hi : i < n := by
    rcases Nat.lt_or_ge i n with h' | h'
    · exact h'
    · rw [List.getElem?_eq_none (by simpa using h')] at h1; cases h1
  have hx : x = z := by simp [List.getElem?_replicate, hi] at h1; exact h1.symm
  subst hx
  obtain ⟨v, h3, h4⟩ := hz.get h2
  have hj : j < x.length := by
    rcases Nat.lt_or_ge j x.length with h' | h'
    · exact h'
    · rw [List.getElem?_eq_none h'] at h2; cases h2
  have hlt := cell_lt hi hj
  refine ⟨v, ?_, h4⟩
  rw [Array.getElem?_map, Array.getElem?_range]
  simp only [hlt, if_true, Option.map_some, Option.some.injEq]
  have hm : (i * x.length + j) % zc.size = j := by rw [hz.1, Nat.mul_comm, Nat.mul_add_mod, Nat.mod_eq_of_lt hj]
  rw [hm]
  have hj2 : j < zc.size := by rw [hz.1]; exact hj
  rw [getElem!_pos zc j hj2]
  have : zc[j]? = some zc[j] := by simp [hj2]
  rw [this] at h3; cases h3; rfl
theorem flat_set {w : World} {S : Nat → Prop} {φ : Phi} {sz i : Nat} {xs : List (List AV)} {c : Array Value} {x : AV} {v : Value} (hf : Flat w S φ sz xs c) (hv : Rep w S φ x v) (hl : x.cells.length = sz) (hi : i < xs.length) :
    ¬ (i * sz + v.cells.size > c.size) ∧ Flat w S φ sz (xs.set i x.cells) (v.cells.zipIdx.foldl (fun cs (u, j) => cs.setIfInBounds (i * sz + j) u) c) := by
  have hc := cells_rep hv
  obtain ⟨h1, h2, h3⟩ := hf
  have hvs : v.cells.size = sz := by rw [hc.1]; exact hl
  have hfit : i * sz + v.cells.size ≤ c.size := by rw [hvs, h1]; have := Nat.mul_le_mul_right sz (show i + 1 ≤ xs.length from hi); rw [Nat.succ_mul] at this; exact this
  refine ⟨by omega, ?_⟩
  have hfo : v.cells.zipIdx.foldl (fun cs (u, j) => cs.setIfInBounds (i * sz + j) u) c = (v.cells.toList.zipIdx 0).foldl (fun (cs : Array Value) (p : Value × Nat) => cs.setIfInBounds (i * sz + p.2) p.1) c := by
    rw [← Array.foldl_toList, Array.toList_zipIdx]
  rw [hfo]
  obtain ⟨g1, g2⟩ := foldl_put v.cells.toList (i * sz) 0 c (by simpa using hfit)
  refine ⟨by rw [g1, h1]; simp, fun y hy => ?_, fun k j y b e1 e2 => ?_⟩
  · rcases List.mem_or_eq_of_mem_set hy with hy | hy
    · exact h2 y hy
    · rw [hy]; exact hl
  · rw [g2]
    simp only [Nat.add_zero, Array.length_toList, hvs]
    by_cases hk : k = i
    · subst hk
      rw [List.getElem?_set_self hi] at e1; cases e1
      obtain ⟨u, r1, r2⟩ := hc.get e2
      have hj : j < sz := by
        rcases Nat.lt_or_ge j x.cells.length with h' | h'
        · omega
        · rw [List.getElem?_eq_none h'] at e2; cases e2
      refine ⟨u, ?_, r2⟩
      rw [if_neg (by omega), if_pos (by omega), show k * sz + j - k * sz = j by omega]
      simpa using r1
    · rw [List.getElem?_set_ne (Ne.symm hk)] at e1
      obtain ⟨u, r1, r2⟩ := h3 k j y b e1 e2
      have hj : j < sz := by
        have := h2 y (List.mem_of_getElem? e1)
        rcases Nat.lt_or_ge j y.length with h' | h'
        · omega
        · rw [List.getElem?_eq_none h'] at e2; cases e2
      refine ⟨u, ?_, r2⟩
      rcases Nat.lt_or_gt_of_ne hk with hlt | hlt
      · have := cell_lt (n := i) hlt hj
        rw [if_pos (by omega)]; exact r1
      · have : i * sz + sz ≤ k * sz := by have := Nat.mul_le_mul_right sz (show i + 1 ≤ k from hlt); rw [Nat.succ_mul] at this; exact this
        rw [if_neg (by omega), if_neg (by omega)]; exact r1
theorem fillS_rep {w : World} {S : Nat → Prop} {φ : Phi} {env : List AV} {a : Act} {sz : Nat} (he : Reps w S φ env a.tmps) :
    ∀ (ps : List (Nat × Operand)) (ps' : List (Nat × Arg)) (xs ys : List (List AV)) (c : Array Value), cPartsS ps = some ps' → Flat w S φ sz xs c → (∀ x ∈ xs, x.all AV.one = true) → fillS env sz ps' xs = some ys →
      ∃ cc, Instr.fill (fun i => some (i * sz, sz)) c (ps.map fun p => (p.1, a.eval p.2)) = some cc ∧ Flat w S φ sz ys cc ∧ (∀ x ∈ ys, x.all AV.one = true) ∧ ys.length = xs.length
  | [], ps', xs, ys, c, h1, hz, ho, h2 => by cases h1; cases h2; exact ⟨c, rfl, hz, ho, rfl⟩
  | (i, x) :: ps, ps', xs, ys, c, h1, hz, ho, h2 => by
    simp only [cPartsS] at h1
    split at h1
    · rename_i ar as e2 e3
      cases h1
      simp only [fillS] at h2
      split at h2
      · rename_i hc
        have hv := arg_rep he e2
        obtain ⟨g1, g2⟩ := flat_set hz hv hc.1 hc.2.2
        obtain ⟨cc, g3, g4, g5, g6⟩ := fillS_rep he ps as _ ys _ e3 g2 (fun y hy => by
          rcases List.mem_or_eq_of_mem_set hy with hy | hy
          · exact ho y hy
          · rw [hy]; exact hc.2.1) h2
        refine ⟨cc, ?_, g4, g5, by simpa using g6⟩
        have hsz : (a.eval x).cells.size = sz := by rw [(cells_rep hv).1]; exact hc.1
        simp only [List.map_cons, Instr.fill]
        rw [if_neg]
        · exact g3
        · simp only [ne_eq, hsz, not_true_eq_false, decide_false, Bool.false_or, decide_eq_true_eq]
          rw [hsz] at g1; exact g1
      · cases h2
    · cases h1
theorem Flat.new_ends {S : Nat → Prop} {φ : Phi} {h : Mem} {w : World} {nx sz : Nat} {xs : List (List AV)} {c : Array Value} {e : TypeId} (hs : Sim P S φ h w) (hn : φ nx = none) (hf : Flat w S φ sz xs c) (h1 : ∀ x ∈ xs, x.all AV.one = true) (len cap : Nat) (hcap : cap * sz ≤ c.size) (hl : len ≤ cap) :
    Ends P S φ h w (.own nx 0 len) [(nx, some (.row sz xs))] nx (nx + 1) (.slice (some ⟨w.heap.size, 0, none⟩) len cap) (w.alloc (.cells c e)) := by
  obtain ⟨q1, q2⟩ := V.new_ends (nx := nx) (sz := sz) (xs := xs) (c := c) (e := e) hs hn hf.2.1 (Nat.le_of_eq hf.1.symm) h1 hf.2.2
  refine ⟨S, _, q1, q2, own_new (by simp) (shape_new w c e) hcap hl, ?_⟩
  intro id hid; have : id ≠ nx := by omega
  simp [this]
section ops
variable {P : Program} {S : Nat → Prop} {φ : Phi} {h : Mem} {H : Heap} {w : World} {env : List AV} {a : Act} {o : Oper} {nx : Nat}
theorem snd_buildS {t e : TypeId} {n s : Nat} {ps : Array (Nat × Operand)} {z : List AV} {ps' : List (Nat × Arg)} {xs : List (List AV)} (ho : o.op = .buildSlice t n ps) (hu : P.underlying t = some (.slice e)) (hk : sizeK P e = some s) (hz : zeroK P e = some z) (hp : cPartsS ps.toList = some ps') (h0 : s ≠ 0)
    (hc : n * s ≤ 16777216 ∧ z.length = s ∧ z.all AV.one = true) (hf : fillS env s ps' (List.replicate n z) = some xs) (hs : Sim P S φ h w) (hr : Reps w S φ env a.tmps) (hn : φ nx = none) :
    OpOK P o a w (Ends P S φ h w (.own nx 0 n) [(nx, some (.row s xs))] nx (nx + 1)) := by
  obtain ⟨i, v, h1, h2, h3⟩ := zeroK_spec hz
  obtain ⟨r1, r2⟩ := zero_rep (w := w) (S := S) (φ := φ) h3
  obtain ⟨i', h1', hsz⟩ := sizeK_spec hk
  rw [h1] at h1'; cases h1'
  have hex : execOp a.eval o = (do pure (.value (← Instr.buildSlice t n (ps.map fun p => (p.1, a.eval p.2))))) := by unfold execOp; simp only [ho]
  have hfl := flat_made r1 n
  rw [hc.2.1] at hfl
  obtain ⟨cc, g1, g2, g3, g4⟩ := fillS_rep hr ps.toList ps' _ xs _ hp hfl (fun x hx => by rw [List.eq_of_mem_replicate hx]; exact hc.2.2) hf
  have hcs : cc.size = n * s := by rw [g2.1, g4]; simp
  by_cases hn0 : n = 0
  · subst hn0
    have hps : ps.toList = [] := by
      cases hq : ps.toList with
      | nil => rfl
      | cons p q =>
        rw [hq] at hp
        simp only [cPartsS] at hp
        split at hp
        · cases hp; simp [fillS] at hf
        · cases hp
    have hcc : cc = #[] := by simpa using hcs
    subst hcc
    refine opOK_value hex (w' := w.alloc (.cells #[] e)) (vv := .slice (some ⟨w.heap.size, 0, none⟩) 0 0) ?_ (Flat.new_ends hs hn g2 g3 0 0 (by simp) (Nat.le_refl _))
    have : ps = #[] := by simpa using hps
    subst this
    simp [Instr.buildSlice, run_underlying hu, run_sizeK hk, Instr.fill, newRow, show Array.range 0 = #[] from rfl]
  · have hpos : ¬ n * i.size = 0 := by rw [hsz]; exact Nat.mul_ne_zero hn0 h0
    have hsm : ¬ n * i.size > 2 ^ 24 := by rw [hsz]; have := hc.1; omega
    have hrun := run_buildSlice (P := P) w t e n (ps.map fun p => (p.1, a.eval p.2)) cc i v hu h1 h2 hsm hpos (by rw [hsz, Array.toList_map]; exact g1)
    exact opOK_value hex hrun (Flat.new_ends hs hn g2 g3 n n (by rw [hcs]; exact Nat.le_refl _) (Nat.le_refl _))
end ops
end Go.V
/- Soundness: slices made, cut, measured, appended to. -/
set_option linter.unusedVariables false
set_option linter.unusedSimpArgs false
namespace Go.V
open Go.RowKit
variable {P : Program}

section ops
variable {P : Program} {S : Nat → Prop} {φ : Phi} {h : Mem} {H : Heap} {w : World} {env : List AV} {a : Act} {o : Oper} {nx : Nat}
theorem snd_mkS {t e : TypeId} {x y : Operand} {i : TypeInfo} {z : List AV} {ax ay : Arg} {v : AV} {rd : List Nat} {wr : Wr} {nx' : Nat} {T : FuncId → Option IFn} {cb : Cb} (ho : o.op = .makeSlice t x y) (hu : P.underlying t = some (.slice e)) (hi : P.info? e = some i) (hz : zeroK P e = some z) (hx : cOpd x = some ax) (hy : cOpd y = some ay)
    (he : evalOp T cb env H nx (.mkS i.size i.bytes z ax ay) = some (.eff v rd wr nx')) (hs : Sim P S φ h w) (hr : Reps w S φ env a.tmps) (hn : nx < nx' → φ nx = none) : OpOK P o a w (Ends P S φ h w v wr nx nx') := by
  have hv := arg_rep hr hx
  have hvy := arg_rep hr hy
  have hex : execOp a.eval o = (do pure (.value (← Instr.makeSlice t (a.eval x) (a.eval y)))) := by unfold execOp; simp only [ho]
  simp only [evalOp] at he
  split at he
  · rename_i k l k' c e1 e2
    rw [e1] at hv; rw [e2] at hvy
    split at he
    · rename_i hc
      cases he
      obtain ⟨c1, c2, c3, c4, c5⟩ := hc
      obtain ⟨i', zv, h1, h2, h3⟩ := zeroK_spec hz
      rw [hi] at h1; cases h1
      obtain ⟨r1, r2⟩ := zero_rep (w := w) (S := S) (φ := φ) h3
      have hb : (i.bytes : Int) * c ≤ 1099511627776 ∧ c ≤ 1099511627776 := by
        have e : (c + 1) * ((i.bytes : Int) + 1) = i.bytes * c + c + i.bytes + 1 := by rw [Int.add_mul, Int.mul_add, Int.mul_comm c]; omega
        have : 0 ≤ (i.bytes : Int) * c := Int.mul_nonneg (by omega) (by omega)
        omega
      have hrun := run_make (P := P) w t e i zv hu hi h2 k k' l c c1 c2 (by omega) (by omega)
      rw [hv.inv_int, hvy.inv_int] at hex
      have hfl := flat_made r1 c.toNat
      rw [c4] at hfl
      refine opOK_value hex hrun (Flat.new_ends hs (hn (by omega)) hfl (fun q hq => by rw [List.eq_of_mem_replicate hq]; exact c5) l.toNat c.toNat (by simp) (by omega))
    · cases he
  · cases he
theorem bnd_spec {d most n : Nat} {x : Option Operand} {ax : Option Arg} (hx : cOpt x = some ax) (hb : bnd env d most ax = some n) (hr : Reps w S φ env a.tmps) (hd : d ≤ most) :
    n ≤ most ∧ ((x = none ∧ n = d) ∨ ∃ (y : Operand) (k : IntKind) (i : Int), x = some y ∧ a.eval y = .int k i ∧ 0 ≤ i ∧ i ≤ most ∧ n = i.toNat) := by
  cases x with
  | none => cases hx; cases hb; exact ⟨hd, .inl ⟨rfl, rfl⟩⟩
  | some y =>
    simp only [cOpt] at hx
    cases hy : cOpd y with
    | none => simp [hy] at hx
    | some b =>
      simp [hy] at hx; subst hx
      have hv := arg_rep hr hy
      simp only [bnd] at hb
      split at hb
      · rename_i k i e1
        split at hb
        · rename_i hc
          cases hb
          rw [e1] at hv
          exact ⟨by omega, .inr ⟨y, k, i, rfl, hv.inv_int, hc.1, hc.2, rfl⟩⟩
        · cases hb
      · cases hb
theorem run_sliceBound {k : IntKind} {i : Int} {y : Nat} {code : BoundsCode} (h0 : 0 ≤ i) (h1 : i ≤ y) : (Instr.sliceBound (.int k i) y code).run P w = .ok i.toNat w := by
  unfold Instr.sliceBound
  simp only [asIntOf, Sem.run_bind, Sem.run_pure, Result.andThen_ok]
  rw [if_pos ⟨h0, h1⟩]; rfl
theorem run_sliceBounds {len cap l h' : Nat} {lo hi : Option Operand} {alo ahi : Option Arg} (hlo : cOpt lo = some alo) (hhi : cOpt hi = some ahi) (hr : Reps w S φ env a.tmps) (hlc : len ≤ cap) (e1 : bnd env len len ahi = some h') (e2 : bnd env 0 h' alo = some l) :
    (Instr.sliceBounds true len cap (lo.map a.eval) (hi.map a.eval) none).run P w = .ok (l, h', cap) w ∧ l ≤ h' ∧ h' ≤ len := by
  obtain ⟨b1, b2⟩ := bnd_spec hhi e1 hr (Nat.le_refl _)
  obtain ⟨b3, b4⟩ := bnd_spec hlo e2 hr (Nat.zero_le _)
  refine ⟨?_, b3, b1⟩
  unfold Instr.sliceBounds
  rcases b2 with ⟨rfl, rfl⟩ | ⟨y, k, i, rfl, q1, q2, q3, rfl⟩ <;> rcases b4 with ⟨rfl, rfl⟩ | ⟨y', k', i', rfl, q1', q2', q3', rfl⟩
  · simp
  · have e4 := run_sliceBound (P := P) (w := w) (k := k') (code := .sliceB) q2' q3'
    simp [q1', e4]
  · have e3 := run_sliceBound (P := P) (w := w) (k := k) (y := cap) (code := .sliceAcap) q2 (by omega)
    simp [q1, e3]
  · have e3 := run_sliceBound (P := P) (w := w) (k := k) (y := cap) (code := .sliceAcap) q2 (by omega)
    have e4 := run_sliceBound (P := P) (w := w) (k := k') (code := .sliceB) q2' q3'
    simp [q1, e3, q1', e4]
theorem LstAt.sub {sz l n b base : Nat} {xs : List (List AV)} (hl : LstAt w S sz xs b base) : LstAt w S sz ((xs.drop l).take n) b (base + l * sz) := by
  refine ⟨fun x hx => hl.1 x (List.mem_of_mem_drop (List.mem_of_mem_take hx)), hl.2.1, fun i j x c e1 e2 => ?_⟩
  rw [List.getElem?_take] at e1
  split at e1
  · rw [List.getElem?_drop] at e1
    obtain ⟨v, r1, r2⟩ := hl.2.2 (l + i) j x c e1 e2
    refine ⟨v, ?_, r2⟩
    rw [mul_add'] at r1; exact r1
  · cases e1
theorem snd_sl {t e : TypeId} {x : Operand} {lo hi : Option Operand} {alo ahi : Option Arg} {n : Nat} {ax : Arg} {v : AV} {rd : List Nat} {wr : Wr} {nx' : Nat} {T : FuncId → Option IFn} {cb : Cb} (ho : o.op = .slice t x lo hi none) (hu : P.underlying t = some (.slice e)) (hk : sizeK P e = some n) (hx : cOpd x = some ax) (hlo : cOpt lo = some alo) (hhi : cOpt hi = some ahi)
    (he : evalOp T cb env H nx (.sl n ax alo ahi) = some (.eff v rd wr nx')) (hrd : ∀ id ∈ rd, h id = hget H id) (hs : Sim P S φ h w) (hr : Reps w S φ env a.tmps) : OpOK P o a w (Ends P S φ h w v wr nx nx') := by
  have hv := arg_rep hr hx
  have hex : execOp a.eval o = (do pure (.value (← Instr.sliceAt t (a.eval x) (lo.map a.eval) (hi.map a.eval) none))) := by unfold execOp; simp only [ho]; rfl
  have hrun : ∀ (base : Option Addr) len cap l h', len ≤ cap → a.eval x = .slice base len cap → bnd env len len ahi = some h' → bnd env 0 h' alo = some l →
      (Instr.sliceAt t (a.eval x) (lo.map a.eval) (hi.map a.eval) none).run P w = .ok (.slice (if cap = l then base else base.map (·.add (l * n))) (h' - l) (cap - l)) w ∧ l ≤ h' ∧ h' ≤ len := by
    intro base len cap l h' hlc e1 e2 e3
    obtain ⟨r1, r2, r3⟩ := run_sliceBounds (P := P) hlo hhi hr hlc e2 e3
    refine ⟨?_, r2, r3⟩
    simp only [Instr.sliceAt, Sem.run_bind, run_underlying hu, Result.andThen_ok, Instr.slice, e1, r1, run_sizeK hk]
    rfl
  simp only [evalOp] at he
  split at he
  · rename_i sz xs e1
    rw [e1] at hv
    split at he
    · rename_i hsz
      subst hsz
      cases e2 : bnd env xs.length xs.length ahi with
      | none => simp [e2] at he
      | some h' =>
        cases e3 : bnd env 0 h' alo with
        | none => simp [e2, e3] at he
        | some l =>
          simp only [e2, e3, Option.bind_some, Option.map_some, Option.some.injEq, OpR.eff.injEq] at he
          obtain ⟨rfl, rfl, rfl, rfl⟩ := he
          obtain ⟨aa, cap, f1, f0, f2⟩ := hv.inv_lst
          obtain ⟨r1, r2, r3⟩ := hrun aa xs.length cap l h' f0 f1 e2 e3
          refine opOK_value hex r1 (ends_pure hs ?_)
          have hlen : ((xs.drop l).take (h' - l)).length = h' - l := by simp; omega
          split
          · rename_i hc
            rcases f2 with f2 | ⟨b, base, rfl, f2⟩
            · subst f2
              have : h' = 0 := by simp at r3; omega
              subst this
              have hl0 : l = 0 := by omega
              subst hl0
              simp only [List.drop_nil, List.take_nil, Nat.sub_self]
              exact .lstNil
            · have hadd : (if cap = l then (some ⟨b, base, none⟩ : Option Addr) else (some (⟨b, base, none⟩ : Addr)).map (·.add (l * sz))) = some ⟨b, base + l * sz, none⟩ := by
                split
                · rename_i hcl
                  have : l = 0 := by
                    rcases hc with hc | hc
                    · have : xs.length = 0 := by rw [List.isEmpty_iff.1 hc]; rfl
                      omega
                    · omega
                  subst this; simp
                · simp [add_none]
              rw [hadd]
              have := (f2.sub (l := l) (n := h' - l)).lst (φ := φ) (cap := cap - l) (by rw [hlen]; omega)
              rwa [hlen] at this
          · rename_i hc
            have h0 : h' - l = 0 := by
              have : ¬ l < h' := fun x => hc (.inr x)
              omega
            rw [h0]
            rcases f2 with f2 | ⟨b, base, rfl, f2⟩
            · subst f2; exact absurd (.inl rfl) hc
            · split
              · exact .emp (by simp)
              · exact .emp (by simp)
    · cases he
  · rename_i id off len e1
    rw [e1] at hv
    split at he
    · rename_i sz xs e2
      split at he
      · rename_i hsz
        subst hsz
        cases e3 : bnd env len len ahi with
        | none => simp [e3] at he
        | some h' =>
          cases e4 : bnd env 0 h' alo with
          | none => simp [e3, e4] at he
          | some l =>
            simp only [e3, e4, Option.bind_some, Option.map_some, Option.some.injEq, OpR.eff.injEq] at he
            obtain ⟨rfl, rfl, rfl, rfl⟩ := he
            have hb : h id = some (.row sz xs) := by rw [hrd id (by simp)]; exact e2
            obtain ⟨loc, cap, e', n', hφ, hsh, hn', hlc, hval⟩ := hv.inv_own
            obtain ⟨loc', g1, g2, g3⟩ := hs.blk id _ hb
            rw [hφ] at g1; cases g1
            have hls : loc.sz = sz := g2.1
            obtain ⟨r1, r2, r3⟩ := hrun _ len cap l h' hlc hval e3 e4
            refine opOK_value hex r1 (ends_pure hs ?_)
            split
            · rename_i hc
              have hadd : (if cap = l then (some ⟨loc.blk, loc.base + off * loc.sz, none⟩ : Option Addr) else (some (⟨loc.blk, loc.base + off * loc.sz, none⟩ : Addr)).map (·.add (l * sz))) = some ⟨loc.blk, loc.base + (off + l) * loc.sz, none⟩ := by
                split
                · rename_i hcl
                  have : l = 0 := by omega
                  subst this; simp
                · simp only [Option.map_some, add_none, mul_add', hls]
              rw [hadd]
              exact .own hφ hsh (by rw [show off + l + (cap - l) = off + cap by omega]; exact hn') (by omega)
            · rename_i hc
              have h0 : h' - l = 0 := by omega
              rw [h0]
              split
              · exact .emp (by simp)
              · exact .emp (by simp)
      · cases he
    · cases he
  · rename_i z e1
    rw [e1] at hv
    obtain ⟨aa, cap, hval, hz⟩ := hv.inv_emp
    cases e3 : bnd env 0 0 ahi with
    | none => simp [e3] at he
    | some h' =>
      cases e4 : bnd env 0 h' alo with
      | none => simp [e3, e4] at he
      | some l =>
        simp only [e3, e4, Option.bind_some, Option.map_some, Option.some.injEq, OpR.eff.injEq] at he
        obtain ⟨rfl, rfl, rfl, rfl⟩ := he
        obtain ⟨r1, r2, r3⟩ := hrun (some aa) 0 cap l h' (Nat.zero_le _) hval e3 e4
        refine opOK_value hex r1 (ends_pure hs ?_)
        have hh : h' = 0 := by omega
        subst hh
        have hl0 : l = 0 := by omega
        subst hl0
        split
        · exact .emp (fun e => by have := hz e; omega)
        · exact .emp (fun e => by have := hz e; omega)
  · rename_i e1
    rw [e1] at hv
    cases e3 : bnd env 0 0 ahi with
    | none => simp [e3] at he
    | some h' =>
      cases e4 : bnd env 0 h' alo with
      | none => simp [e3, e4] at he
      | some l =>
        simp only [e3, e4, Option.bind_some, Option.map_some, Option.some.injEq, OpR.eff.injEq] at he
        obtain ⟨rfl, rfl, rfl, rfl⟩ := he
        have hval : a.eval x = .slice none 0 0 := by
          generalize a.eval x = q at hv
          cases hv; rfl
        obtain ⟨r1, r2, r3⟩ := hrun none 0 0 l h' (Nat.le_refl _) hval e3 e4
        refine opOK_value hex r1 (ends_pure hs ?_)
        have hh : h' = 0 := by omega
        subst hh
        have hl0 : l = 0 := by omega
        subst hl0
        exact .nilS
  · cases he

theorem run_sliceBounds3 {len cap l h' m : Nat} {lo : Option Operand} {hi mx : Operand} {alo : Option Arg} {ahi amx : Arg} (hlo : cOpt lo = some alo) (hhi : cOpd hi = some ahi) (hmx : cOpd mx = some amx) (hr : Reps w S φ env a.tmps) (hlc : len ≤ cap) (e0 : bnd env 0 len (some amx) = some m) (e1 : bnd env 0 m (some ahi) = some h') (e2 : bnd env 0 h' alo = some l) :
    (Instr.sliceBounds true len cap (lo.map a.eval) (some (a.eval hi)) (some (a.eval mx))).run P w = .ok (l, h', m) w ∧ l ≤ h' ∧ h' ≤ m ∧ m ≤ len := by
  obtain ⟨b5, b6⟩ := bnd_spec (x := some mx) (by simp [cOpt, hmx]) e0 hr (Nat.zero_le _)
  obtain ⟨b1, b2⟩ := bnd_spec (x := some hi) (by simp [cOpt, hhi]) e1 hr (Nat.zero_le _)
  obtain ⟨b3, b4⟩ := bnd_spec hlo e2 hr (Nat.zero_le _)
  refine ⟨?_, b3, b1, b5⟩
  rcases b6 with ⟨e, -⟩ | ⟨y0, k0, i0, e, q10, q20, q30, rfl⟩
  · cases e
  · cases e
    have f0 := run_sliceBound (P := P) (w := w) (k := k0) (y := cap) (code := .slice3Acap) q20 (by omega)
    rcases b2 with ⟨e, -⟩ | ⟨y1, k1, i1, e, q11, q21, q31, rfl⟩
    · cases e
    · cases e
      have f1 := run_sliceBound (P := P) (w := w) (k := k1) (code := .slice3B) q21 q31
      unfold Instr.sliceBounds
      rcases b4 with ⟨rfl, rfl⟩ | ⟨y', k', i', rfl, q1', q2', q3', rfl⟩
      · simp [q10, q11, f0, f1]
      · have f2 := run_sliceBound (P := P) (w := w) (k := k') (code := .slice3C) q2' q3'
        simp [q10, q11, q1', f0, f1, f2]
theorem snd_sl3 {t e : TypeId} {x hi mx : Operand} {lo : Option Operand} {alo : Option Arg} {n : Nat} {ax ahi amx : Arg} {v : AV} {rd : List Nat} {wr : Wr} {nx' : Nat} {T : FuncId → Option IFn} {cb : Cb} (ho : o.op = .slice t x lo (some hi) (some mx)) (hu : P.underlying t = some (.slice e)) (hk : sizeK P e = some n) (hx : cOpd x = some ax) (hlo : cOpt lo = some alo) (hhi : cOpd hi = some ahi) (hmx : cOpd mx = some amx)
    (he : evalOp T cb env H nx (.sl3 n ax alo ahi amx) = some (.eff v rd wr nx')) (hrd : ∀ id ∈ rd, h id = hget H id) (hs : Sim P S φ h w) (hr : Reps w S φ env a.tmps) : OpOK P o a w (Ends P S φ h w v wr nx nx') := by
  have hv := arg_rep hr hx
  have hex : execOp a.eval o = (do pure (.value (← Instr.sliceAt t (a.eval x) (lo.map a.eval) (some (a.eval hi)) (some (a.eval mx))))) := by unfold execOp; simp only [ho]; rfl
  have hrun : ∀ (base : Option Addr) len cap l h' m, len ≤ cap → a.eval x = .slice base len cap → bnd env 0 len (some amx) = some m → bnd env 0 m (some ahi) = some h' → bnd env 0 h' alo = some l →
      (Instr.sliceAt t (a.eval x) (lo.map a.eval) (some (a.eval hi)) (some (a.eval mx))).run P w = .ok (.slice (if m = l then base else base.map (·.add (l * n))) (h' - l) (m - l)) w ∧ l ≤ h' ∧ h' ≤ m ∧ m ≤ len := by
    intro base len cap l h' m hlc e1 e0 e2 e3
    obtain ⟨r1, r2, r3⟩ := run_sliceBounds3 (P := P) hlo hhi hmx hr hlc e0 e2 e3
    refine ⟨?_, r2, r3⟩
    simp only [Instr.sliceAt, Sem.run_bind, run_underlying hu, Result.andThen_ok, Instr.slice, e1, r1, run_sizeK hk]
    rfl
  have spl : ∀ {len : Nat} {f : Nat → Nat → Nat → OpR}, ((bnd env 0 len (some amx)).bind fun m => (bnd env 0 m (some ahi)).bind fun h => (bnd env 0 h alo).map fun l => f m h l) = some (.eff v rd wr nx') →
      ∃ m h' l, bnd env 0 len (some amx) = some m ∧ bnd env 0 m (some ahi) = some h' ∧ bnd env 0 h' alo = some l ∧ f m h' l = .eff v rd wr nx' := by
    intro len f hf
    cases e2 : bnd env 0 len (some amx) with
    | none => simp [e2] at hf
    | some m =>
      cases e3 : bnd env 0 m (some ahi) with
      | none => simp [e2, e3] at hf
      | some h' =>
        cases e4 : bnd env 0 h' alo with
        | none => simp [e2, e3, e4] at hf
        | some l => simp [e2, e3, e4] at hf; exact ⟨m, h', l, rfl, e3, e4, hf⟩
  have emp_ok : ∀ {base : Addr} {l h' m : Nat}, l ≤ h' → h' ≤ m → ¬ l < h' → Rep w S φ (.emp (m == l)) (.slice (if m = l then some base else (some base : Option Addr).map (·.add (l * n))) (h' - l) (m - l)) := by
    intro base l h' m c1 c2 c3
    have h0 : h' - l = 0 := by omega
    rw [h0]
    by_cases hml : m = l
    · rw [if_pos hml]; exact .emp (fun _ => by omega)
    · rw [if_neg hml]; exact .emp (fun e => by simp at e; omega)
  simp only [evalOp] at he
  split at he
  · rename_i sz xs e1
    rw [e1] at hv
    split at he
    · rename_i hsz
      subst hsz
      obtain ⟨m, h', l, e2, e3, e4, he⟩ := spl he
      cases he
      obtain ⟨aa, cap, f1, f0, f2⟩ := hv.inv_lst
      obtain ⟨r1, r2, r3, r4⟩ := hrun aa xs.length cap l h' m f0 f1 e2 e3 e4
      refine opOK_value hex r1 (ends_pure hs ?_)
      rcases f2 with f2 | ⟨b, base, rfl, f2⟩
      · subst f2
        have hm : m = 0 := by simp at r4; omega
        subst hm
        have hh : h' = 0 := by omega
        subst hh
        have hl0 : l = 0 := by omega
        subst hl0
        exact .lstNil
      · by_cases hxe : xs.isEmpty = true
        · rw [if_pos hxe]
          have : xs = [] := by simpa using hxe
          subst this
          have hm : m = 0 := by simp at r4; omega
          subst hm
          have hh : h' = 0 := by omega
          subst hh
          have hl0 : l = 0 := by omega
          subst hl0
          exact .lstNil
        · rw [if_neg hxe]
          by_cases hc : l < h'
          · rw [if_pos hc, if_neg (by omega)]
            have hlen : ((xs.drop l).take (h' - l)).length = h' - l := by simp; omega
            have := (f2.sub (l := l) (n := h' - l)).lst (φ := φ) (cap := m - l) (by rw [hlen]; omega)
            rw [hlen] at this
            simpa [add_none] using this
          · rw [if_neg hc]; exact emp_ok r2 r3 hc
    · cases he
  · rename_i id off len e1
    rw [e1] at hv
    split at he
    · rename_i sz xs e2
      split at he
      · rename_i hsz
        subst hsz
        obtain ⟨m, h', l, e3, e4, e5, he⟩ := spl he
        cases he
        have hb : h id = some (.row sz xs) := by rw [hrd id (by simp)]; exact e2
        obtain ⟨loc, cap, e', n', hφ, hsh, hn', hlc, hval⟩ := hv.inv_own
        obtain ⟨loc', g1, g2, g3⟩ := hs.blk id _ hb
        rw [hφ] at g1; cases g1
        have hls : loc.sz = sz := g2.1
        obtain ⟨r1, r2, r3, r4⟩ := hrun _ len cap l h' m hlc hval e3 e4 e5
        refine opOK_value hex r1 (ends_pure hs ?_)
        by_cases hc : l < h'
        · rw [if_pos hc]
          have hadd : (if m = l then (some (⟨loc.blk, loc.base + off * loc.sz, none⟩ : Addr)) else (some (⟨loc.blk, loc.base + off * loc.sz, none⟩ : Addr)).map (·.add (l * sz))) = some ⟨loc.blk, loc.base + (off + l) * loc.sz, none⟩ := by
            rw [if_neg (by omega)]
            simp only [Option.map_some, add_none, mul_add', hls]
          rw [hadd]
          have hcap : (off + l + (m - l)) * loc.sz ≤ (off + cap) * loc.sz := Nat.mul_le_mul_right _ (by omega)
          by_cases hmh : m = h'
          · rw [if_pos hmh]
            subst hmh
            exact .clp hφ hsh (by omega)
          · rw [if_neg hmh]
            exact .own hφ hsh (by omega) (by omega)
        · rw [if_neg hc]; exact emp_ok r2 r3 hc
      · cases he
    · cases he
  · rename_i z e1
    rw [e1] at hv
    obtain ⟨aa, cap, hval, hz⟩ := hv.inv_emp
    obtain ⟨m, h', l, e3, e4, e5, he⟩ := spl he
    cases he
    obtain ⟨r1, r2, r3, r4⟩ := hrun (some aa) 0 cap l h' m (Nat.zero_le _) hval e3 e4 e5
    refine opOK_value hex r1 (ends_pure hs ?_)
    have hm : m = 0 := by omega
    subst hm
    have hh : h' = 0 := by omega
    subst hh
    have hl0 : l = 0 := by omega
    subst hl0
    exact .emp (fun _ => rfl)
  · rename_i e1
    rw [e1] at hv
    obtain ⟨m, h', l, e3, e4, e5, he⟩ := spl he
    cases he
    have hval : a.eval x = .slice none 0 0 := by
      generalize a.eval x = q at hv
      cases hv; rfl
    obtain ⟨r1, r2, r3, r4⟩ := hrun none 0 0 l h' m (Nat.le_refl _) hval e3 e4 e5
    refine opOK_value hex r1 (ends_pure hs ?_)
    have hm : m = 0 := by omega
    subst hm
    have hh : h' = 0 := by omega
    subst hh
    have hl0 : l = 0 := by omega
    subst hl0
    exact .nilS
  · cases he

/-! Built-in functions -/
theorem builtin_exec {c : Call} {b : Builtin} (ho : o.op = .call c) (hc : c.callee = .builtin b) : ∃ consts, (execOp a.eval o) = (do let d ← (pure { target := .builtin b c.argTypes o.type consts, args := c.args.map a.eval } : Sem Deferred); invoke d.target d.args) := by
  unfold execOp
  simp only [ho, resolve, hc]
  exact ⟨_, rfl⟩
theorem snd_len {c : Call} {x : Operand} {ax : Arg} {t : TypeId} {e : TypeId} {v : AV} {rd : List Nat} {wr : Wr} {nx' : Nat} {T : FuncId → Option IFn} {cb : Cb} (ho : o.op = .call c) (hc : c.callee = .builtin .len) (hargs : c.args = #[x]) (ht : c.argTypes[0]? = some t) (hu : P.underlying t = some (.slice e)) (hx : cOpd x = some ax)
    (he : evalOp T cb env H nx (.lenS ax) = some (.eff v rd wr nx')) (hs : Sim P S φ h w) (hr : Reps w S φ env a.tmps) : OpOK P o a w (Ends P S φ h w v wr nx nx') := by
  have hv := arg_rep hr hx
  obtain ⟨consts, hex⟩ := builtin_exec (a := a) ho hc
  have key : ∀ base len cap, a.eval x = .slice base len cap → OpOK P o a w (Ends P S φ h w (.int .i64 len) [] nx nx) := fun base len cap e =>
    .inl ⟨.int .i64 len, w, by rw [hex]; simp [invoke, builtin, hargs, Builtin.len_, ht, run_underlying hu, e, goInt], ends_pure hs .int⟩
  simp only [evalOp] at he
  split at he
  · rename_i sz xs e1; cases he; rw [e1] at hv; obtain ⟨aa, cap, f1, -, -⟩ := hv.inv_lst; exact key _ _ _ f1
  · rename_i id off len e1; cases he; rw [e1] at hv; obtain ⟨loc, cap, -, -, -, -, -, -, f1⟩ := hv.inv_own; exact key _ _ _ f1
  · rename_i id i j sz len e1; cases he; rw [e1] at hv
    obtain ⟨aa, cap, f1⟩ : ∃ aa cap, a.eval x = .slice aa len cap := by
      generalize a.eval x = q at hv
      cases hv with | sub h1 h2 h3 h4 => exact ⟨_, _, rfl⟩
    exact key _ _ _ f1
  · rename_i id off len e1; cases he; rw [e1] at hv
    obtain ⟨aa, cap, f1⟩ : ∃ aa cap, a.eval x = .slice aa len cap := by
      generalize a.eval x = q at hv
      cases hv with | clp h1 h2 h3 => exact ⟨_, _, rfl⟩
    exact key _ _ _ f1
  · rename_i e1; cases he; rw [e1] at hv
    refine key none 0 0 ?_
    generalize a.eval x = q at hv
    cases hv; rfl
  · rename_i e1; cases he; rw [e1] at hv; obtain ⟨aa, cap, f1, -⟩ := hv.inv_emp; exact key _ _ _ f1
  · cases he
theorem snd_cap {c : Call} {x : Operand} {ax : Arg} {t : TypeId} {e : TypeId} {v : AV} {rd : List Nat} {wr : Wr} {nx' : Nat} {T : FuncId → Option IFn} {cb : Cb} (ho : o.op = .call c) (hc : c.callee = .builtin .cap) (hargs : c.args = #[x]) (ht : c.argTypes[0]? = some t) (hu : P.underlying t = some (.slice e)) (hx : cOpd x = some ax)
    (he : evalOp T cb env H nx (.capS ax) = some (.eff v rd wr nx')) (hs : Sim P S φ h w) (hr : Reps w S φ env a.tmps) : OpOK P o a w (Ends P S φ h w v wr nx nx') := by
  have hv := arg_rep hr hx
  obtain ⟨consts, hex⟩ := builtin_exec (a := a) ho hc
  have key : ∀ base len cap, a.eval x = .slice base len cap → OpOK P o a w (Ends P S φ h w (.int .i64 cap) [] nx nx) := fun base len cap e =>
    .inl ⟨.int .i64 cap, w, by rw [hex]; simp [invoke, builtin, hargs, Builtin.cap_, ht, run_underlying hu, e, goInt], ends_pure hs .int⟩
  simp only [evalOp] at he
  split at he
  · rename_i e1; cases he; rw [e1] at hv
    refine key none 0 0 ?_
    generalize a.eval x = q at hv
    cases hv; rfl
  · rename_i e1; cases he; rw [e1] at hv; obtain ⟨aa, cap, f1, f2⟩ := hv.inv_emp
    have := f2 rfl; subst this
    exact key _ _ _ f1
  · cases he
theorem snd_lenC {c : Call} {x : Operand} {n : Nat} {t e : TypeId} (ho : o.op = .call c) (hc : c.callee = .builtin .len) (hargs : c.args = #[x]) (ht : c.argTypes[0]? = some t) (hu : P.underlying t = some (.array n e)) (hs : Sim P S φ h w) : OpOK P o a w (Ends P S φ h w (.int .i64 n) [] nx nx) := by
  obtain ⟨consts, hex⟩ := builtin_exec (a := a) ho hc
  exact .inl ⟨.int .i64 n, w, by rw [hex]; simp [invoke, builtin, hargs, Builtin.len_, ht, run_underlying hu, goInt], ends_pure hs .int⟩
theorem mxA_rep {mx : Bool} {x y z : AV} {vx vy : Value} (h1 : Rep w S φ x vx) (h2 : Rep w S φ y vy) (he : mxA mx x y = some z) : ∃ vz, (if mx then Builtin.max2 vx vy else Builtin.min2 vx vy).run P w = .ok vz w ∧ Rep w S φ z vz := by
  unfold mxA at he
  split at he
  · cases he
    rw [h1.inv_int, h2.inv_int]
    cases mx
    · exact ⟨_, rfl, .int⟩
    · exact ⟨_, rfl, .int⟩
  · cases he
theorem mxL_rep {mx : Bool} : ∀ {ys : List AV} {vs : List Value} {x z : AV} {vx : Value}, Rep w S φ x vx → Reps w S φ ys vs.toArray → mxL mx x ys = some z → ∃ vz, (vs.foldlM (if mx then Builtin.max2 else Builtin.min2) vx).run P w = .ok vz w ∧ Rep w S φ z vz
  | [], vs, x, z, vx, h1, h2, he => by
    have : vs = [] := by have := h2.1; simpa using this
    subst this
    cases he
    exact ⟨vx, rfl, h1⟩
  | y :: ys, vs, x, z, vx, h1, h2, he => by
    cases vs with
    | nil => have := h2.1; simp at this
    | cons vy vs =>
      simp only [mxL] at he
      cases e1 : mxA mx x y with
      | none => simp [e1] at he
      | some u =>
        simp [e1] at he
        obtain ⟨vu, r1, r2⟩ := mxA_rep (P := P) h1 (h2.2 0 y vy (by simp) (by simp)) e1
        obtain ⟨vz, r3, r4⟩ := mxL_rep (mx := mx) r2 (vs := vs) ⟨by have := h2.1; simpa using this, fun i c v q1 q2 => h2.2 (i + 1) c v (by simpa using q1) (by simpa using q2)⟩ he
        refine ⟨vz, ?_, r4⟩
        have r1' : ((if mx then Builtin.max2 else Builtin.min2) vx vy).run P w = .ok vu w := by cases mx <;> exact r1
        rw [List.foldlM_cons, Sem.run_bind, r1']
        exact r3
theorem snd_mx {c : Call} {mx : Bool} {as : List Arg} {v : AV} {rd : List Nat} {wr : Wr} {nx' : Nat} {T : FuncId → Option IFn} {cb : Cb} (ho : o.op = .call c) (hc : c.callee = .builtin (if mx then .max else .min)) (hargs : cOpds c.args.toList = some as)
    (he : evalOp T cb env H nx (.mx mx as) = some (.eff v rd wr nx')) (hs : Sim P S φ h w) (hr : Reps w S φ env a.tmps) : OpOK P o a w (Ends P S φ h w v wr nx nx') := by
  obtain ⟨consts, hex⟩ := builtin_exec (a := a) ho hc
  have hrs := args_rep hr hargs
  simp only [evalOp] at he
  cases as with
  | nil => simp at he
  | cons x xs =>
    cases e1 : mxL mx (arg env x) (xs.map (arg env)) with
    | none => simp [e1] at he
    | some z =>
      simp [e1] at he
      obtain ⟨rfl, rfl, rfl, rfl⟩ := he
      cases hl : c.args.toList with
      | nil => rw [hl] at hrs; have := hrs.1; simp at this
      | cons p ps =>
        rw [hl] at hrs
        obtain ⟨vz, r1, r2⟩ := mxL_rep (P := P) (mx := mx) (vs := ps.map a.eval) (hrs.2 0 _ (a.eval p) (by simp) (by simp)) ⟨by have := hrs.1; simpa using this, fun i c v q1 q2 => hrs.2 (i + 1) c v (by simpa using q1) (by simpa using q2)⟩ e1
        refine .inl ⟨vz, w, ?_, ends_pure hs r2⟩
        rw [hex]
        have hl2 : (c.args.map a.eval).toList = a.eval p :: ps.map a.eval := by rw [Array.toList_map, hl]; rfl
        cases mx
        · have hx : (Builtin.min_ c.argTypes o.type (c.args.map a.eval)).run P w = .ok vz w := by
            unfold Builtin.min_; rw [hl2]; exact r1
          have hc' : c.callee = .builtin .min := hc
          simp [invoke, builtin, hx, hc']
        · have hx : (Builtin.max_ c.argTypes o.type (c.args.map a.eval)).run P w = .ok vz w := by
            unfold Builtin.max_; rw [hl2]; exact r1
          simp [invoke, builtin, hx]
end ops
end Go.V
/- Soundness: append. -/
set_option linter.unusedVariables false
set_option linter.unusedSimpArgs false
namespace Go.V
open Go.RowKit
variable {P : Program}

section ops
variable {P : Program} {S : Nat → Prop} {φ : Phi} {h : Mem} {H : Heap} {w : World} {env : List AV} {a : Act} {o : Oper} {nx : Nat}
/-- So many elements that lie in memory, read. -/
theorem run_cells {sz b base : Nat} {xs : List (List AV)} (hl : ∀ x ∈ xs, x.length = sz) (hc : ∀ (i j : Nat) x c, xs[i]? = some x → x[j]? = some c → ∃ v, w.cell? ⟨b, base + i * sz + j, none⟩ = some v ∧ Rep w S φ c v) :
    ∃ c, (loadCells ⟨b, base, none⟩ (xs.length * sz)).run P w = .ok c w ∧ Flat w S φ sz xs c := by
  let f : Nat → Value := fun k => (w.cell? ((⟨b, base, none⟩ : Addr).add k)).getD undef
  have split : ∀ k, k < xs.length * sz → 0 < sz ∧ k / sz < xs.length ∧ k % sz < sz ∧ k / sz * sz + k % sz = k := fun k hk => by
    have h0 : 0 < sz := by
      rcases Nat.eq_zero_or_pos sz with e | e
      · subst e; simp at hk
      · exact e
    exact ⟨h0, Nat.div_lt_of_lt_mul (by rw [Nat.mul_comm]; exact hk), Nat.mod_lt _ h0, Nat.div_add_mod' k sz⟩
  have hf : ∀ k, k < xs.length * sz → w.cell? ((⟨b, base, none⟩ : Addr).add k) = some (f k) := fun k hk => by
    obtain ⟨h0, h1, h2, h3⟩ := split k hk
    have hx : xs[k / sz]? = some xs[k / sz] := by simp [h1]
    have hlen := hl xs[k / sz] (List.getElem_mem h1)
    have hj : k % sz < xs[k / sz].length := by omega
    obtain ⟨v, e1, -⟩ := hc (k / sz) (k % sz) _ (xs[k / sz][k % sz]) hx (by simp [hj])
    show _ = some ((w.cell? _).getD undef)
    rw [add_none]
    rw [Nat.add_assoc, h3] at e1
    rw [e1]; rfl
  refine ⟨_, run_loadCells (P := P) w ⟨b, base, none⟩ (xs.length * sz) f hf, by simp, hl, fun i j x c e1 e2 => ?_⟩
  obtain ⟨v, e3, e4⟩ := hc i j x c e1 e2
  refine ⟨v, ?_, e4⟩
  have hi : i < xs.length := by
    rcases Nat.lt_or_ge i xs.length with h' | h'
    · exact h'
    · rw [List.getElem?_eq_none h'] at e1; cases e1
  have hj : j < sz := by
    have := hl x (List.mem_of_getElem? e1)
    rcases Nat.lt_or_ge j x.length with h' | h'
    · omega
    · rw [List.getElem?_eq_none h'] at e2; cases e2
  have hlt := cell_lt hi hj
  have hfk : f (i * sz + j) = v := by
    show (w.cell? _).getD undef = v
    rw [add_none, ← Nat.add_assoc, e3]; rfl
  simp [hlt, hfk]
theorem SimBlk.sub {loc : Loc} {sz off len : Nat} {xs : List (List AV)} (hb : SimBlk P w S φ loc (.row sz xs)) :
    (∀ x ∈ (xs.drop off).take len, x.length = sz) ∧ ∀ (i j : Nat) x c, ((xs.drop off).take len)[i]? = some x → x[j]? = some c → c.one = true ∧ ∃ v, w.cell? ⟨loc.blk, loc.base + off * loc.sz + i * sz + j, none⟩ = some v ∧ Rep w S φ c v := by
  refine ⟨fun x hx => hb.2.1 x (List.mem_of_mem_drop (List.mem_of_mem_take hx)), fun i j x c e1 e2 => ?_⟩
  rw [List.getElem?_take] at e1
  split at e1
  · rw [List.getElem?_drop] at e1
    obtain ⟨v, r1, r2⟩ := hb.cells e1 j c e2
    obtain ⟨f1, f2, cs, e, f3, f4, f5⟩ := hb
    refine ⟨(f5 _ j x c e1 e2).1, v, ?_, r2⟩
    rw [mul_add'] at r1
    rw [f1] at r1 ⊢; exact r1
  · cases e1
theorem noPhi {a : AV} {v : Value} (hr : Rep w S (fun _ => none) a v) : Rep w S φ a v := hr.mono (fun _ e => e) (fun _ _ => rfl) (fun _ _ _ e => e) (fun _ _ e => by cases e)
theorem run_first0 (sz : Nat) (b : Option Addr) (cap : Nat) (w : World) : (Builtin.firstCells sz 0 (.slice b 0 cap)).run P w = .ok #[] w := by
  cases b with
  | none => rfl
  | some b =>
    have := run_loadCells (P := P) w b (0 * sz) (fun _ => undef) (fun k hk => by simp at hk)
    simp only [Builtin.firstCells]
    rw [this]; simp
theorem elems_rep {sz : Nat} {y : AV} {v : Value} {ys : List (List AV)} {rd : List Nat} (he : elems H sz y = some (ys, rd)) (hrd : ∀ id ∈ rd, h id = hget H id) (hs : Sim P S φ h w) (hv : Rep w S φ y v) :
    ∃ b cap, v = .slice b ys.length cap ∧ ∃ c, (Builtin.firstCells sz ys.length v).run P w = .ok c w ∧ Flat w S φ sz ys c := by
  unfold elems at he
  split at he
  · cases he
    refine ⟨none, 0, ?_, #[], ?_, by simp, by simp, by simp⟩
    · generalize v = q at hv; cases hv; rfl
    · generalize v = q at hv; cases hv; rfl
  · cases he
    obtain ⟨aa, cap, f1, -⟩ := hv.inv_emp
    exact ⟨some aa, cap, f1, #[], by rw [f1]; exact run_first0 _ _ _ _, by simp, by simp, by simp⟩
  · rename_i s xs
    split at he
    · rename_i hsz
      cases he
      subst hsz
      obtain ⟨aa, cap, f1, f0, f2⟩ := hv.inv_lst
      refine ⟨aa, cap, f1, ?_⟩
      rcases f2 with f2 | ⟨b, base, rfl, f2⟩
      · subst f2
        refine ⟨#[], ?_, by simp, by simp, by simp⟩
        rw [f1]
        cases aa with
        | none => rfl
        | some aa => simp [Builtin.firstCells, loadCells, loadCellsFrom]
      · rw [f1]
        exact run_cells (fun x hx => (f2.1 x hx).1) (fun i j x c e1 e2 => by obtain ⟨v, r1, r2⟩ := f2.2.2 i j x c e1 e2; exact ⟨v, r1, noPhi r2⟩)
    · cases he
  · cases he
    obtain ⟨loc, cap, e', n', hφ, hsh, hn', hlc, hval⟩ := hv.inv_own
    exact ⟨_, cap, hval, #[], by rw [hval]; exact run_first0 _ _ _ _, by simp, by simp, by simp⟩
  · rename_i id off len hne
    split at he
    · rename_i s xs e1
      split at he
      · rename_i hc
        obtain ⟨hsz, hle⟩ := hc
        cases he
        subst hsz
        have hb : h id = some (.row s xs) := by rw [hrd id (by simp)]; exact e1
        obtain ⟨loc, cap, e', n', hφ, hsh, hn', hlc, hval⟩ := hv.inv_own
        obtain ⟨loc', g1, g2, g3⟩ := hs.blk id _ hb
        rw [hφ] at g1; cases g1
        have hlen : ((xs.drop off).take len).length = len := by simp; omega
        obtain ⟨q1, q2⟩ := g2.sub (off := off) (len := len)
        refine ⟨_, cap, by rw [hlen]; exact hval, ?_⟩
        rw [hval]
        exact run_cells q1 (fun i j x c e1 e2 => (q2 i j x c e1 e2).2)
      · cases he
    · cases he
  · cases he
theorem elems_one {sz : Nat} {y : AV} {ys : List (List AV)} {rd : List Nat} {v : Value} (he : elems H sz y = some (ys, rd)) (hrd : ∀ id ∈ rd, h id = hget H id) (hs : Sim P S φ h w) (hv : Rep w S φ y v) : ∀ x ∈ ys, x.all AV.one = true := by
  unfold elems at he
  split at he
  · cases he; simp
  · cases he; simp
  · rename_i s xs'
    split at he
    · rename_i hsz; cases he; subst hsz
      obtain ⟨aa, cap, f1, f0, f2⟩ := hv.inv_lst
      rcases f2 with f2 | ⟨b, base, rfl, f2⟩
      · subst f2; simp
      · exact fun x hx => (f2.1 x hx).2
    · cases he
  · cases he; simp
  · rename_i id off len hne
    split at he
    · rename_i s xs e1
      split at he
      · rename_i hc
        cases he
        have hb : h id = some (.row s xs) := by rw [hrd id (by simp)]; exact e1
        obtain ⟨loc', g1, g2, g3⟩ := hs.blk id _ hb
        obtain ⟨q1, q2⟩ := g2.sub (off := off) (len := len)
        intro x hx
        obtain ⟨i, hi, rfl⟩ := List.getElem_of_mem hx
        rw [List.all_eq_true]
        intro c hc
        obtain ⟨j, hj, rfl⟩ := List.getElem_of_mem hc
        exact (q2 i j _ _ (List.getElem?_eq_getElem hi) (List.getElem?_eq_getElem hj)).1
      · cases he
    · cases he
  · cases he

/-! What 'append' does -/
theorem run_append_in {ats : Array TypeId} {ty t u e e' : TypeId} {i : TypeInfo} {base b : Option Addr} {sLen sCap n capy : Nat} {new : Array Value} {w' : World} (ht : ats[0]? = some t) (hu : P.underlying t = some (.slice e)) (ht' : ats[1]? = some u) (hu' : P.underlying u = some (.slice e')) (hi : P.info? e = some i)
    (hfit : sLen + n ≤ sCap) (hnew : (Builtin.firstCells i.size n (.slice b n capy)).run P w = .ok new w)
    (hst : (match base with | some a => storeCells (a.add (sLen * i.size)) new.toList | none => pure ()).run P w = .ok () w') :
    (Builtin.append_ ats ty #[.slice base sLen sCap, .slice b n capy]).run P w = .ok (.slice base (sLen + n) sCap) w' := by
  unfold Builtin.append_
  simp only [ht, ht', List.getElem?_toArray, List.getElem?_cons_zero, List.getElem?_cons_succ, Sem.run_bind, run_underlying hu, run_underlying hu', Result.andThen_ok, run_size hi, Builtin.lenOf, Sem.run_pure, Bool.false_eq_true, if_false, hfit, if_true, Bool.not_false, hnew]
  cases base with
  | none => simp at hst; simp [hst]
  | some a => simp only at hst; simp only [Sem.run_bind, hst, Result.andThen_ok, Sem.run_pure]
theorem run_append_move {ats : Array TypeId} {ty t u e e' : TypeId} {i : TypeInfo} {zv : Value} {base b : Option Addr} {sLen sCap n capy : Nat} {old new : Array Value} (ht : ats[0]? = some t) (hu : P.underlying t = some (.slice e)) (ht' : ats[1]? = some u) (hu' : P.underlying u = some (.slice e')) (hi : P.info? e = some i) (hz : i.zero = some zv)
    (hfit : sCap < sLen + n) (hb : (sLen + n + 1) * (i.bytes + 1) ≤ 1099511627776) (hold : (Builtin.firstCells i.size sLen (.slice base sLen sCap)).run P w.drew = .ok old w.drew) (hnew : (Builtin.firstCells i.size n (.slice b n capy)).run P w.drew = .ok new w.drew) :
    ∃ newCap, sLen + n ≤ newCap ∧ (Builtin.append_ ats ty #[.slice base sLen sCap, .slice b n capy]).run P w = .ok (.slice (some ⟨w.heap.size, 0, none⟩) (sLen + n) newCap) (w.drew.alloc (.cells (old ++ new ++ Builtin.zeroCells zv.cells (newCap - (sLen + n))) e)) := by
  refine ⟨(Question.appendCap (sLen + n) sCap e).cut (w.tape w.drawn (.appendCap (sLen + n) sCap e)), by simp [Question.cut], ?_⟩
  have hn : sLen + n ≤ 1099511627776 := by
    have : (sLen + n + 1) * 1 ≤ (sLen + n + 1) * (i.bytes + 1) := Nat.mul_le_mul_left _ (by omega)
    omega
  have hcap : ¬ Builtin.nextslicecap (sLen + n) sCap * i.bytes > 2 ^ 48 := by
    have h1 := nextslicecap_le hfit
    have h2 : Builtin.nextslicecap (sLen + n) sCap * i.bytes ≤ 2 * (sLen + n) * i.bytes := Nat.mul_le_mul_right _ h1
    have h3 : (sLen + n) * i.bytes ≤ (sLen + n + 1) * (i.bytes + 1) := Nat.mul_le_mul (by omega) (by omega)
    rw [Nat.mul_assoc] at h2
    omega
  have hp : ¬ ((sLen + n : Nat) : Int) > IntKind.i64.max := by
    simp only [IntKind.max, IntKind.bits, IntKind.signed]
    simp
    omega
  have hch : (choose (.appendCap (sLen + n) sCap e)).run P w = .ok ((Question.appendCap (sLen + n) sCap e).cut (w.tape w.drawn (.appendCap (sLen + n) sCap e))) w.drew := by
    simp [Question.forced]
  unfold Builtin.append_
  simp only [ht, ht', List.getElem?_toArray, List.getElem?_cons_zero, List.getElem?_cons_succ, Sem.run_bind, run_underlying hu, run_underlying hu', Result.andThen_ok, run_size hi, Builtin.lenOf, Sem.run_pure, Bool.false_eq_true, if_false, Bool.not_false, if_true]
  rw [if_neg (by omega)]
  simp only [Sem.run_bind, Sem.run_pure, typeInfo, run_program, Result.andThen_ok, hi, hp, false_and, if_false, hcap, hch, run_askRoom, hold, hnew, zeroValue, hz, newRow, run_newObj_alloc]
  rfl

/-- ... so many zeros, to a slice without room. -/
theorem run_appendZ_move {ats : Array TypeId} {ty t u e : TypeId} {k k' : IntKind} {i : TypeInfo} {zv : Value} {base : Option Addr} {n : Nat} (ht : ats[0]? = some t) (hu : P.underlying t = some (.slice e)) (ht' : ats[1]? = some u) (hu' : P.underlying u = some (.int k')) (hi : P.info? e = some i) (hz : i.zero = some zv)
    (h0 : 0 < n) (hb : (n + 1) * (i.bytes + 1) ≤ 1099511627776) (hzs : zv.cells.size = i.size) :
    ∃ newCap, n ≤ newCap ∧ (Builtin.append_ ats ty #[.slice base 0 0, .int k n]).run P w = .ok (.slice (some ⟨w.heap.size, 0, none⟩) n newCap) (w.drew.alloc (.cells (Builtin.zeroCells zv.cells n ++ Builtin.zeroCells zv.cells (newCap - n)) e)) := by
  refine ⟨(Question.appendCap (0 + n) 0 e).cut (w.tape w.drawn (.appendCap (0 + n) 0 e)), by simp [Question.cut], ?_⟩
  have hn : n ≤ 1099511627776 := by
    have : (n + 1) * 1 ≤ (n + 1) * (i.bytes + 1) := Nat.mul_le_mul_left _ (by omega)
    omega
  have hbb : n * i.bytes ≤ 1099511627776 := by
    have : n * i.bytes ≤ (n + 1) * (i.bytes + 1) := Nat.mul_le_mul (by omega) (by omega)
    omega
  have hwrap : IntKind.i64.wrap (n : Int) = n := by rw [IntKind.wrap_i64]; omega
  have hneg : ¬ ((n : Int) < 0) := by omega
  have hbig : ¬ ((n : Int) * (i.bytes : Int) > 2 ^ 48) := by
    have : ((n * i.bytes : Nat) : Int) ≤ 1099511627776 := by omega
    rw [Int.natCast_mul] at this
    omega
  have hcap : ¬ Builtin.nextslicecap (0 + n) 0 * i.bytes > 2 ^ 48 := by
    have h1 := nextslicecap_le (need := 0 + n) (old := 0) (by omega)
    have h2 : Builtin.nextslicecap (0 + n) 0 * i.bytes ≤ 2 * (0 + n) * i.bytes := Nat.mul_le_mul_right _ h1
    rw [Nat.mul_assoc] at h2
    rw [Nat.zero_add] at h2 ⊢
    omega
  have hp : ¬ ((0 + n : Nat) : Int) > IntKind.i64.max := by
    simp only [IntKind.max, IntKind.bits, IntKind.signed]
    simp
    omega
  have hch : (choose (.appendCap (0 + n) 0 e)).run P w = .ok ((Question.appendCap (0 + n) 0 e).cut (w.tape w.drawn (.appendCap (0 + n) 0 e))) w.drew := by
    simp [Question.forced]
  unfold Builtin.append_
  simp only [ht, ht', List.getElem?_toArray, List.getElem?_cons_zero, List.getElem?_cons_succ, Sem.run_bind, run_underlying hu, run_underlying hu', Result.andThen_ok, run_size hi, asInt, asIntOf, Sem.run_pure, hwrap, hneg, if_false, if_true, typeInfo, run_program, hi, hbig, Int.toNat_natCast, Bool.not_true, Bool.false_eq_true]
  rw [if_neg (by omega)]
  simp only [Sem.run_bind, Sem.run_pure, typeInfo, run_program, Result.andThen_ok, hi, hp, false_and, if_false, hcap, hch, run_askRoom, run_first0, zeroValue, hz, newRow, run_newObj_alloc]
  by_cases hc : n * i.size = 0
  · have : Builtin.zeroCells zv.cells n = #[] := by unfold Builtin.zeroCells; rw [hzs, hc]; simp
    simp [hc, this]
  · simp [hc, hi, hz]
theorem run_appendZ_none {ats : Array TypeId} {ty t u e : TypeId} {k k' : IntKind} {i : TypeInfo} {base : Option Addr} {len cap : Nat} (ht : ats[0]? = some t) (hu : P.underlying t = some (.slice e)) (ht' : ats[1]? = some u) (hu' : P.underlying u = some (.int k')) (hi : P.info? e = some i) (hlc : len ≤ cap) :
    (Builtin.append_ ats ty #[.slice base len cap, .int k 0]).run P w = .ok (.slice base len cap) w := by
  have hwrap : IntKind.i64.wrap 0 = 0 := by rw [IntKind.wrap_i64]; omega
  unfold Builtin.append_
  simp only [ht, ht', List.getElem?_toArray, List.getElem?_cons_zero, List.getElem?_cons_succ, Sem.run_bind, run_underlying hu, run_underlying hu', Result.andThen_ok, run_size hi, asInt, asIntOf, Sem.run_pure, hwrap, if_true, typeInfo, run_program, hi, Bool.not_true, Bool.false_eq_true, if_false]
  have : ¬ ((0 : Int) * (i.bytes : Int) > 2 ^ 48) := by simp
  cases base <;> simp [hlc, storeCells, hi]

theorem Adv.drewR (S : Nat → Prop) (φ : Phi) (h : Mem) (w : World) : Adv S φ h w S φ h w.drew :=
  ⟨fun _ _ e => e, fun _ e => e, fun _ e => .inl e, rfl, rfl, rfl, Nat.le_refl _, fun _ _ _ => rfl, fun _ e => .inl e, fun _ _ _ e => e⟩
theorem Sim.drewR {S : Nat → Prop} {φ : Phi} {h : Mem} {w : World} (hs : Sim P S φ h w) : Sim P S φ h w.drew :=
  ⟨fun id b hb => by obtain ⟨loc, e1, e2, e3⟩ := hs.blk id b hb; exact ⟨loc, e1, e2.adv (Adv.drewR _ _ _ _) hs rfl, e3⟩, hs.inj, hs.bd⟩
theorem flat_append {sz : Nat} {xs ys : List (List AV)} {c d r : Array Value} (h1 : Flat w S φ sz xs c) (h2 : Flat w S φ sz ys d) :
    ∀ (i j : Nat) x b, (xs ++ ys)[i]? = some x → x[j]? = some b → ∃ v, (c ++ d ++ r)[i * sz + j]? = some v ∧ Rep w S φ b v := by
  intro i j x b e1 e2
  have hj : j < sz := by
    have hm := List.mem_of_getElem? e1
    rw [List.mem_append] at hm
    have : x.length = sz := hm.elim (h1.2.1 x) (h2.2.1 x)
    rcases Nat.lt_or_ge j x.length with h' | h'
    · omega
    · rw [List.getElem?_eq_none h'] at e2; cases e2
  by_cases hi : i < xs.length
  · rw [List.getElem?_append_left hi] at e1
    obtain ⟨v, r1, r2⟩ := h1.2.2 i j x b e1 e2
    refine ⟨v, ?_, r2⟩
    have := cell_lt hi hj
    rw [Array.append_assoc, Array.getElem?_append_left (by rw [h1.1]; exact this)]; exact r1
  · rw [List.getElem?_append_right (by omega)] at e1
    obtain ⟨v, r1, r2⟩ := h2.2.2 (i - xs.length) j x b e1 e2
    refine ⟨v, ?_, r2⟩
    have hk : i - xs.length < ys.length := by
      rcases Nat.lt_or_ge (i - xs.length) ys.length with h' | h'
      · exact h'
      · rw [List.getElem?_eq_none h'] at e1; cases e1
    have h3 := cell_lt hk hj
    have h4 : i * sz = xs.length * sz + (i - xs.length) * sz := by rw [← Nat.add_mul]; congr 1; omega
    rw [Array.append_assoc, Array.getElem?_append_right (by rw [h1.1]; omega), Array.getElem?_append_left (by rw [h1.1, h2.1]; omega), h1.1]
    rw [show i * sz + j - xs.length * sz = (i - xs.length) * sz + j by omega]; exact r1
/-- One place of the evaluator's memory is given up; another one holds what a slice and more were. -/
theorem swap_sim {S : Nat → Prop} {φ : Phi} {h : Mem} {w w' : World} {id nx sz : Nat} {xs zs : List (List AV)} {loc loc' : Loc} {new : Array Value} {e : TypeId} (hs : Sim P S φ h w) (hb : h id = some (.row sz xs)) (hφ : φ id = some loc) (hn : φ nx = none)
    (hkeep : ∀ b, b < w.heap.size → b ≠ loc.blk → w'.heap[b]? = w.heap[b]?) (hsize : w.heap.size ≤ w'.heap.size) (hos : w'.os = w.os) (hta : w'.tape = w.tape) (hou : w'.output = w.output)
    (hshape : ∀ b e n, w.shape? b = some (e, n) → w'.shape? b = some (e, n))
    (hl' : loc'.sz = sz) (hblk : loc'.blk = loc.blk ∨ w.heap.size ≤ loc'.blk) (hnb : ¬ S loc'.blk) (hnew : w'.heap[loc'.blk]? = some (.cells new e (0, 0))) (hfit : loc'.base + zs.length * sz ≤ new.size) (hlen : ∀ x ∈ zs, x.length = sz)
    (hone : ∀ x ∈ zs, x.all AV.one = true) (hc : ∀ (i j : Nat) x b, zs[i]? = some x → x[j]? = some b → ∃ v, new[loc'.base + i * sz + j]? = some v ∧ Rep w S φ b v) :
    let φ' : Phi := fun k => if k = nx then some loc' else φ k
    let h' : Mem := fun k => if k = nx then some (.row sz zs) else if k = id then none else h k
    Adv S φ h w S φ' h' w' ∧ Sim P S φ' h' w' := by
  intro φ' h'
  have hid : id ≠ nx := by rintro rfl; rw [hφ] at hn; cases hn
  have hnone : h nx = none := by
    cases hb' : h nx with
    | none => rfl
    | some b => obtain ⟨l, e1, -⟩ := hs.blk nx b hb'; rw [hn] at e1; cases e1
  have hown : Own φ h loc.blk := ⟨id, _, loc, hb, hφ, rfl⟩
  have hadv : Adv S φ h w S φ' h' w' := by
    refine ⟨fun k l e1 => ?_, fun _ e => e, fun _ e => .inl e, hos, hta, hou, hsize, fun b hbb hnn => hkeep b hbb (fun e => hnn (e ▸ hown)), ?_, hshape⟩
    · have : k ≠ nx := by rintro rfl; rw [hn] at e1; cases e1
      simp [φ', this, e1]
    · rintro b ⟨k, x, l, e1, e2, e3⟩
      by_cases hk : k = nx
      · subst hk; simp [φ'] at e2; subst e2
        rcases hblk with e | e
        · exact .inl (by rw [← e3, e]; exact hown)
        · exact .inr (e3 ▸ e)
      · by_cases hk2 : k = id
        · subst hk2; simp [h', hk] at e1
        · simp [φ', h', hk, hk2] at e1 e2
          exact .inl ⟨k, x, l, e1, e2, e3⟩
  refine ⟨hadv, ?_, ?_, fun b hb => Nat.lt_of_lt_of_le (hs.bd b hb) hsize⟩
  · intro k b hk
    by_cases hkn : k = nx
    · subst hkn
      have : b = .row sz zs := by simpa [h'] using hk.symm
      subst this
      refine ⟨loc', by simp [φ'], ⟨hl', hlen, new, e, hnew, hfit, fun i j x a e1 e2 => ?_⟩, hnb⟩
      obtain ⟨v, e3, e4⟩ := hc i j x a e1 e2
      have hx := hone x (List.mem_of_getElem? e1)
      rw [List.all_eq_true] at hx
      exact ⟨hx a (List.mem_of_getElem? e2), v, e3, hadv.rep hs e4⟩
    · by_cases hk2 : k = id
      · subst hk2; simp [h', hkn] at hk
      · have hk' : h k = some b := by simpa [h', hkn, hk2] using hk
        obtain ⟨l, p1, p2, p3⟩ := hs.blk k b hk'
        refine ⟨l, by simp [φ', hkn, p1], p2.adv hadv hs ?_, p3⟩
        have hne : l.blk ≠ loc.blk := fun e => hk2 (hs.inj k id b _ l loc hk' hb p1 hφ e)
        exact hkeep _ p2.lt hne
  · have bd : ∀ k b l, h k = some b → φ k = some l → l.blk < w.heap.size := fun k b l e1 e2 => hs.lt e1 e2
    intro k k' b b' l l' a1 a2 a3 a4 a5
    by_cases hk : k = nx <;> by_cases hk' : k' = nx
    · rw [hk, hk']
    · subst hk
      have hk2 : k' ≠ id := by rintro rfl; simp [h', hk'] at a2
      simp [φ'] at a3; subst a3
      simp [φ', h', hk', hk2] at a2 a4
      rcases hblk with e | e
      · exact absurd (hs.inj k' id b' _ l' loc a2 hb a4 hφ (by rw [← a5, e])) hk2
      · have := bd k' b' l' a2 a4; omega
    · subst hk'
      have hk2 : k ≠ id := by rintro rfl; simp [h', hk] at a1
      simp [φ'] at a4; subst a4
      simp [φ', h', hk, hk2] at a1 a3
      rcases hblk with e | e
      · exact absurd (hs.inj k id b _ l loc a1 hb a3 hφ (by rw [a5, e])) hk2
      · have := bd k b l a1 a3; omega
    · have hk2 : k ≠ id := by rintro rfl; simp [h', hk] at a1
      have hk2' : k' ≠ id := by rintro rfl; simp [h', hk'] at a2
      simp [φ', h', hk, hk2] at a1 a3
      simp [φ', h', hk', hk2'] at a2 a4
      exact hs.inj k k' b b' l l' a1 a2 a3 a4 a5
end ops
end Go.V
