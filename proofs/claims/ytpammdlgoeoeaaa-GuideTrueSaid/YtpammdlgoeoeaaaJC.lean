/- Soundness: slices made, cut, measured, appended to. -/
import Derived.Test.YtpammdlgoeoeaaaJB
import Derived.Laws.Append
set_option linter.unusedVariables false
set_option linter.unusedSimpArgs false
namespace Go.V
open Go.RowKit
variable {P : Program}

section ops
variable {P : Program} {S : Nat → Prop} {φ : Phi} {h : Mem} {H : Heap} {w : World} {env : List AV} {a : Act} {o : Oper} {nx : Nat}
theorem snd_mkS {t e : TypeId} {x y : Operand} {i : TypeInfo} {z : List AV} {ax ay : Arg} {v : AV} {rd : List Nat} {wr : Wr} {nx' : Nat} {T : FuncId → Option IFn} {cb : Cb} (ho : o.op = .makeSlice t x y) (hu : P.underlying t = some (.slice e)) (hi : P.info? e = some i) (hz : zeroK P e = some z) (hx : cOpd x = some ax) (hy : cOpd y = some ay)
    (he : evalOp T cb env H nx (.mkS i.size i.bytes z ax ay) = some (.eff v rd wr nx')) (hs : Sim P S φ h w) (hr : Reps w S φ env a.tmps) (hn : nx < nx' → φ nx = none) : OpOK P o a w (Ends P S φ h w v wr nx nx') := by
  have hv := arg_rep hr hx
  have hvy := arg_rep hr hy
  have hex : execOp a.eval o = (do pure (.value (← Instr.makeSlice t (a.eval x) (a.eval y)))) := by unfold execOp; simp only [ho]
  simp only [evalOp] at he
  split at he
  · rename_i k l k' c e1 e2
    rw [e1] at hv; rw [e2] at hvy
    split at he
    · rename_i hc
      cases he
      obtain ⟨c1, c2, c3, c4, c5⟩ := hc
      obtain ⟨i', zv, h1, h2, h3⟩ := zeroK_spec hz
      rw [hi] at h1; cases h1
      obtain ⟨r1, r2⟩ := zero_rep (w := w) (S := S) (φ := φ) h3
      have hb : (i.bytes : Int) * c ≤ 1099511627776 ∧ c ≤ 1099511627776 := by
        have e : (c + 1) * ((i.bytes : Int) + 1) = i.bytes * c + c + i.bytes + 1 := by rw [Int.add_mul, Int.mul_add, Int.mul_comm c]; omega
        have : 0 ≤ (i.bytes : Int) * c := Int.mul_nonneg (by omega) (by omega)
        omega
      have hrun := run_make (P := P) w t e i zv hu hi h2 k k' l c c1 c2 (by omega) (by omega)
      rw [hv.inv_int, hvy.inv_int] at hex
      have hfl := flat_made r1 c.toNat
      rw [c4] at hfl
      refine opOK_value hex hrun (Flat.new_ends hs (hn (by omega)) hfl (fun q hq => by rw [List.eq_of_mem_replicate hq]; exact c5) l.toNat c.toNat (by simp) (by omega))
    · cases he
  · cases he
theorem bnd_spec {d most n : Nat} {x : Option Operand} {ax : Option Arg} (hx : cOpt x = some ax) (hb : bnd env d most ax = some n) (hr : Reps w S φ env a.tmps) (hd : d ≤ most) :
    n ≤ most ∧ ((x = none ∧ n = d) ∨ ∃ (y : Operand) (k : IntKind) (i : Int), x = some y ∧ a.eval y = .int k i ∧ 0 ≤ i ∧ i ≤ most ∧ n = i.toNat) := by
  cases x with
  | none => cases hx; cases hb; exact ⟨hd, .inl ⟨rfl, rfl⟩⟩
  | some y =>
    simp only [cOpt] at hx
    cases hy : cOpd y with
    | none => simp [hy] at hx
    | some b =>
      simp [hy] at hx; subst hx
      have hv := arg_rep hr hy
      simp only [bnd] at hb
      split at hb
      · rename_i k i e1
        split at hb
        · rename_i hc
          cases hb
          rw [e1] at hv
          exact ⟨by omega, .inr ⟨y, k, i, rfl, hv.inv_int, hc.1, hc.2, rfl⟩⟩
        · cases hb
      · cases hb
theorem run_sliceBound {k : IntKind} {i : Int} {y : Nat} {code : BoundsCode} (h0 : 0 ≤ i) (h1 : i ≤ y) : (Instr.sliceBound (.int k i) y code).run P w = .ok i.toNat w := by
  unfold Instr.sliceBound
  simp only [asIntOf, Sem.run_bind, Sem.run_pure, Result.andThen_ok]
  rw [if_pos ⟨h0, h1⟩]; rfl
theorem run_sliceBounds {len cap l h' : Nat} {lo hi : Option Operand} {alo ahi : Option Arg} (hlo : cOpt lo = some alo) (hhi : cOpt hi = some ahi) (hr : Reps w S φ env a.tmps) (hlc : len ≤ cap) (e1 : bnd env len len ahi = some h') (e2 : bnd env 0 h' alo = some l) :
    (Instr.sliceBounds true len cap (lo.map a.eval) (hi.map a.eval) none).run P w = .ok (l, h', cap) w ∧ l ≤ h' ∧ h' ≤ len := by
  obtain ⟨b1, b2⟩ := bnd_spec hhi e1 hr (Nat.le_refl _)
  obtain ⟨b3, b4⟩ := bnd_spec hlo e2 hr (Nat.zero_le _)
  refine ⟨?_, b3, b1⟩
  unfold Instr.sliceBounds
  rcases b2 with ⟨rfl, rfl⟩ | ⟨y, k, i, rfl, q1, q2, q3, rfl⟩ <;> rcases b4 with ⟨rfl, rfl⟩ | ⟨y', k', i', rfl, q1', q2', q3', rfl⟩
  · simp
  · have e4 := run_sliceBound (P := P) (w := w) (k := k') (code := .sliceB) q2' q3'
    simp [q1', e4]
  · have e3 := run_sliceBound (P := P) (w := w) (k := k) (y := cap) (code := .sliceAcap) q2 (by omega)
    simp [q1, e3]
  · have e3 := run_sliceBound (P := P) (w := w) (k := k) (y := cap) (code := .sliceAcap) q2 (by omega)
    have e4 := run_sliceBound (P := P) (w := w) (k := k') (code := .sliceB) q2' q3'
    simp [q1, e3, q1', e4]
theorem LstAt.sub {sz l n b base : Nat} {xs : List (List AV)} (hl : LstAt w S sz xs b base) : LstAt w S sz ((xs.drop l).take n) b (base + l * sz) := by
  refine ⟨fun x hx => hl.1 x (List.mem_of_mem_drop (List.mem_of_mem_take hx)), hl.2.1, fun i j x c e1 e2 => ?_⟩
  rw [List.getElem?_take] at e1
  split at e1
  · rw [List.getElem?_drop] at e1
    obtain ⟨v, r1, r2⟩ := hl.2.2 (l + i) j x c e1 e2
    refine ⟨v, ?_, r2⟩
    rw [mul_add'] at r1; exact r1
  · cases e1
theorem snd_sl {t e : TypeId} {x : Operand} {lo hi : Option Operand} {alo ahi : Option Arg} {n : Nat} {ax : Arg} {v : AV} {rd : List Nat} {wr : Wr} {nx' : Nat} {T : FuncId → Option IFn} {cb : Cb} (ho : o.op = .slice t x lo hi none) (hu : P.underlying t = some (.slice e)) (hk : sizeK P e = some n) (hx : cOpd x = some ax) (hlo : cOpt lo = some alo) (hhi : cOpt hi = some ahi)
    (he : evalOp T cb env H nx (.sl n ax alo ahi) = some (.eff v rd wr nx')) (hrd : ∀ id ∈ rd, h id = hget H id) (hs : Sim P S φ h w) (hr : Reps w S φ env a.tmps) : OpOK P o a w (Ends P S φ h w v wr nx nx') := by
  have hv := arg_rep hr hx
  have hex : execOp a.eval o = (do pure (.value (← Instr.sliceAt t (a.eval x) (lo.map a.eval) (hi.map a.eval) none))) := by unfold execOp; simp only [ho]; rfl
  have hrun : ∀ (base : Option Addr) len cap l h', len ≤ cap → a.eval x = .slice base len cap → bnd env len len ahi = some h' → bnd env 0 h' alo = some l →
      (Instr.sliceAt t (a.eval x) (lo.map a.eval) (hi.map a.eval) none).run P w = .ok (.slice (if cap = l then base else base.map (·.add (l * n))) (h' - l) (cap - l)) w ∧ l ≤ h' ∧ h' ≤ len := by
    intro base len cap l h' hlc e1 e2 e3
    obtain ⟨r1, r2, r3⟩ := run_sliceBounds (P := P) hlo hhi hr hlc e2 e3
    refine ⟨?_, r2, r3⟩
    simp only [Instr.sliceAt, Sem.run_bind, run_underlying hu, Result.andThen_ok, Instr.slice, e1, r1, run_sizeK hk]
    rfl
  simp only [evalOp] at he
  split at he
  · rename_i sz xs e1
    rw [e1] at hv
    split at he
    · rename_i hsz
      subst hsz
      cases e2 : bnd env xs.length xs.length ahi with
      | none => simp [e2] at he
      | some h' =>
        cases e3 : bnd env 0 h' alo with
        | none => simp [e2, e3] at he
        | some l =>
          simp only [e2, e3, Option.bind_some, Option.map_some, Option.some.injEq, OpR.eff.injEq] at he
          obtain ⟨rfl, rfl, rfl, rfl⟩ := he
          obtain ⟨aa, cap, f1, f0, f2⟩ := hv.inv_lst
          obtain ⟨r1, r2, r3⟩ := hrun aa xs.length cap l h' f0 f1 e2 e3
          refine opOK_value hex r1 (ends_pure hs ?_)
          have hlen : ((xs.drop l).take (h' - l)).length = h' - l := by simp; omega
          split
          · rename_i hc
            rcases f2 with f2 | ⟨b, base, rfl, f2⟩
            · subst f2
              have : h' = 0 := by simp at r3; omega
              subst this
              have hl0 : l = 0 := by omega
              subst hl0
              simp only [List.drop_nil, List.take_nil, Nat.sub_self]
              exact .lstNil
            · have hadd : (if cap = l then (some ⟨b, base, none⟩ : Option Addr) else (some (⟨b, base, none⟩ : Addr)).map (·.add (l * sz))) = some ⟨b, base + l * sz, none⟩ := by
                split
                · rename_i hcl
                  have : l = 0 := by
                    rcases hc with hc | hc
                    · have : xs.length = 0 := by rw [List.isEmpty_iff.1 hc]; rfl
                      omega
                    · omega
                  subst this; simp
                · simp [add_none]
              rw [hadd]
              have := (f2.sub (l := l) (n := h' - l)).lst (φ := φ) (cap := cap - l) (by rw [hlen]; omega)
              rwa [hlen] at this
          · rename_i hc
            have h0 : h' - l = 0 := by
              have : ¬ l < h' := fun x => hc (.inr x)
              omega
            rw [h0]
            rcases f2 with f2 | ⟨b, base, rfl, f2⟩
            · subst f2; exact absurd (.inl rfl) hc
            · split
              · exact .emp (by simp)
              · exact .emp (by simp)
    · cases he
  · rename_i id off len e1
    rw [e1] at hv
    split at he
    · rename_i sz xs e2
      split at he
      · rename_i hsz
        subst hsz
        cases e3 : bnd env len len ahi with
        | none => simp [e3] at he
        | some h' =>
          cases e4 : bnd env 0 h' alo with
          | none => simp [e3, e4] at he
          | some l =>
            simp only [e3, e4, Option.bind_some, Option.map_some, Option.some.injEq, OpR.eff.injEq] at he
            obtain ⟨rfl, rfl, rfl, rfl⟩ := he
            have hb : h id = some (.row sz xs) := by rw [hrd id (by simp)]; exact e2
            obtain ⟨loc, cap, e', n', hφ, hsh, hn', hlc, hval⟩ := hv.inv_own
            obtain ⟨loc', g1, g2, g3⟩ := hs.blk id _ hb
            rw [hφ] at g1; cases g1
            have hls : loc.sz = sz := g2.1
            obtain ⟨r1, r2, r3⟩ := hrun _ len cap l h' hlc hval e3 e4
            refine opOK_value hex r1 (ends_pure hs ?_)
            split
            · rename_i hc
              have hadd : (if cap = l then (some ⟨loc.blk, loc.base + off * loc.sz, none⟩ : Option Addr) else (some (⟨loc.blk, loc.base + off * loc.sz, none⟩ : Addr)).map (·.add (l * sz))) = some ⟨loc.blk, loc.base + (off + l) * loc.sz, none⟩ := by
                split
                · rename_i hcl
                  have : l = 0 := by omega
                  subst this; simp
                · simp only [Option.map_some, add_none, mul_add', hls]
              rw [hadd]
              exact .own hφ hsh (by rw [show off + l + (cap - l) = off + cap by omega]; exact hn') (by omega)
            · rename_i hc
              have h0 : h' - l = 0 := by omega
              rw [h0]
              split
              · exact .emp (by simp)
              · exact .emp (by simp)
      · cases he
    · cases he
  · rename_i z e1
    rw [e1] at hv
    obtain ⟨aa, cap, hval, hz⟩ := hv.inv_emp
    cases e3 : bnd env 0 0 ahi with
    | none => simp [e3] at he
    | some h' =>
      cases e4 : bnd env 0 h' alo with
      | none => simp [e3, e4] at he
      | some l =>
        simp only [e3, e4, Option.bind_some, Option.map_some, Option.some.injEq, OpR.eff.injEq] at he
        obtain ⟨rfl, rfl, rfl, rfl⟩ := he
        obtain ⟨r1, r2, r3⟩ := hrun (some aa) 0 cap l h' (Nat.zero_le _) hval e3 e4
        refine opOK_value hex r1 (ends_pure hs ?_)
        have hh : h' = 0 := by omega
        subst hh
        have hl0 : l = 0 := by omega
        subst hl0
        split
        · exact .emp (fun e => by have := hz e; omega)
        · exact .emp (fun e => by have := hz e; omega)
  · rename_i e1
    rw [e1] at hv
    cases e3 : bnd env 0 0 ahi with
    | none => simp [e3] at he
    | some h' =>
      cases e4 : bnd env 0 h' alo with
      | none => simp [e3, e4] at he
      | some l =>
        simp only [e3, e4, Option.bind_some, Option.map_some, Option.some.injEq, OpR.eff.injEq] at he
        obtain ⟨rfl, rfl, rfl, rfl⟩ := he
        have hval : a.eval x = .slice none 0 0 := by
          generalize a.eval x = q at hv
          cases hv; rfl
        obtain ⟨r1, r2, r3⟩ := hrun none 0 0 l h' (Nat.le_refl _) hval e3 e4
        refine opOK_value hex r1 (ends_pure hs ?_)
        have hh : h' = 0 := by omega
        subst hh
        have hl0 : l = 0 := by omega
        subst hl0
        exact .nilS
  · cases he

theorem run_sliceBounds3 {len cap l h' m : Nat} {lo : Option Operand} {hi mx : Operand} {alo : Option Arg} {ahi amx : Arg} (hlo : cOpt lo = some alo) (hhi : cOpd hi = some ahi) (hmx : cOpd mx = some amx) (hr : Reps w S φ env a.tmps) (hlc : len ≤ cap) (e0 : bnd env 0 len (some amx) = some m) (e1 : bnd env 0 m (some ahi) = some h') (e2 : bnd env 0 h' alo = some l) :
    (Instr.sliceBounds true len cap (lo.map a.eval) (some (a.eval hi)) (some (a.eval mx))).run P w = .ok (l, h', m) w ∧ l ≤ h' ∧ h' ≤ m ∧ m ≤ len := by
  obtain ⟨b5, b6⟩ := bnd_spec (x := some mx) (by simp [cOpt, hmx]) e0 hr (Nat.zero_le _)
  obtain ⟨b1, b2⟩ := bnd_spec (x := some hi) (by simp [cOpt, hhi]) e1 hr (Nat.zero_le _)
  obtain ⟨b3, b4⟩ := bnd_spec hlo e2 hr (Nat.zero_le _)
  refine ⟨?_, b3, b1, b5⟩
  rcases b6 with ⟨e, -⟩ | ⟨y0, k0, i0, e, q10, q20, q30, rfl⟩
  · cases e
  · cases e
    have f0 := run_sliceBound (P := P) (w := w) (k := k0) (y := cap) (code := .slice3Acap) q20 (by omega)
    rcases b2 with ⟨e, -⟩ | ⟨y1, k1, i1, e, q11, q21, q31, rfl⟩
    · cases e
    · cases e
      have f1 := run_sliceBound (P := P) (w := w) (k := k1) (code := .slice3B) q21 q31
      unfold Instr.sliceBounds
      rcases b4 with ⟨rfl, rfl⟩ | ⟨y', k', i', rfl, q1', q2', q3', rfl⟩
      · simp [q10, q11, f0, f1]
      · have f2 := run_sliceBound (P := P) (w := w) (k := k') (code := .slice3C) q2' q3'
        simp [q10, q11, q1', f0, f1, f2]
theorem snd_sl3 {t e : TypeId} {x hi mx : Operand} {lo : Option Operand} {alo : Option Arg} {n : Nat} {ax ahi amx : Arg} {v : AV} {rd : List Nat} {wr : Wr} {nx' : Nat} {T : FuncId → Option IFn} {cb : Cb} (ho : o.op = .slice t x lo (some hi) (some mx)) (hu : P.underlying t = some (.slice e)) (hk : sizeK P e = some n) (hx : cOpd x = some ax) (hlo : cOpt lo = some alo) (hhi : cOpd hi = some ahi) (hmx : cOpd mx = some amx)
    (he : evalOp T cb env H nx (.sl3 n ax alo ahi amx) = some (.eff v rd wr nx')) (hrd : ∀ id ∈ rd, h id = hget H id) (hs : Sim P S φ h w) (hr : Reps w S φ env a.tmps) : OpOK P o a w (Ends P S φ h w v wr nx nx') := by
  have hv := arg_rep hr hx
  have hex : execOp a.eval o = (do pure (.value (← Instr.sliceAt t (a.eval x) (lo.map a.eval) (some (a.eval hi)) (some (a.eval mx))))) := by unfold execOp; simp only [ho]; rfl
  have hrun : ∀ (base : Option Addr) len cap l h' m, len ≤ cap → a.eval x = .slice base len cap → bnd env 0 len (some amx) = some m → bnd env 0 m (some ahi) = some h' → bnd env 0 h' alo = some l →
      (Instr.sliceAt t (a.eval x) (lo.map a.eval) (some (a.eval hi)) (some (a.eval mx))).run P w = .ok (.slice (if m = l then base else base.map (·.add (l * n))) (h' - l) (m - l)) w ∧ l ≤ h' ∧ h' ≤ m ∧ m ≤ len := by
    intro base len cap l h' m hlc e1 e0 e2 e3
    obtain ⟨r1, r2, r3⟩ := run_sliceBounds3 (P := P) hlo hhi hmx hr hlc e0 e2 e3
    refine ⟨?_, r2, r3⟩
    simp only [Instr.sliceAt, Sem.run_bind, run_underlying hu, Result.andThen_ok, Instr.slice, e1, r1, run_sizeK hk]
    rfl
  have spl : ∀ {len : Nat} {f : Nat → Nat → Nat → OpR}, ((bnd env 0 len (some amx)).bind fun m => (bnd env 0 m (some ahi)).bind fun h => (bnd env 0 h alo).map fun l => f m h l) = some (.eff v rd wr nx') →
      ∃ m h' l, bnd env 0 len (some amx) = some m ∧ bnd env 0 m (some ahi) = some h' ∧ bnd env 0 h' alo = some l ∧ f m h' l = .eff v rd wr nx' := by
    intro len f hf
    cases e2 : bnd env 0 len (some amx) with
    | none => simp [e2] at hf
    | some m =>
      cases e3 : bnd env 0 m (some ahi) with
      | none => simp [e2, e3] at hf
      | some h' =>
        cases e4 : bnd env 0 h' alo with
        | none => simp [e2, e3, e4] at hf
        | some l => simp [e2, e3, e4] at hf; exact ⟨m, h', l, rfl, e3, e4, hf⟩
  have emp_ok : ∀ {base : Addr} {l h' m : Nat}, l ≤ h' → h' ≤ m → ¬ l < h' → Rep w S φ (.emp (m == l)) (.slice (if m = l then some base else (some base : Option Addr).map (·.add (l * n))) (h' - l) (m - l)) := by
    intro base l h' m c1 c2 c3
    have h0 : h' - l = 0 := by omega
    rw [h0]
    by_cases hml : m = l
    · rw [if_pos hml]; exact .emp (fun _ => by omega)
    · rw [if_neg hml]; exact .emp (fun e => by simp at e; omega)
  simp only [evalOp] at he
  split at he
  · rename_i sz xs e1
    rw [e1] at hv
    split at he
    · rename_i hsz
      subst hsz
      obtain ⟨m, h', l, e2, e3, e4, he⟩ := spl he
      cases he
      obtain ⟨aa, cap, f1, f0, f2⟩ := hv.inv_lst
      obtain ⟨r1, r2, r3, r4⟩ := hrun aa xs.length cap l h' m f0 f1 e2 e3 e4
      refine opOK_value hex r1 (ends_pure hs ?_)
      rcases f2 with f2 | ⟨b, base, rfl, f2⟩
      · subst f2
        have hm : m = 0 := by simp at r4; omega
        subst hm
        have hh : h' = 0 := by omega
        subst hh
        have hl0 : l = 0 := by omega
        subst hl0
        exact .lstNil
      · by_cases hxe : xs.isEmpty = true
        · rw [if_pos hxe]
          have : xs = [] := by simpa using hxe
          subst this
          have hm : m = 0 := by simp at r4; omega
          subst hm
          have hh : h' = 0 := by omega
          subst hh
          have hl0 : l = 0 := by omega
          subst hl0
          exact .lstNil
        · rw [if_neg hxe]
          by_cases hc : l < h'
          · rw [if_pos hc, if_neg (by omega)]
            have hlen : ((xs.drop l).take (h' - l)).length = h' - l := by simp; omega
            have := (f2.sub (l := l) (n := h' - l)).lst (φ := φ) (cap := m - l) (by rw [hlen]; omega)
            rw [hlen] at this
            simpa [add_none] using this
          · rw [if_neg hc]; exact emp_ok r2 r3 hc
    · cases he
  · rename_i id off len e1
    rw [e1] at hv
    split at he
    · rename_i sz xs e2
      split at he
      · rename_i hsz
        subst hsz
        obtain ⟨m, h', l, e3, e4, e5, he⟩ := spl he
        cases he
        have hb : h id = some (.row sz xs) := by rw [hrd id (by simp)]; exact e2
        obtain ⟨loc, cap, e', n', hφ, hsh, hn', hlc, hval⟩ := hv.inv_own
        obtain ⟨loc', g1, g2, g3⟩ := hs.blk id _ hb
        rw [hφ] at g1; cases g1
        have hls : loc.sz = sz := g2.1
        obtain ⟨r1, r2, r3, r4⟩ := hrun _ len cap l h' m hlc hval e3 e4 e5
        refine opOK_value hex r1 (ends_pure hs ?_)
        by_cases hc : l < h'
        · rw [if_pos hc, if_neg (by omega)]
          have hadd : (some (⟨loc.blk, loc.base + off * loc.sz, none⟩ : Addr)).map (·.add (l * sz)) = some ⟨loc.blk, loc.base + (off + l) * loc.sz, none⟩ := by
            simp only [Option.map_some, add_none, mul_add', hls]
          rw [hadd]
          refine .own hφ hsh ?_ (by omega)
          have : (off + l + (m - l)) * loc.sz ≤ (off + cap) * loc.sz := Nat.mul_le_mul_right _ (by omega)
          omega
        · rw [if_neg hc]; exact emp_ok r2 r3 hc
      · cases he
    · cases he
  · rename_i z e1
    rw [e1] at hv
    obtain ⟨aa, cap, hval, hz⟩ := hv.inv_emp
    obtain ⟨m, h', l, e3, e4, e5, he⟩ := spl he
    cases he
    obtain ⟨r1, r2, r3, r4⟩ := hrun (some aa) 0 cap l h' m (Nat.zero_le _) hval e3 e4 e5
    refine opOK_value hex r1 (ends_pure hs ?_)
    have hm : m = 0 := by omega
    subst hm
    have hh : h' = 0 := by omega
    subst hh
    have hl0 : l = 0 := by omega
    subst hl0
    exact .emp (fun _ => rfl)
  · rename_i e1
    rw [e1] at hv
    obtain ⟨m, h', l, e3, e4, e5, he⟩ := spl he
    cases he
    have hval : a.eval x = .slice none 0 0 := by
      generalize a.eval x = q at hv
      cases hv; rfl
    obtain ⟨r1, r2, r3, r4⟩ := hrun none 0 0 l h' m (Nat.le_refl _) hval e3 e4 e5
    refine opOK_value hex r1 (ends_pure hs ?_)
    have hm : m = 0 := by omega
    subst hm
    have hh : h' = 0 := by omega
    subst hh
    have hl0 : l = 0 := by omega
    subst hl0
    exact .nilS
  · cases he

/-! Built-in functions -/
theorem builtin_exec {c : Call} {b : Builtin} (ho : o.op = .call c) (hc : c.callee = .builtin b) : ∃ consts, (execOp a.eval o) = (do let d ← (pure { target := .builtin b c.argTypes o.type consts, args := c.args.map a.eval } : Sem Deferred); invoke d.target d.args) := by
  unfold execOp
  simp only [ho, resolve, hc]
  exact ⟨_, rfl⟩
theorem snd_len {c : Call} {x : Operand} {ax : Arg} {t : TypeId} {e : TypeId} {v : AV} {rd : List Nat} {wr : Wr} {nx' : Nat} {T : FuncId → Option IFn} {cb : Cb} (ho : o.op = .call c) (hc : c.callee = .builtin .len) (hargs : c.args = #[x]) (ht : c.argTypes[0]? = some t) (hu : P.underlying t = some (.slice e)) (hx : cOpd x = some ax)
    (he : evalOp T cb env H nx (.lenS ax) = some (.eff v rd wr nx')) (hs : Sim P S φ h w) (hr : Reps w S φ env a.tmps) : OpOK P o a w (Ends P S φ h w v wr nx nx') := by
  have hv := arg_rep hr hx
  obtain ⟨consts, hex⟩ := builtin_exec (a := a) ho hc
  have key : ∀ base len cap, a.eval x = .slice base len cap → OpOK P o a w (Ends P S φ h w (.int .i64 len) [] nx nx) := fun base len cap e =>
    .inl ⟨.int .i64 len, w, by rw [hex]; simp [invoke, builtin, hargs, Builtin.len_, ht, run_underlying hu, e, goInt], ends_pure hs .int⟩
  simp only [evalOp] at he
  split at he
  · rename_i sz xs e1; cases he; rw [e1] at hv; obtain ⟨aa, cap, f1, -, -⟩ := hv.inv_lst; exact key _ _ _ f1
  · rename_i id off len e1; cases he; rw [e1] at hv; obtain ⟨loc, cap, -, -, -, -, -, -, f1⟩ := hv.inv_own; exact key _ _ _ f1
  · rename_i e1; cases he; rw [e1] at hv
    refine key none 0 0 ?_
    generalize a.eval x = q at hv
    cases hv; rfl
  · rename_i e1; cases he; rw [e1] at hv; obtain ⟨aa, cap, f1, -⟩ := hv.inv_emp; exact key _ _ _ f1
  · cases he
theorem snd_cap {c : Call} {x : Operand} {ax : Arg} {t : TypeId} {e : TypeId} {v : AV} {rd : List Nat} {wr : Wr} {nx' : Nat} {T : FuncId → Option IFn} {cb : Cb} (ho : o.op = .call c) (hc : c.callee = .builtin .cap) (hargs : c.args = #[x]) (ht : c.argTypes[0]? = some t) (hu : P.underlying t = some (.slice e)) (hx : cOpd x = some ax)
    (he : evalOp T cb env H nx (.capS ax) = some (.eff v rd wr nx')) (hs : Sim P S φ h w) (hr : Reps w S φ env a.tmps) : OpOK P o a w (Ends P S φ h w v wr nx nx') := by
  have hv := arg_rep hr hx
  obtain ⟨consts, hex⟩ := builtin_exec (a := a) ho hc
  have key : ∀ base len cap, a.eval x = .slice base len cap → OpOK P o a w (Ends P S φ h w (.int .i64 cap) [] nx nx) := fun base len cap e =>
    .inl ⟨.int .i64 cap, w, by rw [hex]; simp [invoke, builtin, hargs, Builtin.cap_, ht, run_underlying hu, e, goInt], ends_pure hs .int⟩
  simp only [evalOp] at he
  split at he
  · rename_i e1; cases he; rw [e1] at hv
    refine key none 0 0 ?_
    generalize a.eval x = q at hv
    cases hv; rfl
  · rename_i e1; cases he; rw [e1] at hv; obtain ⟨aa, cap, f1, f2⟩ := hv.inv_emp
    have := f2 rfl; subst this
    exact key _ _ _ f1
  · cases he
theorem snd_lenC {c : Call} {x : Operand} {n : Nat} {t e : TypeId} (ho : o.op = .call c) (hc : c.callee = .builtin .len) (hargs : c.args = #[x]) (ht : c.argTypes[0]? = some t) (hu : P.underlying t = some (.array n e)) (hs : Sim P S φ h w) : OpOK P o a w (Ends P S φ h w (.int .i64 n) [] nx nx) := by
  obtain ⟨consts, hex⟩ := builtin_exec (a := a) ho hc
  exact .inl ⟨.int .i64 n, w, by rw [hex]; simp [invoke, builtin, hargs, Builtin.len_, ht, run_underlying hu, goInt], ends_pure hs .int⟩
theorem mxA_rep {mx : Bool} {x y z : AV} {vx vy : Value} (h1 : Rep w S φ x vx) (h2 : Rep w S φ y vy) (he : mxA mx x y = some z) : ∃ vz, (if mx then Builtin.max2 vx vy else Builtin.min2 vx vy).run P w = .ok vz w ∧ Rep w S φ z vz := by
  unfold mxA at he
  split at he
  · cases he
    rw [h1.inv_int, h2.inv_int]
    cases mx
    · exact ⟨_, rfl, .int⟩
    · exact ⟨_, rfl, .int⟩
  · cases he
theorem mxL_rep {mx : Bool} : ∀ {ys : List AV} {vs : List Value} {x z : AV} {vx : Value}, Rep w S φ x vx → Reps w S φ ys vs.toArray → mxL mx x ys = some z → ∃ vz, (vs.foldlM (if mx then Builtin.max2 else Builtin.min2) vx).run P w = .ok vz w ∧ Rep w S φ z vz
  | [], vs, x, z, vx, h1, h2, he => by
    have : vs = [] := by have := h2.1; simpa using this
    subst this
    cases he
    exact ⟨vx, rfl, h1⟩
  | y :: ys, vs, x, z, vx, h1, h2, he => by
    cases vs with
    | nil => have := h2.1; simp at this
    | cons vy vs =>
      simp only [mxL] at he
      cases e1 : mxA mx x y with
      | none => simp [e1] at he
      | some u =>
        simp [e1] at he
        obtain ⟨vu, r1, r2⟩ := mxA_rep (P := P) h1 (h2.2 0 y vy (by simp) (by simp)) e1
        obtain ⟨vz, r3, r4⟩ := mxL_rep (mx := mx) r2 (vs := vs) ⟨by have := h2.1; simpa using this, fun i c v q1 q2 => h2.2 (i + 1) c v (by simpa using q1) (by simpa using q2)⟩ he
        refine ⟨vz, ?_, r4⟩
        have r1' : ((if mx then Builtin.max2 else Builtin.min2) vx vy).run P w = .ok vu w := by cases mx <;> exact r1
        rw [List.foldlM_cons, Sem.run_bind, r1']
        exact r3
theorem snd_mx {c : Call} {mx : Bool} {as : List Arg} {v : AV} {rd : List Nat} {wr : Wr} {nx' : Nat} {T : FuncId → Option IFn} {cb : Cb} (ho : o.op = .call c) (hc : c.callee = .builtin (if mx then .max else .min)) (hargs : cOpds c.args.toList = some as)
    (he : evalOp T cb env H nx (.mx mx as) = some (.eff v rd wr nx')) (hs : Sim P S φ h w) (hr : Reps w S φ env a.tmps) : OpOK P o a w (Ends P S φ h w v wr nx nx') := by
  obtain ⟨consts, hex⟩ := builtin_exec (a := a) ho hc
  have hrs := args_rep hr hargs
  simp only [evalOp] at he
  cases as with
  | nil => simp at he
  | cons x xs =>
    cases e1 : mxL mx (arg env x) (xs.map (arg env)) with
    | none => simp [e1] at he
    | some z =>
      simp [e1] at he
      obtain ⟨rfl, rfl, rfl, rfl⟩ := he
      cases hl : c.args.toList with
      | nil => rw [hl] at hrs; have := hrs.1; simp at this
      | cons p ps =>
        rw [hl] at hrs
        obtain ⟨vz, r1, r2⟩ := mxL_rep (P := P) (mx := mx) (vs := ps.map a.eval) (hrs.2 0 _ (a.eval p) (by simp) (by simp)) ⟨by have := hrs.1; simpa using this, fun i c v q1 q2 => hrs.2 (i + 1) c v (by simpa using q1) (by simpa using q2)⟩ e1
        refine .inl ⟨vz, w, ?_, ends_pure hs r2⟩
        rw [hex]
        have hl2 : (c.args.map a.eval).toList = a.eval p :: ps.map a.eval := by rw [Array.toList_map, hl]; rfl
        cases mx
        · have hx : (Builtin.min_ c.argTypes o.type (c.args.map a.eval)).run P w = .ok vz w := by
            unfold Builtin.min_; rw [hl2]; exact r1
          have hc' : c.callee = .builtin .min := hc
          simp [invoke, builtin, hx, hc']
        · have hx : (Builtin.max_ c.argTypes o.type (c.args.map a.eval)).run P w = .ok vz w := by
            unfold Builtin.max_; rw [hl2]; exact r1
          simp [invoke, builtin, hx]
end ops
end Go.V
/- Soundness: append. -/
set_option linter.unusedVariables false
set_option linter.unusedSimpArgs false
namespace Go.V
open Go.RowKit
variable {P : Program}

section ops
variable {P : Program} {S : Nat → Prop} {φ : Phi} {h : Mem} {H : Heap} {w : World} {env : List AV} {a : Act} {o : Oper} {nx : Nat}
/-- So many elements that lie in memory, read. -/
theorem run_cells {sz b base : Nat} {xs : List (List AV)} (hl : ∀ x ∈ xs, x.length = sz) (hc : ∀ (i j : Nat) x c, xs[i]? = some x → x[j]? = some c → ∃ v, w.cell? ⟨b, base + i * sz + j, none⟩ = some v ∧ Rep w S φ c v) :
    ∃ c, (loadCells ⟨b, base, none⟩ (xs.length * sz)).run P w = .ok c w ∧ Flat w S φ sz xs c := by
  let f : Nat → Value := fun k => (w.cell? ((⟨b, base, none⟩ : Addr).add k)).getD undef
  have split : ∀ k, k < xs.length * sz → 0 < sz ∧ k / sz < xs.length ∧ k % sz < sz ∧ k / sz * sz + k % sz = k := fun k hk => by
    have h0 : 0 < sz := by
      rcases Nat.eq_zero_or_pos sz with e | e
      · subst e; simp at hk
      · exact e
    exact ⟨h0, Nat.div_lt_of_lt_mul (by rw [Nat.mul_comm]; exact hk), Nat.mod_lt _ h0, Nat.div_add_mod' k sz⟩
  have hf : ∀ k, k < xs.length * sz → w.cell? ((⟨b, base, none⟩ : Addr).add k) = some (f k) := fun k hk => by
    obtain ⟨h0, h1, h2, h3⟩ := split k hk
    have hx : xs[k / sz]? = some xs[k / sz] := by simp [h1]
    have hlen := hl xs[k / sz] (List.getElem_mem h1)
    have hj : k % sz < xs[k / sz].length := by omega
    obtain ⟨v, e1, -⟩ := hc (k / sz) (k % sz) _ (xs[k / sz][k % sz]) hx (by simp [hj])
    show _ = some ((w.cell? _).getD undef)
    rw [add_none]
    rw [Nat.add_assoc, h3] at e1
    rw [e1]; rfl
  refine ⟨_, run_loadCells (P := P) w ⟨b, base, none⟩ (xs.length * sz) f hf, by simp, hl, fun i j x c e1 e2 => ?_⟩
  obtain ⟨v, e3, e4⟩ := hc i j x c e1 e2
  refine ⟨v, ?_, e4⟩
  have hi : i < xs.length := by
    rcases Nat.lt_or_ge i xs.length with h' | h'
    · exact h'
    · rw [List.getElem?_eq_none h'] at e1; cases e1
  have hj : j < sz := by
    have := hl x (List.mem_of_getElem? e1)
    rcases Nat.lt_or_ge j x.length with h' | h'
    · omega
    · rw [List.getElem?_eq_none h'] at e2; cases e2
  have hlt := cell_lt hi hj
  have hfk : f (i * sz + j) = v := by
    show (w.cell? _).getD undef = v
    rw [add_none, ← Nat.add_assoc, e3]; rfl
  simp [hlt, hfk]
theorem SimBlk.sub {loc : Loc} {sz off len : Nat} {xs : List (List AV)} (hb : SimBlk P w S φ loc (.row sz xs)) :
    (∀ x ∈ (xs.drop off).take len, x.length = sz) ∧ ∀ (i j : Nat) x c, ((xs.drop off).take len)[i]? = some x → x[j]? = some c → c.one = true ∧ ∃ v, w.cell? ⟨loc.blk, loc.base + off * loc.sz + i * sz + j, none⟩ = some v ∧ Rep w S φ c v := by
  refine ⟨fun x hx => hb.2.1 x (List.mem_of_mem_drop (List.mem_of_mem_take hx)), fun i j x c e1 e2 => ?_⟩
  rw [List.getElem?_take] at e1
  split at e1
  · rw [List.getElem?_drop] at e1
    obtain ⟨v, r1, r2⟩ := hb.cells e1 j c e2
    obtain ⟨f1, f2, cs, e, f3, f4, f5⟩ := hb
    refine ⟨(f5 _ j x c e1 e2).1, v, ?_, r2⟩
    rw [mul_add'] at r1
    rw [f1] at r1 ⊢; exact r1
  · cases e1
theorem noPhi {a : AV} {v : Value} (hr : Rep w S (fun _ => none) a v) : Rep w S φ a v := hr.mono (fun _ e => e) (fun _ _ => rfl) (fun _ _ _ e => e) (fun _ _ e => by cases e)
theorem run_first0 (sz : Nat) (b : Option Addr) (cap : Nat) (w : World) : (Builtin.firstCells sz 0 (.slice b 0 cap)).run P w = .ok #[] w := by
  cases b with
  | none => rfl
  | some b =>
    have := run_loadCells (P := P) w b (0 * sz) (fun _ => undef) (fun k hk => by simp at hk)
    simp only [Builtin.firstCells]
    rw [this]; simp
theorem elems_rep {sz : Nat} {y : AV} {v : Value} {ys : List (List AV)} {rd : List Nat} (he : elems H sz y = some (ys, rd)) (hrd : ∀ id ∈ rd, h id = hget H id) (hs : Sim P S φ h w) (hv : Rep w S φ y v) :
    ∃ b cap, v = .slice b ys.length cap ∧ ∃ c, (Builtin.firstCells sz ys.length v).run P w = .ok c w ∧ Flat w S φ sz ys c := by
  unfold elems at he
  split at he
  · cases he
    refine ⟨none, 0, ?_, #[], ?_, by simp, by simp, by simp⟩
    · generalize v = q at hv; cases hv; rfl
    · generalize v = q at hv; cases hv; rfl
  · cases he
    obtain ⟨aa, cap, f1, -⟩ := hv.inv_emp
    exact ⟨some aa, cap, f1, #[], by rw [f1]; exact run_first0 _ _ _ _, by simp, by simp, by simp⟩
  · rename_i s xs
    split at he
    · rename_i hsz
      cases he
      subst hsz
      obtain ⟨aa, cap, f1, f0, f2⟩ := hv.inv_lst
      refine ⟨aa, cap, f1, ?_⟩
      rcases f2 with f2 | ⟨b, base, rfl, f2⟩
      · subst f2
        refine ⟨#[], ?_, by simp, by simp, by simp⟩
        rw [f1]
        cases aa with
        | none => rfl
        | some aa => simp [Builtin.firstCells, loadCells, loadCellsFrom]
      · rw [f1]
        exact run_cells (fun x hx => (f2.1 x hx).1) (fun i j x c e1 e2 => by obtain ⟨v, r1, r2⟩ := f2.2.2 i j x c e1 e2; exact ⟨v, r1, noPhi r2⟩)
    · cases he
  · rename_i id off len
    split at he
    · rename_i s xs e1
      split at he
      · rename_i hc
        obtain ⟨hsz, hle⟩ := hc
        cases he
        subst hsz
        have hb : h id = some (.row s xs) := by rw [hrd id (by simp)]; exact e1
        obtain ⟨loc, cap, e', n', hφ, hsh, hn', hlc, hval⟩ := hv.inv_own
        obtain ⟨loc', g1, g2, g3⟩ := hs.blk id _ hb
        rw [hφ] at g1; cases g1
        have hlen : ((xs.drop off).take len).length = len := by simp; omega
        obtain ⟨q1, q2⟩ := g2.sub (off := off) (len := len)
        refine ⟨_, cap, by rw [hlen]; exact hval, ?_⟩
        rw [hval]
        exact run_cells q1 (fun i j x c e1 e2 => (q2 i j x c e1 e2).2)
      · cases he
    · cases he
  · cases he
theorem elems_one {sz : Nat} {y : AV} {ys : List (List AV)} {rd : List Nat} {v : Value} (he : elems H sz y = some (ys, rd)) (hrd : ∀ id ∈ rd, h id = hget H id) (hs : Sim P S φ h w) (hv : Rep w S φ y v) : ∀ x ∈ ys, x.all AV.one = true := by
  unfold elems at he
  split at he
  · cases he; simp
  · cases he; simp
  · rename_i s xs'
    split at he
    · rename_i hsz; cases he; subst hsz
      obtain ⟨aa, cap, f1, f0, f2⟩ := hv.inv_lst
      rcases f2 with f2 | ⟨b, base, rfl, f2⟩
      · subst f2; simp
      · exact fun x hx => (f2.1 x hx).2
    · cases he
  · rename_i id off len
    split at he
    · rename_i s xs e1
      split at he
      · rename_i hc
        cases he
        have hb : h id = some (.row s xs) := by rw [hrd id (by simp)]; exact e1
        obtain ⟨loc', g1, g2, g3⟩ := hs.blk id _ hb
        obtain ⟨q1, q2⟩ := g2.sub (off := off) (len := len)
        intro x hx
        obtain ⟨i, hi, rfl⟩ := List.getElem_of_mem hx
        rw [List.all_eq_true]
        intro c hc
        obtain ⟨j, hj, rfl⟩ := List.getElem_of_mem hc
        exact (q2 i j _ _ (List.getElem?_eq_getElem hi) (List.getElem?_eq_getElem hj)).1
      · cases he
    · cases he
  · cases he

/-! What 'append' does -/
theorem run_append_in {ats : Array TypeId} {ty t u e e' : TypeId} {i : TypeInfo} {base b : Option Addr} {sLen sCap n capy : Nat} {new : Array Value} {w' : World} (ht : ats[0]? = some t) (hu : P.underlying t = some (.slice e)) (ht' : ats[1]? = some u) (hu' : P.underlying u = some (.slice e')) (hi : P.info? e = some i)
    (hfit : sLen + n ≤ sCap) (hnew : (Builtin.firstCells i.size n (.slice b n capy)).run P w = .ok new w)
    (hst : (match base with | some a => storeCells (a.add (sLen * i.size)) new.toList | none => pure ()).run P w = .ok () w') :
    (Builtin.append_ ats ty #[.slice base sLen sCap, .slice b n capy]).run P w = .ok (.slice base (sLen + n) sCap) w' := by
  unfold Builtin.append_
  simp only [ht, ht', List.getElem?_toArray, List.getElem?_cons_zero, List.getElem?_cons_succ, Sem.run_bind, run_underlying hu, run_underlying hu', Result.andThen_ok, run_size hi, Builtin.lenOf, Sem.run_pure, Bool.false_eq_true, if_false, hfit, if_true, Bool.not_false, hnew]
  cases base with
  | none => simp at hst; simp [hst]
  | some a => simp only at hst; simp only [Sem.run_bind, hst, Result.andThen_ok, Sem.run_pure]
theorem run_append_move {ats : Array TypeId} {ty t u e e' : TypeId} {i : TypeInfo} {zv : Value} {base b : Option Addr} {sLen sCap n capy : Nat} {old new : Array Value} (ht : ats[0]? = some t) (hu : P.underlying t = some (.slice e)) (ht' : ats[1]? = some u) (hu' : P.underlying u = some (.slice e')) (hi : P.info? e = some i) (hz : i.zero = some zv)
    (hfit : sCap < sLen + n) (hb : (sLen + n + 1) * (i.bytes + 1) ≤ 1099511627776) (hold : (Builtin.firstCells i.size sLen (.slice base sLen sCap)).run P w.drew = .ok old w.drew) (hnew : (Builtin.firstCells i.size n (.slice b n capy)).run P w.drew = .ok new w.drew) :
    ∃ newCap, sLen + n ≤ newCap ∧ (Builtin.append_ ats ty #[.slice base sLen sCap, .slice b n capy]).run P w = .ok (.slice (some ⟨w.heap.size, 0, none⟩) (sLen + n) newCap) (w.drew.alloc (.cells (old ++ new ++ Builtin.zeroCells zv.cells (newCap - (sLen + n))) e)) := by
  refine ⟨(Question.appendCap (sLen + n) sCap e).cut (w.tape w.drawn (.appendCap (sLen + n) sCap e)), by simp [Question.cut], ?_⟩
  have hn : sLen + n ≤ 1099511627776 := by
    have : (sLen + n + 1) * 1 ≤ (sLen + n + 1) * (i.bytes + 1) := Nat.mul_le_mul_left _ (by omega)
    omega
  have hcap : ¬ Builtin.nextslicecap (sLen + n) sCap * i.bytes > 2 ^ 48 := by
    have h1 := nextslicecap_le hfit
    have h2 : Builtin.nextslicecap (sLen + n) sCap * i.bytes ≤ 2 * (sLen + n) * i.bytes := Nat.mul_le_mul_right _ h1
    have h3 : (sLen + n) * i.bytes ≤ (sLen + n + 1) * (i.bytes + 1) := Nat.mul_le_mul (by omega) (by omega)
    rw [Nat.mul_assoc] at h2
    omega
  have hp : ¬ ((sLen + n : Nat) : Int) > IntKind.i64.max := by
    simp only [IntKind.max, IntKind.bits, IntKind.signed]
    simp
    omega
  have hch : (choose (.appendCap (sLen + n) sCap e)).run P w = .ok ((Question.appendCap (sLen + n) sCap e).cut (w.tape w.drawn (.appendCap (sLen + n) sCap e))) w.drew := by
    simp [Question.forced]
  unfold Builtin.append_
  simp only [ht, ht', List.getElem?_toArray, List.getElem?_cons_zero, List.getElem?_cons_succ, Sem.run_bind, run_underlying hu, run_underlying hu', Result.andThen_ok, run_size hi, Builtin.lenOf, Sem.run_pure, Bool.false_eq_true, if_false, Bool.not_false, if_true]
  rw [if_neg (by omega)]
  simp only [Sem.run_bind, Sem.run_pure, typeInfo, run_program, Result.andThen_ok, hi, hp, false_and, if_false, hcap, hch, run_askRoom, hold, hnew, zeroValue, hz, newRow, run_newObj_alloc]
  rfl

/-- ... so many zeros, to a slice without room. -/
theorem run_appendZ_move {ats : Array TypeId} {ty t u e : TypeId} {k k' : IntKind} {i : TypeInfo} {zv : Value} {base : Option Addr} {n : Nat} (ht : ats[0]? = some t) (hu : P.underlying t = some (.slice e)) (ht' : ats[1]? = some u) (hu' : P.underlying u = some (.int k')) (hi : P.info? e = some i) (hz : i.zero = some zv)
    (h0 : 0 < n) (hb : (n + 1) * (i.bytes + 1) ≤ 1099511627776) (hzs : zv.cells.size = i.size) :
    ∃ newCap, n ≤ newCap ∧ (Builtin.append_ ats ty #[.slice base 0 0, .int k n]).run P w = .ok (.slice (some ⟨w.heap.size, 0, none⟩) n newCap) (w.drew.alloc (.cells (Builtin.zeroCells zv.cells n ++ Builtin.zeroCells zv.cells (newCap - n)) e)) := by
  refine ⟨(Question.appendCap (0 + n) 0 e).cut (w.tape w.drawn (.appendCap (0 + n) 0 e)), by simp [Question.cut], ?_⟩
  have hn : n ≤ 1099511627776 := by
    have : (n + 1) * 1 ≤ (n + 1) * (i.bytes + 1) := Nat.mul_le_mul_left _ (by omega)
    omega
  have hbb : n * i.bytes ≤ 1099511627776 := by
    have : n * i.bytes ≤ (n + 1) * (i.bytes + 1) := Nat.mul_le_mul (by omega) (by omega)
    omega
  have hwrap : IntKind.i64.wrap (n : Int) = n := by rw [IntKind.wrap_i64]; omega
  have hneg : ¬ ((n : Int) < 0) := by omega
  have hbig : ¬ ((n : Int) * (i.bytes : Int) > 2 ^ 48) := by
    have : ((n * i.bytes : Nat) : Int) ≤ 1099511627776 := by omega
    rw [Int.natCast_mul] at this
    omega
  have hcap : ¬ Builtin.nextslicecap (0 + n) 0 * i.bytes > 2 ^ 48 := by
    have h1 := nextslicecap_le (need := 0 + n) (old := 0) (by omega)
    have h2 : Builtin.nextslicecap (0 + n) 0 * i.bytes ≤ 2 * (0 + n) * i.bytes := Nat.mul_le_mul_right _ h1
    rw [Nat.mul_assoc] at h2
    rw [Nat.zero_add] at h2 ⊢
    omega
  have hp : ¬ ((0 + n : Nat) : Int) > IntKind.i64.max := by
    simp only [IntKind.max, IntKind.bits, IntKind.signed]
    simp
    omega
  have hch : (choose (.appendCap (0 + n) 0 e)).run P w = .ok ((Question.appendCap (0 + n) 0 e).cut (w.tape w.drawn (.appendCap (0 + n) 0 e))) w.drew := by
    simp [Question.forced]
  unfold Builtin.append_
  simp only [ht, ht', List.getElem?_toArray, List.getElem?_cons_zero, List.getElem?_cons_succ, Sem.run_bind, run_underlying hu, run_underlying hu', Result.andThen_ok, run_size hi, asInt, asIntOf, Sem.run_pure, hwrap, hneg, if_false, if_true, typeInfo, run_program, hi, hbig, Int.toNat_natCast, Bool.not_true, Bool.false_eq_true]
  rw [if_neg (by omega)]
  simp only [Sem.run_bind, Sem.run_pure, typeInfo, run_program, Result.andThen_ok, hi, hp, false_and, if_false, hcap, hch, run_askRoom, run_first0, zeroValue, hz, newRow, run_newObj_alloc]
  by_cases hc : n * i.size = 0
  · have : Builtin.zeroCells zv.cells n = #[] := by unfold Builtin.zeroCells; rw [hzs, hc]; simp
    simp [hc, this]
  · simp [hc, hi, hz]
theorem run_appendZ_none {ats : Array TypeId} {ty t u e : TypeId} {k k' : IntKind} {i : TypeInfo} {base : Option Addr} {len cap : Nat} (ht : ats[0]? = some t) (hu : P.underlying t = some (.slice e)) (ht' : ats[1]? = some u) (hu' : P.underlying u = some (.int k')) (hi : P.info? e = some i) (hlc : len ≤ cap) :
    (Builtin.append_ ats ty #[.slice base len cap, .int k 0]).run P w = .ok (.slice base len cap) w := by
  have hwrap : IntKind.i64.wrap 0 = 0 := by rw [IntKind.wrap_i64]; omega
  unfold Builtin.append_
  simp only [ht, ht', List.getElem?_toArray, List.getElem?_cons_zero, List.getElem?_cons_succ, Sem.run_bind, run_underlying hu, run_underlying hu', Result.andThen_ok, run_size hi, asInt, asIntOf, Sem.run_pure, hwrap, if_true, typeInfo, run_program, hi, Bool.not_true, Bool.false_eq_true, if_false]
  have : ¬ ((0 : Int) * (i.bytes : Int) > 2 ^ 48) := by simp
  cases base <;> simp [hlc, storeCells, hi]

theorem Adv.drewR (S : Nat → Prop) (φ : Phi) (h : Mem) (w : World) : Adv S φ h w S φ h w.drew :=
  ⟨fun _ _ e => e, fun _ e => e, fun _ e => .inl e, rfl, rfl, rfl, Nat.le_refl _, fun _ _ _ => rfl, fun _ e => .inl e, fun _ _ _ e => e⟩
theorem Sim.drewR {S : Nat → Prop} {φ : Phi} {h : Mem} {w : World} (hs : Sim P S φ h w) : Sim P S φ h w.drew :=
  ⟨fun id b hb => by obtain ⟨loc, e1, e2, e3⟩ := hs.blk id b hb; exact ⟨loc, e1, e2.adv (Adv.drewR _ _ _ _) hs rfl, e3⟩, hs.inj, hs.bd⟩
theorem flat_append {sz : Nat} {xs ys : List (List AV)} {c d r : Array Value} (h1 : Flat w S φ sz xs c) (h2 : Flat w S φ sz ys d) :
    ∀ (i j : Nat) x b, (xs ++ ys)[i]? = some x → x[j]? = some b → ∃ v, (c ++ d ++ r)[i * sz + j]? = some v ∧ Rep w S φ b v := by
  intro i j x b e1 e2
  have hj : j < sz := by
    have hm := List.mem_of_getElem? e1
    rw [List.mem_append] at hm
    have : x.length = sz := hm.elim (h1.2.1 x) (h2.2.1 x)
    rcases Nat.lt_or_ge j x.length with h' | h'
    · omega
    · rw [List.getElem?_eq_none h'] at e2; cases e2
  by_cases hi : i < xs.length
  · rw [List.getElem?_append_left hi] at e1
    obtain ⟨v, r1, r2⟩ := h1.2.2 i j x b e1 e2
    refine ⟨v, ?_, r2⟩
    have := cell_lt hi hj
    rw [Array.append_assoc, Array.getElem?_append_left (by rw [h1.1]; exact this)]; exact r1
  · rw [List.getElem?_append_right (by omega)] at e1
    obtain ⟨v, r1, r2⟩ := h2.2.2 (i - xs.length) j x b e1 e2
    refine ⟨v, ?_, r2⟩
    have hk : i - xs.length < ys.length := by
      rcases Nat.lt_or_ge (i - xs.length) ys.length with h' | h'
      · exact h'
      · rw [List.getElem?_eq_none h'] at e1; cases e1
    have h3 := cell_lt hk hj
    have h4 : i * sz = xs.length * sz + (i - xs.length) * sz := by rw [← Nat.add_mul]; congr 1; omega
    rw [Array.append_assoc, Array.getElem?_append_right (by rw [h1.1]; omega), Array.getElem?_append_left (by rw [h1.1, h2.1]; omega), h1.1]
    rw [show i * sz + j - xs.length * sz = (i - xs.length) * sz + j by omega]; exact r1
/-- One place of the evaluator's memory is given up; another one holds what a slice and more were. -/
theorem swap_sim {S : Nat → Prop} {φ : Phi} {h : Mem} {w w' : World} {id nx sz : Nat} {xs zs : List (List AV)} {loc loc' : Loc} {new : Array Value} {e : TypeId} (hs : Sim P S φ h w) (hb : h id = some (.row sz xs)) (hφ : φ id = some loc) (hn : φ nx = none)
    (hkeep : ∀ b, b < w.heap.size → b ≠ loc.blk → w'.heap[b]? = w.heap[b]?) (hsize : w.heap.size ≤ w'.heap.size) (hos : w'.os = w.os) (hta : w'.tape = w.tape) (hou : w'.output = w.output)
    (hshape : ∀ b e n, w.shape? b = some (e, n) → w'.shape? b = some (e, n))
    (hl' : loc'.sz = sz) (hblk : loc'.blk = loc.blk ∨ w.heap.size ≤ loc'.blk) (hnb : ¬ S loc'.blk) (hnew : w'.heap[loc'.blk]? = some (.cells new e (0, 0))) (hfit : loc'.base + zs.length * sz ≤ new.size) (hlen : ∀ x ∈ zs, x.length = sz)
    (hone : ∀ x ∈ zs, x.all AV.one = true) (hc : ∀ (i j : Nat) x b, zs[i]? = some x → x[j]? = some b → ∃ v, new[loc'.base + i * sz + j]? = some v ∧ Rep w S φ b v) :
    let φ' : Phi := fun k => if k = nx then some loc' else φ k
    let h' : Mem := fun k => if k = nx then some (.row sz zs) else if k = id then none else h k
    Adv S φ h w S φ' h' w' ∧ Sim P S φ' h' w' := by
  intro φ' h'
  have hid : id ≠ nx := by rintro rfl; rw [hφ] at hn; cases hn
  have hnone : h nx = none := by
    cases hb' : h nx with
    | none => rfl
    | some b => obtain ⟨l, e1, -⟩ := hs.blk nx b hb'; rw [hn] at e1; cases e1
  have hown : Own φ h loc.blk := ⟨id, _, loc, hb, hφ, rfl⟩
  have hadv : Adv S φ h w S φ' h' w' := by
    refine ⟨fun k l e1 => ?_, fun _ e => e, fun _ e => .inl e, hos, hta, hou, hsize, fun b hbb hnn => hkeep b hbb (fun e => hnn (e ▸ hown)), ?_, hshape⟩
    · have : k ≠ nx := by rintro rfl; rw [hn] at e1; cases e1
      simp [φ', this, e1]
    · rintro b ⟨k, x, l, e1, e2, e3⟩
      by_cases hk : k = nx
      · subst hk; simp [φ'] at e2; subst e2
        rcases hblk with e | e
        · exact .inl (by rw [← e3, e]; exact hown)
        · exact .inr (e3 ▸ e)
      · by_cases hk2 : k = id
        · subst hk2; simp [h', hk] at e1
        · simp [φ', h', hk, hk2] at e1 e2
          exact .inl ⟨k, x, l, e1, e2, e3⟩
  refine ⟨hadv, ?_, ?_, fun b hb => Nat.lt_of_lt_of_le (hs.bd b hb) hsize⟩
  · intro k b hk
    by_cases hkn : k = nx
    · subst hkn
      have : b = .row sz zs := by simpa [h'] using hk.symm
      subst this
      refine ⟨loc', by simp [φ'], ⟨hl', hlen, new, e, hnew, hfit, fun i j x a e1 e2 => ?_⟩, hnb⟩
      obtain ⟨v, e3, e4⟩ := hc i j x a e1 e2
      have hx := hone x (List.mem_of_getElem? e1)
      rw [List.all_eq_true] at hx
      exact ⟨hx a (List.mem_of_getElem? e2), v, e3, hadv.rep hs e4⟩
    · by_cases hk2 : k = id
      · subst hk2; simp [h', hkn] at hk
      · have hk' : h k = some b := by simpa [h', hkn, hk2] using hk
        obtain ⟨l, p1, p2, p3⟩ := hs.blk k b hk'
        refine ⟨l, by simp [φ', hkn, p1], p2.adv hadv hs ?_, p3⟩
        have hne : l.blk ≠ loc.blk := fun e => hk2 (hs.inj k id b _ l loc hk' hb p1 hφ e)
        exact hkeep _ p2.lt hne
  · have bd : ∀ k b l, h k = some b → φ k = some l → l.blk < w.heap.size := fun k b l e1 e2 => hs.lt e1 e2
    intro k k' b b' l l' a1 a2 a3 a4 a5
    by_cases hk : k = nx <;> by_cases hk' : k' = nx
    · rw [hk, hk']
    · subst hk
      have hk2 : k' ≠ id := by rintro rfl; simp [h', hk'] at a2
      simp [φ'] at a3; subst a3
      simp [φ', h', hk', hk2] at a2 a4
      rcases hblk with e | e
      · exact absurd (hs.inj k' id b' _ l' loc a2 hb a4 hφ (by rw [← a5, e])) hk2
      · have := bd k' b' l' a2 a4; omega
    · subst hk'
      have hk2 : k ≠ id := by rintro rfl; simp [h', hk] at a1
      simp [φ'] at a4; subst a4
      simp [φ', h', hk, hk2] at a1 a3
      rcases hblk with e | e
      · exact absurd (hs.inj k id b _ l loc a1 hb a3 hφ (by rw [a5, e])) hk2
      · have := bd k b l a1 a3; omega
    · have hk2 : k ≠ id := by rintro rfl; simp [h', hk] at a1
      have hk2' : k' ≠ id := by rintro rfl; simp [h', hk'] at a2
      simp [φ', h', hk, hk2] at a1 a3
      simp [φ', h', hk', hk2'] at a2 a4
      exact hs.inj k k' b b' l l' a1 a2 a3 a4 a5
end ops
end Go.V
/- Soundness: append, as an operation. -/
set_option linter.unusedVariables false
set_option linter.unusedSimpArgs false
namespace Go.V
open Go.RowKit
variable {P : Program}

theorem only_new (φ : Phi) (nx : Nat) (loc : Loc) : ∀ id, (id < nx ∨ nx + 1 ≤ id) → (if id = nx then some loc else φ id) = φ id := by
  intro id hid
  have : id ≠ nx := by omega
  simp [this]
section ops
variable {P : Program} {S : Nat → Prop} {φ : Phi} {h : Mem} {H : Heap} {w : World} {env : List AV} {a : Act} {o : Oper} {nx : Nat}
/-- A block's elements are turned. -/
theorem rowset_ends {id sz : Nat} {xs zs : List (List AV)} {loc : Loc} {old new : Array Value} {e : TypeId} (hs : Sim P S φ h w) (hb : h id = some (.row sz xs)) (hφ : φ id = some loc)
    (ho : w.heap[loc.blk]? = some (.cells old e (0, 0))) (hsz : new.size = old.size) (hlen : zs.length = xs.length) (hl : ∀ x ∈ zs, x.length = sz)
    (hnew : ∀ (i j : Nat) x a, zs[i]? = some x → x[j]? = some a → a.one = true ∧ ∃ v, new[loc.base + i * sz + j]? = some v ∧ Rep w S φ a v) :
    Adv S φ h w S φ (updH h [(id, some (.row sz zs))]) (w.setRow loc.blk new) ∧ Sim P S φ (updH h [(id, some (.row sz zs))]) (w.setRow loc.blk new) := by
  rw [updH_one]
  obtain ⟨loc', q1, q2, q3⟩ := hs.blk id _ hb
  rw [hφ] at q1; cases q1
  have hown : Own φ h loc.blk := ⟨id, _, loc, hb, hφ, rfl⟩
  have hadv : Adv S φ h w S φ (fun k => if k = id then some (.row sz zs) else h k) (w.setRow loc.blk new) := by
    refine ⟨fun _ _ e => e, fun _ e => e, fun _ e => .inl e, rfl, rfl, rfl, by simp, fun b _ hn => setRow_other _ _ _ _ (fun e => hn (e ▸ hown)), ?_, fun b e n hb => shape_setRow ho hsz hb⟩
    rintro b ⟨k, y, l, e1, e2, e3⟩
    by_cases hk : k = id
    · subst hk; rw [hφ] at e2; cases e2; exact .inl (e3 ▸ hown)
    · exact .inl ⟨k, y, l, by simpa [hk] using e1, e2, e3⟩
  refine ⟨hadv, ?_, ?_, fun b hb => by simpa using hs.bd b hb⟩
  · intro k b hk
    by_cases hid : k = id
    · subst hid
      have hk' : some (Blk.row sz zs) = some b := by simpa using hk
      cases hk'
      refine ⟨loc, hφ, ?_, q3⟩
      obtain ⟨f1, f2, c, e', f3, f4, f5⟩ := q2
      rw [ho] at f3; cases f3
      refine ⟨f1, hl, new, e, setRow_heap w _ _ _ _ _ ho, by rw [hlen]; omega, fun i j y a g1 g2 => ?_⟩
      obtain ⟨o1, v, r1, r2⟩ := hnew i j y a g1 g2
      exact ⟨o1, v, r1, hadv.rep hs r2⟩
    · have hk' : h k = some b := by simpa [hid] using hk
      obtain ⟨l, p1, p2, p3⟩ := hs.blk k b hk'
      have hne : l.blk ≠ loc.blk := fun e => hid (hs.inj k id b _ l loc hk' hb p1 hφ e)
      exact ⟨l, p1, p2.adv hadv hs (setRow_other _ _ _ _ hne), p3⟩
  · intro k k' b b' l l' a1 a2 a3 a4 a5
    have key : ∀ k b, (if k = id then some (Blk.row sz zs) else h k) = some b → ∃ b, h k = some b := fun k b hk => by
      by_cases hid : k = id
      · exact ⟨_, hid ▸ hb⟩
      · exact ⟨b, by simpa [hid] using hk⟩
    obtain ⟨c, a1'⟩ := key k b a1
    obtain ⟨c', a2'⟩ := key k' b' a2
    exact hs.inj k k' c c' l l' a1' a2' a3 a4 a5
/-- What a slice without room becomes: a new block. -/
theorem fresh_ends {e : TypeId} {n : Nat} {ys : List (List AV)} {c : Array Value} {nc : Nat} (hs : Sim P S φ h w) (hn : φ nx = none) (hfl : Flat w.drew S φ n ys (c.extract 0 (ys.length * n))) (hone : ∀ x ∈ ys, x.all AV.one = true) (hc : nc * n ≤ c.size) (hnc : ys.length ≤ nc) :
    Ends P S φ h w (.own nx 0 ys.length) [(nx, some (.row n ys))] nx (nx + 1) (.slice (some ⟨w.heap.size, 0, none⟩) ys.length nc) (w.drew.alloc (.cells c e)) := by
  have hle : ys.length * n ≤ c.size := Nat.le_trans (Nat.mul_le_mul_right _ hnc) hc
  obtain ⟨q1, q2⟩ := V.new_ends (nx := nx) (sz := n) (xs := ys) (c := c) (e := e) hs.drewR hn hfl.2.1 hle hone (fun i j x a e1 e2 => by
    obtain ⟨v, r1, r2⟩ := hfl.2.2 i j x a e1 e2
    refine ⟨v, ?_, r2⟩
    rw [Array.getElem?_extract] at r1
    split at r1
    · simpa using r1
    · cases r1)
  refine ⟨S, _, (Adv.drewR S φ h w).trans q1, q2, ?_, only_new _ _ _⟩
  have := own_new (w := w.drew.alloc (.cells c e)) (S := S) (φ := fun id => if id = nx then some ⟨w.drew.heap.size, 0, n⟩ else φ id) (nx := nx) (len := ys.length) (cap := nc) (by simp) (shape_new w.drew _ e) hc hnc
  exact this
theorem zeroCells_size (z : Array Value) (n : Nat) : (Builtin.zeroCells z n).size = n * z.size := by simp [Builtin.zeroCells]
theorem extract_pre {a b : Array Value} {n : Nat} (h : a.size = n) : (a ++ b).extract 0 n = a := by
  rw [Array.extract_append]; simp [h]
theorem snd_app {c : Call} {x y : Operand} {t u e e' : TypeId} {i : TypeInfo} {z : List AV} {ax ay : Arg} {v : AV} {rd : List Nat} {wr : Wr} {nx' : Nat} {T : FuncId → Option IFn} {cb : Cb} (ho : o.op = .call c) (hc : c.callee = .builtin .append) (hargs : c.args = #[x, y])
    (ht : c.argTypes[0]? = some t) (hu : P.underlying t = some (.slice e)) (ht' : c.argTypes[1]? = some u) (hu' : P.underlying u = some (.slice e')) (hi : P.info? e = some i) (hz : zeroK P e = some z) (hzl : z.length = i.size) (hx : cOpd x = some ax) (hy : cOpd y = some ay)
    (he : evalOp T cb env H nx (.app i.size i.bytes ax ay) = some (.eff v rd wr nx')) (hrd : ∀ id ∈ rd, h id = hget H id) (hs : Sim P S φ h w) (hr : Reps w S φ env a.tmps) (hn : nx < nx' → φ nx = none) : OpOK P o a w (Ends P S φ h w v wr nx nx') := by
  have hv := arg_rep hr hx
  have hvy := arg_rep hr hy
  obtain ⟨consts, hex⟩ := builtin_exec (a := a) ho hc
  obtain ⟨i', zv, h1, h2, h3⟩ := zeroK_spec hz
  rw [hi] at h1; cases h1
  obtain ⟨z1, z2⟩ := zero_rep (w := w) (S := S) (φ := φ) h3
  have hzs : zv.cells.size = i.size := by rw [z1.1]; exact hzl
  have fin : ∀ vv w', (Builtin.append_ c.argTypes o.type #[a.eval x, a.eval y]).run P w = .ok vv w' → Ends P S φ h w v wr nx nx' vv w' → OpOK P o a w (Ends P S φ h w v wr nx nx') := fun vv w' e1 e2 =>
    .inl ⟨vv, w', by rw [hex]; simp [invoke, builtin, hargs, e1], e2⟩
  have run1 : ∀ vv w', (Builtin.append_ c.argTypes o.type #[a.eval x, a.eval y]).run P w = .ok vv w' → (execOp a.eval o).run P w = .ok (.value vv) w' := fun vv w' e1 => by rw [hex]; simp [invoke, builtin, hargs, e1]
  have fresh : ∀ {ys : List (List AV)} (base : Option Addr) {b : Option Addr} {cap : Nat} {cs : Array Value}, a.eval x = .slice base 0 0 → (ys.length + 1) * (i.bytes + 1) ≤ 1099511627776 → 0 < ys.length → a.eval y = .slice b ys.length cap → (Builtin.firstCells i.size ys.length (.slice b ys.length cap)).run P w.drew = .ok cs w.drew → Flat w.drew S φ i.size ys cs → (∀ x ∈ ys, x.all AV.one = true) → (hn : φ nx = none) →
      OpOK P o a w (Ends P S φ h w (.own nx 0 ys.length) [(nx, some (.row i.size ys))] nx (nx + 1)) := by
    intro ys base b cap cs hval hcc hpos f1 f2 f3 hone hn
    obtain ⟨nc, g1, g2⟩ := run_append_move (P := P) (w := w) (ty := o.type) (sLen := 0) (sCap := 0) (base := base) (old := #[]) ht hu ht' hu' hi h2 (by omega) (by simpa using hcc) (run_first0 _ _ _ _) f2
    refine .inl ⟨_, _, run1 _ _ (by rw [hval, f1]; exact g2), ?_⟩
    have := fresh_ends (P := P) (nx := nx) (e := e) (n := i.size) (ys := ys) (c := #[] ++ cs ++ Builtin.zeroCells zv.cells (nc - (0 + ys.length))) (nc := nc) hs hn (by
      simp only [Array.empty_append]; rw [extract_pre f3.1]; exact f3) hone (by
        have := f3.1
        simp [zeroCells_size, hzs, this, ← Nat.add_mul]
        exact Nat.mul_le_mul_right _ (by omega)) (by omega)
    simpa using this
  simp only [evalOp] at he
  split at he
  · -- nothing is appended
    rename_i rd' e1
    have hrd' : rd' = rd := by
      split at he <;> (first | cases he | skip) <;> rfl
    subst hrd'
    obtain ⟨b, cap, f1, cs, f2, f3⟩ := elems_rep (P := P) e1 hrd hs hvy
    rw [f1] at f2
    have hcs : cs = #[] := by have := f3.1; simpa using this
    subst hcs
    split at he
    · rename_i e2
      cases he
      rw [e2] at hv
      have hval : a.eval x = .slice none 0 0 := by generalize a.eval x = q at hv; cases hv; rfl
      refine fin _ _ (by rw [hval, f1]; exact run_append_in (P := P) ht hu ht' hu' hi (by simp) f2 rfl) (ends_pure hs .nilS)
    · rename_i id off len e2
      cases he
      rw [e2] at hv
      obtain ⟨loc, cap', e'', n', hφ, hsh, hn', hlc, hval⟩ := hv.inv_own
      refine fin _ _ (by rw [hval, f1]; exact run_append_in (P := P) ht hu ht' hu' hi (by simpa using hlc) f2 rfl) (ends_pure hs ?_)
      simpa using Rep.own (w := w) (S := S) hφ hsh hn' hlc
    · rename_i z e2
      cases he
      rw [e2] at hv
      obtain ⟨aa, cap', hval, hz⟩ := hv.inv_emp
      refine fin _ _ (by rw [hval, f1]; exact run_append_in (P := P) ht hu ht' hu' hi (by simp) f2 rfl) (ends_pure hs ?_)
      exact .emp hz
    · cases he
  · -- something is
    rename_i ys rd' hne e1
    split at he
    · rename_i e2
      split at he
      · rename_i hcc
        cases he
        obtain ⟨b, cap, f1, cs, f2, f3⟩ := elems_rep (P := P) e1 hrd hs.drewR ((Adv.drewR S φ h w).rep hs hvy)
        have hone := elems_one e1 hrd hs hvy
        rw [e2] at hv
        have hval : a.eval x = .slice none 0 0 := by generalize a.eval x = q at hv; cases hv; rfl
        rw [f1] at f2
        have hpos : 0 < ys.length := by
          cases ys with
          | nil => first | exact (hne rfl).elim | exact absurd rfl (hne rfl rd') | exact (hne rd' rfl).elim
          | cons _ _ => simp
        exact fresh none hval hcc hpos f1 f2 f3 hone (hn (by omega))
      · cases he
    · rename_i e2
      split at he
      · rename_i hcc
        cases he
        obtain ⟨b, cap, f1, cs, f2, f3⟩ := elems_rep (P := P) e1 hrd hs.drewR ((Adv.drewR S φ h w).rep hs hvy)
        have hone := elems_one e1 hrd hs hvy
        rw [e2] at hv
        obtain ⟨aa, cap', hval, hz⟩ := hv.inv_emp
        have := hz rfl; subst this
        rw [f1] at f2
        have hpos : 0 < ys.length := by
          cases ys with
          | nil => first | exact (hne rfl).elim | exact absurd rfl (hne rfl rd') | exact (hne rd' rfl).elim
          | cons _ _ => simp
        exact fresh (some aa) hval hcc hpos f1 f2 f3 hone (hn (by omega))
      · cases he
    · rename_i id off len e2
      split at he
      · rename_i s xs e3
        split at he
        · rename_i hcc
          obtain ⟨hsz, hle, hby⟩ := hcc
          cases he
          subst hsz
          have hb : h id = some (.row i.size xs) := by rw [hrd id (by simp)]; exact e3
          rw [e2] at hv
          obtain ⟨loc, cap', e'', n', hφ, hsh, hn', hlc, hval⟩ := hv.inv_own
          obtain ⟨loc', p1, p2, p3⟩ := hs.blk id _ hb
          rw [hφ] at p1; cases p1
          have hls : loc.sz = i.size := p2.1
          have hlen : ((xs.drop off).take len).length = len := by simp; omega
          obtain ⟨sub1, sub2⟩ := p2.sub (off := off) (len := len)
          have hone2 := elems_one e1 (fun k hk => hrd k (by simp [hk])) hs hvy
          have hone : ∀ q ∈ (xs.drop off).take len ++ ys, q.all AV.one = true := by
            intro q hq
            rw [List.mem_append] at hq
            rcases hq with hq | hq
            · obtain ⟨k, hk, rfl⟩ := List.getElem_of_mem hq
              rw [List.all_eq_true]
              intro d hd
              obtain ⟨j, hj, rfl⟩ := List.getElem_of_mem hd
              exact (sub2 k j _ _ (List.getElem?_eq_getElem hk) (List.getElem?_eq_getElem hj)).1
            · exact hone2 q hq
          obtain ⟨blk1, blk2, cur, ce, f3, f4, f5⟩ := p2
          have hn0 : φ nx = none := hn (by omega)
          have only : ∀ loc2 : Loc, ∀ k, (k < nx ∨ nx + 1 ≤ k) → (fun k => if k = nx then some loc2 else φ k) k = φ k := fun loc2 => only_new φ nx loc2
          have hupd : updH h [(id, none), (nx, some (.row i.size ((xs.drop off).take len ++ ys)))] = fun k => if k = nx then some (.row i.size ((xs.drop off).take len ++ ys)) else if k = id then none else h k := rfl
          by_cases hfit : len + ys.length ≤ cap'
          · -- in place
            obtain ⟨b, cap, f1, cs, f2, fl⟩ := elems_rep (P := P) e1 (fun k hk => hrd k (by simp [hk])) hs hvy
            rw [f1] at f2
            have hn2 : n' = cur.size := by
              unfold World.shape? at hsh; rw [f3] at hsh; simp at hsh; exact hsh.2.symm
            have hbig : loc.base + off * i.size + (len + ys.length) * i.size ≤ cur.size := by
              rw [hn2, hls] at hn'
              have : (off + (len + ys.length)) * i.size ≤ (off + cap') * i.size := Nat.mul_le_mul_right _ (by omega)
              rw [Nat.add_mul] at this; omega
            have hcsz : cs.toList.length = ys.length * i.size := by simpa using fl.1
            have hstore := run_storeCells_at P loc.blk (loc.base + off * i.size + len * i.size) ce cs.toList 0 cur w f3 (by rw [hcsz]; rw [Nat.add_mul] at hbig; omega) (by
              intro d hd
              obtain ⟨k, hk, rfl⟩ := List.getElem_of_mem hd
              have hk' : k < ys.length * i.size := by omega
              have h0 : 0 < i.size := by
                rcases Nat.eq_zero_or_pos i.size with e | e
                · rw [e] at hk'; simp at hk'
                · exact e
              have hq : k / i.size < ys.length := Nat.div_lt_of_lt_mul (by rw [Nat.mul_comm]; exact hk')
              have hm : k % i.size < ys[k / i.size].length := by rw [fl.2.1 _ (List.getElem_mem hq)]; exact Nat.mod_lt _ h0
              obtain ⟨dv, r1, r2⟩ := fl.2.2 (k / i.size) (k % i.size) _ _ (List.getElem?_eq_getElem hq) (List.getElem?_eq_getElem hm)
              rw [Nat.div_add_mod'] at r1
              have : cs.toList[k] = dv := by
                have e9 : cs[k]? = some cs.toList[k] := by simp at hk ⊢
                rw [e9] at r1; cases r1; rfl
              rw [this]
              have ho1 := hone2 _ (List.getElem_mem hq)
              rw [List.all_eq_true] at ho1
              exact r2.oneCell (ho1 _ (List.getElem_mem hm)))
            obtain ⟨new, hnew⟩ : ∃ new, new = (List.take (loc.base + off * i.size + len * i.size + 0) cur.toList ++ cs.toList ++ List.drop (loc.base + off * i.size + len * i.size + 0 + cs.toList.length) cur.toList).toArray := ⟨_, rfl⟩
            rw [← hnew] at hstore
            rw [Nat.add_zero] at hnew
            have hbig' : loc.base + off * i.size + len * i.size + ys.length * i.size ≤ cur.size := by rw [Nat.add_mul] at hbig; omega
            have hnsz : new.size = cur.size := by rw [hnew]; simp at hcsz ⊢; omega
            have hget : ∀ m, new[m]? = if m < loc.base + off * i.size + len * i.size then cur[m]? else if m < loc.base + off * i.size + len * i.size + ys.length * i.size then cs[m - (loc.base + off * i.size + len * i.size)]? else cur[m]? := by
              intro m
              rw [hnew]
              simp only [List.getElem?_toArray]
              have hl2 : (List.take (loc.base + off * i.size + len * i.size) cur.toList).length = loc.base + off * i.size + len * i.size := by simp; omega
              by_cases q : m < loc.base + off * i.size + len * i.size
              · rw [if_pos q, List.append_assoc, List.getElem?_append_left (by omega), List.getElem?_take, if_pos q]; simp
              · rw [if_neg q]
                by_cases q2 : m < loc.base + off * i.size + len * i.size + ys.length * i.size
                · rw [if_pos q2, List.append_assoc, List.getElem?_append_right (by omega), List.getElem?_append_left (by omega), hl2]; simp
                · rw [if_neg q2, List.append_assoc, List.getElem?_append_right (by omega), List.getElem?_append_right (by omega), List.getElem?_drop, hl2, hcsz]
                  simp only [Array.getElem?_toList]
                  congr 1; omega
            have hrun := run_append_in (P := P) (ty := o.type) (base := some ⟨loc.blk, loc.base + off * loc.sz, none⟩) (sLen := len) (sCap := cap') ht hu ht' hu' hi hfit f2 (w' := w.setRow loc.blk new) (by simp only [add_none, hls]; exact hstore)
            refine fin _ _ (by rw [hval, f1]; exact hrun) ?_
            obtain ⟨q1, q2⟩ := swap_sim (id := id) (nx := nx) (zs := (xs.drop off).take len ++ ys) (loc' := ⟨loc.blk, loc.base + off * i.size, i.size⟩) (new := new) (w' := w.setRow loc.blk new) hs hb hφ hn0
              (fun b _ hne => setRow_other _ _ _ _ hne) (by simp) rfl rfl rfl (fun b e n hh => shape_setRow f3 hnsz hh) rfl (.inl rfl) p3 (setRow_heap w _ _ _ _ _ f3)
              (by simp only [List.length_append, hlen, hnsz]; exact hbig) (fun q hq => by rw [List.mem_append] at hq; exact hq.elim (sub1 q) (fl.2.1 q)) hone (fun k j q d r1 r2 => by
                have hj : j < i.size := by
                  have hm := List.mem_of_getElem? r1
                  rw [List.mem_append] at hm
                  have : q.length = i.size := hm.elim (sub1 q) (fl.2.1 q)
                  rcases Nat.lt_or_ge j q.length with h' | h'
                  · omega
                  · rw [List.getElem?_eq_none h'] at r2; cases r2
                by_cases hk : k < len
                · rw [List.getElem?_append_left (by omega)] at r1
                  rw [List.getElem?_take, if_pos hk, List.getElem?_drop] at r1
                  obtain ⟨o1, dv, r3, r4⟩ := f5 (off + k) j q d r1 r2
                  refine ⟨dv, ?_, r4⟩
                  have := cell_lt hk hj
                  show new[loc.base + off * i.size + k * i.size + j]? = _
                  rw [hget, if_pos (by omega)]
                  rw [Nat.add_mul] at r3
                  rw [← r3]; congr 1; omega
                · rw [List.getElem?_append_right (by omega), hlen] at r1
                  obtain ⟨dv, r3, r4⟩ := fl.2.2 (k - len) j q d r1 r2
                  refine ⟨dv, ?_, r4⟩
                  have hk2 : k - len < ys.length := by
                    rcases Nat.lt_or_ge (k - len) ys.length with h' | h'
                    · exact h'
                    · rw [List.getElem?_eq_none h'] at r1; cases r1
                  have := cell_lt hk2 hj
                  have h4 : k * i.size = len * i.size + (k - len) * i.size := by rw [← Nat.add_mul]; congr 1; omega
                  show new[loc.base + off * i.size + k * i.size + j]? = _
                  rw [hget, if_neg (by omega), if_pos (by omega), show loc.base + off * i.size + k * i.size + j - (loc.base + off * i.size + len * i.size) = (k - len) * i.size + j by omega]
                  exact r3)
            refine ⟨S, _, by rw [hupd]; exact q1, by rw [hupd]; exact q2, ?_, only _⟩
            have hsh2 : (w.setRow loc.blk new).shape? loc.blk = some (e'', n') := shape_setRow f3 hnsz hsh
            have := Rep.own (w := w.setRow loc.blk new) (S := S) (φ := fun k => if k = nx then some ⟨loc.blk, loc.base + off * i.size, i.size⟩ else φ k) (id := nx) (off := 0) (len := len + ys.length) (cap := cap') (loc := ⟨loc.blk, loc.base + off * i.size, i.size⟩) (by simp) hsh2 (by
              rw [hls] at hn'
              simp only [Nat.zero_add]; rw [Nat.add_mul] at hn'; omega) hfit
            rw [hls]
            simpa using this
          · -- moved
            obtain ⟨b, cap, f1, cs, f2, fl⟩ := elems_rep (P := P) e1 (fun k hk => hrd k (by simp [hk])) hs.drewR ((Adv.drewR S φ h w).rep hs hvy)
            rw [f1] at f2
            obtain ⟨old, g1, g2⟩ := run_cells (P := P) (w := w.drew) (S := S) (φ := φ) (sz := i.size) (b := loc.blk) (base := loc.base + off * loc.sz) (xs := (xs.drop off).take len) sub1 (fun k j q d r1 r2 => by
              obtain ⟨-, dv, r3, r4⟩ := sub2 k j q d r1 r2
              exact ⟨dv, r3, (Adv.drewR S φ h w).rep hs r4⟩)
            rw [hlen] at g1
            obtain ⟨nc, k1, k2⟩ := run_append_move (P := P) (w := w) (ty := o.type) (sLen := len) (sCap := cap') (base := some ⟨loc.blk, loc.base + off * loc.sz, none⟩) (old := old) ht hu ht' hu' hi h2 (by omega) hby g1 f2
            refine fin _ _ (by rw [hval, f1]; exact k2) ?_
            have hfl := flat_append (r := Builtin.zeroCells zv.cells (nc - (len + ys.length))) g2 fl
            have hosz : old.size = len * i.size := by rw [g2.1, hlen]
            have htot : nc * i.size ≤ (old ++ cs ++ Builtin.zeroCells zv.cells (nc - (len + ys.length))).size := by
              have := fl.1
              simp [Builtin.zeroCells, hzs, this, hosz, ← Nat.add_mul]
              exact Nat.mul_le_mul_right _ (by omega)
            obtain ⟨q1, q2⟩ := swap_sim (id := id) (nx := nx) (zs := (xs.drop off).take len ++ ys) (loc' := ⟨w.heap.size, 0, i.size⟩) (new := old ++ cs ++ Builtin.zeroCells zv.cells (nc - (len + ys.length))) (e := e) (w' := w.drew.alloc (.cells (old ++ cs ++ Builtin.zeroCells zv.cells (nc - (len + ys.length))) e)) hs.drewR hb hφ hn0
              (fun b hb _ => Below.heap_alloc w.drew _ b hb) (by simp) rfl rfl rfl (fun b e n hh => shape_alloc hh) rfl (.inr (Nat.le_refl _)) (fun hS => absurd (hs.bd _ hS) (by simp)) (World.alloc_heap_new w.drew _)
              (by simp only [List.length_append, hlen, Nat.zero_add]; refine Nat.le_trans ?_ htot; exact Nat.mul_le_mul_right _ k1) (fun q hq => by rw [List.mem_append] at hq; exact hq.elim (sub1 q) (fl.2.1 q)) hone (by simpa using hfl)
            refine ⟨S, _, by rw [hupd]; exact (Adv.drewR S φ h w).trans q1, by rw [hupd]; exact q2, ?_, only _⟩
            have := own_new (w := w.drew.alloc (.cells (old ++ cs ++ Builtin.zeroCells zv.cells (nc - (len + ys.length))) e)) (S := S) (φ := fun k => if k = nx then some ⟨w.heap.size, 0, i.size⟩ else φ k) (nx := nx) (len := len + ys.length) (cap := nc) (by simp) (shape_new w.drew _ e) htot k1
            exact this
        · cases he
      · cases he
    · cases he
  · cases he
theorem snd_appZ {c : Call} {x y : Operand} {t u e : TypeId} {i : TypeInfo} {z : List AV} {ax ay : Arg} {v : AV} {rd : List Nat} {wr : Wr} {nx' : Nat} {k' : IntKind} {T : FuncId → Option IFn} {cb : Cb} (ho : o.op = .call c) (hc : c.callee = .builtin .append) (hargs : c.args = #[x, y])
    (ht : c.argTypes[0]? = some t) (hu : P.underlying t = some (.slice e)) (ht' : c.argTypes[1]? = some u) (hu' : P.underlying u = some (.int k')) (hi : P.info? e = some i) (hz : zeroK P e = some z) (hzl : z.length = i.size) (hx : cOpd x = some ax) (hy : cOpd y = some ay)
    (he : evalOp T cb env H nx (.appZ i.size i.bytes z ax ay) = some (.eff v rd wr nx')) (hs : Sim P S φ h w) (hr : Reps w S φ env a.tmps) (hn : nx < nx' → φ nx = none) : OpOK P o a w (Ends P S φ h w v wr nx nx') := by
  have hv := arg_rep hr hx
  have hvy := arg_rep hr hy
  obtain ⟨consts, hex⟩ := builtin_exec (a := a) ho hc
  obtain ⟨i', zv, h1, h2, h3⟩ := zeroK_spec hz
  rw [hi] at h1; cases h1
  obtain ⟨z1, z2⟩ := zero_rep (w := w) (S := S) (φ := φ) h3
  have hzs : zv.cells.size = i.size := by rw [z1.1]; exact hzl
  have run1 : ∀ vv w', (Builtin.append_ c.argTypes o.type #[a.eval x, a.eval y]).run P w = .ok vv w' → (execOp a.eval o).run P w = .ok (.value vv) w' := fun vv w' e1 => by rw [hex]; simp [invoke, builtin, hargs, e1]
  have made : ∀ (k : IntKind) (n : Int) (base : Option Addr), a.eval x = .slice base 0 0 → a.eval y = .int k n → 0 ≤ n → n ≠ 0 → z.all AV.one = true → (n + 1) * (i.bytes + 1) ≤ 1099511627776 → φ nx = none →
      OpOK P o a w (Ends P S φ h w (.own nx 0 n.toNat) [(nx, some (.row i.size (List.replicate n.toNat z)))] nx (nx + 1)) := by
    intro k n base e1 e2 h0 h00 hone hb hnx
    obtain ⟨m, rfl⟩ := Int.eq_ofNat_of_zero_le h0
    simp only [Int.toNat_natCast] at *
    have hb' : (m + 1) * (i.bytes + 1) ≤ 1099511627776 := by
      have : (((m + 1) * (i.bytes + 1) : Nat) : Int) ≤ 1099511627776 := by rw [Int.natCast_mul]; simpa using hb
      omega
    obtain ⟨nc, g1, g2⟩ := run_appendZ_move (P := P) (w := w) (ty := o.type) (base := base) (n := m) (k := k) ht hu ht' hu' hi h2 (by omega) hb' hzs
    refine .inl ⟨_, _, run1 _ _ (by rw [e1, e2]; exact g2), ?_⟩
    have hfl := flat_made (w := w.drew) (S := S) (φ := φ) (n := m) ((Adv.drewR S φ h w).reps hs z1)
    have hz2 : Builtin.zeroCells zv.cells m = (Array.range (m * z.length)).map (zv.cells[· % zv.cells.size]!) := by unfold Builtin.zeroCells; rw [hzs, hzl]
    rw [← hz2, hzl] at hfl
    have := fresh_ends (P := P) (nx := nx) (e := e) (n := i.size) (ys := List.replicate m z) (c := Builtin.zeroCells zv.cells m ++ Builtin.zeroCells zv.cells (nc - m)) (nc := nc) hs hnx (by
      rw [extract_pre (by simp [zeroCells_size, hzs])]; exact hfl) (fun q hq => by rw [List.eq_of_mem_replicate hq]; exact hone) (by
        simp [zeroCells_size, hzs, ← Nat.add_mul]
        exact Nat.mul_le_mul_right _ (by omega)) (by simpa using g1)
    simpa using this
  simp only [evalOp] at he
  split at he
  · rename_i k e1
    rw [e1] at hvy
    split at he
    · rename_i e2
      cases he
      rw [e2] at hv
      have hval : a.eval x = .slice none 0 0 := by generalize a.eval x = q at hv; cases hv; rfl
      refine .inl ⟨_, _, run1 _ _ (by rw [hval, hvy.inv_int]; exact run_appendZ_none (P := P) ht hu ht' hu' hi (Nat.le_refl _)), ends_pure hs .nilS⟩
    · rename_i id off len e2
      cases he
      rw [e2] at hv
      obtain ⟨loc, cap', e'', n', hφ, hsh, hn', hlc, hval⟩ := hv.inv_own
      refine .inl ⟨_, _, run1 _ _ (by rw [hval, hvy.inv_int]; exact run_appendZ_none (P := P) ht hu ht' hu' hi hlc), ends_pure hs (.own hφ hsh hn' hlc)⟩
    · rename_i zz e2
      cases he
      rw [e2] at hv
      obtain ⟨aa, cap', hval, hz⟩ := hv.inv_emp
      refine .inl ⟨_, _, run1 _ _ (by rw [hval, hvy.inv_int]; exact run_appendZ_none (P := P) ht hu ht' hu' hi (Nat.zero_le _)), ends_pure hs (.emp hz)⟩
    · cases he
  · rename_i k n hne e1
    rw [e1] at hvy
    split at he
    · rename_i hc1
      have hn0 : n ≠ 0 := fun e => by subst e; first | exact hne k rfl | exact (hne rfl).elim | exact hne rfl
      split at he
      · rename_i e2
        split at he
        · rename_i hc2
          cases he
          rw [e2] at hv
          have hval : a.eval x = .slice none 0 0 := by generalize a.eval x = q at hv; cases hv; rfl
          exact made k n none hval hvy.inv_int hc1.1 hn0 hc1.2.2 hc2 (hn (by omega))
        · cases he
      · rename_i e2
        split at he
        · rename_i hc2
          cases he
          rw [e2] at hv
          obtain ⟨aa, cap', hval, hz⟩ := hv.inv_emp
          have := hz rfl; subst this
          exact made k n (some aa) hval hvy.inv_int hc1.1 hn0 hc1.2.2 hc2 (hn (by omega))
        · cases he
      · cases he
    · cases he
  · cases he
/-! 'clear' -/
theorem snd_clr {c : Call} {x : Operand} {t e : TypeId} {n : Nat} {z : List AV} {ax : Arg} {v : AV} {rd : List Nat} {wr : Wr} {nx' : Nat} {T : FuncId → Option IFn} {cb : Cb} (ho : o.op = .call c) (hc : c.callee = .builtin .clear) (hargs : c.args = #[x])
    (ht : c.argTypes[0]? = some t) (hu : P.underlying t = some (.slice e)) (hk : sizeK P e = some n) (hz : zeroK P e = some z) (hzl : z.length = n) (hx : cOpd x = some ax)
    (he : evalOp T cb env H nx (.clr n z ax) = some (.eff v rd wr nx')) (hrd : ∀ id ∈ rd, h id = hget H id) (hs : Sim P S φ h w) (hr : Reps w S φ env a.tmps) : OpOK P o a w (Ends P S φ h w v wr nx nx') := by
  have hv := arg_rep hr hx
  obtain ⟨consts, hex⟩ := builtin_exec (a := a) ho hc
  obtain ⟨i, zv, h1, h2, h3⟩ := zeroK_spec hz
  obtain ⟨i', k1, k2⟩ := sizeK_spec hk
  rw [k1] at h1; cases h1
  obtain ⟨z1, z2⟩ := zero_rep (w := w) (S := S) (φ := φ) h3
  have hzs : zv.cells.size = n := by rw [z1.1]; exact hzl
  have run1 : ∀ w', (Builtin.clear_ c.argTypes o.type #[a.eval x]).run P w = .ok undef w' → (execOp a.eval o).run P w = .ok (.value undef) w' := fun w' e1 => by rw [hex]; simp [invoke, builtin, hargs, e1]
  have none_ok : ∀ base cap, a.eval x = .slice base 0 cap → OpOK P o a w (Ends P S φ h w undefA [] nx nx) := fun base cap e1 =>
    .inl ⟨undef, w, run1 _ (by rw [e1]; cases base <;> simp [Builtin.clear_, ht, run_underlying hu, undef]), ends_pure hs undef_rep⟩
  simp only [evalOp] at he
  split at he
  · rename_i e2
    cases he
    rw [e2] at hv
    exact none_ok none 0 (by generalize a.eval x = q at hv; cases hv; rfl)
  · rename_i zz e2
    cases he
    rw [e2] at hv
    obtain ⟨aa, cap', hval, -⟩ := hv.inv_emp
    exact none_ok _ _ hval
  · rename_i id off len e2
    rw [e2] at hv
    split at he
    · rename_i s xs e3
      split at he
      · rename_i hcc
        cases he
        obtain ⟨rfl, hle, hone⟩ := hcc
        obtain ⟨loc, cap', e'', n', hφ, hsh, hn', hlc, hval⟩ := hv.inv_own
        have hb : h id = some (.row s xs) := by rw [hrd id (by simp)]; exact e3
        by_cases hl0 : len = 0
        · subst hl0
          have : xs.take off ++ List.replicate 0 z ++ xs.drop (off + 0) = xs := by simp
          rw [this]
          have hr1 : (Builtin.clear_ c.argTypes o.type #[a.eval x]).run P w = .ok undef w := by rw [hval]; simp [Builtin.clear_, ht, run_underlying hu, undef]
          have hup : updH h [(id, some (.row s xs))] = h := by
            funext k; rw [updH_one]
            by_cases hk : k = id
            · simp [hk, hb]
            · simp [hk]
          exact .inl ⟨undef, w, run1 _ hr1, S, φ, by rw [hup]; exact Adv.refl _ _ _ _, by rw [hup]; exact hs, undef_rep, fun _ _ => rfl⟩
        · obtain ⟨loc', p1, p2, p3⟩ := hs.blk id _ hb
          rw [hφ] at p1; cases p1
          obtain ⟨b1, b2, cur, ce, f3, f4, f5⟩ := p2
          have hmul : (off + len) * s ≤ xs.length * s := Nat.mul_le_mul_right _ hle
          rw [Nat.add_mul] at hmul
          have hzc : (Builtin.zeroCells zv.cells len).toList.length = len * s := by simp [zeroCells_size, hzs]
          have hfl := flat_made (w := w) (S := S) (φ := φ) (n := len) z1
          have hz2 : Builtin.zeroCells zv.cells len = (Array.range (len * z.length)).map (zv.cells[· % zv.cells.size]!) := by unfold Builtin.zeroCells; rw [hzs, hzl]
          rw [← hz2, hzl] at hfl
          have hzone : ∀ d ∈ (Builtin.zeroCells zv.cells len).toList, d.oneCell' = true := by
            intro d hd
            obtain ⟨k, hk, rfl⟩ := List.getElem_of_mem hd
            have hk' : k < len * s := by omega
            have h0 : 0 < s := by
              rcases Nat.eq_zero_or_pos s with e | e
              · rw [e] at hk'; simp at hk'
              · exact e
            have hq : k / s < (List.replicate len z).length := by simp; exact Nat.div_lt_of_lt_mul (by rw [Nat.mul_comm]; exact hk')
            have hm : k % s < ((List.replicate len z)[k / s]).length := by simp [hzl]; exact Nat.mod_lt _ h0
            obtain ⟨dv, r1, r2⟩ := hfl.2.2 (k / s) (k % s) _ _ (List.getElem?_eq_getElem hq) (List.getElem?_eq_getElem hm)
            rw [Nat.div_add_mod'] at r1
            have : (Builtin.zeroCells zv.cells len).toList[k] = dv := by
              have e9 : (Builtin.zeroCells zv.cells len)[k]? = some (Builtin.zeroCells zv.cells len).toList[k] := by simp at hk ⊢
              rw [e9] at r1; cases r1; rfl
            rw [this]
            rw [List.all_eq_true] at hone
            exact r2.oneCell (hone _ (by simp))
          have hstore := run_storeCells_at P loc.blk (loc.base + off * s) ce (Builtin.zeroCells zv.cells len).toList 0 cur w f3 (by rw [hzc]; omega) hzone
          obtain ⟨new, hnew⟩ : ∃ new, new = (List.take (loc.base + off * s + 0) cur.toList ++ (Builtin.zeroCells zv.cells len).toList ++ List.drop (loc.base + off * s + 0 + (Builtin.zeroCells zv.cells len).toList.length) cur.toList).toArray := ⟨_, rfl⟩
          rw [← hnew] at hstore
          rw [Nat.add_zero] at hnew
          have hnsz : new.size = cur.size := by rw [hnew]; simp at hzc ⊢; omega
          have hget : ∀ m, new[m]? = if m < loc.base + off * s then cur[m]? else if m < loc.base + off * s + len * s then (Builtin.zeroCells zv.cells len)[m - (loc.base + off * s)]? else cur[m]? := by
            intro m
            rw [hnew]
            simp only [List.getElem?_toArray]
            have hl2 : (List.take (loc.base + off * s) cur.toList).length = loc.base + off * s := by simp; omega
            by_cases q : m < loc.base + off * s
            · rw [if_pos q, List.append_assoc, List.getElem?_append_left (by omega), List.getElem?_take, if_pos q]; simp
            · rw [if_neg q]
              by_cases q2 : m < loc.base + off * s + len * s
              · rw [if_pos q2, List.append_assoc, List.getElem?_append_right (by omega), List.getElem?_append_left (by omega), hl2]; simp
              · rw [if_neg q2, List.append_assoc, List.getElem?_append_right (by omega), List.getElem?_append_right (by omega), List.getElem?_drop, hl2, hzc]
                simp only [Array.getElem?_toList]
                congr 1; omega
          have hr1 : (Builtin.clear_ c.argTypes o.type #[a.eval x]).run P w = .ok undef (w.setRow loc.blk new) := by
            rw [hval]
            obtain ⟨m, rfl⟩ : ∃ m, len = m + 1 := ⟨len - 1, by omega⟩
            simp only [b1] at *
            simp only [Builtin.clear_, ht, List.getElem?_toArray, List.getElem?_cons_zero, Sem.run_bind, run_underlying hu, Result.andThen_ok, zeroValue, typeInfo, run_program, k1, h2, Sem.run_pure, hstore]
            rfl
          refine .inl ⟨undef, _, run1 _ hr1, ?_⟩
          obtain ⟨q1, q2⟩ := rowset_ends (id := id) (zs := xs.take off ++ List.replicate len z ++ xs.drop (off + len)) (new := new) hs hb hφ f3 hnsz (by simp; omega) (fun q hq => by
              rw [List.mem_append, List.mem_append] at hq
              rcases hq with (hq | hq) | hq
              · exact b2 q (List.mem_of_mem_take hq)
              · rw [List.eq_of_mem_replicate hq]; exact hzl
              · exact b2 q (List.mem_of_mem_drop hq)) (fun k j q d r1 r2 => by
              have hj : ∀ q : List AV, q.length = s → q[j]? = some d → j < s := fun q hq r => by
                rcases Nat.lt_or_ge j q.length with h' | h'
                · omega
                · rw [List.getElem?_eq_none h'] at r; cases r
              rw [hget]
              by_cases k1 : k < off
              · rw [List.append_assoc, List.getElem?_append_left (by simp; omega), List.getElem?_take, if_pos k1] at r1
                obtain ⟨o1, dv, r3, r4⟩ := f5 k j q d r1 r2
                have := cell_lt k1 (hj q (b2 q (List.mem_of_getElem? r1)) r2)
                exact ⟨o1, dv, by rw [if_pos (by omega)]; exact r3, r4⟩
              · by_cases k2 : k < off + len
                · rw [List.append_assoc, List.getElem?_append_right (by simp; omega), List.getElem?_append_left (by simp; omega)] at r1
                  have hm : (xs.take off).length = off := by simp; omega
                  rw [hm] at r1
                  have hq := List.eq_of_mem_replicate (List.mem_of_getElem? r1)
                  have hjs := hj q (by rw [hq]; exact hzl) r2
                  obtain ⟨dv, r3, r4⟩ := hfl.2.2 (k - off) j q d r1 r2
                  have h5 : k - off < len := by omega
                  have := cell_lt h5 hjs
                  have h6 : k * s = off * s + (k - off) * s := by rw [← Nat.add_mul]; congr 1; omega
                  rw [List.all_eq_true] at hone
                  refine ⟨hone d (by rw [hq] at r2; exact List.mem_of_getElem? r2), dv, ?_, r4⟩
                  rw [if_neg (by omega), if_pos (by omega), show loc.base + k * s + j - (loc.base + off * s) = (k - off) * s + j by omega]
                  exact r3
                · rw [List.append_assoc, List.getElem?_append_right (by simp; omega), List.getElem?_append_right (by simp; omega), List.getElem?_drop] at r1
                  simp only [List.length_take, List.length_replicate] at r1
                  rw [show off + len + (k - min off xs.length - len) = k by omega] at r1
                  obtain ⟨o1, dv, r3, r4⟩ := f5 k j q d r1 r2
                  have h6 : (off + len) * s ≤ k * s := Nat.mul_le_mul_right _ (by omega)
                  rw [Nat.add_mul] at h6
                  exact ⟨o1, dv, by rw [if_neg (by omega), if_neg (by omega)]; exact r3, r4⟩)
          exact ⟨S, φ, q1, q2, undef_rep, fun _ _ => rfl⟩
      · cases he
    · cases he
  · cases he
end ops
end Go.V
/- Soundness: equal. -/
set_option linter.unusedVariables false
set_option linter.unusedSimpArgs false
namespace Go.V
open Go.RowKit
variable {P : Program}

/-- The first cells, and the others. -/
theorem eqL_split : ∀ {k1 k2 : List Bool} {a b : List AV} {r : Bool}, eqL (k1 ++ k2) a b = some r →
    ∃ r1, eqL k1 (a.take k1.length) (b.take k1.length) = some r1 ∧ ((r1 = true ∧ eqL k2 (a.drop k1.length) (b.drop k1.length) = some r) ∨ (r1 = false ∧ r = false))
  | [], k2, a, b, r, h => ⟨true, by simp [eqL], .inl ⟨rfl, by simpa using h⟩⟩
  | k :: k1, k2, [], b, r, h => by simp [eqL] at h
  | k :: k1, k2, x :: a, [], r, h => by simp [eqL] at h
  | k :: k1, k2, x :: a, y :: b, r, h => by
    simp only [List.cons_append, eqL] at h
    split at h
    · rename_i e
      obtain ⟨r1, h1, h2⟩ := eqL_split h
      exact ⟨r1, by simp [eqL, e, h1], by simpa using h2⟩
    · rename_i e; cases h; exact ⟨false, by simp [eqL, e], .inr ⟨rfl, rfl⟩⟩
    · cases h
section ops
variable {P : Program} {S : Nat → Prop} {φ : Phi} {h : Mem} {H : Heap} {w : World} {env : List AV} {a : Act} {o : Oper} {nx : Nat}
theorem Reps.sub {cs : List AV} {vs : Array Value} (hr : Reps w S φ cs vs) (o n : Nat) : Reps w S φ ((cs.drop o).take n) (vs.extract o (o + n)) := by
  refine ⟨by simp [hr.1]; omega, fun i c v e1 e2 => ?_⟩
  rw [List.getElem?_take] at e1
  split at e1
  · rw [List.getElem?_drop] at e1
    rw [Array.getElem?_extract] at e2
    split at e2
    · exact hr.2 _ c v e1 e2
    · cases e2
  · cases e1
/-- What is proved of a type. -/
def EqOK (P : Program) (w : World) (S : Nat → Prop) (φ : Phi) (D : Nat) (t : TypeId) (ks : List Bool) : Prop :=
  (aggK P t = true → ∀ cs ds vc vd b, Reps w S φ cs vc → Reps w S φ ds vd → eqL ks cs ds = some b → (Op.equalIn D t (.agg vc) (.agg vd)).run P w = .ok b w) ∧
  (aggK P t = false → ks.length = 1 ∧ ∀ c d v u b, Rep w S φ c v → Rep w S φ d u → eqL ks [c] [d] = some b → (Op.equalIn D t v u).run P w = .ok b w)
theorem eq_part {D : Nat} {t : TypeId} {ks : List Bool} {n : Nat} (hE : EqOK P w S φ D t ks) (hn : sizeK P t = some ks.length) (hu : (P.underlying t).isSome = true) {cs ds : List AV} {vc vd : Array Value} {b : Bool} {off : Nat} (h1 : Reps w S φ cs vc) (h2 : Reps w S φ ds vd) (he : eqL ks ((cs.drop off).take ks.length) ((ds.drop off).take ks.length) = some b) :
    ∃ v u, (Go.part t vc off).run P w = .ok v w ∧ (Go.part t vd off).run P w = .ok u w ∧ (Op.equalIn D t v u).run P w = .ok b w := by
  obtain ⟨d, hd⟩ := Option.isSome_iff_exists.1 hu
  cases hg : aggK P t with
  | true =>
    have hg' : isAggD d = true := by simpa [aggK, hd] using hg
    refine ⟨.agg (vc.extract off (off + ks.length)), .agg (vd.extract off (off + ks.length)), ?_, ?_, hE.1 hg _ _ _ _ b (h1.sub off ks.length) (h2.sub off ks.length) he⟩
    · simp only [Go.part, Sem.run_bind, run_isAgg hd, Result.andThen_ok, hg', if_true, run_sizeK hn]; rfl
    · simp only [Go.part, Sem.run_bind, run_isAgg hd, Result.andThen_ok, hg', if_true, run_sizeK hn]; rfl
  | false =>
    have hg' : isAggD d = false := by simpa [aggK, hd] using hg
    obtain ⟨hl, hone⟩ := hE.2 hg
    rw [hl] at he
    have key : ∀ (xs : List AV) (vs : Array Value), Reps w S φ xs vs → (∃ x v, (xs.drop off).take 1 = [x] ∧ vs[off]? = some v ∧ Rep w S φ x v) ∨ (xs.drop off).take 1 = [] := fun xs vs hr => by
      cases hx : xs[off]? with
      | none => right; simp at hx ⊢; omega
      | some x =>
        obtain ⟨v, r1, r2⟩ := hr.get hx
        left
        refine ⟨x, v, ?_, r1, r2⟩
        have hlt : off < xs.length := by
          rcases Nat.lt_or_ge off xs.length with h' | h'
          · exact h'
          · rw [List.getElem?_eq_none h'] at hx; cases hx
        rw [List.drop_eq_getElem_cons hlt]
        have : xs[off]? = some xs[off] := by simp [hlt]
        rw [this] at hx; cases hx; rfl
    obtain ⟨k, rfl⟩ : ∃ k, ks = [k] := by
      cases ks with
      | nil => simp at hl
      | cons k ks => cases ks with
        | nil => exact ⟨k, rfl⟩
        | cons _ _ => simp at hl
    rcases key cs vc h1 with ⟨x, v, e1, e2, e3⟩ | e1
    · rcases key ds vd h2 with ⟨y, u, f1, f2, f3⟩ | f1
      · rw [e1, f1] at he
        refine ⟨v, u, ?_, ?_, hone x y v u b e3 f3 he⟩
        · simp only [Go.part, Sem.run_bind, run_isAgg hd, Result.andThen_ok, hg', Bool.false_eq_true, if_false, e2, Sem.run_pure]
        · simp only [Go.part, Sem.run_bind, run_isAgg hd, Result.andThen_ok, hg', Bool.false_eq_true, if_false, f2, Sem.run_pure]
      · rw [e1, f1] at he; simp [eqL] at he
    · rw [e1] at he; simp [eqL] at he
theorem eqA_run {t : TypeId} {d : TypeDesc} {D : Nat} {k : Bool} {x y : AV} {vx vy : Value} {b : Bool} (hd : P.underlying t = some d) (hk : (k = true ∧ d = .bool) ∨ (k = false ∧ ∃ i, d = .int i)) (hx : Rep w S φ x vx) (hy : Rep w S φ y vy) (he : eqA k x y = some b) : (Op.equalIn (D + 1) t vx vy).run P w = .ok b w := by
  unfold eqA at he
  split at he
  · rename_i i m i' m'
    split at he
    · rename_i hc
      obtain ⟨rfl, rfl⟩ := hc
      cases he
      rcases hk with ⟨h0, -⟩ | ⟨-, q, rfl⟩
      · cases h0
      · rw [hx.inv_int, hy.inv_int]
        simp [Op.equalIn, run_underlying hd]
    · cases he
  · split at he
    · rename_i hc
      subst hc
      cases he
      rcases hk with ⟨-, rfl⟩ | ⟨h0, -⟩
      · rw [hx.inv_bool, hy.inv_bool]
        simp [Op.equalIn, run_underlying hd]
      · cases h0
    · cases he
  · cases he
theorem eqL_one {k : Bool} {x y : AV} {b : Bool} (he : eqL [k] [x] [y] = some b) : eqA k x y = some b := by
  simp only [eqL] at he
  cases e : eqA k x y with
  | none => simp [e] at he
  | some r => cases r <;> simpa [e] using he
theorem flatFs_pre {rec : TypeId → Option (List Bool)} : ∀ {fs : List Field} {acc ks : List Bool}, flatFs P rec fs acc = some ks → ∃ rest, ks = acc ++ rest
  | [], acc, ks, h => by cases h; exact ⟨[], by simp⟩
  | f :: fs, acc, ks, h => by
    simp only [flatFs] at h
    split at h
    · split at h
      · split at h
        · obtain ⟨r, rfl⟩ := flatFs_pre h; exact ⟨_, by rw [List.append_assoc]⟩
        · cases h
      · cases h
    · cases h
theorem flat_loop {d D : Nat} (hE : ∀ t ks, flatK P d t = some ks → EqOK P w S φ D t ks) (hU : ∀ t ks, flatK P d t = some ks → (P.underlying t).isSome = true) {cs ds : List AV} {vc vd : Array Value} (h1 : Reps w S φ cs vc) (h2 : Reps w S φ ds vd) :
    ∀ {fs : List Field} {acc rest : List Bool} {b : Bool}, flatFs P (flatK P d) fs acc = some (acc ++ rest) → eqL rest (cs.drop acc.length) (ds.drop acc.length) = some b →
      Sem.run P (forIn fs ((none, ()) : Option Bool × Unit) fun f __s =>
            if f.name ≠ "_" then do
              let __do_lift ← Go.part f.type vc f.offset
              let __do_lift_1 ← Go.part f.type vd f.offset
              let __do_lift ← Op.equalIn D f.type __do_lift __do_lift_1
              if (!__do_lift) = true then pure (ForInStep.done (some false, ())) else pure (ForInStep.yield (none, ()))
            else pure (ForInStep.yield (none, ()))) w = .ok (if b then none else some false, ()) w
  | [], acc, rest, b, hf, he => by
    have hr : rest = [] := by simp only [flatFs, Option.some.injEq] at hf; simpa using hf
    subst hr
    have hb : b = true := by
      cases hx : cs.drop acc.length with
      | nil => cases hy : ds.drop acc.length with
        | nil => rw [hx, hy] at he; cases he; rfl
        | cons _ _ => rw [hx, hy] at he; cases he
      | cons _ _ => rw [hx] at he; simp [eqL] at he
    subst hb
    rfl
  | f :: fs, acc, rest, b, hf, he => by
    simp only [flatFs] at hf
    split at hf
    · rename_i hc
      obtain ⟨hname, hoff⟩ := hc
      split at hf
      · rename_i ks hks
        split at hf
        · rename_i hsz
          obtain ⟨rest', e⟩ := flatFs_pre hf
          have hrest : rest = ks ++ rest' := by rw [List.append_assoc] at e; exact List.append_cancel_left e
          subst hrest
          rw [← List.append_assoc] at hf
          obtain ⟨r1, g1, g2⟩ := eqL_split he
          obtain ⟨v, u, q1, q2, q3⟩ := eq_part (n := 0) (hE _ _ hks) hsz (hU _ _ hks) h1 h2 g1
          rw [List.forIn_cons]
          simp only [hname, ne_eq, not_false_eq_true, if_true, Sem.run_bind, hoff, q1, q2, q3, Result.andThen_ok]
          rcases g2 with ⟨rfl, g2⟩ | ⟨rfl, rfl⟩
          · simp only [Bool.not_true, Bool.false_eq_true, if_false, Sem.run_pure, Result.andThen_ok]
            have hl : (acc ++ ks).length = acc.length + ks.length := by simp
            exact flat_loop hE hU h1 h2 (acc := acc ++ ks) (rest := rest') hf (by rw [hl, ← List.drop_drop, ← List.drop_drop]; exact g2)
          · simp
        · cases hf
      · cases hf
    · cases hf
theorem flat_under {d : Nat} {t : TypeId} {ks : List Bool} (h : flatK P d t = some ks) : (P.underlying t).isSome = true := by
  cases d with
  | zero => cases h
  | succ d =>
    simp only [flatK] at h
    split at h <;> first | (cases h; done) | (rename_i e; simp [e]) | (rename_i e _; simp [e])
theorem flat_eq : ∀ (d : Nat) (t : TypeId) (ks : List Bool), flatK P d t = some ks → ∀ D, d ≤ D → EqOK P w S φ D t ks
  | 0, t, ks, h, D, hD => by cases h
  | d + 1, t, ks, h, D, hD => by
    obtain ⟨D, rfl⟩ : ∃ D', D = D' + 1 := ⟨D - 1, by omega⟩
    simp only [flatK] at h
    split at h
    · rename_i hu
      cases h
      refine ⟨fun hg => by simp [aggK, hu, isAggD] at hg, fun _ => ⟨rfl, fun c d v u b h1 h2 he => eqA_run hu (.inl ⟨rfl, rfl⟩) h1 h2 (eqL_one he)⟩⟩
    · rename_i i hu
      cases h
      refine ⟨fun hg => by simp [aggK, hu, isAggD] at hg, fun _ => ⟨rfl, fun c d v u b h1 h2 he => eqA_run hu (.inr ⟨rfl, _, rfl⟩) h1 h2 (eqL_one he)⟩⟩
    · rename_i fs hu
      split at h
      · cases h
      · rename_i hsi
        have hsi' : P.stoodInHeld t = false := by simpa using hsi
        refine ⟨fun _ cs ds vc vd b h1 h2 he => ?_, fun hg => by simp [aggK, hu, isAggD] at hg⟩
        have hl := flat_loop (D := D) (fun t ks hh => flat_eq d t ks hh D (by omega)) (fun t ks hh => flat_under hh) h1 h2 (acc := []) (rest := ks) (by simpa using h) (by simpa using he)
        unfold Op.equalIn
        simp only [Sem.run_bind, run_underlying hu, Result.andThen_ok, run_program, hsi', Bool.false_eq_true, if_false]
        rw [← Array.forIn_toList, hl]
        cases b <;> rfl
    · cases h
theorem snd_eqv {neg : Bool} {t t' : TypeId} {x y : Operand} {ax ay : Arg} {io : PO} {v : AV} {rd : List Nat} {wr : Wr} {nx' : Nat} {T : FuncId → Option IFn} {cb : Cb} (ho : o.op = .binOp (if neg then .neq else .eql) t x y t') (hio : cEqv P neg t ax ay = some io) (hx : cOpd x = some ax) (hy : cOpd y = some ay) (hnt : isIntT P t = false)
    (he : evalOp T cb env H nx io = some (.eff v rd wr nx')) (hs : Sim P S φ h w) (hr : Reps w S φ env a.tmps) : OpOK P o a w (Ends P S φ h w v wr nx nx') := by
  have hv := arg_rep hr hx
  have hvy := arg_rep hr hy
  unfold cEqv at hio
  split at hio
  · rename_i ks hks
    split at hio
    · cases hio
    · rename_i hgt
      have hgt' : P.eqGuardType P.depth t = false := by simpa using hgt
      cases hio
      have hE := flat_eq (w := w) (S := S) (φ := φ) 20 t ks hks Op.maxDepth (by decide)
      have hex : execOp a.eval o = (do pure (.value (← (do eqGuard (if neg then .neq else .eql) t x y (a.eval x) (a.eval y); binOp (if neg then .neq else .eql) t (a.eval x) (a.eval y))))) := by unfold execOp; simp only [ho]
      have fin : ∀ b, (eqGuard (if neg then .neq else .eql) t x y (a.eval x) (a.eval y)).run P w = .ok () w → (binOp (if neg then .neq else .eql) t (a.eval x) (a.eval y)).run P w = .ok (.bool (if neg then !b else b)) w → OpOK P o a w (Ends P S φ h w (.bool (if neg then !b else b)) [] nx nx) := fun b e1 e2 =>
        opOK_value hex (by rw [Sem.run_bind, e1]; exact e2) (ends_pure hs .bool)
      cases hg : aggK P t with
      | true =>
        rw [hg] at he
        simp only [evalOp] at he
        split at he
        · rename_i cs ds e1 e2
          cases e3 : eqL ks cs ds with
          | none => simp [e3] at he
          | some b =>
            simp [e3] at he
            obtain ⟨rfl, rfl, rfl, rfl⟩ := he
            rw [e1] at hv; rw [e2] at hvy
            obtain ⟨vc, f1, f2⟩ := hv.inv_agg
            obtain ⟨vd, g1, g2⟩ := hvy.inv_agg
            have hrun := hE.1 hg _ _ _ _ b f2 g2 e3
            refine fin b ?_ ?_
            · rw [f1, g1]; cases neg <;> simp [eqGuard, hgt']
            · rw [f1, g1]; cases neg <;> simp [binOp, Op.equal, hrun]
        · cases he
      | false =>
        rw [hg] at he
        simp only [evalOp] at he
        cases e3 : eqL ks [arg env ax] [arg env ay] with
        | none => simp [e3] at he
        | some b =>
          simp [e3] at he
          obtain ⟨rfl, rfl, rfl, rfl⟩ := he
          obtain ⟨hl, hone⟩ := hE.2 hg
          have hrun := hone _ _ _ _ b hv hvy e3
          -- both are truths: numbers are compared elsewhere
          have hbb : ∃ p q, a.eval x = .bool p ∧ a.eval y = .bool q := by
            simp only [flatK] at hks
            split at hks
            · cases hks
              have := eqL_one e3
              unfold eqA at this
              split at this
              · simp at this
              · rename_i p q h1 h2; rw [h1] at hv; rw [h2] at hvy; exact ⟨p, q, hv.inv_bool, hvy.inv_bool⟩
              · cases this
            · rename_i hu; simp [isIntT, hu] at hnt
            · rename_i hu; simp [aggK, hu, isAggD] at hg
            · cases hks
          obtain ⟨p, q, f1, g1⟩ := hbb
          rw [f1, g1] at hrun
          refine fin b ?_ ?_
          · rw [f1, g1]; cases neg <;> simp [eqGuard]
          · rw [f1, g1]; cases neg <;> simp [binOp, Op.equal, hrun]
  · cases hio
theorem nilT_spec {t : TypeId} (h : nilT P t = true) : ∃ e, P.underlying t = some (.slice e) := by
  unfold nilT at h
  split at h
  · rename_i e he; exact ⟨e, he⟩
  · cases h
theorem isNilC_spec {y : Operand} (h : isNilC y = true) : y = .const (.slice none 0 0) := by
  unfold isNilC at h
  split at h
  · rfl
  · cases h
theorem snd_isNil {neg : Bool} {t t' : TypeId} {x y : Operand} {ax : Arg} {v : AV} {rd : List Nat} {wr : Wr} {nx' : Nat} {T : FuncId → Option IFn} {cb : Cb} (ho : o.op = .binOp (if neg then .neq else .eql) t x y t') (hn : nilT P t = true) (hy : isNilC y = true) (hx : cOpd x = some ax)
    (he : evalOp T cb env H nx (.isNil neg ax) = some (.eff v rd wr nx')) (hs : Sim P S φ h w) (hr : Reps w S φ env a.tmps) : OpOK P o a w (Ends P S φ h w v wr nx nx') := by
  have hv := arg_rep hr hx
  obtain ⟨e, hu⟩ := nilT_spec hn
  have hy' := isNilC_spec hy
  subst hy'
  have hex : execOp a.eval o = (do pure (.value (← (do eqGuard (if neg then .neq else .eql) t x (.const (.slice none 0 0)) (a.eval x) (.slice none 0 0); binOp (if neg then .neq else .eql) t (a.eval x) (.slice none 0 0))))) := by unfold execOp; simp only [ho]; rfl
  have key : ∀ base len cap, a.eval x = .slice base len cap → OpOK P o a w (Ends P S φ h w (.bool (if neg then base.isSome else base.isNone)) [] nx nx) := fun base len cap e1 => by
    refine opOK_value hex (w' := w) (vv := .bool (if neg then base.isSome else base.isNone)) ?_ (ends_pure hs .bool)
    rw [e1]
    have heq : ∀ d, (Op.equalIn (d + 1) t (.slice base len cap) (.slice none 0 0)).run P w = .ok base.isNone w := fun d => by
      unfold Op.equalIn
      rw [Sem.run_bind, run_underlying hu]
      cases base <;> rfl
    have h0 : (Op.equal t (.slice base len cap) (.slice none 0 0)).run P w = .ok base.isNone w := heq 9999
    have hg : ∀ op, (eqGuard op t x (.const (.slice none 0 0)) (.slice base len cap) (.slice none 0 0)).run P w = .ok () w := fun op => by
      unfold eqGuard; cases op <;> rfl
    cases neg
    · have hb : binOp .eql t (.slice base len cap) (.slice none 0 0) = (do pure (.bool (← Op.equal t (.slice base len cap) (.slice none 0 0)))) := rfl
      simp only [Bool.false_eq_true, if_false, hb, Sem.run_bind, hg, h0, Result.andThen_ok, Sem.run_pure]
    · have hb : binOp .neq t (.slice base len cap) (.slice none 0 0) = (do pure (.bool (!(← Op.equal t (.slice base len cap) (.slice none 0 0))))) := rfl
      simp only [if_true, hb, Sem.run_bind, hg, h0, Result.andThen_ok, Sem.run_pure]
      cases base <;> rfl
  simp only [evalOp] at he
  split at he
  · rename_i e2
    cases he
    rw [e2] at hv
    have := key none 0 0 (by generalize a.eval x = q at hv; cases hv; rfl)
    cases neg <;> simpa using this
  · rename_i id off len e2
    cases he
    rw [e2] at hv
    obtain ⟨loc, cap', e'', n', hφ, hsh, hn', hlc, hval⟩ := hv.inv_own
    have := key _ _ _ hval
    cases neg <;> simpa using this
  · rename_i z e2
    cases he
    rw [e2] at hv
    obtain ⟨aa, cap', hval, -⟩ := hv.inv_emp
    have := key _ _ _ hval
    cases neg <;> simpa using this
  · rename_i s q qs e2
    cases he
    rw [e2] at hv
    obtain ⟨aa, cap, f1, f0, f2⟩ := hv.inv_lst
    rcases f2 with f2 | ⟨b, base, rfl, f2⟩
    · cases f2
    · have := key _ _ _ f1
      cases neg <;> simpa using this
  · cases he
end ops
end Go.V
