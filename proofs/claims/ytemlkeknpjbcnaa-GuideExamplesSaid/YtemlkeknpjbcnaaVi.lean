/- Soundness: slices made, cut, measured, appended to. -/
import Derived.Test.YtemlkeknpjbcnaaVh
set_option linter.unusedVariables false
set_option linter.unusedSimpArgs false
namespace Go.V
open Go.RowKit
variable {P : Program}

section ops
variable {P : Program} {S : Nat → Prop} {φ : Phi} {h : Mem} {H : Heap} {w : World} {env : List AV} {a : Act} {o : Oper} {nx : Nat}
theorem snd_mkS {t e : TypeId} {x y : Operand} {i : TypeInfo} {z : List AV} {ax ay : Arg} {v : AV} {rd : List Nat} {wr : Wr} {nx' : Nat} {T : FuncId → Option IFn} {cb : Cb} (ho : o.op = .makeSlice t x y) (hu : P.underlying t = some (.slice e)) (hi : P.info? e = some i) (hz : zeroK P e = some z) (hx : cOpd x = some ax) (hy : cOpd y = some ay)
    (he : evalOp T cb env H nx (.mkS i.size i.bytes z ax ay) = some (.eff v rd wr nx')) (hs : Sim P S φ h w) (hr : Reps w S φ env a.tmps) (hn : nx < nx' → φ nx = none) : OpOK P o a w (Ends P S φ h w v wr nx nx') := by
  have hv := arg_rep hr hx
  have hvy := arg_rep hr hy
  have hex : execOp a.eval o = (do pure (.value (← Instr.makeSlice t (a.eval x) (a.eval y)))) := by unfold execOp; simp only [ho]
  simp only [evalOp] at he
  split at he
  · rename_i k l k' c e1 e2
    rw [e1] at hv; rw [e2] at hvy
    split at he
    · rename_i hc
      cases he
      obtain ⟨c1, c2, c3, c4, c5⟩ := hc
      obtain ⟨i', zv, h1, h2, h3⟩ := zeroK_spec hz
      rw [hi] at h1; cases h1
      obtain ⟨r1, r2⟩ := zero_rep (w := w) (S := S) (φ := φ) h3
      have hb : (i.bytes : Int) * c ≤ 1099511627776 ∧ c ≤ 1099511627776 := by
        have e : (c + 1) * ((i.bytes : Int) + 1) = i.bytes * c + c + i.bytes + 1 := by rw [Int.add_mul, Int.mul_add, Int.mul_comm c]; omega
        have : 0 ≤ (i.bytes : Int) * c := Int.mul_nonneg (by omega) (by omega)
        omega
      have hrun := run_make (P := P) w t e i zv hu hi h2 k k' l c c1 c2 (by omega) (by omega)
      rw [hv.inv_int, hvy.inv_int] at hex
      have hfl := flat_made r1 c.toNat
      rw [c4] at hfl
      refine opOK_value hex hrun (Flat.new_ends hs (hn (by omega)) hfl (fun q hq => by rw [List.eq_of_mem_replicate hq]; exact c5) l.toNat c.toNat (by simp) (by omega))
    · cases he
  · cases he
theorem bnd_spec {d most n : Nat} {x : Option Operand} {ax : Option Arg} (hx : cOpt x = some ax) (hb : bnd env d most ax = some n) (hr : Reps w S φ env a.tmps) (hd : d ≤ most) :
    n ≤ most ∧ ((x = none ∧ n = d) ∨ ∃ (y : Operand) (k : IntKind) (i : Int), x = some y ∧ a.eval y = .int k i ∧ 0 ≤ i ∧ i ≤ most ∧ n = i.toNat) := by
  cases x with
  | none => cases hx; cases hb; exact ⟨hd, .inl ⟨rfl, rfl⟩⟩
  | some y =>
    simp only [cOpt] at hx
    cases hy : cOpd y with
    | none => simp [hy] at hx
    | some b =>
      simp [hy] at hx; subst hx
      have hv := arg_rep hr hy
      simp only [bnd] at hb
      split at hb
      · rename_i k i e1
        split at hb
        · rename_i hc
          cases hb
          rw [e1] at hv
          exact ⟨by omega, .inr ⟨y, k, i, rfl, hv.inv_int, hc.1, hc.2, rfl⟩⟩
        · cases hb
      · cases hb
theorem run_sliceBound {k : IntKind} {i : Int} {y : Nat} {code : BoundsCode} (h0 : 0 ≤ i) (h1 : i ≤ y) : (Instr.sliceBound (.int k i) y code).run P w = .ok i.toNat w := by
  unfold Instr.sliceBound
  simp only [asIntOf, Sem.run_bind, Sem.run_pure, Result.andThen_ok]
  rw [if_pos ⟨h0, h1⟩]; rfl
theorem run_sliceBounds {len cap l h' : Nat} {lo hi : Option Operand} {alo ahi : Option Arg} (hlo : cOpt lo = some alo) (hhi : cOpt hi = some ahi) (hr : Reps w S φ env a.tmps) (hlc : len ≤ cap) (e1 : bnd env len len ahi = some h') (e2 : bnd env 0 h' alo = some l) :
    (Instr.sliceBounds true len cap (lo.map a.eval) (hi.map a.eval) none).run P w = .ok (l, h', cap) w ∧ l ≤ h' ∧ h' ≤ len := by
  obtain ⟨b1, b2⟩ := bnd_spec hhi e1 hr (Nat.le_refl _)
  obtain ⟨b3, b4⟩ := bnd_spec hlo e2 hr (Nat.zero_le _)
  refine ⟨?_, b3, b1⟩
  unfold Instr.sliceBounds
  rcases b2 with ⟨rfl, rfl⟩ | ⟨y, k, i, rfl, q1, q2, q3, rfl⟩ <;> rcases b4 with ⟨rfl, rfl⟩ | ⟨y', k', i', rfl, q1', q2', q3', rfl⟩
  · simp
  · have e4 := run_sliceBound (P := P) (w := w) (k := k') (code := .sliceB) q2' q3'
    simp [q1', e4]
  · have e3 := run_sliceBound (P := P) (w := w) (k := k) (y := cap) (code := .sliceAcap) q2 (by omega)
    simp [q1, e3]
  · have e3 := run_sliceBound (P := P) (w := w) (k := k) (y := cap) (code := .sliceAcap) q2 (by omega)
    have e4 := run_sliceBound (P := P) (w := w) (k := k') (code := .sliceB) q2' q3'
    simp [q1, e3, q1', e4]
theorem LstAt.sub {sz l n b base : Nat} {xs : List (List AV)} (hl : LstAt w S sz xs b base) : LstAt w S sz ((xs.drop l).take n) b (base + l * sz) := by
  refine ⟨fun x hx => hl.1 x (List.mem_of_mem_drop (List.mem_of_mem_take hx)), hl.2.1, fun i j x c e1 e2 => ?_⟩
  rw [List.getElem?_take] at e1
  split at e1
  · rw [List.getElem?_drop] at e1
    obtain ⟨v, r1, r2⟩ := hl.2.2 (l + i) j x c e1 e2
    refine ⟨v, ?_, r2⟩
    rw [mul_add'] at r1; exact r1
  · cases e1
theorem snd_sl {t e : TypeId} {x : Operand} {lo hi : Option Operand} {alo ahi : Option Arg} {n : Nat} {ax : Arg} {v : AV} {rd : List Nat} {wr : Wr} {nx' : Nat} {T : FuncId → Option IFn} {cb : Cb} (ho : o.op = .slice t x lo hi none) (hu : P.underlying t = some (.slice e)) (hk : sizeK P e = some n) (hx : cOpd x = some ax) (hlo : cOpt lo = some alo) (hhi : cOpt hi = some ahi)
    (he : evalOp T cb env H nx (.sl n ax alo ahi) = some (.eff v rd wr nx')) (hrd : ∀ id ∈ rd, h id = hget H id) (hs : Sim P S φ h w) (hr : Reps w S φ env a.tmps) : OpOK P o a w (Ends P S φ h w v wr nx nx') := by
  have hv := arg_rep hr hx
  have hex : execOp a.eval o = (do pure (.value (← Instr.sliceAt t (a.eval x) (lo.map a.eval) (hi.map a.eval) none))) := by unfold execOp; simp only [ho]; rfl
  have hrun : ∀ (base : Option Addr) len cap l h', len ≤ cap → a.eval x = .slice base len cap → bnd env len len ahi = some h' → bnd env 0 h' alo = some l →
      (Instr.sliceAt t (a.eval x) (lo.map a.eval) (hi.map a.eval) none).run P w = .ok (.slice (if cap = l then base else base.map (·.add (l * n))) (h' - l) (cap - l)) w ∧ l ≤ h' ∧ h' ≤ len := by
    intro base len cap l h' hlc e1 e2 e3
    obtain ⟨r1, r2, r3⟩ := run_sliceBounds (P := P) hlo hhi hr hlc e2 e3
    refine ⟨?_, r2, r3⟩
    simp only [Instr.sliceAt, Sem.run_bind, run_underlying hu, Result.andThen_ok, Instr.slice, e1, r1, run_sizeK hk]
    rfl
  simp only [evalOp] at he
  split at he
  · rename_i sz xs e1
    rw [e1] at hv
    split at he
    · rename_i hsz
      subst hsz
      cases e2 : bnd env xs.length xs.length ahi with
      | none => simp [e2] at he
      | some h' =>
        cases e3 : bnd env 0 h' alo with
        | none => simp [e2, e3] at he
        | some l =>
          simp only [e2, e3, Option.bind_some, Option.map_some, Option.some.injEq, OpR.eff.injEq] at he
          obtain ⟨rfl, rfl, rfl, rfl⟩ := he
          obtain ⟨aa, cap, f1, f0, f2⟩ := hv.inv_lst
          obtain ⟨r1, r2, r3⟩ := hrun aa xs.length cap l h' f0 f1 e2 e3
          refine opOK_value hex r1 (ends_pure hs ?_)
          have hlen : ((xs.drop l).take (h' - l)).length = h' - l := by simp; omega
          split
          · rename_i hc
            rcases f2 with f2 | ⟨b, base, rfl, f2⟩
            · subst f2
              have : h' = 0 := by simp at r3; omega
              subst this
              have hl0 : l = 0 := by omega
              subst hl0
              simp only [List.drop_nil, List.take_nil, Nat.sub_self]
              exact .lstNil
            · have hadd : (if cap = l then (some ⟨b, base, none⟩ : Option Addr) else (some (⟨b, base, none⟩ : Addr)).map (·.add (l * sz))) = some ⟨b, base + l * sz, none⟩ := by
                split
                · rename_i hcl
                  have : l = 0 := by omega
                  subst this; simp
                · simp [add_none]
              rw [hadd]
              have := (f2.sub (l := l) (n := h' - l)).lst (φ := φ) (cap := cap - l) (by rw [hlen]; omega)
              rwa [hlen] at this
          · rename_i hc
            have h0 : h' - l = 0 := by omega
            rw [h0]
            rcases f2 with f2 | ⟨b, base, rfl, f2⟩
            · subst f2; simp at r3; omega
            · split
              · exact .emp (by simp)
              · exact .emp (by simp)
    · cases he
  · rename_i id off len e1
    rw [e1] at hv
    split at he
    · rename_i sz xs e2
      split at he
      · rename_i hsz
        subst hsz
        cases e3 : bnd env len len ahi with
        | none => simp [e3] at he
        | some h' =>
          cases e4 : bnd env 0 h' alo with
          | none => simp [e3, e4] at he
          | some l =>
            simp only [e3, e4, Option.bind_some, Option.map_some, Option.some.injEq, OpR.eff.injEq] at he
            obtain ⟨rfl, rfl, rfl, rfl⟩ := he
            have hb : h id = some (.row sz xs) := by rw [hrd id (by simp)]; exact e2
            obtain ⟨loc, cap, e', n', hφ, hsh, hn', hlc, hval⟩ := hv.inv_own
            obtain ⟨loc', g1, g2, g3⟩ := hs.blk id _ hb
            rw [hφ] at g1; cases g1
            have hls : loc.sz = sz := g2.1
            obtain ⟨r1, r2, r3⟩ := hrun _ len cap l h' hlc hval e3 e4
            refine opOK_value hex r1 (ends_pure hs ?_)
            split
            · rename_i hc
              have hadd : (if cap = l then (some ⟨loc.blk, loc.base + off * loc.sz, none⟩ : Option Addr) else (some (⟨loc.blk, loc.base + off * loc.sz, none⟩ : Addr)).map (·.add (l * sz))) = some ⟨loc.blk, loc.base + (off + l) * loc.sz, none⟩ := by
                split
                · rename_i hcl
                  have : l = 0 := by omega
                  subst this; simp
                · simp only [Option.map_some, add_none, mul_add', hls]
              rw [hadd]
              exact .own hφ hsh (by rw [show off + l + (cap - l) = off + cap by omega]; exact hn') (by omega)
            · rename_i hc
              have h0 : h' - l = 0 := by omega
              rw [h0]
              split
              · exact .emp (by simp)
              · exact .emp (by simp)
      · cases he
    · cases he
  · rename_i z e1
    rw [e1] at hv
    obtain ⟨aa, cap, hval, hz⟩ := hv.inv_emp
    cases e3 : bnd env 0 0 ahi with
    | none => simp [e3] at he
    | some h' =>
      cases e4 : bnd env 0 h' alo with
      | none => simp [e3, e4] at he
      | some l =>
        simp only [e3, e4, Option.bind_some, Option.map_some, Option.some.injEq, OpR.eff.injEq] at he
        obtain ⟨rfl, rfl, rfl, rfl⟩ := he
        obtain ⟨r1, r2, r3⟩ := hrun (some aa) 0 cap l h' (Nat.zero_le _) hval e3 e4
        refine opOK_value hex r1 (ends_pure hs ?_)
        have hh : h' = 0 := by omega
        subst hh
        have hl0 : l = 0 := by omega
        subst hl0
        split
        · exact .emp (fun e => by have := hz e; omega)
        · exact .emp (fun e => by have := hz e; omega)
  · rename_i e1
    rw [e1] at hv
    cases e3 : bnd env 0 0 ahi with
    | none => simp [e3] at he
    | some h' =>
      cases e4 : bnd env 0 h' alo with
      | none => simp [e3, e4] at he
      | some l =>
        simp only [e3, e4, Option.bind_some, Option.map_some, Option.some.injEq, OpR.eff.injEq] at he
        obtain ⟨rfl, rfl, rfl, rfl⟩ := he
        have hval : a.eval x = .slice none 0 0 := by
          generalize a.eval x = q at hv
          cases hv; rfl
        obtain ⟨r1, r2, r3⟩ := hrun none 0 0 l h' (Nat.le_refl _) hval e3 e4
        refine opOK_value hex r1 (ends_pure hs ?_)
        have hh : h' = 0 := by omega
        subst hh
        have hl0 : l = 0 := by omega
        subst hl0
        exact .nilS
  · cases he

theorem run_sliceBounds3 {len cap l h' m : Nat} {lo : Option Operand} {hi mx : Operand} {alo : Option Arg} {ahi amx : Arg} (hlo : cOpt lo = some alo) (hhi : cOpd hi = some ahi) (hmx : cOpd mx = some amx) (hr : Reps w S φ env a.tmps) (hlc : len ≤ cap) (e0 : bnd env 0 len (some amx) = some m) (e1 : bnd env 0 m (some ahi) = some h') (e2 : bnd env 0 h' alo = some l) :
    (Instr.sliceBounds true len cap (lo.map a.eval) (some (a.eval hi)) (some (a.eval mx))).run P w = .ok (l, h', m) w ∧ l ≤ h' ∧ h' ≤ m ∧ m ≤ len := by
  obtain ⟨b5, b6⟩ := bnd_spec (x := some mx) (by simp [cOpt, hmx]) e0 hr (Nat.zero_le _)
  obtain ⟨b1, b2⟩ := bnd_spec (x := some hi) (by simp [cOpt, hhi]) e1 hr (Nat.zero_le _)
  obtain ⟨b3, b4⟩ := bnd_spec hlo e2 hr (Nat.zero_le _)
  refine ⟨?_, b3, b1, b5⟩
  rcases b6 with ⟨e, -⟩ | ⟨y0, k0, i0, e, q10, q20, q30, rfl⟩
  · cases e
  · cases e
    have f0 := run_sliceBound (P := P) (w := w) (k := k0) (y := cap) (code := .slice3Acap) q20 (by omega)
    rcases b2 with ⟨e, -⟩ | ⟨y1, k1, i1, e, q11, q21, q31, rfl⟩
    · cases e
    · cases e
      have f1 := run_sliceBound (P := P) (w := w) (k := k1) (code := .slice3B) q21 q31
      unfold Instr.sliceBounds
      rcases b4 with ⟨rfl, rfl⟩ | ⟨y', k', i', rfl, q1', q2', q3', rfl⟩
      · simp [q10, q11, f0, f1]
      · have f2 := run_sliceBound (P := P) (w := w) (k := k') (code := .slice3C) q2' q3'
        simp [q10, q11, q1', f0, f1, f2]
theorem snd_sl3 {t e : TypeId} {x hi mx : Operand} {lo : Option Operand} {alo : Option Arg} {n : Nat} {ax ahi amx : Arg} {v : AV} {rd : List Nat} {wr : Wr} {nx' : Nat} {T : FuncId → Option IFn} {cb : Cb} (ho : o.op = .slice t x lo (some hi) (some mx)) (hu : P.underlying t = some (.slice e)) (hk : sizeK P e = some n) (hx : cOpd x = some ax) (hlo : cOpt lo = some alo) (hhi : cOpd hi = some ahi) (hmx : cOpd mx = some amx)
    (he : evalOp T cb env H nx (.sl3 n ax alo ahi amx) = some (.eff v rd wr nx')) (hrd : ∀ id ∈ rd, h id = hget H id) (hs : Sim P S φ h w) (hr : Reps w S φ env a.tmps) : OpOK P o a w (Ends P S φ h w v wr nx nx') := by
  have hv := arg_rep hr hx
  have hex : execOp a.eval o = (do pure (.value (← Instr.sliceAt t (a.eval x) (lo.map a.eval) (some (a.eval hi)) (some (a.eval mx))))) := by unfold execOp; simp only [ho]; rfl
  have hrun : ∀ (base : Option Addr) len cap l h' m, len ≤ cap → a.eval x = .slice base len cap → bnd env 0 len (some amx) = some m → bnd env 0 m (some ahi) = some h' → bnd env 0 h' alo = some l →
      (Instr.sliceAt t (a.eval x) (lo.map a.eval) (some (a.eval hi)) (some (a.eval mx))).run P w = .ok (.slice (if m = l then base else base.map (·.add (l * n))) (h' - l) (m - l)) w ∧ l ≤ h' ∧ h' ≤ m ∧ m ≤ len := by
    intro base len cap l h' m hlc e1 e0 e2 e3
    obtain ⟨r1, r2, r3⟩ := run_sliceBounds3 (P := P) hlo hhi hmx hr hlc e0 e2 e3
    refine ⟨?_, r2, r3⟩
    simp only [Instr.sliceAt, Sem.run_bind, run_underlying hu, Result.andThen_ok, Instr.slice, e1, r1, run_sizeK hk]
    rfl
  have spl : ∀ {len : Nat} {f : Nat → Nat → Nat → OpR}, ((bnd env 0 len (some amx)).bind fun m => (bnd env 0 m (some ahi)).bind fun h => (bnd env 0 h alo).map fun l => f m h l) = some (.eff v rd wr nx') →
      ∃ m h' l, bnd env 0 len (some amx) = some m ∧ bnd env 0 m (some ahi) = some h' ∧ bnd env 0 h' alo = some l ∧ f m h' l = .eff v rd wr nx' := by
    intro len f hf
    cases e2 : bnd env 0 len (some amx) with
    | none => simp [e2] at hf
    | some m =>
      cases e3 : bnd env 0 m (some ahi) with
      | none => simp [e2, e3] at hf
      | some h' =>
        cases e4 : bnd env 0 h' alo with
        | none => simp [e2, e3, e4] at hf
        | some l => simp [e2, e3, e4] at hf; exact ⟨m, h', l, rfl, e3, e4, hf⟩
  have emp_ok : ∀ {base : Addr} {l h' m : Nat}, l ≤ h' → h' ≤ m → ¬ l < h' → Rep w S φ (.emp (m == l)) (.slice (if m = l then some base else (some base : Option Addr).map (·.add (l * n))) (h' - l) (m - l)) := by
    intro base l h' m c1 c2 c3
    have h0 : h' - l = 0 := by omega
    rw [h0]
    by_cases hml : m = l
    · rw [if_pos hml]; exact .emp (fun _ => by omega)
    · rw [if_neg hml]; exact .emp (fun e => by simp at e; omega)
  simp only [evalOp] at he
  split at he
  · rename_i sz xs e1
    rw [e1] at hv
    split at he
    · rename_i hsz
      subst hsz
      obtain ⟨m, h', l, e2, e3, e4, he⟩ := spl he
      cases he
      obtain ⟨aa, cap, f1, f0, f2⟩ := hv.inv_lst
      obtain ⟨r1, r2, r3, r4⟩ := hrun aa xs.length cap l h' m f0 f1 e2 e3 e4
      refine opOK_value hex r1 (ends_pure hs ?_)
      rcases f2 with f2 | ⟨b, base, rfl, f2⟩
      · subst f2
        have hm : m = 0 := by simp at r4; omega
        subst hm
        have hh : h' = 0 := by omega
        subst hh
        have hl0 : l = 0 := by omega
        subst hl0
        exact .lstNil
      · by_cases hxe : xs.isEmpty = true
        · rw [if_pos hxe]
          have : xs = [] := by simpa using hxe
          subst this
          have hm : m = 0 := by simp at r4; omega
          subst hm
          have hh : h' = 0 := by omega
          subst hh
          have hl0 : l = 0 := by omega
          subst hl0
          exact .lstNil
        · rw [if_neg hxe]
          by_cases hc : l < h'
          · rw [if_pos hc, if_neg (by omega)]
            have hlen : ((xs.drop l).take (h' - l)).length = h' - l := by simp; omega
            have := (f2.sub (l := l) (n := h' - l)).lst (φ := φ) (cap := m - l) (by rw [hlen]; omega)
            rw [hlen] at this
            simpa [add_none] using this
          · rw [if_neg hc]; exact emp_ok r2 r3 hc
    · cases he
  · rename_i id off len e1
    rw [e1] at hv
    split at he
    · rename_i sz xs e2
      split at he
      · rename_i hsz
        subst hsz
        obtain ⟨m, h', l, e3, e4, e5, he⟩ := spl he
        cases he
        have hb : h id = some (.row sz xs) := by rw [hrd id (by simp)]; exact e2
        obtain ⟨loc, cap, e', n', hφ, hsh, hn', hlc, hval⟩ := hv.inv_own
        obtain ⟨loc', g1, g2, g3⟩ := hs.blk id _ hb
        rw [hφ] at g1; cases g1
        have hls : loc.sz = sz := g2.1
        obtain ⟨r1, r2, r3, r4⟩ := hrun _ len cap l h' m hlc hval e3 e4 e5
        refine opOK_value hex r1 (ends_pure hs ?_)
        by_cases hc : l < h'
        · rw [if_pos hc, if_neg (by omega)]
          have hadd : (some (⟨loc.blk, loc.base + off * loc.sz, none⟩ : Addr)).map (·.add (l * sz)) = some ⟨loc.blk, loc.base + (off + l) * loc.sz, none⟩ := by
            simp only [Option.map_some, add_none, mul_add', hls]
          rw [hadd]
          refine .own hφ hsh ?_ (by omega)
          have : (off + l + (m - l)) * loc.sz ≤ (off + cap) * loc.sz := Nat.mul_le_mul_right _ (by omega)
          omega
        · rw [if_neg hc]; exact emp_ok r2 r3 hc
      · cases he
    · cases he
  · rename_i z e1
    rw [e1] at hv
    obtain ⟨aa, cap, hval, hz⟩ := hv.inv_emp
    obtain ⟨m, h', l, e3, e4, e5, he⟩ := spl he
    cases he
    obtain ⟨r1, r2, r3, r4⟩ := hrun (some aa) 0 cap l h' m (Nat.zero_le _) hval e3 e4 e5
    refine opOK_value hex r1 (ends_pure hs ?_)
    have hm : m = 0 := by omega
    subst hm
    have hh : h' = 0 := by omega
    subst hh
    have hl0 : l = 0 := by omega
    subst hl0
    exact .emp (fun _ => rfl)
  · rename_i e1
    rw [e1] at hv
    obtain ⟨m, h', l, e3, e4, e5, he⟩ := spl he
    cases he
    have hval : a.eval x = .slice none 0 0 := by
      generalize a.eval x = q at hv
      cases hv; rfl
    obtain ⟨r1, r2, r3, r4⟩ := hrun none 0 0 l h' m (Nat.le_refl _) hval e3 e4 e5
    refine opOK_value hex r1 (ends_pure hs ?_)
    have hm : m = 0 := by omega
    subst hm
    have hh : h' = 0 := by omega
    subst hh
    have hl0 : l = 0 := by omega
    subst hl0
    exact .nilS
  · cases he

/-! Built-in functions -/
theorem builtin_exec {c : Call} {b : Builtin} (ho : o.op = .call c) (hc : c.callee = .builtin b) : ∃ consts, (execOp a.eval o) = (do let d ← (pure { target := .builtin b c.argTypes o.type consts, args := c.args.map a.eval } : Sem Deferred); invoke d.target d.args) := by
  unfold execOp
  simp only [ho, resolve, hc]
  exact ⟨_, rfl⟩
theorem snd_len {c : Call} {x : Operand} {ax : Arg} {t : TypeId} {e : TypeId} {v : AV} {rd : List Nat} {wr : Wr} {nx' : Nat} {T : FuncId → Option IFn} {cb : Cb} (ho : o.op = .call c) (hc : c.callee = .builtin .len) (hargs : c.args = #[x]) (ht : c.argTypes[0]? = some t) (hu : P.underlying t = some (.slice e)) (hx : cOpd x = some ax)
    (he : evalOp T cb env H nx (.lenS ax) = some (.eff v rd wr nx')) (hs : Sim P S φ h w) (hr : Reps w S φ env a.tmps) : OpOK P o a w (Ends P S φ h w v wr nx nx') := by
  have hv := arg_rep hr hx
  obtain ⟨consts, hex⟩ := builtin_exec (a := a) ho hc
  have key : ∀ base len cap, a.eval x = .slice base len cap → OpOK P o a w (Ends P S φ h w (.int .i64 len) [] nx nx) := fun base len cap e =>
    .inl ⟨.int .i64 len, w, by rw [hex]; simp [invoke, builtin, hargs, Builtin.len_, ht, run_underlying hu, e, goInt], ends_pure hs .int⟩
  simp only [evalOp] at he
  split at he
  · rename_i sz xs e1; cases he; rw [e1] at hv; obtain ⟨aa, cap, f1, -, -⟩ := hv.inv_lst; exact key _ _ _ f1
  · rename_i id off len e1; cases he; rw [e1] at hv; obtain ⟨loc, cap, -, -, -, -, -, -, f1⟩ := hv.inv_own; exact key _ _ _ f1
  · rename_i e1; cases he; rw [e1] at hv
    refine key none 0 0 ?_
    generalize a.eval x = q at hv
    cases hv; rfl
  · rename_i e1; cases he; rw [e1] at hv; obtain ⟨aa, cap, f1, -⟩ := hv.inv_emp; exact key _ _ _ f1
  · cases he
theorem snd_cap {c : Call} {x : Operand} {ax : Arg} {t : TypeId} {e : TypeId} {v : AV} {rd : List Nat} {wr : Wr} {nx' : Nat} {T : FuncId → Option IFn} {cb : Cb} (ho : o.op = .call c) (hc : c.callee = .builtin .cap) (hargs : c.args = #[x]) (ht : c.argTypes[0]? = some t) (hu : P.underlying t = some (.slice e)) (hx : cOpd x = some ax)
    (he : evalOp T cb env H nx (.capS ax) = some (.eff v rd wr nx')) (hs : Sim P S φ h w) (hr : Reps w S φ env a.tmps) : OpOK P o a w (Ends P S φ h w v wr nx nx') := by
  have hv := arg_rep hr hx
  obtain ⟨consts, hex⟩ := builtin_exec (a := a) ho hc
  have key : ∀ base len cap, a.eval x = .slice base len cap → OpOK P o a w (Ends P S φ h w (.int .i64 cap) [] nx nx) := fun base len cap e =>
    .inl ⟨.int .i64 cap, w, by rw [hex]; simp [invoke, builtin, hargs, Builtin.cap_, ht, run_underlying hu, e, goInt], ends_pure hs .int⟩
  simp only [evalOp] at he
  split at he
  · rename_i e1; cases he; rw [e1] at hv
    refine key none 0 0 ?_
    generalize a.eval x = q at hv
    cases hv; rfl
  · rename_i e1; cases he; rw [e1] at hv; obtain ⟨aa, cap, f1, f2⟩ := hv.inv_emp
    have := f2 rfl; subst this
    exact key _ _ _ f1
  · cases he
theorem snd_lenC {c : Call} {x : Operand} {n : Nat} {t e : TypeId} (ho : o.op = .call c) (hc : c.callee = .builtin .len) (hargs : c.args = #[x]) (ht : c.argTypes[0]? = some t) (hu : P.underlying t = some (.array n e)) (hs : Sim P S φ h w) : OpOK P o a w (Ends P S φ h w (.int .i64 n) [] nx nx) := by
  obtain ⟨consts, hex⟩ := builtin_exec (a := a) ho hc
  exact .inl ⟨.int .i64 n, w, by rw [hex]; simp [invoke, builtin, hargs, Builtin.len_, ht, run_underlying hu, goInt], ends_pure hs .int⟩
theorem mxA_rep {mx : Bool} {x y z : AV} {vx vy : Value} (h1 : Rep w S φ x vx) (h2 : Rep w S φ y vy) (he : mxA mx x y = some z) : ∃ vz, (if mx then Builtin.max2 vx vy else Builtin.min2 vx vy).run P w = .ok vz w ∧ Rep w S φ z vz := by
  unfold mxA at he
  split at he
  · cases he
    rw [h1.inv_int, h2.inv_int]
    cases mx
    · exact ⟨_, rfl, .int⟩
    · exact ⟨_, rfl, .int⟩
  · cases he
theorem mxL_rep {mx : Bool} : ∀ {ys : List AV} {vs : List Value} {x z : AV} {vx : Value}, Rep w S φ x vx → Reps w S φ ys vs.toArray → mxL mx x ys = some z → ∃ vz, (vs.foldlM (if mx then Builtin.max2 else Builtin.min2) vx).run P w = .ok vz w ∧ Rep w S φ z vz
  | [], vs, x, z, vx, h1, h2, he => by
    have : vs = [] := by have := h2.1; simpa using this
    subst this
    cases he
    exact ⟨vx, rfl, h1⟩
  | y :: ys, vs, x, z, vx, h1, h2, he => by
    cases vs with
    | nil => have := h2.1; simp at this
    | cons vy vs =>
      simp only [mxL] at he
      cases e1 : mxA mx x y with
      | none => simp [e1] at he
      | some u =>
        simp [e1] at he
        obtain ⟨vu, r1, r2⟩ := mxA_rep (P := P) h1 (h2.2 0 y vy (by simp) (by simp)) e1
        obtain ⟨vz, r3, r4⟩ := mxL_rep (mx := mx) r2 (vs := vs) ⟨by have := h2.1; simpa using this, fun i c v q1 q2 => h2.2 (i + 1) c v (by simpa using q1) (by simpa using q2)⟩ he
        refine ⟨vz, ?_, r4⟩
        have r1' : ((if mx then Builtin.max2 else Builtin.min2) vx vy).run P w = .ok vu w := by cases mx <;> exact r1
        rw [List.foldlM_cons, Sem.run_bind, r1']
        exact r3
theorem snd_mx {c : Call} {mx : Bool} {as : List Arg} {v : AV} {rd : List Nat} {wr : Wr} {nx' : Nat} {T : FuncId → Option IFn} {cb : Cb} (ho : o.op = .call c) (hc : c.callee = .builtin (if mx then .max else .min)) (hargs : cOpds c.args.toList = some as)
    (he : evalOp T cb env H nx (.mx mx as) = some (.eff v rd wr nx')) (hs : Sim P S φ h w) (hr : Reps w S φ env a.tmps) : OpOK P o a w (Ends P S φ h w v wr nx nx') := by
  obtain ⟨consts, hex⟩ := builtin_exec (a := a) ho hc
  have hrs := args_rep hr hargs
  simp only [evalOp] at he
  cases as with
  | nil => simp at he
  | cons x xs =>
    cases e1 : mxL mx (arg env x) (xs.map (arg env)) with
    | none => simp [e1] at he
    | some z =>
      simp [e1] at he
      obtain ⟨rfl, rfl, rfl, rfl⟩ := he
      cases hl : c.args.toList with
      | nil => rw [hl] at hrs; have := hrs.1; simp at this
      | cons p ps =>
        rw [hl] at hrs
        obtain ⟨vz, r1, r2⟩ := mxL_rep (P := P) (mx := mx) (vs := ps.map a.eval) (hrs.2 0 _ (a.eval p) (by simp) (by simp)) ⟨by have := hrs.1; simpa using this, fun i c v q1 q2 => hrs.2 (i + 1) c v (by simpa using q1) (by simpa using q2)⟩ e1
        refine .inl ⟨vz, w, ?_, ends_pure hs r2⟩
        rw [hex]
        have hl2 : (c.args.map a.eval).toList = a.eval p :: ps.map a.eval := by rw [Array.toList_map, hl]; rfl
        cases mx
        · have hx : (Builtin.min_ c.argTypes o.type (c.args.map a.eval)).run P w = .ok vz w := by
            unfold Builtin.min_; rw [hl2]; exact r1
          have hc' : c.callee = .builtin .min := hc
          simp [invoke, builtin, hx, hc']
        · have hx : (Builtin.max_ c.argTypes o.type (c.args.map a.eval)).run P w = .ok vz w := by
            unfold Builtin.max_; rw [hl2]; exact r1
          simp [invoke, builtin, hx]
end ops
end Go.V
