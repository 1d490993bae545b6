/- Soundness: every operation. -/
import Derived.Test.YtemlkeknpjbcnaaVn
set_option linter.unusedVariables false
set_option linter.unusedSimpArgs false
namespace Go.V
open Go.RowKit
variable {P : Program}

theorem call_exec {a : Act} {o : Oper} {c : Call} {f : FuncId} (ho : o.op = .call c) (hc : c.callee = .value (.func f)) : (execOp a.eval o) = (do let d ← (pure { target := .fn (.func f) #[], args := #[] ++ c.args.map a.eval } : Sem Deferred); invoke d.target d.args) := by
  unfold execOp
  simp only [ho, resolve, hc, Deferred.ofValue, Act.eval]
section ops
variable {P : Program} {T : FuncId → Option IFn} {cb : Cb} {S : Nat → Prop} {φ : Phi} {h : Mem} {H : Heap} {w : World} {env : List AV} {a : Act} {o : Oper} {nx : Nat}
theorem args_arr {c : Call} {as : List Arg} (h : cOpds c.args.toList = some as) (hr : Reps w S φ env a.tmps) : Reps w S φ (as.map (arg env)) (c.args.map a.eval) := by
  have := args_rep hr h
  have e : (c.args.toList.map a.eval).toArray = c.args.map a.eval := by rw [← Array.toList_map]
  rw [e] at this; exact this
theorem snd_callC {c : Call} {f : FuncId} {args : List AV} {us : Array Value} {v : AV} {rd : List Nat} {wr : Wr} {nx' : Nat} (hT : TOK P T) (hcb : CbOK P cb)
    (hex : ∀ w, (execOp a.eval o).run P w = (callFunc f us).run P w) (hargs : Reps w S φ args us)
    (he : callOp T cb f args H nx = some (.eff v rd wr nx')) (hrd : ∀ id ∈ rd, h id = hget H id) (hs : Sim P S φ h w) (hn : ∀ id, nx ≤ id → id < nx' → φ id = none) : OpOK P o a w (Ends P S φ h w v wr nx nx') := by
  unfold callOp at he
  split at he
  · cases he
  · rename_i fn hfn
    split at he
    · cases hq : cb (.fn f) args H with
      | none => simp [hq] at he
      | some p => simp [hq] at he
    · split at he
      · rename_i args' rd' e1
        split at he
        · rename_i t H0 e2
          split at he
          · rename_i e3
            cases he
            obtain ⟨q1, q2⟩ := call_pure hT hcb hfn e1 e2 e3 hrd hs hargs hn
            exact .inr (.inr ⟨f, us, w, by rw [hex, q1], q2⟩)
          · cases he
        · cases he
      · cases he
theorem callv_exec {c : Call} {g : Operand} {f : FuncId} {vf vc : Array Value} (ho : o.op = .call c) (hc : c.callee = .value g) (hg : a.eval g = .func (.func f) vf vc) (w : World) : (execOp a.eval o).run P w = (callFunc f (vf ++ c.args.map a.eval ++ vc)).run P w := by
  unfold execOp
  simp only [ho, resolve, hc, hg, Deferred.ofValue, Sem.run_bind, Sem.run_pure, Result.andThen_ok, invoke]
theorem one_arg {c : Call} {x : Arg} (hargs : cOpds c.args.toList = some [x]) : ∃ p, c.args = #[p] ∧ cOpd p = some x := by
  cases hl : c.args.toList with
  | nil => rw [hl] at hargs; cases hargs
  | cons p ps =>
    rw [hl] at hargs
    simp only [cOpds] at hargs
    split at hargs
    · rename_i q1 q2 e1 e2
      cases hargs
      cases ps with
      | nil => exact ⟨p, by have : c.args = (c.args.toList).toArray := by simp
                            rw [this, hl], e1⟩
      | cons r rs =>
        simp only [cOpds] at e2
        split at e2 <;> cases e2
    · cases hargs
theorem op_eff (hT : TOK P T) (hcb : CbOK P cb) {op : Op} {io : PO} (hc : cOp P op = some io) (ho : o.op = op) {v : AV} {rd : List Nat} {wr : Wr} {nx' : Nat} (he : evalOp T cb env H nx io = some (.eff v rd wr nx')) (hrd : ∀ id ∈ rd, h id = hget H id) (hs : Sim P S φ h w) (hr : Reps w S φ env a.tmps) (hn : ∀ id, nx ≤ id → id < nx' → φ id = none) :
    OpOK P o a w (Ends P S φ h w v wr nx nx') := by
  have hn1 : nx < nx' → φ nx = none := fun hlt => hn nx (Nat.le_refl _) hlt
  cases op with
  | move x =>
    simp only [cOp] at hc
    cases hx : cOpd x with
    | none => simp [hx] at hc
    | some ax => simp [hx] at hc; subst hc; cases he; exact snd_mv (by unfold execOp; simp only [ho]) hx hs hr
  | assign x =>
    simp only [cOp] at hc
    cases hx : cOpd x with
    | none => simp [hx] at hc
    | some ax => simp [hx] at hc; subst hc; cases he; exact snd_mv (by unfold execOp; simp only [ho]) hx hs hr
  | pick x y z =>
    simp only [cOp] at hc
    split at hc
    · rename_i ac ax ay e1 e2 e3
      cases hc
      simp only [evalOp] at he
      split at he
      · rename_i b hb; cases he; exact snd_pick ho e1 e2 e3 hb hs hr
      · cases he
    · cases hc
  | alloc e =>
    simp only [cOp] at hc
    cases hz : zeroK P e with
    | none => simp [hz] at hc
    | some z =>
      simp [hz] at hc; subst hc
      simp only [evalOp] at he
      split at he
      · cases he; exact snd_new ho hz hs (hn1 (by omega))
      · cases he
  | box e x =>
    simp only [cOp] at hc
    cases hx : cOpd x with
    | none => simp [hx] at hc
    | some ax =>
      simp [hx] at hc; subst hc
      simp only [evalOp] at he
      split at he
      · rename_i h1; cases he; exact snd_box ho hx h1 hs hr (hn1 (by omega))
      · cases he
  | build t ps =>
    simp only [cOp] at hc
    split at hc
    · rename_i d z e1 e2
      split at hc
      · rename_i hg
        cases hp : cParts P d ps.toList with
        | none => simp [hp] at hc
        | some ps' =>
          simp [hp] at hc; subst hc
          simp only [evalOp] at he
          cases hf : fillA env ps' z with
          | none => simp [hf] at he
          | some cs => simp [hf] at he; obtain ⟨rfl, rfl, rfl, rfl⟩ := he; exact snd_build ho e1 e2 hg hp hf hs hr
      · cases hc
    · cases hc
  | buildSlice t n ps =>
    simp only [cOp] at hc
    split at hc
    · rename_i e hu
      split at hc
      · rename_i s z ps' e1 e2 e3
        split at hc
        · cases hc
        · rename_i h0
          cases hc
          simp only [evalOp] at he
          split at he
          · rename_i hcc
            cases hf : fillS env s ps' (List.replicate n z) with
            | none => simp [hf] at he
            | some xs => simp [hf] at he; obtain ⟨rfl, rfl, rfl, rfl⟩ := he; exact snd_buildS ho hu e1 e2 e3 (by simpa using h0) hcc hf hs hr (hn1 (by omega))
          · cases he
      · cases hc
    · cases hc
  | load t x =>
    simp only [cOp] at hc
    split at hc
    · rename_i k ax e1 e2; cases hc; exact snd_load ho e1 e2 he hrd hs hr
    · cases hc
  | store t x y =>
    simp only [cOp] at hc
    split at hc
    · rename_i n ax ay e1 e2 e3; cases hc; exact snd_store ho e1 e2 e3 he hrd hs hr
    · cases hc
  | fieldAddr s x i =>
    simp only [cOp] at hc
    split at hc
    · rename_i fs ax hu hx
      cases hf : fs[i]? with
      | none => simp [hf] at hc
      | some f =>
        simp only [hf, Option.bind_some] at hc
        split at hc
        · cases hc
        · rename_i n hne hsz; cases hc; exact snd_fieldA ho hu hf hsz (fun e => hne e) hx he hs hr
        · cases hc
    · cases hc
  | indexAddr t x y =>
    simp only [cOp] at hc
    split at hc
    · rename_i e ax ay hu hx hy
      cases hk : sizeK P e with
      | none => simp [hk] at hc
      | some n => simp [hk] at hc; subst hc; exact snd_indexS ho hu hk hx hy he hrd hs hr
    · rename_i len e ax ay hu hx hy
      cases hk : sizeK P e with
      | none => simp [hk] at hc
      | some n => simp [hk] at hc; subst hc; exact snd_indexA ho hu hk hx hy he hs hr
    · cases hc
  | field t x i =>
    simp only [cOp] at hc
    split at hc
    · rename_i fs ax hu hx
      cases hf : fs[i]? with
      | none => simp [hf] at hc
      | some f =>
        cases hk : partK P f.type with
        | none => simp [hf, hk] at hc
        | some k => simp [hf, hk] at hc; subst hc; exact snd_field ho hu hf hk hx he hs hr
    · cases hc
  | index t x y =>
    simp only [cOp] at hc
    split at hc
    · rename_i len e ax ay hu hx hy
      split at hc
      · rename_i k s hk hsz; cases hc; exact snd_indexV ho hu hk hsz hx hy he hs hr
      · cases hc
    · cases hc
  | binOp op t x y t' =>
    simp only [cOp] at hc
    split at hc
    · rename_i ax ay hx hy
      split at hc
      · cases hc
        simp only [evalOp] at he
        cases hb : binA op (arg env ax) (arg env ay) with
        | none => simp [hb] at he
        | some z => simp [hb] at he; obtain ⟨rfl, rfl, rfl, rfl⟩ := he; exact snd_bin ho hx hy hb hs hr
      · rename_i hnt
        have hnt' : isIntT P t = false := by simpa using hnt
        split at hc
        · unfold cNil at hc
          split at hc
          · rename_i hnil; cases hc; simp only [Bool.and_eq_true] at hnil; exact snd_isNil (neg := false) ho hnil.1 hnil.2 hx he hs hr
          · exact snd_eqv (neg := false) ho hc hx hy hnt' he hs hr
        · unfold cNil at hc
          split at hc
          · rename_i hnil; cases hc; simp only [Bool.and_eq_true] at hnil; exact snd_isNil (neg := true) ho hnil.1 hnil.2 hx he hs hr
          · exact snd_eqv (neg := true) ho hc hx hy hnt' he hs hr
        · cases hc
    · cases hc
  | unOp op t x =>
    simp only [cOp] at hc
    cases hx : cOpd x with
    | none => simp [hx] at hc
    | some ax =>
      simp [hx] at hc; subst hc
      simp only [evalOp] at he
      cases hb : unA op (arg env ax) with
      | none => simp [hb] at he
      | some z => simp [hb] at he; obtain ⟨rfl, rfl, rfl, rfl⟩ := he; exact snd_un ho hx hb hs hr
  | convert s d x =>
    simp only [cOp] at hc
    split at hc
    · rename_i k0 k ax h1 h2 hx
      cases hc
      simp only [evalOp] at he
      split at he
      · rename_i k' n e1; cases he; exact snd_conv ho h1 h2 hx e1 hs hr
      · cases he
    · cases hc
  | makeSlice t x y =>
    simp only [cOp] at hc
    split at hc
    · rename_i e ax ay hu hx hy
      split at hc
      · rename_i i z hi hz
        split at hc
        · cases hc
        · cases hc; exact snd_mkS ho hu hi hz hx hy he hs hr hn1
      · cases hc
    · cases hc
  | slice t x lo hi mx =>
    cases mx with
    | none =>
      simp only [cOp] at hc
      split at hc
      · rename_i e ax alo ahi hu hx hlo hhi
        cases hk : sizeK P e with
        | none => simp [hk] at hc
        | some n => simp [hk] at hc; subst hc; exact snd_sl ho hu hk hx hlo hhi he hrd hs hr
      · cases hc
    | some mx =>
      cases hi with
      | none => simp [cOp] at hc
      | some hi =>
        simp only [cOp] at hc
        split at hc
        · rename_i e ax alo ahi amx hu hx hlo hhi hmx
          cases hk : sizeK P e with
          | none => simp [hk] at hc
          | some n => simp [hk] at hc; subst hc; exact snd_sl3 ho hu hk hx hlo hhi hmx he hrd hs hr
        · cases hc
  | extract x i =>
    simp only [cOp] at hc
    cases hx : cOpd x with
    | none => simp [hx] at hc
    | some ax =>
      simp [hx] at hc; subst hc
      simp only [evalOp] at he
      split at he
      · rename_i vs e1
        cases e2 : vs[i]? with
        | none => simp [e2] at he
        | some z => simp [e2] at he; obtain ⟨rfl, rfl, rfl, rfl⟩ := he; exact snd_ext ho hx e1 e2 hs hr
      · cases he
  | makeFunc fn first caps =>
    cases fn with
    | func f =>
      simp only [cOp] at hc
      split at hc
      · rename_i af ac h1 h2; cases hc; cases he; exact snd_mkF ho h1 h2 hs hr
      · cases hc
    | _ => simp [cOp] at hc
  | call c =>
    simp only [cOp] at hc
    split at hc
    · rename_i b args hcal hargs
      unfold cBuiltin at hc
      split at hc
      · -- len
        rename_i x
        obtain ⟨p, hp1, hp2⟩ := one_arg hargs
        split at hc
        · rename_i e ht
          cases hc
          cases h0 : c.argTypes[0]? with
          | none => simp [h0] at ht
          | some t => simp [h0] at ht; exact snd_len ho hcal hp1 h0 ht hp2 he hs hr
        · rename_i n e ht
          cases hc
          cases he
          cases h0 : c.argTypes[0]? with
          | none => simp [h0] at ht
          | some t => simp [h0] at ht; exact snd_lenC ho hcal hp1 h0 ht hs
        · cases hc
      · -- append
        rename_i x y
        have ha : ∃ p q, c.args = #[p, q] ∧ cOpd p = some x ∧ cOpd q = some y := by
          cases hl : c.args.toList with
          | nil => rw [hl] at hargs; cases hargs
          | cons p ps =>
            rw [hl] at hargs
            simp only [cOpds] at hargs
            split at hargs
            · rename_i q1 q2 e1 e2
              cases hargs
              cases ps with
              | nil => cases e2
              | cons r rs =>
                simp only [cOpds] at e2
                split at e2
                · rename_i q3 q4 e3 e4
                  cases e2
                  cases rs with
                  | nil => exact ⟨p, r, by have : c.args = (c.args.toList).toArray := by simp
                                           rw [this, hl], e1, e3⟩
                  | cons r' rs' =>
                    simp only [cOpds] at e4
                    split at e4 <;> cases e4
                · cases e2
            · cases hargs
        obtain ⟨p, q, hp1, hp2, hp3⟩ := ha
        split at hc
        · rename_i e u ht hu1
          split at hc
          · rename_i i z hi hz
            split at hc
            · rename_i hcc
              simp only [beq_iff_eq] at hcc
              cases h0 : c.argTypes[0]? with
              | none => simp [h0] at ht
              | some t =>
                simp [h0] at ht
                split at hc
                · rename_i hsl
                  cases hc
                  obtain ⟨e', he'⟩ : ∃ e', P.underlying u = some (.slice e') := by
                    unfold isSliceT at hsl
                    split at hsl
                    · rename_i e' he'; exact ⟨e', he'⟩
                    · cases hsl
                  exact snd_app ho hcal hp1 h0 ht hu1 he' hi hz hcc hp2 hp3 he hrd hs hr hn1
                · split at hc
                  · rename_i hit
                    cases hc
                    obtain ⟨k', hk'⟩ : ∃ k', P.underlying u = some (.int k') := by
                      unfold isIntT at hit
                      split at hit
                      · rename_i e' he'; exact ⟨e', he'⟩
                      · cases hit
                    exact snd_appZ ho hcal hp1 h0 ht hu1 hk' hi hz hcc hp2 hp3 he hs hr hn1
                  · cases hc
            · cases hc
          · cases hc
        · cases hc
      · -- cap
        rename_i x
        obtain ⟨p, hp1, hp2⟩ := one_arg hargs
        split at hc
        · rename_i e ht
          cases hc
          cases h0 : c.argTypes[0]? with
          | none => simp [h0] at ht
          | some t => simp [h0] at ht; exact snd_cap ho hcal hp1 h0 ht hp2 he hs hr
        · cases hc
      · -- clear
        rename_i x
        obtain ⟨p, hp1, hp2⟩ := one_arg hargs
        split at hc
        · rename_i e ht
          split at hc
          · rename_i n z hk hz
            split at hc
            · rename_i hzl
              cases hc
              simp only [beq_iff_eq] at hzl
              cases h0 : c.argTypes[0]? with
              | none => simp [h0] at ht
              | some t => simp [h0] at ht; exact snd_clr ho hcal hp1 h0 ht hk hz hzl hp2 he hrd hs hr
            · cases hc
          · cases hc
        · cases hc
      · cases hc; exact snd_mx (mx := false) ho hcal hargs he hs hr
      · cases hc; exact snd_mx (mx := true) ho hcal hargs he hs hr
      · cases hc
    · rename_i f args hcal hargs
      cases hc
      simp only [evalOp] at he
      exact snd_callC (c := c) (us := c.args.map a.eval) hT hcb (fun w => by rw [call_exec ho hcal]; simp [invoke]) (args_arr hargs hr) he hrd hs hn
    · rename_i g args hng hcal hargs
      cases hg : cOpd g with
      | none => simp [hg] at hc
      | some ag =>
        simp [hg] at hc; subst hc
        simp only [evalOp] at he
        split at he
        · rename_i f first caps e1
          have hv := arg_rep hr hg
          rw [e1] at hv
          obtain ⟨vf, vc, k1, k2, k3⟩ : ∃ vf vc, a.eval g = .func (.func f) vf vc ∧ Reps w S φ first vf ∧ Reps w S φ caps vc := by
            generalize a.eval g = q at hv
            cases hv with
            | fn hl h hl' h' => exact ⟨_, _, rfl, ⟨hl, h⟩, ⟨hl', h'⟩⟩
          exact snd_callC (c := c) hT hcb (callv_exec ho hcal k1) ((k2.append (args_arr hargs hr)).append k3) he hrd hs hn
        · rename_i id e1
          cases hq : cb (.yl id) (args.map (arg env)) H with
          | none => simp [hq] at he
          | some p => simp [hq] at he
        · cases he
    · cases hc
  | _ => simp [cOp] at hc
end ops
end Go.V
