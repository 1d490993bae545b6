/- A program's functions, without fuel. -/
import Derived.Test.YtcgeghpmnnhcpaaJK
import Derived.Deep.Slices
import Derived.ChangeArms
import Derived.Below
import Derived.ProofKit
import Derived.OpenShut
import Derived.ChangeOld
import Derived.IntWalk
set_option linter.unusedVariables false
set_option linter.unusedSimpArgs false
namespace Go.Q
open Go.V
variable {P : Program} {TT : FuncId → Option IFn} {FN : FuncId → Option Fn} {m M : Nat}

mutual
theorem RD.fun_ : ∀ {a : AV} {d d' : D}, RD d a → RD d' a → d = d'
  | _, _, _, .int, h => by cases h; rfl
  | _, _, _, .bool, h => by cases h; rfl
  | _, _, _, .str, h => by cases h; rfl
  | _, _, _, .nilP, h => by cases h; rfl
  | _, _, _, .nilF, h => by cases h; rfl
  | _, _, _, .node h1, h => by
    cases h with
    | node h2 => rw [RD.funL h1 h2]
  | _, _, _, .nilS, h => by cases h; rfl
  | _, _, _, .emp, h => by cases h; rfl
  | _, _, _, .lst h1 h2 h3, h => by
    cases h with
    | lst k1 k2 k3 => rw [RD.funLL h3 k3]
  | _, _, _, .fn h1 h2 h3, h => by
    cases h with
    | fn k1 k2 k3 => rw [RD.funL h1 k1, RD.funL h2 k2]
theorem RD.funL : ∀ {a : List AV} {d d' : List D}, F2 RD d a → F2 RD d' a → d = d'
  | _, _, _, .nil, h => by cases h; rfl
  | _, _, _, .cons h1 t, h => by
    cases h with
    | cons h2 t2 => rw [RD.fun_ h1 h2, RD.funL t t2]
theorem RD.funLL : ∀ {a : List (List AV)} {d d' : List (List D)}, F2 (F2 RD) d a → F2 (F2 RD) d' a → d = d'
  | _, _, _, .nil, h => by cases h; rfl
  | _, _, _, .cons h1 t, h => by
    cases h with
    | cons h2 t2 => rw [RD.funL h1 h2, RD.funLL t t2]
end
/-- What the functions of a program do with data. -/
def ev (FN : FuncId → Option Fn) (m : Nat) : Nat → FuncId → List D → Option D
  | 0, _, _ => none
  | n + 1, f, ds => match FN f with
    | some F => F.den m (ev FN m n) ds
    | none => none
def shOf (FN : FuncId → Option Fn) : Shp := fun f => (FN f).map Fn.rs
/-- A program's tables are right. -/
structure Tabs (P : Program) (TT : FuncId → Option IFn) (FN : FuncId → Option Fn) : Prop where
  tok : TOK P TT
  mix : P.follows .mixedOrders = true
  fn : ∀ f F, FN f = some F → (∃ fn, TT f = some fn ∧ fn.byref = false) ∧ ((∃ d, fnS TT (shOf FN) d F.ps f = some F) ∨ ∀ m n ds d args, F.den m (ev FN m n) ds = some d → F2 RD ds args → ∃ t, PuOK P f args t ∧ RR F.rs d t)
def Q1 (P : Program) (FN : FuncId → Option Fn) (m n : Nat) (f : FuncId) (args : List AV) (t : AV) : Prop := PuOK P f args t ∧ ∀ ds d, F2 RD ds args → ev FN m n f ds = some d → ∃ rs, shOf FN f = some rs ∧ RR rs d t
open Classical in
noncomputable def orc (P : Program) (FN : FuncId → Option Fn) (m n : Nat) (f : FuncId) (args : List AV) : Option AV := if h : ∃ t, Q1 P FN m n f args t then some h.choose else none
theorem cbQ_puOK (m n M k : Nat) {f : FuncId} {args : List AV} {H H' : Heap} {t : AV} (h : cbQ TT M (orc P FN m n) k (.pu f) args H = some (t, H')) : PuOK P f args t := by
  rw [cbQ_pu] at h
  unfold orc at h
  split at h
  · rename_i hx
    cases h
    exact hx.choose_spec.1
  · cases h
theorem cbQ_ok (hT : TOK P TT) (hm : P.follows .mixedOrders = true) (m n M : Nat) : ∀ k, CbOK P (cbQ TT M (orc P FN m n) k)
  | 0 => ⟨fun f args H v H' h => (by cases h), fun f md args H v H' h => (by cases h), fun f args H t H' h => cbQ_puOK m n M 0 h, fun id args H v H' h => (by cases h)⟩
  | k + 1 =>
    have hcb := cbQ_ok hT hm m n M k
    ⟨fun f args H v H' h S φ w vargs hs htop hargs => callBody_ok hT hm hcb (H := H) h hs htop hargs, fun f md args H v H' h => (by cases h), fun f args H t H' h => cbQ_puOK m n M (k + 1) h, fun id args H v H' h S φ w vargs loc hs htop hargs hφ => callRound_ok hT hm hcb (H := H) h hs htop hargs hφ⟩
theorem ev_ok (h : Tabs P TT FN) (m : Nat) : ∀ (n : Nat) {f : FuncId} {ds : List D} {d : D}, ev FN m n f ds = some d → ∀ {args : List AV}, F2 RD ds args → ∃ F t, FN f = some F ∧ PuOK P f args t ∧ RR F.rs d t
  | 0, f, ds, d, he, args, _ => by cases he
  | n + 1, f, ds, d, he, args, ha => by
    simp only [ev] at he
    split at he
    · rename_i F e1
      obtain ⟨-, hF⟩ := h.fn f F e1
      rcases hF with ⟨dd, hF⟩ | hF
      · have hk : ∀ k, Knows TT (cbQ TT (m + 40) (orc P FN m n) k) (ev FN m n) (shOf FN) := fun k f ds d args h1 h2 => by
          obtain ⟨F', t, g1, g2, g3⟩ := ev_ok h m n h1 h2
          obtain ⟨⟨fn, k1, k2⟩, -⟩ := h.fn f F' g1
          have hex : ∃ t, Q1 P FN m n f args t := ⟨t, g2, fun ds' d' q1 q2 => by
            have := RD.funL q1 h2
            subst this
            rw [h1] at q2; cases q2
            exact ⟨F'.rs, by simp [shOf, g1], g3⟩⟩
          refine ⟨fun fn' hfn' => by rw [k1] at hfn'; cases hfn'; exact k2, by rw [k1]; rfl, hex.choose, noH, ?_⟩
          obtain ⟨rs, u1, u2⟩ := hex.choose_spec.2 ds d h2 h1
          refine ⟨rs, ?_, u1, u2⟩
          rw [cbQ_pu]
          unfold orc
          rw [dif_pos hex]
          rfl
        obtain ⟨t, t1, t2⟩ := fnS_ok h.tok h.mix hk (cbQ_ok h.tok h.mix m n (m + 40)) (Nat.le_refl _) hF he ha
        exact ⟨F, t, e1, t1, t2⟩
      · obtain ⟨t, t1, t2⟩ := hF m n ds d args he ha
        exact ⟨F, t, e1, t1, t2⟩
    · cases he

/-! More fuel -/
theorem iterD_mono {f g : List D → Option (Option Nat × List D)} (hfg : ∀ v r, f v = some r → g v = some r) : ∀ {n n' : Nat} {v : List D} {r : Nat × List D}, iterD f n v = some r → n ≤ n' → iterD g n' v = some r
  | 0, _, _, _, h, _ => by cases h
  | n + 1, 0, _, _, _, hn => by omega
  | n + 1, n' + 1, v, r, h, hn => by
    simp only [iterD] at h ⊢
    cases e : f v with
    | none => rw [e] at h; cases h
    | some q =>
      rw [e] at h
      rw [hfg _ _ e]
      obtain ⟨o, v'⟩ := q
      cases o with
      | none => exact iterD_mono hfg h (by omega)
      | some t => exact h
section
variable {m m' : Nat} {Fs Gs : FuncId → List D → Option D}
mutual
theorem den_mono (hm : m ≤ m') (hF : ∀ f ds d, Fs f ds = some d → Gs f ds = some d) : ∀ {t : T} {ρ : List D} {r : Nat × List D}, t.den m Fs ρ = some r → t.den m' Gs ρ = some r
  | .fail, ρ, r, h => by cases h
  | .leaf i, ρ, r, h => h
  | .op p as t, ρ, r, h => by
    simp only [T.den] at h ⊢
    cases e1 : D.den1 p (denL ρ as) with
    | none => rw [e1] at h; cases h
    | some d => rw [e1] at h; exact den_mono hm hF h
  | .call f as t, ρ, r, h => by
    simp only [T.den] at h ⊢
    cases e1 : Fs f (denL ρ as) with
    | none => rw [e1] at h; cases h
    | some d => rw [e1] at h; rw [hF _ _ _ e1]; exact den_mono hm hF h
  | .callD g as t, ρ, r, h => by
    simp only [T.den] at h ⊢
    cases eg : g.den ρ <;> rw [eg] at h <;> try (cases h; done)
    rename_i f a b
    simp only at h ⊢
    cases e1 : Fs f (a ++ denL ρ as ++ b) with
    | none => rw [e1] at h; cases h
    | some d => rw [e1] at h; rw [hF _ _ _ e1]; exact den_mono hm hF h
  | .flat x t, ρ, r, h => by
    simp only [T.den] at h ⊢
    split at h
    · rename_i hx; rw [if_pos hx]; exact den_mono hm hF h
    · cases h
  | .shal n x t, ρ, r, h => by
    simp only [T.den] at h ⊢
    split at h
    · rename_i hx; rw [if_pos hx]; exact den_mono hm hF h
    · cases h
  | .ite x a b, ρ, r, h => by
    simp only [T.den] at h ⊢
    cases eg : x.den ρ <;> rw [eg] at h <;> try (cases h; done)
    simp only at h ⊢
    split at h
    · rename_i hx; rw [if_pos hx]; exact den_mono hm hF h
    · rename_i hx; rw [if_neg hx]; exact den_mono hm hF h
  | .blk body outs ks, ρ, r, h => by
    simp only [T.den] at h ⊢
    cases e1 : outOf outs (body.den m Fs ρ) with
    | none => rw [e1] at h; cases h
    | some q =>
      rw [e1] at h
      have : outOf outs (body.den m' Gs ρ) = some q := by
        cases e2 : body.den m Fs ρ with
        | none => rw [e2] at e1; cases e1
        | some q' => rw [den_mono hm hF e2]; rw [e2] at e1; exact e1
      rw [this]
      exact denK_mono hm hF h
  | .loop init body outs ks, ρ, r, h => by
    simp only [T.den] at h ⊢
    cases e1 : iterD (fun vals => outOf outs (body.den m Fs (ρ ++ vals))) m (denL ρ init) with
    | none => rw [e1] at h; cases h
    | some q =>
      rw [e1] at h
      have : iterD (fun vals => outOf outs (body.den m' Gs (ρ ++ vals))) m' (denL ρ init) = some q := iterD_mono (fun v r' hv => by
        cases e2 : body.den m Fs (ρ ++ v) with
        | none => rw [e2] at hv; cases hv
        | some q' => rw [den_mono hm hF e2]; rw [e2] at hv; exact hv) e1 hm
      rw [this]
      exact denK_mono hm hF h
theorem denK_mono (hm : m ≤ m') (hF : ∀ f ds d, Fs f ds = some d → Gs f ds = some d) : ∀ {ts : List T} {ρ : List D} {i : Nat} {r : Nat × List D}, denK m Fs ρ ts i = some r → denK m' Gs ρ ts i = some r
  | [], ρ, i, r, h => by cases h
  | t :: ts, ρ, 0, r, h => den_mono (t := t) hm hF h
  | t :: ts, ρ, i + 1, r, h => denK_mono (ts := ts) hm hF h
end
theorem Fn.den_mono (hm : m ≤ m') (hF : ∀ f ds d, Fs f ds = some d → Gs f ds = some d) {F : Fn} {ds : List D} {d : D} (h : F.den m Fs ds = some d) : F.den m' Gs ds = some d := by
  unfold Fn.den at h ⊢
  split at h
  · rename_i hx
    rw [if_pos hx]
    cases e : F.tree.den m Fs ds with
    | none => rw [e] at h; cases h
    | some q => rw [Q.den_mono hm hF e]; rw [e] at h; exact h
  · cases h
end
theorem ev_mono {m m' : Nat} (hm : m ≤ m') : ∀ {n n' : Nat}, n ≤ n' → ∀ f ds d, ev FN m n f ds = some d → ev FN m' n' f ds = some d
  | 0, _, _, f, ds, d, h => by cases h
  | n + 1, 0, hn, _, _, _, _ => by omega
  | n + 1, n' + 1, hn, f, ds, d, h => by
    simp only [ev] at h ⊢
    cases e : FN f with
    | none => rw [e] at h; cases h
    | some F => rw [e] at h; exact F.den_mono hm (ev_mono hm (by omega)) h

/-! Without fuel -/
open Classical in
noncomputable def evL (FN : FuncId → Option Fn) (f : FuncId) (ds : List D) : Option D := if h : ∃ d m n, ev FN m n f ds = some d then some h.choose else none
theorem evL_iff {f : FuncId} {ds : List D} {d : D} : evL FN f ds = some d ↔ ∃ m n, ev FN m n f ds = some d := by
  have huniq : ∀ {d d' m n m' n'}, ev FN m n f ds = some d → ev FN m' n' f ds = some d' → d = d' := fun {d d' m n m' n'} h h' => by
    have h1 := ev_mono (m' := max m m') (Nat.le_max_left _ _) (Nat.le_max_left n n') f ds d h
    have h2 := ev_mono (m' := max m m') (Nat.le_max_right _ _) (Nat.le_max_right n n') f ds d' h'
    rw [h1] at h2; cases h2; rfl
  unfold evL
  constructor
  · intro h
    split at h
    · rename_i hx; cases h; exact hx.choose_spec
    · cases h
  · rintro ⟨m, n, h⟩
    have hx : ∃ d m n, ev FN m n f ds = some d := ⟨d, m, n, h⟩
    rw [dif_pos hx]
    obtain ⟨m', n', h'⟩ := hx.choose_spec
    rw [huniq h' h]
open Classical in
/-- A loop, gone round as often as it takes. -/
noncomputable def iterL (f : List D → Option (Option Nat × List D)) (v : List D) : Option (Nat × List D) := if h : ∃ r n, iterD f n v = some r then some h.choose else none
theorem iterL_iff {f : List D → Option (Option Nat × List D)} {v : List D} {r : Nat × List D} : iterL f v = some r ↔ ∃ n, iterD f n v = some r := by
  have huniq : ∀ {r r' n n'}, iterD f n v = some r → iterD f n' v = some r' → r = r' := fun {r r' n n'} h h' => by
    have h1 := iterD_mono (g := f) (fun _ _ h => h) h (Nat.le_max_left n n')
    have h2 := iterD_mono (g := f) (fun _ _ h => h) h' (Nat.le_max_right n n')
    rw [h1] at h2; cases h2; rfl
  unfold iterL
  constructor
  · intro h
    split at h
    · rename_i hx; cases h; exact hx.choose_spec
    · cases h
  · rintro ⟨n, h⟩
    have hx : ∃ r n, iterD f n v = some r := ⟨r, n, h⟩
    rw [dif_pos hx]
    obtain ⟨n', h'⟩ := hx.choose_spec
    rw [huniq h' h]
theorem iterL_eq (f : List D → Option (Option Nat × List D)) (v : List D) : iterL f v = match f v with
    | some (none, v') => iterL f v'
    | some (some t, v') => some (t, v')
    | none => none := by
  cases e : f v with
  | none =>
    simp only
    cases h : iterL f v with
    | none => rfl
    | some r =>
      obtain ⟨n, hn⟩ := iterL_iff.1 h
      cases n with
      | zero => cases hn
      | succ n => simp [iterD, e] at hn
  | some q =>
    obtain ⟨o, v'⟩ := q
    cases o with
    | some t => simp only; exact iterL_iff.2 ⟨1, by simp [iterD, e]⟩
    | none =>
      simp only
      cases h : iterL f v' with
      | some r =>
        obtain ⟨n, hn⟩ := iterL_iff.1 h
        exact iterL_iff.2 ⟨n + 1, by simp [iterD, e, hn]⟩
      | none =>
        cases h' : iterL f v with
        | none => rfl
        | some r =>
          obtain ⟨n, hn⟩ := iterL_iff.1 h'
          cases n with
          | zero => cases hn
          | succ n =>
            simp only [iterD, e] at hn
            rw [iterL_iff.2 ⟨n, hn⟩] at h; cases h
mutual
noncomputable def T.denV (Fs : FuncId → List D → Option D) (ρ : List D) : T → Res
  | .fail => none
  | .leaf j => some (j, ρ)
  | .op p as k => match D.den1 p (denL ρ as) with
    | some d => k.denV Fs (ρ ++ [d])
    | none => none
  | .call f as k => match Fs f (denL ρ as) with
    | some d => k.denV Fs (ρ ++ [d])
    | none => none
  | .callD g as k => match g.den ρ with
    | .fn f a b => match Fs f (a ++ denL ρ as ++ b) with
      | some d => k.denV Fs (ρ ++ [d])
      | none => none
    | _ => none
  | .flat x k => if (x.den ρ).flat then k.denV Fs ρ else none
  | .shal n x k => if (x.den ρ).shal n then k.denV Fs ρ else none
  | .ite c a b => match c.den ρ with
    | .bool b' => if b' then a.denV Fs ρ else b.denV Fs ρ
    | _ => none
  | .blk body outs ks => match outOf outs (body.denV Fs ρ) with
    | some (t, vals) => denVK Fs (ρ ++ vals) ks t
    | none => none
  | .loop init body outs ks => match iterL (fun vals => outOf outs (body.denV Fs (ρ ++ vals))) (denL ρ init) with
    | some (t, vals) => denVK Fs (ρ ++ vals) ks t
    | none => none
noncomputable def denVK (Fs : FuncId → List D → Option D) (ρ : List D) : List T → Nat → Res
  | [], _ => none
  | k :: _, 0 => k.denV Fs ρ
  | _ :: ks, t + 1 => denVK Fs ρ ks t
end
noncomputable def Fn.denV (Fs : FuncId → List D → Option D) (F : Fn) (ds : List D) : Option D :=
  if fits F.ps ds then match F.tree.denV Fs ds with
    | some (j, ρ) => (F.outs[j]?).map (E.den ρ)
    | none => none
  else none
/-- So much fuel is enough. -/
def Enough (FN : FuncId → Option Fn) (k : Nat → Res) (r : Nat × List D) : Prop := ∃ n, k n = some r
theorem ev_up {n n' : Nat} (h : n ≤ n') : ∀ f ds d, ev FN n n f ds = some d → ev FN n' n' f ds = some d := ev_mono h h
mutual
theorem denV_ok : ∀ {t : T} {ρ : List D} {r : Nat × List D}, t.denV (evL FN) ρ = some r → ∃ n, t.den n (ev FN n n) ρ = some r
  | .fail, ρ, r, h => by cases h
  | .leaf i, ρ, r, h => ⟨0, h⟩
  | .op p as t, ρ, r, h => by
    simp only [T.denV] at h
    cases e1 : D.den1 p (denL ρ as) with
    | none => rw [e1] at h; cases h
    | some d =>
      rw [e1] at h
      obtain ⟨n, hn⟩ := denV_ok h
      exact ⟨n, by simp only [T.den, e1]; exact hn⟩
  | .call f as t, ρ, r, h => by
    simp only [T.denV] at h
    cases e1 : evL FN f (denL ρ as) with
    | none => rw [e1] at h; cases h
    | some d =>
      rw [e1] at h
      obtain ⟨n, hn⟩ := denV_ok h
      obtain ⟨m', n', hc⟩ := evL_iff.1 e1
      refine ⟨max n (max m' n'), ?_⟩
      simp only [T.den]
      rw [ev_mono (m' := max n (max m' n')) (n' := max n (max m' n')) (by omega) (by omega) _ _ _ hc]
      exact den_mono (by omega) (ev_up (by omega)) hn
  | .callD g as t, ρ, r, h => by
    simp only [T.denV] at h
    cases eg : g.den ρ <;> rw [eg] at h <;> try (cases h; done)
    rename_i f a b
    simp only at h
    cases e1 : evL FN f (a ++ denL ρ as ++ b) with
    | none => rw [e1] at h; cases h
    | some d =>
      rw [e1] at h
      obtain ⟨n, hn⟩ := denV_ok h
      obtain ⟨m', n', hc⟩ := evL_iff.1 e1
      refine ⟨max n (max m' n'), ?_⟩
      simp only [T.den, eg]
      rw [ev_mono (m' := max n (max m' n')) (n' := max n (max m' n')) (by omega) (by omega) _ _ _ hc]
      exact den_mono (by omega) (ev_up (by omega)) hn
  | .flat x t, ρ, r, h => by
    simp only [T.denV] at h
    split at h
    · rename_i hx
      obtain ⟨n, hn⟩ := denV_ok h
      exact ⟨n, by simp only [T.den]; rw [if_pos hx]; exact hn⟩
    · cases h
  | .shal k x t, ρ, r, h => by
    simp only [T.denV] at h
    split at h
    · rename_i hx
      obtain ⟨n, hn⟩ := denV_ok h
      exact ⟨n, by simp only [T.den]; rw [if_pos hx]; exact hn⟩
    · cases h
  | .ite x a b, ρ, r, h => by
    simp only [T.denV] at h
    cases eg : x.den ρ <;> rw [eg] at h <;> try (cases h; done)
    simp only at h
    split at h
    · rename_i hx
      obtain ⟨n, hn⟩ := denV_ok h
      exact ⟨n, by simp only [T.den, eg]; rw [if_pos hx]; exact hn⟩
    · rename_i hx
      obtain ⟨n, hn⟩ := denV_ok h
      exact ⟨n, by simp only [T.den, eg]; rw [if_neg hx]; exact hn⟩
  | .blk body outs ks, ρ, r, h => by
    simp only [T.denV] at h
    cases e0 : body.denV (evL FN) ρ with
    | none => rw [e0] at h; cases h
    | some q =>
      rw [e0] at h
      cases e1 : outOf outs (some q) with
      | none => rw [e1] at h; cases h
      | some q' =>
        rw [e1] at h
        obtain ⟨n, hn⟩ := denV_ok e0
        obtain ⟨n', hn'⟩ := denVK_ok h
        refine ⟨max n n', ?_⟩
        simp only [T.den]
        rw [den_mono (m' := max n n') (Gs := ev FN (max n n') (max n n')) (by omega) (ev_up (by omega)) hn, e1]
        exact denK_mono (by omega) (ev_up (by omega)) hn'
  | .loop init body outs ks, ρ, r, h => by
    simp only [T.denV] at h
    cases e1 : iterL (fun vals => outOf outs (body.denV (evL FN) (ρ ++ vals))) (denL ρ init) with
    | none => rw [e1] at h; cases h
    | some q =>
      rw [e1] at h
      obtain ⟨n', hn'⟩ := denVK_ok h
      obtain ⟨k, hk⟩ := iterL_iff.1 e1
      have key : ∀ (k : Nat) {v : List D} {q : Nat × List D}, iterD (fun vals => outOf outs (body.denV (evL FN) (ρ ++ vals))) k v = some q → ∃ n, iterD (fun vals => outOf outs (body.den n (ev FN n n) (ρ ++ vals))) n v = some q := by
        intro k
        induction k with
        | zero => intro v q h; cases h
        | succ k ih =>
          intro v q h
          simp only [iterD] at h
          cases e2 : body.denV (evL FN) (ρ ++ v) with
          | none => simp [e2, outOf] at h
          | some b =>
            obtain ⟨n1, hn1⟩ := denV_ok e2
            cases e3 : outOf outs (some b) with
            | none => simp [e2, e3] at h
            | some o =>
              obtain ⟨o, v'⟩ := o
              simp only [e2, e3] at h
              cases o with
              | some t =>
                refine ⟨n1 + 1, ?_⟩
                simp only [iterD]
                rw [den_mono (m' := n1 + 1) (Gs := ev FN (n1 + 1) (n1 + 1)) (by omega) (ev_up (by omega)) hn1, e3]
                exact h
              | none =>
                obtain ⟨n2, hn2⟩ := ih h
                refine ⟨max n1 n2 + 1, ?_⟩
                simp only [iterD]
                rw [den_mono (m' := max n1 n2 + 1) (Gs := ev FN (max n1 n2 + 1) (max n1 n2 + 1)) (by omega) (ev_up (by omega)) hn1, e3]
                exact iterD_mono (fun w r hw => by
                  cases e4 : body.den n2 (ev FN n2 n2) (ρ ++ w) with
                  | none => rw [e4] at hw; cases hw
                  | some q' => rw [den_mono (m' := max n1 n2 + 1) (Gs := ev FN (max n1 n2 + 1) (max n1 n2 + 1)) (by omega) (ev_up (by omega)) e4]; rw [e4] at hw; exact hw) hn2 (by omega)
      obtain ⟨n, hn⟩ := key k hk
      refine ⟨max n n', ?_⟩
      simp only [T.den]
      rw [iterD_mono (n' := max n n') (g := fun vals => outOf outs (body.den (max n n') (ev FN (max n n') (max n n')) (ρ ++ vals))) (fun w r hw => by
        cases e4 : body.den n (ev FN n n) (ρ ++ w) with
        | none => rw [e4] at hw; cases hw
        | some q' => rw [den_mono (m' := max n n') (Gs := ev FN (max n n') (max n n')) (by omega) (ev_up (by omega)) e4]; rw [e4] at hw; exact hw) hn (by omega)]
      exact denK_mono (by omega) (ev_up (by omega)) hn'
theorem denVK_ok : ∀ {ts : List T} {ρ : List D} {i : Nat} {r : Nat × List D}, denVK (evL FN) ρ ts i = some r → ∃ n, denK n (ev FN n n) ρ ts i = some r
  | [], ρ, i, r, h => by cases h
  | t :: ts, ρ, 0, r, h => denV_ok (t := t) h
  | t :: ts, ρ, i + 1, r, h => denVK_ok (ts := ts) h
end
/-- A function, by its tree. -/
theorem evL_of {f : FuncId} {F : Fn} (hF : FN f = some F) {ds : List D} {d : D} (h : F.denV (evL FN) ds = some d) : evL FN f ds = some d := by
  unfold Fn.denV at h
  split at h
  · rename_i hx
    cases e : F.tree.denV (evL FN) ds with
    | none => rw [e] at h; cases h
    | some q =>
      rw [e] at h
      obtain ⟨n, hn⟩ := denV_ok e
      refine evL_iff.2 ⟨n, n + 1, ?_⟩
      simp only [ev, hF, Fn.den]
      rw [if_pos hx, hn]
      exact h
  · cases h
/-- What a function does, in the model. -/
theorem evL_ok (h : Tabs P TT FN) {f : FuncId} {ds : List D} {d : D} (he : evL FN f ds = some d) {args : List AV} (ha : F2 RD ds args) : ∃ F t, FN f = some F ∧ PuOK P f args t ∧ RR F.rs d t := by
  obtain ⟨m, n, h1⟩ := evL_iff.1 he
  exact ev_ok h m n h1 ha
end Go.Q
/- A call's arguments, as they are read, are data. -/
set_option linter.unusedVariables false
set_option linter.unusedSimpArgs false
namespace Go.Q
open Go.V Go.ChangeShapes Go.WideShapes Go.ChangeAt Go.RowKit

/-- What data of a type are like. -/
inductive Kd where
  | int (k : IntKind)
  | bool
  | list (cs : List Kd)
  deriving Inhabited
mutual
def Conf : Kd → D → Prop
  | .int k, d => ∃ n, d = .int k n ∧ (Lit.int k n).wf = true
  | .bool, d => ∃ b, d = .bool b
  | .list cs, d => ∃ xs, d = .list xs ∧ xs.length ≤ maxLen ∧ ∀ x ∈ xs, ConfL cs x
def ConfL : List Kd → List D → Prop
  | [], ds => ds = []
  | k :: ks, ds => ∃ d t, ds = d :: t ∧ Conf k d ∧ ConfL ks t
end
def kdF (P : Program) (rec : TypeId → Option (List Kd)) : List Field → Nat → Option (List Kd)
  | [], _ => some []
  | f :: fs, off => if f.offset = off then match rec f.type with
      | some ks => if ks.length = P.cellsOf f.type then (kdF P rec fs (off + ks.length)).map (ks ++ ·) else none
      | none => none
    else none
def kdK (P : Program) : Nat → TypeId → Option (List Kd)
  | 0, _ => none
  | n + 1, t => match P.underlying t with
    | some (.int k) => some [.int k]
    | some .bool => some [.bool]
    | some (.slice e) => match kdK P n e with
      | some ks => if ks.length = P.cellsOf e ∧ 0 < ks.length then some [.list ks] else none
      | none => none
    | some (.struct fs) => match kdF P (kdK P n) fs.toList 0 with
      | some ks => if ks.length = P.cellsOf t then some ks else none
      | none => none
    | _ => none
theorem ConfL.len : ∀ {ks : List Kd} {ds : List D}, ConfL ks ds → ds.length = ks.length
  | [], ds, h => by rw [show ds = [] from h]; rfl
  | k :: ks, ds, h => by obtain ⟨d, t, rfl, -, h2⟩ := h; simp [ConfL.len h2]
theorem ConfL.append : ∀ {ks ks' : List Kd} {ds ds' : List D}, ConfL ks ds → ConfL ks' ds' → ConfL (ks ++ ks') (ds ++ ds')
  | [], ks', ds, ds', h, h' => by rw [show ds = [] from h]; exact h'
  | k :: ks, ks', ds, ds', h, h' => by
    obtain ⟨d, t, rfl, h1, h2⟩ := h
    exact ⟨d, t ++ ds', rfl, h1, ConfL.append h2 h'⟩
theorem cell_there {W : World} {a : Addr} {v : Value} (h : W.cell? a = some v) : a.spot = none ∧ a.block < W.heap.size := by
  unfold World.cell? at h
  split at h
  · rename_i c t s hc
    by_cases hs : a.spot.isSome
    · rw [if_pos hs] at h; cases h
    · refine ⟨by simpa using hs, ?_⟩
      rcases Nat.lt_or_ge a.block W.heap.size with h1 | h1
      · exact h1
      · rw [Array.getElem?_eq_none h1] at hc; cases hc
  · cases h
theorem choose_fun {α : Type} [Inhabited α] (n : Nat) (p : Nat → α → Prop) (h : ∀ i, i < n → ∃ x, p i x) : ∃ f : Nat → α, ∀ i, i < n → p i (f i) := by
  induction n with
  | zero => exact ⟨fun _ => default, fun i hi => by omega⟩
  | succ n ih =>
    obtain ⟨f, hf⟩ := ih (fun i hi => h i (by omega))
    obtain ⟨x, hx⟩ := h n (by omega)
    exact ⟨fun i => if i = n then x else f i, fun i hi => by
      by_cases e : i = n
      · subst e; simpa using hx
      · simp only [if_neg e]; exact hf i (by omega)⟩
section
variable {H : Type} {enc : TypeId × Value → H} {P : Program} {W : World} {base : Nat} {held : Bool}
/-- Cells that stand for data. -/
def Stand (W : World) (ks : List Kd) (cs : List Value) : Prop := ∃ (ds : List D) (as : List AV), ConfL ks ds ∧ F2 RD ds as ∧ as.all AV.one = true ∧ as.length = cs.length ∧ ∀ (i : Nat) a v, as[i]? = some a → cs[i]? = some v → Rep W (fun b => b < W.heap.size) (fun _ => none) a v
theorem Stand.append {ks ks' : List Kd} {cs cs' : List Value} (h : Stand W ks cs) (h' : Stand W ks' cs') : Stand W (ks ++ ks') (cs ++ cs') := by
  obtain ⟨ds, as, h1, h2, h3, h4, h5⟩ := h
  obtain ⟨ds', as', k1, k2, k3, k4, k5⟩ := h'
  refine ⟨ds ++ ds', as ++ as', h1.append k1, h2.append k2, by rw [List.all_append, h3, k3]; rfl, by simp [h4, k4], fun i a v ha hv => ?_⟩
  by_cases hi : i < as.length
  · rw [List.getElem?_append_left hi] at ha
    rw [List.getElem?_append_left (by omega)] at hv
    exact h5 i a v ha hv
  · rw [List.getElem?_append_right (by omega)] at ha
    rw [List.getElem?_append_right (by omega), ← h4] at hv
    exact k5 _ a v ha hv
theorem stand_ok : ∀ (n : Nat) {t : TypeId} {ks : List Kd} {fuel : Nat} {cs : List Value} {x : DataW H × List MemPlace}, kdK P n t = some ks → DataW.trod enc P W base (fun _ => true) held fuel t cs = some x → Stand W ks cs
  | 0, t, ks, fuel, cs, x, hk, _ => by cases hk
  | n + 1, t, ks, fuel, cs, x, hk, h => by
    simp only [kdK] at hk
    split at hk
    · rename_i k hu
      cases hk
      obtain ⟨m, rfl, -, hw⟩ := DataW.trod_int hu h
      exact ⟨[.int k m], [.int k m], ⟨_, _, rfl, ⟨m, rfl, hw⟩, rfl⟩, .single .int, rfl, rfl, fun i a v ha hv => by
        cases i with
        | zero => cases ha; cases hv; exact .int
        | succ i => simp at ha⟩
    · rename_i hu
      cases hk
      obtain ⟨b, rfl, -⟩ := DataW.trod_bool hu h
      exact ⟨[.bool b], [.bool b], ⟨_, _, rfl, ⟨b, rfl⟩, rfl⟩, .single .bool, rfl, rfl, fun i a v ha hv => by
        cases i with
        | zero => cases ha; cases hv; exact .bool
        | succ i => simp at ha⟩
    · rename_i e hu
      split at hk
      · rename_i ke e1
        split at hk
        · rename_i hc
          cases hk
          rcases Go.Deep.open_slice hu h with ⟨rfl, -⟩ | ⟨a, len, cap, m, n', Df, Pl, rfl, -, hlc, hml, hm, hx, hel⟩
          · exact ⟨[.list []], [.nilS], ⟨_, _, rfl, ⟨[], rfl, by simp, by simp⟩, rfl⟩, .single .nilS, rfl, rfl, fun i a v ha hv => by
              cases i with
              | zero => cases ha; cases hv; exact .nilS
              | succ i => simp at ha⟩
          · simp at hm
            subst hm
            by_cases h0 : len = 0
            · subst h0
              exact ⟨[.list []], [.emp false], ⟨_, _, rfl, ⟨[], rfl, by simp, by simp⟩, rfl⟩, .single .emp, rfl, rfl, fun i a v ha hv => by
                cases i with
                | zero => cases ha; cases hv; exact .emp (by simp)
                | succ i => simp at ha⟩
            · have hsp : a.spot = none ∧ a.block < W.heap.size := by
                obtain ⟨cs', h1, h2⟩ := hel 0 (by omega)
                obtain ⟨-, hl, hc'⟩ := World.cells?_some h1
                have h3 := hc' 0 (by omega)
                rw [List.getElem?_eq_getElem (by omega)] at h3
                have h4 := cell_there h3
                obtain ⟨b, off, sp⟩ := a
                cases sp with
                | none => exact ⟨rfl, by simpa [add_none] using h4.2⟩
                | some q => exact absurd h4.1 (by unfold Addr.add; simp)
              obtain ⟨b, off, sp⟩ := a
              obtain ⟨hsp1, hsp2⟩ := hsp
              simp only at hsp1 hsp2
              subst hsp1
              -- the elements
              have hst : ∀ i, i < len → ∃ y : List D × List AV × List Value, ConfL ke y.1 ∧ F2 RD y.1 y.2.1 ∧ y.2.1.all AV.one = true ∧ y.2.1.length = ke.length ∧ y.2.2.length = ke.length ∧ (∀ j, j < ke.length → W.cell? ⟨b, off + i * ke.length + j, none⟩ = y.2.2[j]?) ∧
                  ∀ (j : Nat) a v, y.2.1[j]? = some a → y.2.2[j]? = some v → Rep W (fun b => b < W.heap.size) (fun _ => none) a v := fun i hi => by
                obtain ⟨cs', h1, h2⟩ := hel i (by omega)
                obtain ⟨-, hl, hc'⟩ := World.cells?_some h1
                obtain ⟨ds, as, k1, k2, k3, k4, k5⟩ := stand_ok n e1 h2
                refine ⟨(ds, as, cs'), k1, k2, k3, by rw [← k2.len, k1.len], by rw [hl, hc.1], fun j hj => ?_, k5⟩
                have := hc' j (by omega)
                rw [add_none, add_none, ← hc.1] at this
                exact this
              obtain ⟨f, hf⟩ := choose_fun len _ hst
              let xs : List (List D) := (List.range len).map fun i => (f i).1
              let rows : List (List AV) := (List.range len).map fun i => (f i).2.1
              have hxl : xs.length = len := by simp [xs]
              have hrl : rows.length = len := by simp [rows]
              have hrow : ∀ (i : Nat) y, rows[i]? = some y → i < len ∧ y = (f i).2.1 := fun i y hy => by
                have hi : i < len := by rw [← hrl]; exact (List.getElem?_eq_some_iff.1 hy).1
                simp only [rows, List.getElem?_map] at hy
                rw [List.getElem?_range hi] at hy
                cases hy; exact ⟨hi, rfl⟩
              have hxrow : ∀ (i : Nat) y, xs[i]? = some y → i < len ∧ y = (f i).1 := fun i y hy => by
                have hi : i < len := by rw [← hxl]; exact (List.getElem?_eq_some_iff.1 hy).1
                simp only [xs, List.getElem?_map] at hy
                rw [List.getElem?_range hi] at hy
                cases hy; exact ⟨hi, rfl⟩
              have hs : ∀ y ∈ rows, y.length = ke.length ∧ y.all AV.one = true := fun y hy => by
                obtain ⟨i, hi, e⟩ := List.getElem_of_mem hy
                obtain ⟨h1, rfl⟩ := hrow i y (by rw [List.getElem?_eq_getElem hi, e])
                exact ⟨(hf i h1).2.2.2.1, (hf i h1).2.2.1⟩
              refine ⟨[.list xs], [.lst ke.length rows], ⟨_, _, rfl, ⟨xs, rfl, by rw [hxl]; omega, fun y hy => ?_⟩, rfl⟩, .single (.lst (fun e => h0 (by rw [← hxl, e]; rfl)) hs (F2.of_get (by rw [hxl, hrl]) fun i y z hy hz => ?_)), rfl, rfl, fun i a v ha hv => ?_⟩
              · obtain ⟨i, hi, e⟩ := List.getElem_of_mem hy
                obtain ⟨h1, rfl⟩ := hxrow i y (by rw [List.getElem?_eq_getElem hi, e])
                exact (hf i h1).1
              · obtain ⟨h1, rfl⟩ := hxrow i y hy
                obtain ⟨-, rfl⟩ := hrow i z hz
                exact (hf i h1).2.1
              · cases i with
                | succ i => simp at ha
                | zero =>
                  cases ha; cases hv
                  have := Rep.lst (w := W) (S := fun b => b < W.heap.size) (φ := fun _ => none) (sz := ke.length) (xs := rows) (b := b) (base := off) (cap := m) (fun i j => ((f i).2.2)[j]?.getD undef) hs hsp2 (by rw [hrl]; exact hlc)
                    (fun i j y c hy hc' => by
                      obtain ⟨h1, rfl⟩ := hrow i y hy
                      have hj : j < ke.length := by rw [← (hf i h1).2.2.2.1]; exact (List.getElem?_eq_some_iff.1 hc').1
                      rw [(hf i h1).2.2.2.2.2.1 j hj, List.getElem?_eq_getElem (by rw [(hf i h1).2.2.2.2.1]; exact hj)]
                      rfl)
                    (fun i j y c hy hc' => by
                      obtain ⟨h1, rfl⟩ := hrow i y hy
                      have hj : j < ke.length := by rw [← (hf i h1).2.2.2.1]; exact (List.getElem?_eq_some_iff.1 hc').1
                      have hj' : ((f i).2.2)[j]? = some (((f i).2.2)[j]'(by rw [(hf i h1).2.2.2.2.1]; exact hj)) := List.getElem?_eq_getElem _
                      rw [hj']
                      exact (hf i h1).2.2.2.2.2.2 j c _ hc' hj')
                  rw [hrl] at this
                  exact this
        · cases hk
      · cases hk
    · rename_i fs hu
      obtain ⟨ys, k, -, -, hl, hyl, hf⟩ := DataW.trod_struct hu h
      have key : ∀ (l : List Field) (off i0 : Nat) {ks : List Kd}, kdF P (kdK P n) l off = some ks → (∀ (i : Nat) f, l[i]? = some f → fs[i0 + i]? = some f) → i0 + l.length = fs.size → off + ks.length ≤ cs.length → Stand W ks ((cs.drop off).take ks.length) := by
        intro l
        induction l with
        | nil =>
          intro off i0 ks hk _ _ _
          cases hk
          exact ⟨[], [], rfl, .nil, rfl, by simp, fun i a v ha => by simp at ha⟩
        | cons f l ih =>
          intro off i0 ks hk hl' hlen hle
          simp only [kdF] at hk
          split at hk
          · rename_i hoff
            subst hoff
            split at hk
            · rename_i kf e1
              split at hk
              · rename_i hc
                cases e2 : kdF P (kdK P n) l (f.offset + kf.length) with
                | none => rw [e2] at hk; cases hk
                | some kl =>
                  rw [e2] at hk
                  cases hk
                  have hfi := hf i0 f (hl' 0 f rfl)
                  have hi0 : i0 < ys.length := by rw [hyl]; simp at hlen; omega
                  rw [List.getElem?_eq_getElem hi0, ← hc] at hfi
                  have s1 := stand_ok n e1 hfi
                  rw [List.length_append] at hle
                  have s2 := ih (f.offset + kf.length) (i0 + 1) e2 (fun i g hg => by
                    have := hl' (i + 1) g (by simpa using hg)
                    rwa [show i0 + (i + 1) = i0 + 1 + i by omega] at this) (by simp at hlen; omega) (by omega)
                  have : (cs.drop f.offset).take (kf ++ kl).length = (cs.drop f.offset).take kf.length ++ (cs.drop (f.offset + kf.length)).take kl.length := by
                    rw [List.length_append, List.take_add, List.drop_drop]
                  rw [this]
                  exact s1.append s2
              · cases hk
            · cases hk
          · cases hk
      split at hk
      · rename_i ks' e1
        split at hk
        · rename_i hc
          cases hk
          have := key fs.toList 0 0 e1 (fun i f hi => by simpa using hi) (by simp) (by rw [hl, hc]; omega)
          rw [List.drop_zero, hc, ← hl, List.take_length] at this
          exact this
        · cases hk
      · cases hk
    · cases hk
end
end Go.Q
/- A law's call. -/
set_option linter.unusedVariables false
set_option linter.unusedSimpArgs false
namespace Go.Q
open Go.V Go.ChangeShapes Go.WideShapes Go.ChangeAt Go.RowKit
section
variable {H : Type} {enc : TypeId × Value → H} {P : Program} {W : World} {base : Nat} {held : Bool}
/-- An argument of several cells. -/
theorem arg_agg {n : Nat} {t : TypeId} {ks : List Kd} {v : Value} {d : DataW H} {ps : List MemPlace} {b0 : Nat} (hk : kdK P n t = some ks) (ha : aggK P t = true) (hv : Value.okWide P W .any b0 t v) (h : DataW.Trod enc P W base (fun _ => true) held t v d ps) :
    ∃ ds a, ConfL ks ds ∧ RD (.node ds) a ∧ Rep W (fun b => b < W.heap.size) (fun _ => none) a v := by
  obtain ⟨fuel, h⟩ := h
  obtain ⟨ds, as, h1, h2, h3, h4, h5⟩ := stand_ok n hk h
  unfold aggK at ha
  split at ha
  · rename_i td hu
    have : ∃ cs, v = .agg cs := by
      unfold Value.okWide at hv
      rw [hu] at hv
      cases td <;> simp only [isAggD, Bool.false_eq_true] at ha
      · obtain ⟨cs, h, -⟩ := hv; exact ⟨cs, h⟩
      · obtain ⟨cs, h, -⟩ := hv; exact ⟨cs, h⟩
    obtain ⟨cs, rfl⟩ := this
    refine ⟨ds, .agg as, h1, .node h2, .agg (by simpa [Value.cells] using h4.symm) fun i c v hc hv => h5 i c v hc (by simpa [Value.cells] using hv)⟩
  · cases ha
theorem arg_one {n : Nat} {t : TypeId} {k : Kd} {v : Value} {d : DataW H} {ps : List MemPlace} {b0 : Nat} (hk : kdK P n t = some [k]) (ha : aggK P t = false) (hv : Value.okWide P W .any b0 t v) (h : DataW.Trod enc P W base (fun _ => true) held t v d ps) :
    ∃ d a, Conf k d ∧ RD d a ∧ Rep W (fun b => b < W.heap.size) (fun _ => none) a v := by
  obtain ⟨fuel, h⟩ := h
  obtain ⟨ds, as, h1, h2, h3, h4, h5⟩ := stand_ok n hk h
  have hc : v.cells = #[v] := by
    cases n with
    | zero => cases hk
    | succ n =>
      simp only [kdK] at hk
      unfold Value.okWide Cell.okWide at hv
      unfold aggK at ha
      cases hu : P.underlying t with
      | none => rw [hu] at hk; cases hk
      | some td =>
        rw [hu] at hk hv ha
        cases td <;> simp only [reduceCtorEq, isAggD, Bool.true_eq_false] at hk ha <;> cases v <;> first | rfl | simp_all [Cell.ok]
  rw [hc] at h4 h5
  obtain ⟨d', t', rfl, hd, ht⟩ := h1
  rw [show t' = [] from ht] at h2
  obtain ⟨a, t2, rfl, hr, hn⟩ := F2.inv_cons h2
  exact ⟨d', a, hd, hr, h5 0 a v rfl rfl⟩
end
theorem detach_bool {H : Heap} {v : AV} {b : Bool} {ids : List Nat} (h : detach H v = some (.bool b, ids)) : v = .bool b := by
  have hC : ∀ {v : AV}, detachC H v = some (.bool b, ids) → v = .bool b := fun {v} h => by
    unfold detachC at h
    split at h
    · split at h
      · split at h
        · cases h
        · cases h
      · cases h
    · rename_i id i j sz len
      cases e0 : subOf H id i j sz len with
      | none => simp [e0] at h
      | some ys =>
        simp only [e0, Option.bind_some] at h
        split at h <;> cases h
    · split at h
      · cases h; rfl
      · cases h
  have h1 : ∀ {v : AV}, detach1 H v = some (.bool b, ids) → v = .bool b := fun {v} h => by
    unfold detach1 at h
    split at h
    · rename_i cs
      cases e : detachL H cs with
      | none => simp [e] at h
      | some p => simp [e] at h
    · exact hC h
  unfold detach at h
  split at h
  · rename_i cs
    cases e : detachM H cs with
    | none => simp [e] at h
    | some p => simp [e] at h
  · exact h1 h
theorem law_ok {P : Program} {TT : FuncId → Option IFn} {FN : FuncId → Option Fn} (h : Tabs P TT FN) {f : FuncId} {F : Fn} (hF : FN f = some F) (hrs : F.rs = .e) {ds : List D} {b : Bool} (he : evL FN f ds = some (.bool b)) {W : World} {args : List AV} {us : Array Value}
    (ha : F2 RD ds args) (hu : Reps W (fun b => b < W.heap.size) (fun _ => none) args us) : Calls P f us W fun e w' => e = .returned (.bool b) ∧ Below W.heap.size W w' := by
  obtain ⟨F', t, h1, h2, h3⟩ := evL_ok h he ha
  rw [hF] at h1; cases h1
  rw [hrs] at h3
  obtain ⟨h3, -⟩ := (show RD (.bool b) t ∧ t.one = true from h3)
  cases h3
  refine (h2 (fun b => b < W.heap.size) W us ⟨fun id b hb => by simp [hget, noH] at hb, fun id id' b b' l l' hb => by simp [hget, noH] at hb, fun b hb => hb⟩ hu).mono ?_
  rintro e w' ⟨vv, rfl, v, H', ids, S', φ', adv, sim, rep, e1, -⟩
  have := detach_bool e1
  subst this
  rw [rep.inv_bool]
  exact ⟨rfl, adv.below (by rintro b ⟨id, x, loc, q1, q2, q3⟩; cases q2)⟩
theorem Reps.cons {w : World} {S : Nat → Prop} {φ : Phi} {a : AV} {v : Value} {as : List AV} {vs : List Value} (h : Rep w S φ a v) (h' : Reps w S φ as vs.toArray) : Reps w S φ (a :: as) (v :: vs).toArray := by
  refine ⟨by simpa using h'.1, fun i c u h1 h2 => ?_⟩
  cases i with
  | zero => simp at h1 h2; subst h1 h2; exact h
  | succ i => exact h'.2 i c u (by simpa using h1) (by simpa using h2)
theorem Reps.nil {w : World} {S : Nat → Prop} {φ : Phi} : Reps w S φ [] (#[] : Array Value) := ⟨rfl, fun i c v h => by simp at h⟩
end Go.Q
/- Loops over lists. -/
set_option linter.unusedVariables false
set_option linter.unusedSimpArgs false
namespace Go.Q
open Go.V
abbrev I (n : Int) : D := .int .i64 n
theorem wrapN {n : Nat} (h : n < 9223372036854775807) : IntKind.i64.wrap ((n : Int) + 1) = ((n + 1 : Nat) : Int) := by rw [IntWalk.i64_in _ (by omega)]; omega
/-- A list gone through with a state, until it is over or left. -/
def foldE {σ α ε : Type} (step : σ → α → Except ε σ) : σ → List α → Except ε σ
  | s, [] => .ok s
  | s, x :: xs => match step s x with
    | .ok s' => foldE step s' xs
    | .error e => .error e
theorem iter_foldE {σ α : Type} {f : List D → Option (Option Nat × List D)} {enc : Nat → σ → List D} {step : σ → α → Except (Nat × List D) σ} {u : Nat} {fin : σ → List D} {xs : List α} (Inv : σ → Prop)
    (hstep : ∀ (i : Nat) x s, xs[i]? = some x → Inv s → f (enc i s) = match step s x with
      | .ok s' => some (none, enc (i + 1) s')
      | .error r => some (some r.1, r.2))
    (hinv : ∀ (i : Nat) x s s', xs[i]? = some x → Inv s → step s x = .ok s' → Inv s')
    (hend : ∀ s, Inv s → f (enc xs.length s) = some (some u, fin s)) {s : σ} (h0 : Inv s) :
    iterL f (enc 0 s) = match foldE step s xs with
      | .ok s' => some (u, fin s')
      | .error r => some r := by
  have key : ∀ (l pre : List α) (s : σ), xs = pre ++ l → Inv s → iterL f (enc pre.length s) = match foldE step s l with
      | .ok s' => some (u, fin s')
      | .error r => some r := by
    intro l
    induction l with
    | nil =>
      intro pre s hx hs
      rw [iterL_eq]
      have : pre.length = xs.length := by rw [hx]; simp
      rw [this, hend s hs]; rfl
    | cons x l ih =>
      intro pre s hx hs
      have hget : xs[pre.length]? = some x := by rw [hx]; simp
      rw [iterL_eq, hstep _ x s hget hs]
      simp only [foldE]
      cases e : step s x with
      | error r => rfl
      | ok s' =>
        simp only
        have := ih (pre ++ [x]) s' (by rw [hx]; simp) (hinv _ x s s' hget hs e)
        rw [List.length_append] at this
        exact this
  exact key xs [] s rfl h0
/-- Whether all are so. -/
theorem iter_all {α : Type} {f : List D → Option (Option Nat × List D)} {p : α → Bool} {t u : Nat} {xs : List α}
    (hstep : ∀ (i : Nat) x, xs[i]? = some x → f [I i] = if p x then some (none, [I ((i + 1 : Nat) : Int)]) else some (some t, []))
    (hend : f [I xs.length] = some (some u, [])) : iterL f [I 0] = if xs.all p then some (u, []) else some (t, []) := by
  have := iter_foldE (σ := Unit) (f := f) (enc := fun i _ => [I i]) (step := fun _ x => if p x then .ok () else .error (t, [])) (u := u) (fin := fun _ => []) (xs := xs) (fun _ => True)
    (fun i x s hx _ => by rw [hstep i x hx]; cases p x <;> rfl) (fun _ _ _ _ _ _ _ => trivial) (fun _ _ => hend) (s := ()) trivial
  have e : ((0 : Nat) : Int) = 0 := rfl
  simp only [e] at this
  rw [this]
  have key : ∀ l : List α, foldE (ε := Nat × List D) (fun (_ : Unit) x => if p x then .ok () else .error (t, [])) () l = if l.all p then .ok () else .error (t, []) := by
    intro l
    induction l with
    | nil => rfl
    | cons x l ih =>
      simp only [foldE, List.all_cons]
      by_cases hp : p x = true
      · simp only [hp, if_true, Bool.true_and]; exact ih
      · simp [hp]
  rw [key]
  cases xs.all p <;> rfl
theorem getElem?_map_some {α β : Type} {f : α → β} {l : List α} {i : Nat} {x : α} (h : l[i]? = some x) : (l.map f)[i]? = some (f x) := by simp [h]
theorem idx_nat {n : Nat} {i : Nat} (h : i < n) : (I i).idx n = some i := by simp [I, D.idx, h]
end Go.Q
/- Loops that count. -/
set_option linter.unusedVariables false
set_option linter.unusedSimpArgs false
namespace Go.Q
open Go.V
/-- The first number below another one for which something does not hold. -/
def firstN (p : Nat → Bool) : Nat → Nat → Option Nat
  | 0, _ => none
  | n + 1, i => if p i then firstN p n (i + 1) else some i
theorem iter_nat0 {f : List D → Option (Option Nat × List D)} {p : Nat → Bool} {st : Nat → List D} {t u : Nat} {r0 : Nat → List D} {r : List D} {N : Nat}
    (hstep : ∀ i, i < N → (∀ j, j < i → p j = true) → f (st i) = if p i then some (none, st (i + 1)) else some (some t, r0 i))
    (hend : (∀ j, j < N → p j = true) → f (st N) = some (some u, r)) :
    ∀ (n i : Nat), i + n = N → (∀ j, j < i → p j = true) → iterL f (st i) = match firstN p n i with
      | some j => some (t, r0 j)
      | none => some (u, r)
  | 0, i, hi, hp => by
    obtain rfl : i = N := by omega
    rw [iterL_eq, hend hp]; rfl
  | n + 1, i, hi, hp => by
    rw [iterL_eq, hstep i (by omega) hp]
    unfold firstN
    cases h : p i with
    | false => simp
    | true =>
      simp only [if_true]
      exact iter_nat0 hstep hend n (i + 1) (by omega) fun j hj => by
        by_cases e : j = i
        · subst e; exact h
        · exact hp j (by omega)
/-- A loop that counts: left at the first number for which something does not hold, or over. -/
theorem iter_nat {f : List D → Option (Option Nat × List D)} (N : Nat) (p : Nat → Bool) (st : Nat → List D) (t u : Nat) (r0 : Nat → List D) (r : List D) {e0 : List D} (h0 : e0 = st 0)
    (hstep : ∀ i, i < N → (∀ j, j < i → p j = true) → f (st i) = if p i then some (none, st (i + 1)) else some (some t, r0 i))
    (hend : (∀ j, j < N → p j = true) → f (st N) = some (some u, r)) :
    iterL f e0 = match firstN p N 0 with
      | some j => some (t, r0 j)
      | none => some (u, r) := by
  subst h0
  exact iter_nat0 hstep hend N 0 (by omega) (fun j hj => by omega)
theorem firstN_none {p : Nat → Bool} : ∀ {n i : Nat}, firstN p n i = none ↔ ∀ j, i ≤ j → j < i + n → p j = true
  | 0, i => by simp [firstN]; intro j h1 h2; omega
  | n + 1, i => by
    unfold firstN
    cases h : p i with
    | false => simp; exact ⟨i, Nat.le_refl _, by omega, h⟩
    | true =>
      simp only [if_true]
      rw [firstN_none (n := n) (i := i + 1)]
      constructor
      · intro hh j h1 h2
        by_cases e : j = i
        · subst e; exact h
        · exact hh j (by omega) (by omega)
      · intro hh j h1 h2
        exact hh j (by omega) (by omega)
theorem firstN_some {p : Nat → Bool} : ∀ {n i k : Nat}, firstN p n i = some k → i ≤ k ∧ k < i + n ∧ p k = false ∧ ∀ j, i ≤ j → j < k → p j = true
  | 0, i, k, h => by cases h
  | n + 1, i, k, h => by
    unfold firstN at h
    cases hp : p i with
    | false =>
      simp only [hp] at h
      cases h
      exact ⟨Nat.le_refl _, by omega, hp, fun j h1 h2 => by omega⟩
    | true =>
      simp only [hp, if_true] at h
      obtain ⟨g1, g2, g3, g4⟩ := firstN_some h
      exact ⟨by omega, by omega, g3, fun j h1 h2 => by
        by_cases e : j = i
        · subst e; exact hp
        · exact g4 j (by omega) h2⟩
/-- Whether something holds of all numbers below another one. -/
def allN (p : Nat → Bool) (n : Nat) : Bool := (firstN p n 0).isNone
theorem allN_iff {p : Nat → Bool} {n : Nat} : allN p n = true ↔ ∀ j, j < n → p j = true := by
  unfold allN
  rw [Option.isNone_iff_eq_none, firstN_none]
  exact ⟨fun h j hj => h j (by omega) (by omega), fun h j h1 h2 => h j (by omega)⟩
theorem iter_allN {f : List D → Option (Option Nat × List D)} (N : Nat) (p : Nat → Bool) (st : Nat → List D) (t u : Nat) (r0 r : List D) {e0 : List D} (h0 : e0 = st 0)
    (hstep : ∀ i, i < N → (∀ j, j < i → p j = true) → f (st i) = if p i then some (none, st (i + 1)) else some (some t, r0))
    (hend : (∀ j, j < N → p j = true) → f (st N) = some (some u, r)) :
    iterL f e0 = if allN p N then some (u, r) else some (t, r0) := by
  rw [iter_nat N p st t u (fun _ => r0) r h0 hstep hend]
  unfold allN
  cases firstN p N 0 <;> rfl
end Go.Q
/- slices.Clone, by hand. -/
set_option linter.unusedVariables false
set_option linter.unusedSimpArgs false
namespace Go.Q
open Go.V
def cloneIR (sz bytes : Nat) (z : List AV) : IFn := ⟨8, [.t 2], (.seq (.region [⟨(some 2), .mv (.c (.nilS)), none, 0⟩] false)
 (.seq (.seq (.region [⟨(some 3), .mv (.t 0), none, 0⟩,
  ⟨(some 4), .isNil false (.t 3), none, 1⟩] false)
 (.cond (.t 4) (.seq (.region [⟨(some 2), .mv (.c (.nilS)), none, 0⟩] false)
 .ret) .skip))
 (.seq (.region [⟨(some 5), .buildS sz 0 z [], none, 0⟩,
  ⟨(some 6), .mv (.t 0), none, 0⟩,
  ⟨(some 7), .app sz bytes (.t 5) (.t 6), none, 3⟩,
  ⟨(some 2), .mv (.t 7), none, 7⟩] false)
 .ret))), false, 0⟩
def cloneF (sz bytes : Nat) : Fn := ⟨[none], .op (.app sz bytes) [.c (.list []), .v 0] (.leaf 0), [.v 1], .own sz⟩
theorem noIdL {xs : List D} {row : List AV} (h : F2 RD xs row) (h1 : row.all AV.one = true) : row.all AV.noId = true := by
  rw [List.all_eq_true] at h1 ⊢
  intro a ha
  obtain ⟨i, hi, rfl⟩ := List.mem_iff_getElem.1 ha
  have hx : i < xs.length := by rw [h.len]; exact hi
  obtain ⟨b, g1, g2⟩ := h.get (List.getElem?_eq_getElem hx)
  rw [List.getElem?_eq_getElem hi] at g1
  cases g1
  exact RD.noId g2 (h1 _ (List.getElem_mem hi))
theorem clone_ok {P : Program} {TT : FuncId → Option IFn} (hT : TOK P TT) (hm : P.follows .mixedOrders = true) {f : FuncId} {sz bytes : Nat} {z : List AV} (hf : TT f = some (cloneIR sz bytes z)) (hz : z.length = sz) (hz1 : z.all AV.one = true) (hs0 : sz ≤ 16777216) {FN : FuncId → Option Fn} :
    ∀ m n ds d args, (cloneF sz bytes).den m (ev FN m n) ds = some d → F2 RD ds args → ∃ t, PuOK P f args t ∧ RR (.own sz) d t := by
  intro m n ds d args h ha
  unfold Fn.den at h
  by_cases hfit : fits (cloneF sz bytes).ps ds = true
  rotate_left
  · rw [if_neg hfit] at h; cases h
  rw [if_pos hfit] at h
  replace hfit : fits [none] ds = true := hfit
  replace h : (match T.den m (ev FN m n) ds (T.op (Prim.app sz bytes) [E.c (D.list []), E.v 0] (T.leaf 0)) with
    | some (j, ρ) => Option.map (E.den ρ) [E.v 1][j]?
    | none => none) = some d := h
  have hds : ∃ x, ds = [x] := by
    cases ds with
    | nil => simp [fits] at hfit
    | cons x t =>
      cases t with
      | nil => exact ⟨x, rfl⟩
      | cons y t => simp [fits] at hfit
  obtain ⟨x, rfl⟩ := hds
  · skip
    obtain ⟨a, as, rfl, hra, h0⟩ := F2.inv_cons ha
    cases h0
    simp only [T.den, denL, E.den, List.getD_cons_zero] at h
    cases ed : D.den1 (.app sz bytes) [.list [], x] with
    | none => rw [ed] at h; cases h
    | some d' =>
      rw [ed] at h
      simp only [List.getElem?_cons_zero, Option.map_some, Option.some.injEq, E.den] at h
      have hd' : d' = d := by rw [← h]; rfl
      subst hd'
      cases x <;> (try (simp [D.den1] at ed; done))
      rename_i ys
      simp only [D.den1] at ed
      by_cases hc : (ys.isEmpty = true ∨ (([] : List (List D)).length + ys.length + 1) * (bytes + 1) ≤ 1099511627776) ∧ ys.all (fun y => y.length == sz) = true
      rotate_left
      · rw [if_neg hc] at ed; cases ed
      rw [if_pos hc] at ed
      cases ed
      obtain ⟨hcap, hall⟩ := hc
      have hcb := callFn_ok hT hm 5 (L := .nil) trivial 1
      rcases sub_RD hall hra with ⟨rfl, ha | ⟨e, ha⟩⟩ | ⟨rows, ha, hne, hlen, hs, hr⟩
      · subst ha
        refine ⟨.nilS, hcb.pu f [.nilS] noH .nilS noH ?_, .inr ⟨rfl, .inl rfl⟩⟩
        simp [callFn, findM, findT, callBody, hf, cloneIR, run, evalOps, evalOp, wantedA, arg, nthK_eq, setK_eq, setD, leaveF, takeMarks, resL, resV, tupV, pureR, detach, detach1, detachC, AV.noId, wrH, wrL, noH]
      · subst ha
        refine ⟨.fresh sz [], hcb.pu f [.emp e] noH (.fresh sz []) noH ?_, .inl ⟨[], [], rfl, rfl, by simp, .nil⟩⟩
        simp [callFn, findM, findT, callBody, hf, cloneIR, run, evalOps, evalOp, wantedA, arg, nthK_eq, setK_eq, setD, leaveF, takeMarks, resL, resV, tupV, pureR, detach, detach1, detachC, wrH, wrL, noH, elems, hz, hz1, hs0, fillS, hget, hsetL]
      · subst ha
        refine ⟨.fresh sz rows, hcb.pu f [.lst sz rows] noH (.fresh sz rows) noH ?_, .inl ⟨_, rows, rfl, rfl, hs, hr⟩⟩
        have hno : ∀ r ∈ rows, r.all AV.noId = true := fun r hmem => by
          obtain ⟨i, hi, rfl⟩ := List.mem_iff_getElem.1 hmem
          obtain ⟨b, g1, g2⟩ := hr.get (List.getElem?_eq_getElem (show i < ys.length by omega))
          rw [List.getElem?_eq_getElem hi] at g1
          cases g1
          exact noIdL g2 (hs _ hmem).2
        have hcap' : (rows.length + 1) * (bytes + 1) ≤ 1099511627776 := by
          rcases hcap with h | h
          · cases ys with
            | nil => exact absurd rfl hne
            | cons => cases h
          · simpa [hlen] using h
        obtain ⟨r0, rows', rfl⟩ : ∃ r0 rows', rows = r0 :: rows' := by
          cases rows with
          | nil => simp at hlen; exact absurd hlen hne
          | cons r0 rows' => exact ⟨r0, rows', rfl⟩
        have hall' : ((r0 :: rows').all fun x => x.all AV.noId) = true := by rw [List.all_eq_true]; exact hno
        simp only [List.all_cons, List.length_cons] at hall' hcap'
        simp [callFn, findM, findT, callBody, hf, cloneIR, run, evalOps, evalOp, wantedA, arg, nthK_eq, setK_eq, setD, leaveF, takeMarks, resL, resV, tupV, pureR, detach, detach1, detachC, wrH, wrL, noH, elems, hz, hz1, hs0, fillS, hget, hsetL, hcap', hall']
end Go.Q
