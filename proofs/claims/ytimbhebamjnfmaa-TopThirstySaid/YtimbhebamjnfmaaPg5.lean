/- Ported: guide (Gc5, Gu0) -/
import Derived.Test.YtimbhebamjnfmaaPg4
set_option linter.unusedVariables false
set_option linter.unusedSimpArgs false
set_option maxRecDepth 100000
namespace Go.Q.G
open Go.V
structure Fs where
  hs : List Hf
  may : Int
  sure : Int
/-- One trek more. -/
def fStep (x y f : Int) (i : Nat) (s : Fs) (t : Tk) : Except Unit Fs :=
  if (s.hs.map (Hf.mv t)).all Hf.ok = false then .error ()
  else
    let hs := s.hs.map (Hf.mv t)
    let k := kn hs (nr x y f)
    .ok ⟨hs, if s.may < 0 ∧ k ≠ 0 then i + 1 else s.may, if s.sure < 0 ∧ k = 2 then i + 1 else s.sure⟩
def fGo (x y f : Int) : Nat → Fs → List Tk → Except Unit Fs := foldI (fStep x y f)
def f0 (hs : List Hf) (x y f : Int) : Fs := ⟨hs, if kn hs (nr x y f) ≠ 0 then 0 else -1, if kn hs (nr x y f) = 2 then 0 else -1⟩
def findsS (hs : List Hf) (ts : List Tk) (x y f : Int) : Int × Int × Int :=
  if (nearS hs x y f).2 ≠ 0 then (0, 0, (nearS hs x y f).2)
  else if 60 < ts.length then (0, 0, 4) else if ts.all Tk.ok = false then (0, 0, 42)
  else match fGo x y f 0 (f0 hs x y f) ts with
    | .ok s => (s.may, s.sure, 0)
    | .error _ => (0, 0, 9)
theorem kn_cases (hs os : List Hf) : kn hs os = 0 ∨ kn hs os = 1 ∨ kn hs os = 2 := by
  unfold kn
  split
  · exact .inl rfl
  · split
    · exact .inr (.inr rfl)
    · exact .inr (.inl rfl)
theorem nearS_ok {hs : List Hf} {x y f : Int} (h : (nearS hs x y f).2 = 0) : okA hs = true ∧ askOK x y f = true ∧ hasPl hs = true ∧ (nearS hs x y f).1 = kn hs (nr x y f) := by
  unfold nearS at h ⊢
  cases h1 : okA hs
  · simp [h1] at h
  cases h2 : askOK x y f
  · simp [h1, h2] at h
  cases h3 : hasPl hs
  · simp [h1, h2, h3] at h
  simp
theorem nearS_of {hs : List Hf} {x y f : Int} (h1 : okA hs = true) (h2 : askOK x y f = true) (h3 : hasPl hs = true) : nearS hs x y f = (kn hs (nr x y f), 0) := by simp [nearS, h1, h2, h3]
/-- What stays from trek to trek. -/
structure Fs.Inv (s : Fs) : Prop where
  ok : okA s.hs = true
  pl : hasPl s.hs = true
theorem fStep_inv {x y f : Int} {i : Nat} {s s' : Fs} {t : Tk} (h : s.Inv) (e : fStep x y f i s t = .ok s') : s'.Inv := by
  unfold fStep at e
  split at e
  · cases e
  · rename_i h1
    cases e
    have h1 : (s.hs.map (Hf.mv t)).all Hf.ok = true := by simpa using h1
    exact ⟨by rw [mv_okA h.ok]; exact h1, mv_hasPl h.ok h.pl⟩
theorem fgo_iter {x y f : Int} {ts : List Tk} {r0 : List D} {enc : Nat → Fs → List D} {g : List D → Option (Option Nat × List D)}
    (h1 : ∀ (i : Nat) t s, ts[i]? = some t → Fs.Inv s → g (enc i s) = match fStep x y f i s t with
      | .ok s' => some (none, enc (i + 1) s')
      | .error _ => some (some 0, r0))
    (h2 : ∀ s : Fs, s.Inv → g (enc ts.length s) = some (some 1, [I s.may, I s.sure])) {s : Fs} (h0 : s.Inv) {e0 : List D} (he : e0 = enc 0 s) :
    iterL g e0 = match fGo x y f 0 s ts with
      | .ok s => some (1, [I s.may, I s.sure])
      | .error _ => some (0, r0) := by
  have key : ∀ (l pre : List Tk) (s : Fs), ts = pre ++ l → s.Inv → iterL g (enc pre.length s) = match fGo x y f pre.length s l with
      | .ok s => some (1, [I s.may, I s.sure])
      | .error _ => some (0, r0) := by
    intro l
    induction l with
    | nil =>
      intro pre s hx hs
      rw [iterL_eq]
      have : pre.length = ts.length := by rw [hx]; simp
      rw [this, h2 s hs]; rfl
    | cons t l ih =>
      intro pre s hx hs
      have hget : ts[pre.length]? = some t := by rw [hx]; simp
      rw [iterL_eq, h1 _ t s hget hs]
      simp only [fGo, foldI]
      cases e : fStep x y f pre.length s t with
      | error r => rfl
      | ok s' =>
        simp only
        have := ih (pre ++ [t]) s' (by rw [hx]; simp) (fStep_inv hs e)
        rw [List.length_append] at this
        exact this
  rw [he]
  exact key ts [] s rfl h0
theorem shal_node_hfs {n : Nat} {hs : List Hf} : D.shal (n + 1) (.node [hfs hs]) = true := by
  simp [D.shal, shal1_hfs]
/-- The body of the program's loop, for one trek. -/
theorem step_all {x y f : Int} {i : Nat} {s : Fs} {t : Tk} (h : s.Inv) (ha : askOK x y f = true) (ht : t.ok = true) :
    (marchS s.hs t = ([], 9) ∧ fStep x y f i s t = .error ()) ∨
    (∃ s', fStep x y f i s t = .ok s' ∧ marchS s.hs t = (s'.hs, 0) ∧ s'.Inv ∧ nearS s'.hs x y f = (kn s'.hs (nr x y f), 0) ∧ s'.may = (if s.may < 0 ∧ kn s'.hs (nr x y f) ≠ 0 then ((i + 1 : Nat) : Int) else s.may) ∧
      s'.sure = (if s.sure < 0 ∧ kn s'.hs (nr x y f) = 2 then ((i + 1 : Nat) : Int) else s.sure)) := by
  cases e : fStep x y f i s t with
  | error u =>
    left
    refine ⟨?_, rfl⟩
    unfold fStep at e
    split at e
    · rename_i h1
      simp [marchS, h.ok, ht, h1]
    · cases e
  | ok s' =>
    right
    have hi := fStep_inv h e
    refine ⟨s', rfl, ?_, hi, nearS_of hi.ok ha hi.pl, ?_⟩
    · unfold fStep at e
      split at e
      · cases e
      · rename_i h1
        cases e
        simp [marchS, h.ok, ht, h.pl, h1]
    · unfold fStep at e
      split at e
      · cases e
      · cases e
        exact ⟨rfl, rfl⟩
theorem okA_len {hs : List Hf} (h : okA hs = true) : hs.length ≤ 40 := (okA_in h).2
set_option maxHeartbeats 3200000 in
theorem e38 (hs : List Hf) (ts : List Tk) (x y f : Int) (hl : hs.length < 9223372036854775807) (hlt : ts.length < 9223372036854775807) :
    evL FN 38 [.node [hfs hs], tks ts, I x, I y, I f] = some (.node [I (findsS hs ts x y f).1, I (findsS hs ts x y f).2.1, I (findsS hs ts x y f).2.2]) := by
  refine evL_of (F := F38) rfl ?_
  have h20 := e96 hs x y f hl
  simp only [hfs, I, U8] at h20
  unfold findsS
  by_cases k1 : (nearS hs x y f).2 = 0
  rotate_left
  · simp [F38, Fn.denV, fits, T.denV, denVK, denL, E.den, D.cells, hfs, tks, D.den1, binD, unD, h20, k1]
  obtain ⟨hok, hask, hpl, hkn⟩ := nearS_ok k1
  rw [k1, hkn] at h20
  rw [if_neg (by simp [k1])]
  by_cases k2 : 60 < ts.length
  · have k2' : (60 : Int) < ts.length := by omega
    simp [F38, Fn.denV, fits, T.denV, denVK, denL, E.den, D.cells, hfs, tks, D.den1, binD, unD, h20, k2, k2']
  have k2' : ¬ (60 : Int) < ts.length := by omega
  have h60 := e120 ts hlt
  simp only [tks] at h60
  rw [if_neg k2]
  cases k3 : ts.all Tk.ok <;> rw [k3] at h60
  · simp [F38, Fn.denV, fits, T.denV, denVK, denL, E.den, D.cells, hfs, tks, D.den1, binD, unD, h20, k2', h60]
  have hto : ∀ t ∈ ts, t.ok = true := by simpa using k3
  have hf0 : f0 hs x y f = ⟨hs, if kn hs (nr x y f) = 0 then -1 else 0, if kn hs (nr x y f) = 2 then 0 else -1⟩ := by
    unfold f0; congr 1; split <;> simp_all
  simp [F38, Fn.denV, fits, T.denV, denVK, denL, E.den, D.cells, hfs, tks, D.den1, binD, unD, h20, k2', h60, -List.all_eq_true]
  rcases kn_cases hs (nr x y f) with ek | ek | ek
  all_goals
    simp only [ek, reduceIte, reduceCtorEq, Int.reduceEq] at hf0
    simp [ek, outOf, denVK, T.denV, denL, E.den, D.cells, D.den1, binD, -List.all_eq_true]
    rw [fgo_iter (x := x) (y := y) (f := f) (ts := ts) (r0 := [I 9]) (enc := fun i s => [I i, hfs s.hs, I s.may, I s.sure, U8 (kn s.hs (nr x y f))]) (s := f0 hs x y f) ?_ ?_ (by rw [hf0]; exact ⟨hok, hpl⟩) (by rw [hf0]; simp [ek, hfs])]
    · cases fGo x y f 0 (f0 hs x y f) ts <;> simp [denVK, T.denV, denL, E.den, D.cells]
    · intro i t s hi hs'
      obtain ⟨hlt, rfl⟩ := List.getElem?_eq_some_iff.1 hi
      have hlt' : (i : Int) < ts.length := by omega
      have ht := hto _ (List.getElem_mem hlt)
      have h25 := e95 s.hs ts[i] (by have := okA_len hs'.ok; omega)
      have sh1 := shal_node_hfs (n := 3) (hs := s.hs)
      rcases step_all (i := i) hs' hask ht with ⟨m1, m2⟩ | ⟨s', m1, m2, m3, m4, m5, m6⟩
      · rw [m1] at h25
        have s3 : D.shal 1 (.list []) = true := rfl
        simp only [hfs, Tk.c, I] at h25 sh1
        simp [s3, m2, hfs, hlt, hlt', idx_nat hlt, hi, Tk.c, partD, D.cells, sh1, h25, outOf, denVK, T.denV, denL, E.den, D.den1, binD, D.flat, D.flat0]
      · rw [m2] at h25
        have h20 := e96 s'.hs x y f (by have := okA_len m3.ok; omega)
        rw [m4] at h20
        have sh2 := shal_hfs (n := 0) (hs := s'.hs)
        have sh3 := shal_hfs (n := 3) (hs := s.hs)
        simp only [hfs, Tk.c, I, U8] at h25 sh1 sh2 sh3 h20
        simp [m1, hfs, hlt, hlt', idx_nat hlt, hi, Tk.c, partD, D.cells, sh1, sh2, sh3, h25, h20, outOf, denVK, T.denV, denL, E.den, D.den1, binD, D.flat, D.flat0, wrapN (show i < 9223372036854775807 by omega)]
        by_cases c1 : s.may < 0 <;> by_cases c2 : s.sure < 0 <;> rcases kn_cases s'.hs (nr x y f) with e | e | e <;> rw [m5, m6] <;>
          simp [c1, c2, e, outOf, denVK, T.denV, denL, E.den, D.cells, D.den1, binD, wrapN (show i < 9223372036854775807 by omega)]
    · intro s hs'
      simp [outOf, denL, E.den]
end Go.Q.G
