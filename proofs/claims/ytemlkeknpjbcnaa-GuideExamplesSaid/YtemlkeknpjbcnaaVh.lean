/- Soundness: slices that are made, cut, appended to; least and greatest; equal. -/
import Derived.Test.YtemlkeknpjbcnaaVg
set_option linter.unusedVariables false
set_option linter.unusedSimpArgs false
namespace Go.V
open Go.RowKit
variable {P : Program}

/-- Elements, one behind the other. -/
def Flat (w : World) (S : Nat → Prop) (φ : Phi) (sz : Nat) (xs : List (List AV)) (c : Array Value) : Prop :=
  c.size = xs.length * sz ∧ (∀ x ∈ xs, x.length = sz) ∧ ∀ (i j : Nat) x b, xs[i]? = some x → x[j]? = some b → ∃ v, c[i * sz + j]? = some v ∧ Rep w S φ b v
theorem cell_lt {i j n sz : Nat} (hi : i < n) (hj : j < sz) : i * sz + j < n * sz := by
  have := Nat.mul_le_mul_right sz (show i + 1 ≤ n from hi)
  rw [Nat.succ_mul] at this; omega
theorem flat_made {w : World} {S : Nat → Prop} {φ : Phi} {z : List AV} {zc : Array Value} (hz : Reps w S φ z zc) (n : Nat) : Flat w S φ z.length (List.replicate n z) ((Array.range (n * z.length)).map (zc[· % zc.size]!)) := by
  refine ⟨by simp, fun x hx => by rw [List.eq_of_mem_replicate hx], fun i j x b h1 h2 => ?_⟩
  have hi : i < n := by
    rcases Nat.lt_or_ge i n with h' | h'
    · exact h'
    · rw [List.getElem?_eq_none (by simpa using h')] at h1; cases h1
  have hx : x = z := by simp [List.getElem?_replicate, hi] at h1; exact h1.symm
  subst hx
  obtain ⟨v, h3, h4⟩ := hz.get h2
  have hj : j < x.length := by
    rcases Nat.lt_or_ge j x.length with h' | h'
    · exact h'
    · rw [List.getElem?_eq_none h'] at h2; cases h2
  have hlt := cell_lt hi hj
  refine ⟨v, ?_, h4⟩
  rw [Array.getElem?_map, Array.getElem?_range]
  simp only [hlt, if_true, Option.map_some, Option.some.injEq]
  have hm : (i * x.length + j) % zc.size = j := by rw [hz.1, Nat.mul_comm, Nat.mul_add_mod, Nat.mod_eq_of_lt hj]
  rw [hm]
  have hj2 : j < zc.size := by rw [hz.1]; exact hj
  rw [getElem!_pos zc j hj2]
  have : zc[j]? = some zc[j] := by simp [hj2]
  rw [this] at h3; cases h3; rfl
theorem flat_set {w : World} {S : Nat → Prop} {φ : Phi} {sz i : Nat} {xs : List (List AV)} {c : Array Value} {x : AV} {v : Value} (hf : Flat w S φ sz xs c) (hv : Rep w S φ x v) (hl : x.cells.length = sz) (hi : i < xs.length) :
    ¬ (i * sz + v.cells.size > c.size) ∧ Flat w S φ sz (xs.set i x.cells) (v.cells.zipIdx.foldl (fun cs (u, j) => cs.setIfInBounds (i * sz + j) u) c) := by
  have hc := cells_rep hv
  obtain ⟨h1, h2, h3⟩ := hf
  have hvs : v.cells.size = sz := by rw [hc.1]; exact hl
  have hfit : i * sz + v.cells.size ≤ c.size := by rw [hvs, h1]; have := Nat.mul_le_mul_right sz (show i + 1 ≤ xs.length from hi); rw [Nat.succ_mul] at this; exact this
  refine ⟨by omega, ?_⟩
  have hfo : v.cells.zipIdx.foldl (fun cs (u, j) => cs.setIfInBounds (i * sz + j) u) c = (v.cells.toList.zipIdx 0).foldl (fun (cs : Array Value) (p : Value × Nat) => cs.setIfInBounds (i * sz + p.2) p.1) c := by
    rw [← Array.foldl_toList, Array.toList_zipIdx]
  rw [hfo]
  obtain ⟨g1, g2⟩ := foldl_put v.cells.toList (i * sz) 0 c (by simpa using hfit)
  refine ⟨by rw [g1, h1]; simp, fun y hy => ?_, fun k j y b e1 e2 => ?_⟩
  · rcases List.mem_or_eq_of_mem_set hy with hy | hy
    · exact h2 y hy
    · rw [hy]; exact hl
  · rw [g2]
    simp only [Nat.add_zero, Array.length_toList, hvs]
    by_cases hk : k = i
    · subst hk
      rw [List.getElem?_set_self hi] at e1; cases e1
      obtain ⟨u, r1, r2⟩ := hc.get e2
      have hj : j < sz := by
        rcases Nat.lt_or_ge j x.cells.length with h' | h'
        · omega
        · rw [List.getElem?_eq_none h'] at e2; cases e2
      refine ⟨u, ?_, r2⟩
      rw [if_neg (by omega), if_pos (by omega), show k * sz + j - k * sz = j by omega]
      simpa using r1
    · rw [List.getElem?_set_ne (Ne.symm hk)] at e1
      obtain ⟨u, r1, r2⟩ := h3 k j y b e1 e2
      have hj : j < sz := by
        have := h2 y (List.mem_of_getElem? e1)
        rcases Nat.lt_or_ge j y.length with h' | h'
        · omega
        · rw [List.getElem?_eq_none h'] at e2; cases e2
      refine ⟨u, ?_, r2⟩
      rcases Nat.lt_or_gt_of_ne hk with hlt | hlt
      · have := cell_lt (n := i) hlt hj
        rw [if_pos (by omega)]; exact r1
      · have : i * sz + sz ≤ k * sz := by have := Nat.mul_le_mul_right sz (show i + 1 ≤ k from hlt); rw [Nat.succ_mul] at this; exact this
        rw [if_neg (by omega), if_neg (by omega)]; exact r1
theorem fillS_rep {w : World} {S : Nat → Prop} {φ : Phi} {env : List AV} {a : Act} {sz : Nat} (he : Reps w S φ env a.tmps) :
    ∀ (ps : List (Nat × Operand)) (ps' : List (Nat × Arg)) (xs ys : List (List AV)) (c : Array Value), cPartsS ps = some ps' → Flat w S φ sz xs c → (∀ x ∈ xs, x.all AV.one = true) → fillS env sz ps' xs = some ys →
      ∃ cc, Instr.fill (fun i => some (i * sz, sz)) c (ps.map fun p => (p.1, a.eval p.2)) = some cc ∧ Flat w S φ sz ys cc ∧ (∀ x ∈ ys, x.all AV.one = true) ∧ ys.length = xs.length
  | [], ps', xs, ys, c, h1, hz, ho, h2 => by cases h1; cases h2; exact ⟨c, rfl, hz, ho, rfl⟩
  | (i, x) :: ps, ps', xs, ys, c, h1, hz, ho, h2 => by
    simp only [cPartsS] at h1
    split at h1
    · rename_i ar as e2 e3
      cases h1
      simp only [fillS] at h2
      split at h2
      · rename_i hc
        have hv := arg_rep he e2
        obtain ⟨g1, g2⟩ := flat_set hz hv hc.1 hc.2.2
        obtain ⟨cc, g3, g4, g5, g6⟩ := fillS_rep he ps as _ ys _ e3 g2 (fun y hy => by
          rcases List.mem_or_eq_of_mem_set hy with hy | hy
          · exact ho y hy
          · rw [hy]; exact hc.2.1) h2
        refine ⟨cc, ?_, g4, g5, by simpa using g6⟩
        have hsz : (a.eval x).cells.size = sz := by rw [(cells_rep hv).1]; exact hc.1
        simp only [List.map_cons, Instr.fill]
        rw [if_neg]
        · exact g3
        · simp only [ne_eq, hsz, not_true_eq_false, decide_false, Bool.false_or, decide_eq_true_eq]
          rw [hsz] at g1; exact g1
      · cases h2
    · cases h1
theorem Flat.new_ends {S : Nat → Prop} {φ : Phi} {h : Mem} {w : World} {nx sz : Nat} {xs : List (List AV)} {c : Array Value} {e : TypeId} (hs : Sim P S φ h w) (hn : φ nx = none) (hf : Flat w S φ sz xs c) (h1 : ∀ x ∈ xs, x.all AV.one = true) (len cap : Nat) (hcap : cap * sz ≤ c.size) (hl : len ≤ cap) :
    Ends P S φ h w (.own nx 0 len) [(nx, some (.row sz xs))] nx (nx + 1) (.slice (some ⟨w.heap.size, 0, none⟩) len cap) (w.alloc (.cells c e)) := by
  obtain ⟨q1, q2⟩ := V.new_ends (nx := nx) (sz := sz) (xs := xs) (c := c) (e := e) hs hn hf.2.1 (Nat.le_of_eq hf.1.symm) h1 hf.2.2
  refine ⟨S, _, q1, q2, own_new (by simp) (shape_new w c e) hcap hl, ?_⟩
  intro id hid; have : id ≠ nx := by omega
  simp [this]
section ops
variable {P : Program} {S : Nat → Prop} {φ : Phi} {h : Mem} {H : Heap} {w : World} {env : List AV} {a : Act} {o : Oper} {nx : Nat}
theorem snd_buildS {t e : TypeId} {n s : Nat} {ps : Array (Nat × Operand)} {z : List AV} {ps' : List (Nat × Arg)} {xs : List (List AV)} (ho : o.op = .buildSlice t n ps) (hu : P.underlying t = some (.slice e)) (hk : sizeK P e = some s) (hz : zeroK P e = some z) (hp : cPartsS ps.toList = some ps') (h0 : s ≠ 0)
    (hc : n * s ≤ 16777216 ∧ z.length = s ∧ z.all AV.one = true) (hf : fillS env s ps' (List.replicate n z) = some xs) (hs : Sim P S φ h w) (hr : Reps w S φ env a.tmps) (hn : φ nx = none) :
    OpOK P o a w (Ends P S φ h w (.own nx 0 n) [(nx, some (.row s xs))] nx (nx + 1)) := by
  obtain ⟨i, v, h1, h2, h3⟩ := zeroK_spec hz
  obtain ⟨r1, r2⟩ := zero_rep (w := w) (S := S) (φ := φ) h3
  obtain ⟨i', h1', hsz⟩ := sizeK_spec hk
  rw [h1] at h1'; cases h1'
  have hex : execOp a.eval o = (do pure (.value (← Instr.buildSlice t n (ps.map fun p => (p.1, a.eval p.2))))) := by unfold execOp; simp only [ho]
  have hfl := flat_made r1 n
  rw [hc.2.1] at hfl
  obtain ⟨cc, g1, g2, g3, g4⟩ := fillS_rep hr ps.toList ps' _ xs _ hp hfl (fun x hx => by rw [List.eq_of_mem_replicate hx]; exact hc.2.2) hf
  have hcs : cc.size = n * s := by rw [g2.1, g4]; simp
  by_cases hn0 : n = 0
  · subst hn0
    have hps : ps.toList = [] := by
      cases hq : ps.toList with
      | nil => rfl
      | cons p q =>
        rw [hq] at hp
        simp only [cPartsS] at hp
        split at hp
        · cases hp; simp [fillS] at hf
        · cases hp
    have hcc : cc = #[] := by simpa using hcs
    subst hcc
    refine opOK_value hex (w' := w.alloc (.cells #[] e)) (vv := .slice (some ⟨w.heap.size, 0, none⟩) 0 0) ?_ (Flat.new_ends hs hn g2 g3 0 0 (by simp) (Nat.le_refl _))
    have : ps = #[] := by simpa using hps
    subst this
    simp [Instr.buildSlice, run_underlying hu, run_sizeK hk, Instr.fill, newRow, show Array.range 0 = #[] from rfl]
  · have hpos : ¬ n * i.size = 0 := by rw [hsz]; exact Nat.mul_ne_zero hn0 h0
    have hsm : ¬ n * i.size > 2 ^ 24 := by rw [hsz]; have := hc.1; omega
    have hrun := run_buildSlice (P := P) w t e n (ps.map fun p => (p.1, a.eval p.2)) cc i v hu h1 h2 hsm hpos (by rw [hsz, Array.toList_map]; exact g1)
    exact opOK_value hex hrun (Flat.new_ends hs hn g2 g3 n n (by rw [hcs]; exact Nat.le_refl _) (Nat.le_refl _))
end ops
end Go.V
