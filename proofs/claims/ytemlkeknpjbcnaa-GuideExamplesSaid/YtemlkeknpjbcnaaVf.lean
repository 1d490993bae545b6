/- Soundness: structs, arrays and slices that are built; the operations one by one. -/
import Derived.Test.YtemlkeknpjbcnaaVe
import Derived.Great.BuildSlice
import Derived.Laws.MakeOwn
set_option linter.unusedVariables false
set_option linter.unusedSimpArgs false
namespace Go.V
open Go.RowKit
variable {P : Program}

/-! 'fill' -/
theorem foldl_put : ∀ (l : List Value) (off k0 : Nat) (cs : Array Value), off + k0 + l.length ≤ cs.size →
    ((l.zipIdx k0).foldl (fun (cs : Array Value) (p : Value × Nat) => cs.setIfInBounds (off + p.2) p.1) cs).size = cs.size ∧
    ∀ m, ((l.zipIdx k0).foldl (fun (cs : Array Value) (p : Value × Nat) => cs.setIfInBounds (off + p.2) p.1) cs)[m]? = if m < off + k0 then cs[m]? else if m < off + k0 + l.length then l[m - (off + k0)]? else cs[m]?
  | [], off, k0, cs, h => by
    refine ⟨rfl, fun m => ?_⟩
    simp only [List.zipIdx_nil, List.foldl_nil, List.length_nil, Nat.add_zero]
    split
    · rfl
    · rfl
  | v :: l, off, k0, cs, h => by
    simp only [List.length_cons] at h
    obtain ⟨h1, h2⟩ := foldl_put l off (k0 + 1) (cs.setIfInBounds (off + k0) v) (by simp; omega)
    simp only [List.zipIdx_cons, List.foldl_cons]
    refine ⟨by rw [h1]; simp, fun m => ?_⟩
    rw [h2 m]
    by_cases a : m < off + k0
    · rw [if_pos (by omega), if_pos a, Array.getElem?_setIfInBounds_ne (by omega)]
    · rw [if_neg a]
      by_cases b : m = off + k0
      · subst b
        rw [if_pos (by omega), if_pos (by simp), Array.getElem?_setIfInBounds_self_of_lt (by omega)]
        simp
      · rw [if_neg (by omega)]
        by_cases c : m < off + k0 + (l.length + 1)
        · rw [if_pos (by omega), if_pos (by simpa using c)]
          rw [show m - (off + k0) = (m - (off + (k0 + 1))) + 1 by omega]
          simp
        · rw [if_neg (by omega), if_neg (by simpa using c), Array.getElem?_setIfInBounds_ne (by omega)]
theorem fill_step {w : World} {S : Nat → Prop} {φ : Phi} {zs cs' : List AV} {zc : Array Value} {x : AV} {v : Value} {off : Nat} (hz : Reps w S φ zs zc) (hv : Rep w S φ x v) (hp : put zs off x.cells = some cs') :
    ¬ (off + v.cells.size > zc.size) ∧ Reps w S φ cs' (v.cells.zipIdx.foldl (fun cs (c, j) => cs.setIfInBounds (off + j) c) zc) := by
  have hc := cells_rep hv
  obtain ⟨h1, -⟩ := put_spec hp
  have hfit : off + v.cells.size ≤ zc.size := by rw [hc.1, hz.1]; exact h1
  refine ⟨by omega, ?_⟩
  have hf : v.cells.zipIdx.foldl (fun cs (c, j) => cs.setIfInBounds (off + j) c) zc = (v.cells.toList.zipIdx 0).foldl (fun (cs : Array Value) (p : Value × Nat) => cs.setIfInBounds (off + p.2) p.1) zc := by
    rw [← Array.foldl_toList, Array.toList_zipIdx]
  rw [hf]
  obtain ⟨g1, g2⟩ := foldl_put v.cells.toList off 0 zc (by simpa using hfit)
  refine ⟨by rw [g1, hz.1, put_length hp], fun i c u e1 e2 => ?_⟩
  rw [g2] at e2
  rw [put_get hp] at e1
  simp only [Nat.add_zero, Array.length_toList, hc.1] at e2
  split at e1
  · rename_i hlt; rw [if_pos hlt] at e2; exact hz.2 i c u e1 e2
  · rename_i hlt; rw [if_neg hlt] at e2
    split at e1
    · rename_i hlt2; rw [if_pos hlt2] at e2; exact hc.2 _ c u e1 (by simpa using e2)
    · rename_i hlt2; rw [if_neg hlt2] at e2; exact hz.2 i c u e1 e2
theorem fill_rep {P : Program} {d : TypeDesc} {w : World} {S : Nat → Prop} {φ : Phi} {env : List AV} {a : Act} (he : Reps w S φ env a.tmps) {place : Nat → Option (Nat × Nat)} (hpl : ∀ i, place i = placesK P d i) :
    ∀ (ps : List (Nat × Operand)) (ps' : List (Nat × Nat × Arg)) (zs cs : List AV) (zc : Array Value), cParts P d ps = some ps' → Reps w S φ zs zc → fillA env ps' zs = some cs →
      ∃ cc, Instr.fill place zc (ps.map fun p => (p.1, a.eval p.2)) = some cc ∧ Reps w S φ cs cc
  | [], ps', zs, cs, zc, h1, hz, h2 => by cases h1; cases h2; exact ⟨zc, rfl, hz⟩
  | (i, x) :: ps, ps', zs, cs, zc, h1, hz, h2 => by
    simp only [cParts] at h1
    split at h1
    · rename_i o s ar as e1 e2 e3
      cases h1
      simp only [fillA] at h2
      split at h2
      · rename_i hc
        cases hput : put zs o (arg env ar).cells with
        | none => rw [hput] at h2; cases h2
        | some zs' =>
          rw [hput] at h2
          have hv := arg_rep he e2
          obtain ⟨g1, g2⟩ := fill_step hz hv hput
          obtain ⟨cc, g3, g4⟩ := fill_rep he hpl ps as zs' cs _ e3 g2 h2
          refine ⟨cc, ?_, g4⟩
          have hsz : (a.eval x).cells.size = s := by rw [(cells_rep hv).1]; exact hc.1
          simp only [List.map_cons, Instr.fill, hpl i, e1]
          rw [if_neg]
          · exact g3
          · simp only [ne_eq, hsz, not_true_eq_false, decide_false, Bool.false_or, decide_eq_true_eq]
            rw [hsz] at g1; exact g1
      · cases h2
    · cases h1
theorem fill_one {P : Program} {d : TypeDesc} {w : World} {S : Nat → Prop} {φ : Phi} {env : List AV} : ∀ (ps' : List (Nat × Nat × Arg)) (zs cs : List AV), zs.all AV.one = true → fillA env ps' zs = some cs → cs.all AV.one = true
  | [], zs, cs, h, h2 => by cases h2; exact h
  | (o, s, x) :: ps, zs, cs, h, h2 => by
    simp only [fillA] at h2
    split at h2
    · rename_i hc
      cases hput : put zs o (arg env x).cells with
      | none => rw [hput] at h2; cases h2
      | some zs' =>
        rw [hput] at h2
        refine fill_one (P := P) (d := d) (w := w) (S := S) (φ := φ) ps zs' cs ?_ h2
        obtain ⟨-, rfl⟩ := put_spec hput
        rw [List.all_eq_true] at *
        intro b hb
        simp only [List.mem_append] at hb
        have hc2 := hc.2
        rcases hb with (hb | hb) | hb
        · exact h b (List.mem_of_mem_take hb)
        · exact hc2 b hb
        · exact h b (List.mem_of_mem_drop hb)
    · cases h2

theorem zeroK_spec {P : Program} {t : TypeId} {z : List AV} (h : zeroK P t = some z) : ∃ i v, P.info? t = some i ∧ i.zero = some v ∧ ofCells v.cells.toList = some z := by
  unfold zeroK at h
  cases hi : P.info? t with
  | none => rw [hi] at h; cases h
  | some i =>
    rw [hi] at h
    cases hz : i.zero with
    | none => simp [hz] at h
    | some v => simp [hz] at h; exact ⟨i, v, rfl, hz, h⟩
theorem zero_rep {w : World} {S : Nat → Prop} {φ : Phi} {v : Value} {z : List AV} (h : ofCells v.cells.toList = some z) : Reps w S φ z v.cells ∧ z.all AV.one = true := by
  obtain ⟨h1, h2⟩ := ofCells_rep (w := w) (S := S) (φ := φ) h
  exact ⟨by simpa using h1, by rw [List.all_eq_true]; exact h2⟩

/-- How an operation goes on. -/
def OpOK (P : Program) (o : Oper) (a : Act) (w : World) (R : Value → World → Prop) : Prop :=
  (∃ vv w', (execOp a.eval o).run P w = .ok (.value vv) w' ∧ R vv w') ∨
  (∃ w', (execOp a.eval o).run P w = .ok .skip w' ∧ R undef w') ∨
  (∃ f args w', (execOp a.eval o).run P w = .ok (.enter f args) w' ∧ Calls P f args w' fun e w'' => ∃ v, e = .returned v ∧ R v w'')
theorem opOK_value {P : Program} {o : Oper} {a : Act} {w w' : World} {R : Value → World → Prop} {s : Sem Value} {vv : Value} (hx : execOp a.eval o = (do pure (.value (← s)))) (hr : s.run P w = .ok vv w') (h : R vv w') : OpOK P o a w R :=
  .inl ⟨vv, w', by rw [hx, Sem.run_bind, hr]; rfl, h⟩
theorem opOK_skip {P : Program} {o : Oper} {a : Act} {w w' : World} {R : Value → World → Prop} {s : Sem Unit} (hx : execOp a.eval o = (do s; pure .skip)) (hr : s.run P w = .ok () w') (h : R undef w') : OpOK P o a w R :=
  .inr (.inl ⟨w', by rw [hx, Sem.run_bind, hr]; rfl, h⟩)

theorem ptr_new {w : World} {S : Nat → Prop} {φ : Phi} {nx g sz : Nat} (h : φ nx = some ⟨g, 0, sz⟩) : Rep w S φ (.ptr nx 0 0) (.pointer (some ⟨g, 0, none⟩)) := by
  have := Rep.ptr (w := w) (S := S) (i := 0) (j := 0) h
  simpa using this
theorem shape_new (w : World) (c : Array Value) (e : TypeId) : (w.alloc (.cells c e)).shape? w.heap.size = some (e, c.size) := by
  unfold World.shape?; rw [World.alloc_heap_new]
theorem own_new {w : World} {S : Nat → Prop} {φ : Phi} {nx g sz len cap n : Nat} {e : TypeId} (h : φ nx = some ⟨g, 0, sz⟩) (hsh : w.shape? g = some (e, n)) (hn : cap * sz ≤ n) (hl : len ≤ cap) : Rep w S φ (.own nx 0 len) (.slice (some ⟨g, 0, none⟩) len cap) := by
  have := Rep.own (w := w) (S := S) (off := 0) (len := len) (cap := cap) h hsh (by simpa using hn) hl
  simpa using this

section ops
variable {P : Program} {S : Nat → Prop} {φ : Phi} {h : Mem} {H : Heap} {w : World} {env : List AV} {a : Act} {o : Oper} {nx : Nat}

theorem snd_mv {x : Operand} {ar : Arg} (ho : execOp a.eval o = pure (.value (a.eval x))) (hx : cOpd x = some ar) (hs : Sim P S φ h w) (hr : Reps w S φ env a.tmps) : OpOK P o a w (Ends P S φ h w (arg env ar) [] nx nx) :=
  .inl ⟨_, w, by rw [ho]; rfl, ends_pure hs (arg_rep hr hx)⟩
theorem snd_pick {c x y : Operand} {ac ax ay : Arg} {b : Bool} (ho : o.op = .pick c x y) (hc : cOpd c = some ac) (hx : cOpd x = some ax) (hy : cOpd y = some ay) (hb : arg env ac = .bool b) (hs : Sim P S φ h w) (hr : Reps w S φ env a.tmps) :
    OpOK P o a w (Ends P S φ h w (if b then arg env ax else arg env ay) [] nx nx) := by
  have e1 := arg_rep hr hc
  rw [hb] at e1
  have e1 := e1.inv_bool
  refine .inl ⟨if b then a.eval x else a.eval y, w, ?_, ends_pure hs ?_⟩
  · unfold execOp
    simp only [ho, e1, asBool]
    cases b <;> rfl
  · cases b
    · exact arg_rep hr hy
    · exact arg_rep hr hx
theorem snd_new {e : TypeId} {z : List AV} (ho : o.op = .alloc e) (hz : zeroK P e = some z) (hs : Sim P S φ h w) (hn : φ nx = none) :
    OpOK P o a w (Ends P S φ h w (.ptr nx 0 0) [(nx, some (.row z.length [z]))] nx (nx + 1)) := by
  obtain ⟨i, v, h1, h2, h3⟩ := zeroK_spec hz
  obtain ⟨r1, r2⟩ := zero_rep (w := w) (S := S) (φ := φ) h3
  obtain ⟨q1, q2⟩ := new_ends (nx := nx) (sz := z.length) (xs := [z]) (c := v.cells) (e := e) hs hn (by simp) (by simp [r1.1]) (by simpa using r2) (by
    intro i j x b e1 e2
    cases i with
    | zero => simp at e1; subst e1; simpa using r1.get e2
    | succ i => simp at e1)
  refine opOK_value (s := Instr.alloc e true (.tuple #[])) (vv := .pointer (some ⟨w.heap.size, 0, none⟩)) (w' := w.alloc (.cells v.cells e)) ?_ ?_ ⟨S, _, q1, q2, ?_, ?_⟩
  · unfold execOp; simp only [ho]
  · simp [Instr.alloc, zeroValue, typeInfo, h1, h2, newVar, newRow]
  · exact ptr_new (sz := z.length) (by simp)
  · intro id hid; have : id ≠ nx := by omega
    simp [this]
theorem snd_box {e : TypeId} {x : Operand} {ax : Arg} (ho : o.op = .box e x) (hx : cOpd x = some ax) (h1 : (arg env ax).cells.all AV.one = true) (hs : Sim P S φ h w) (hr : Reps w S φ env a.tmps) (hn : φ nx = none) :
    OpOK P o a w (Ends P S φ h w (.ptr nx 0 0) [(nx, some (.row (arg env ax).cells.length [(arg env ax).cells]))] nx (nx + 1)) := by
  have r1 := cells_rep (arg_rep hr hx)
  obtain ⟨q1, q2⟩ := new_ends (nx := nx) (sz := (arg env ax).cells.length) (xs := [(arg env ax).cells]) (c := (a.eval x).cells) (e := e) hs hn (by simp) (by simp [r1.1]) (by simpa using h1) (by
    intro i j y b e1 e2
    cases i with
    | zero => simp at e1; subst e1; simpa using r1.get e2
    | succ i => simp at e1)
  refine opOK_value (s := Instr.box e (a.eval x)) (vv := .pointer (some ⟨w.heap.size, 0, none⟩)) (w' := w.alloc (.cells (a.eval x).cells e)) ?_ ?_ ⟨S, _, q1, q2, ?_, ?_⟩
  · unfold execOp; simp only [ho]
  · simp [Instr.box, newVar, newRow]
  · exact ptr_new (sz := (arg env ax).cells.length) (by simp)
  · intro id hid; have : id ≠ nx := by omega
    simp [this]
theorem allSized_places : ∀ {fs : List Field}, allSized P fs = true → ∃ places, fs.mapM (fun f => (P.info? f.type).map fun i => (f.offset, i.size)) = some places ∧ ∀ i : Nat, places[i]? = (fs[i]?).bind fun (f : Field) => (sizeK P f.type).map fun s => (f.offset, s)
  | [], _ => ⟨[], rfl, by simp⟩
  | f :: fs, h => by
    simp only [allSized, List.all_cons, Bool.and_eq_true] at h
    obtain ⟨places, h1, h2⟩ := allSized_places (fs := fs) h.2
    cases hi : P.info? f.type with
    | none => simp [sizeK, hi] at h
    | some i =>
      refine ⟨(f.offset, i.size) :: places, by simp [hi, h1], fun k => ?_⟩
      cases k with
      | zero => simp [sizeK, hi]
      | succ k => simp [h2]
theorem snd_build {t : TypeId} {ps : Array (Nat × Operand)} {d : TypeDesc} {z cs : List AV} {ps' : List (Nat × Nat × Arg)} (ho : o.op = .build t ps) (hd : P.underlying t = some d) (hz : zeroK P t = some z)
    (hg : partsOK P d = true) (hps : cParts P d ps.toList = some ps') (hf : fillA env ps' z = some cs) (hs : Sim P S φ h w) (hr : Reps w S φ env a.tmps) :
    OpOK P o a w (Ends P S φ h w (.agg cs) [] nx nx) := by
  obtain ⟨i, v, h1, h2, h3⟩ := zeroK_spec hz
  obtain ⟨r1, r2⟩ := zero_rep (w := w) (S := S) (φ := φ) h3
  have key : ∃ place : Nat → Option (Nat × Nat), (∀ i, place i = placesK P d i) ∧ ∀ parts, P.built t parts = Instr.fill place v.cells parts := by
    cases d with
    | struct fs =>
      simp only [partsOK] at hg
      obtain ⟨places, g1, g2⟩ := allSized_places hg
      refine ⟨(places.toArray[·]?), fun i => ?_, fun parts => ?_⟩
      · simp only [List.getElem?_toArray, g2, placesK, Array.getElem?_toList]
      · simp only [Program.built, h1, hd, h2, g1]
    | array n e =>
      simp only [partsOK] at hg
      obtain ⟨s, hse⟩ := Option.isSome_iff_exists.1 hg
      obtain ⟨ie, g1, g2⟩ := sizeK_spec hse
      refine ⟨fun i => some (i * ie.size, ie.size), fun i => ?_, fun parts => ?_⟩
      · simp only [placesK, hse, g2]; rfl
      · simp only [Program.built, h1, hd, h2, g1]
    | _ => simp [partsOK] at hg
  obtain ⟨place, hpl, hbt⟩ := key
  obtain ⟨cc, g1, g2⟩ := fill_rep hr hpl ps.toList ps' z cs v.cells hps r1 hf
  have hrun := run_build (P := P) w t (ps.map fun p => (p.1, a.eval p.2)) cc (by rw [hbt, Array.toList_map]; exact g1)
  refine opOK_value (s := Instr.build t (ps.map fun p => (p.1, a.eval p.2))) ?_ hrun (ends_pure hs (.agg g2.1 g2.2))
  unfold execOp; simp only [ho]
end ops
end Go.V
