/- One operation: lists that are made. -/
import Derived.Test.YtcgeghpmnnhcpaaJH
set_option linter.unusedVariables false
set_option linter.unusedSimpArgs false
namespace Go.Q
open Go.V
variable {c c' : Cx} {S : SS} {env : List AV} {H H' : Heap} {K : List FC} {mk : List Nat}
variable {TT : FuncId → Option IFn} {cb : Cb} {Fs : FuncId → List D → Option D} {ρ' : List D}

theorem Rel.fresh (r : Rel c S env H K mk) : (∀ i q, c.ψ i = some q → q.idc ≠ some H.nx) ∧ c.Φ H.nx = none ∧ ¬ c.F0 H.nx := by
  have h1 : c.Φ H.nx = none := by
    cases e : c.Φ H.nx with
    | none => rfl
    | some y => have := (r.frz _ _ _ e).2; omega
  exact ⟨fun i q h1 h2 => by have := r.bnd i q _ h1 h2; omega, h1, fun h => r.f0 _ h h1⟩
/-- A block goes, whatever is written there. -/
theorem Rel.gone (r : Rel c S env H K mk) {id : Nat} {b : SB} {p : Pl} {x : Nat} (hb : bget S.heap id = some b) (hp : c.ψ id = some p) (hx : p.idc = some x) (o : Option Blk) :
    Rel c { S with heap := hput S.heap id none } env (wrH H [(x, o)] H.nx) K mk := by
  have hg : ∀ y, y ≠ x → hget (wrH H [(x, o)] H.nx) y = hget H y := fun y hy => by rw [hget_wr1]; simp only; rw [if_neg hy]
  have hn : (wrH H [(x, o)] H.nx).nx = H.nx := by simp [wrH]
  refine r.mem (Cx.le.refl c) rfl (fun y => y = x) (fun y h => ⟨id, p, b, hb, hp, by rw [h]; exact hx⟩) (fun y _ hy => hg y hy) (by rw [hn]; exact Nat.le_refl _) (fun i p h => by rw [hput_len]; exact r.hlen i p h) ?_ ?_ r.rt (by rw [hn]; exact r.bnd) (fun x sz rows h1 h2 => by rw [h1] at h2; cases h2)
  · intro i h hh
    rcases hput_at hh with ⟨e, g⟩ | ⟨rfl, rfl, hl⟩
    · obtain ⟨q, g1, g2, g3⟩ := r.heap i h g
      refine ⟨q, g1, g2, fun b1 hb1 => ⟨(g3 b1 hb1).1.mem fun y hy => hg y ?_, (g3 b1 hb1).2⟩⟩
      rintro rfl
      exact e (r.inj _ _ _ _ _ _ _ (bget_some.2 ⟨h, g, hb1⟩) hb g1 hp hy hx)
    · obtain ⟨p, g1, g2, g3⟩ := r.heap i _ (List.getElem?_eq_getElem hl)
      exact ⟨p, g1, by rw [g2]; simp [rtOf, List.getElem?_eq_getElem hl], fun b e => by cases e⟩
  · intro i i' p p' x b b' h1 h2 h3 h4 h5 h6
    rcases bget_put h1 with ⟨-, g1⟩ | ⟨-, e⟩
    · rcases bget_put h2 with ⟨-, g2⟩ | ⟨-, e⟩
      · exact r.inj _ _ _ _ _ _ _ g1 g2 h3 h4 h5 h6
      · cases e
    · cases e
/-- How a list that is made comes out. -/
inductive Made (c : Cx) (H : Heap) (sz : Nat) (dp : Option (List Nat)) (xs : List (List D)) : AV → Wr → Nat → Prop
  | fresh {rows : List (List AV)} (hl : xs.length ≤ rows.length) (hs : ∀ r ∈ rows, r.length = sz ∧ r.all AV.one = true) (h : F2 (F2 (Rk c dp)) xs (rows.take xs.length)) : Made c H sz dp xs (.own H.nx 0 xs.length) [(H.nx, some (.row sz rows))] (H.nx + 1)
  | none {a : AV} (h : xs = []) (ha : a = .nilS ∨ a = .emp true) : Made c H sz dp xs a [] H.nx
theorem OpD.mkL {c1 : Cx} {heap1 : List HB} {io : PO} {p : Prim} {as : List E} {sz : Nat} {dp : Option (List Nat)} {rs rd : List Nat} (hle : c.le c1) (hρ : c1.ρ = c.ρ) (r : Rel c1 { S with heap := heap1 } env H K mk) (hr : emR Fs (emP p as S.n).1 c.ρ ρ')
    (he : ∀ d, D.den1 p (denL c.ρ as) = some d → ∃ xs a wr nx, d = .list xs ∧ evalOp TT cb env H H.nx io = some (.eff a rd wr nx) ∧ Made c1 H sz dp xs a wr nx) (hrd : ∀ x ∈ rd, c1.okr rs x) :
    OpD TT cb c S env H K mk io (mkList S sz p as heap1 dp rs) ρ' := by
  rw [← hρ] at hr
  obtain ⟨d, h1, h2, h3, h4, h5⟩ := emP_ok (n := S.n) (show S.n = c1.ρ.length from r.n) hr
  rw [hρ] at h1
  obtain ⟨xs, a, wr, nx, g1, g2, g3⟩ := he d h1
  subst g1
  obtain ⟨le, r1⟩ := r.em (em := (emP p as S.n).1) h4 h5
  obtain ⟨f1, f2, f3⟩ := r1.fresh
  have hF0 : ¬ c.F0 H.nx := by rw [← hle.F0]; exact f3
  cases g3 with
  | fresh hl hs h =>
    rename_i rows
    have r2 := r1.alloc (some (.row sz rows))
    let q : Pl := ⟨some H.nx, 0, xs.length, heap1.length⟩
    have r3 := r2.add q (.list sz (emP p as S.n).2 dp) (fun x hx => by
      cases hx
      exact ⟨by simp [wrH], f2, fun i q b' _ hq => f1 i q hq, fun i q hq hq' => absurd hq' (f1 i q hq)⟩)
      ⟨xs, h3, h2, rfl, fun hh => (by cases hh), fun y hy => (by
        cases hy
        exact ⟨rows, by rw [hget_wr1]; simp, by simpa [q] using hl, hs, by simpa [q] using h.mono fun _ _ => F2.mono fun _ _ => Rk.mono le⟩)⟩
    have le3 := r2.le_add q
    refine ⟨_, rd, _, _, _, g2, hle.trans (le.trans le3), rfl, r3, .own (p := q) (by simp [Cx.add]) rfl, fun x hx => (le.trans le3).okr (hrd x hx), fun x hx => ?_⟩
    simp only [List.map_cons, List.map_nil, List.mem_singleton] at hx
    subst hx
    exact ⟨hF0, heap1.length, q, by simp [Cx.add], rfl, by simp [q, mkList]⟩
  | none h ha =>
    subst h
    let q : Pl := ⟨none, 0, 0, heap1.length⟩
    have r3 := r1.add q (.list sz (emP p as S.n).2 dp) (fun x hx => by cases hx) ⟨[], h3, h2, rfl, fun _ => rfl, fun y hy => (by cases hy)⟩
    have le3 := r1.le_add q
    exact ⟨_, rd, _, _, _, g2, hle.trans (le.trans le3), rfl, by rw [wrH_nil]; exact r3, .ownE (p := q) (by simp [Cx.add]) rfl ha, fun x hx => (le.trans le3).okr (hrd x hx), by simp⟩
/-- How a list comes out that takes the place of another one. -/
inductive Next (c : Cx) (H : Heap) (sz : Nat) (p : Pl) (dp : Option (List Nat)) (xs : List (List D)) : AV → Wr → Nat → Prop
  | fresh {x : Nat} {rows : List (List AV)} (hx : p.idc = some x) (hl : xs.length = rows.length) (hs : ∀ r ∈ rows, r.length = sz ∧ r.all AV.one = true) (h : F2 (F2 (Rk c dp)) xs rows) :
      Next c H sz p dp xs (.own H.nx 0 xs.length) [(x, none), (H.nx, some (.row sz rows))] (H.nx + 1)
  | new {rows : List (List AV)} (hl : xs.length = rows.length) (hs : ∀ r ∈ rows, r.length = sz ∧ r.all AV.one = true) (h : F2 (F2 (Rk c dp)) xs rows) : Next c H sz p dp xs (.own H.nx 0 xs.length) [(H.nx, some (.row sz rows))] (H.nx + 1)
  | same {x : Nat} {rows : List (List AV)} (hx : p.idc = some x) (hr : hget H x = some (.row sz rows)) (hl : p.off + xs.length ≤ rows.length) (hs : ∀ r ∈ rows, r.length = sz ∧ r.all AV.one = true) (h : F2 (F2 (Rk c dp)) xs ((rows.drop p.off).take xs.length)) :
      Next c H sz p dp xs (.own x p.off xs.length) [] H.nx
  | none {a : AV} (h : xs = []) (ha : a = .nilS ∨ a = .emp true) : Next c H sz p dp xs a [] H.nx
theorem OpD.nextL {io : PO} {p : Prim} {as : List E} {id sz : Nat} {b : SB} {q0 : Pl} {dp : Option (List Nat)} {rs rd : List Nat} (r : Rel c S env H K mk) (hr : emR Fs (emP p as S.n).1 c.ρ ρ') (hb : bget S.heap id = some b) (hq : c.ψ id = some q0)
    (he : ∀ d, D.den1 p (denL c.ρ as) = some d → ∃ xs a wr nx, d = .list xs ∧ evalOp TT cb env H H.nx io = some (.eff a rd wr nx) ∧ Next c H sz q0 dp xs a wr nx) (hrd : ∀ x ∈ rd, c.okr (rtOf S.heap id :: rs) x) :
    OpD TT cb c S env H K mk io (nextList S id sz p as dp rs) ρ' := by
  obtain ⟨d, h1, h2, h3, h4, h5⟩ := emP_ok r.n hr
  obtain ⟨xs, a, wr, nx, g1, g2, g3⟩ := he d h1
  subst g1
  obtain ⟨p', k1, k2, k3, k4⟩ := r.blk hb
  rw [hq] at k1; cases k1
  obtain ⟨le, r1⟩ := r.em (em := (emP p as S.n).1) h4 h5
  obtain ⟨f1, f2, f3⟩ := r1.fresh
  have hF0 : ¬ c.F0 H.nx := f3
  have hlen : (hput S.heap id none).length = S.heap.length := hput_len
  have e : nextList S id sz p as dp rs = ⟨(emP p as S.n).1, .own (hput S.heap id none).length, rtOf S.heap id :: rs, [rtOf S.heap id], hput S.heap id none ++ [⟨rtOf S.heap id, some (.list sz (emP p as S.n).2 dp)⟩]⟩ := by
    rw [hlen]; rfl
  rw [e]
  cases g3 with
  | fresh hx hl hs h =>
    rename_i x rows
    have r2 := (r1.gone (id := id) hb hq hx none).alloc (some (.row sz rows))
    let q : Pl := ⟨some H.nx, 0, xs.length, rtOf S.heap id⟩
    have r3 := r2.add q (.list sz (emP p as S.n).2 dp) (fun x hx => by
      cases hx
      exact ⟨by simp [wrH], f2, fun i q b' _ hq => f1 i q hq, fun i q hq hq' => absurd hq' (f1 i q hq)⟩)
      ⟨xs, h3, h2, rfl, fun hh => (by cases hh), fun y hy => (by
        cases hy
        refine ⟨rows, by rw [hget_wr1]; simp [wrH], by simp [q, hl], hs, ?_⟩
        have := h.mono (fun _ _ => F2.mono fun _ _ => Rk.mono (dp := dp) le)
        simpa [q, hl] using this)⟩
    have le3 := r2.le_add q
    have hw : wrH (wrH H [(x, none)] H.nx) [((wrH H [(x, none)] H.nx).nx, some (.row sz rows))] ((wrH H [(x, none)] H.nx).nx + 1) = wrH H [(x, none), (H.nx, some (.row sz rows))] (H.nx + 1) := by
      simp [wrH, wrL]
    rw [hw] at r3
    refine ⟨_, rd, _, _, _, g2, le.trans le3, rfl, r3, .own (p := q) (by simp [Cx.add]) rfl, fun x hx => (le.trans le3).okr (hrd x hx), fun y hy => ?_⟩
    simp only [List.map_cons, List.map_nil, List.mem_cons, List.not_mem_nil, or_false] at hy
    rcases hy with rfl | rfl
    · exact ⟨r.notF0 hb hq hx, id, q0, le3.ψ _ _ hq, hx, by simp [k2]⟩
    · exact ⟨hF0, (hput S.heap id none).length, q, by simp [Cx.add], rfl, by simp [q]⟩
  | new hl hs h =>
    rename_i rows
    have r2 := (r1.drop id).alloc (some (.row sz rows))
    let q : Pl := ⟨some H.nx, 0, xs.length, rtOf S.heap id⟩
    have r3 := r2.add q (.list sz (emP p as S.n).2 dp) (fun x hx => by
      cases hx
      exact ⟨by simp [wrH], f2, fun i q b' _ hq => f1 i q hq, fun i q hq hq' => absurd hq' (f1 i q hq)⟩)
      ⟨xs, h3, h2, rfl, fun hh => (by cases hh), fun y hy => (by
        cases hy
        refine ⟨rows, by rw [hget_wr1]; simp [wrH], by simp [q, hl], hs, ?_⟩
        have := h.mono (fun _ _ => F2.mono fun _ _ => Rk.mono (dp := dp) le)
        simpa [q, hl] using this)⟩
    have le3 := r2.le_add q
    refine ⟨_, rd, _, _, _, g2, le.trans le3, rfl, r3, .own (p := q) (by simp [Cx.add]) rfl, fun x hx => (le.trans le3).okr (hrd x hx), fun y hy => ?_⟩
    simp only [List.map_cons, List.map_nil, List.mem_singleton] at hy
    subst hy
    exact ⟨hF0, (hput S.heap id none).length, q, by simp [Cx.add], rfl, by simp [q]⟩
  | same hx hg hl hs h =>
    rename_i x rows
    have r2 := r1.drop id
    let q : Pl := ⟨some x, q0.off, xs.length, rtOf S.heap id⟩
    have r3 := r2.add q (.list sz (emP p as S.n).2 dp) (fun y hy => by
      cases hy
      refine ⟨r.bnd _ _ _ hq hx, k4 _ hx, fun i q b' hb' hi hi' => ?_, fun i q hi hi' => ?_⟩
      · rcases bget_put hb' with ⟨e, g⟩ | ⟨-, e⟩
        · exact e (r.inj _ _ _ _ _ _ _ g hb hi hq hi' hx)
        · cases e
      · exact (r.rt _ _ _ _ _ hi hq hi' hx).trans k2)
      ⟨xs, h3, h2, rfl, fun hh => (by cases hh), fun y hy => (by
        cases hy
        exact ⟨rows, hg, hl, hs, h.mono (fun _ _ => F2.mono fun _ _ => Rk.mono (dp := dp) le)⟩)⟩
    have le3 := r2.le_add q
    exact ⟨_, rd, _, _, _, g2, le.trans le3, rfl, by rw [wrH_nil]; exact r3, .own (p := q) (by simp [Cx.add]) rfl, fun x hx => (le.trans le3).okr (hrd x hx), by simp⟩
  | none h ha =>
    subst h
    let q : Pl := ⟨none, 0, 0, rtOf S.heap id⟩
    have r3 := (r1.drop id).add q (.list sz (emP p as S.n).2 dp) (fun x hx => by cases hx) ⟨[], h3, h2, rfl, fun _ => rfl, fun y hy => (by cases hy)⟩
    have le3 := (r1.drop id).le_add q
    exact ⟨_, rd, _, _, _, g2, le.trans le3, rfl, by rw [wrH_nil]; exact r3, .ownE (p := q) (by simp [Cx.add]) rfl ha, fun x hx => (le.trans le3).okr (hrd x hx), by simp⟩
theorem Rk.addL {a b : Option (List Nat)} {d : D} {v : AV} (h : Rk c a d v) : Rk c (addR a b) d v := by
  cases a with
  | none => exact Rk.ofRD h
  | some rs => cases b with
    | none => exact h
    | some rs' => exact RO.mono (fun _ _ h => h) (fun id hid => by
        rcases hid with h | ⟨s, p, h1, h2, h3⟩
        · exact .inl h
        · exact .inr ⟨s, p, h1, h2, by simp [h3]⟩) h
theorem Rk.addRr {a b : Option (List Nat)} {d : D} {v : AV} (h : Rk c b d v) : Rk c (addR a b) d v := by
  cases b with
  | none => exact Rk.ofRD h
  | some rs => cases a with
    | none => exact h
    | some rs' => exact RO.mono (fun _ _ h => h) (fun id hid => by
        rcases hid with h | ⟨s, p, h1, h2, h3⟩
        · exact .inl h
        · exact .inr ⟨s, p, h1, h2, by simp [h3]⟩) h
/-- What is appended: its elements. -/
structure Tail (c : Cx) (H : Heap) (sz : Nat) (dy : Option (List Nat)) (ya : AV) (ys : List (List D)) (rows : List (List AV)) (rd : List Nat) : Prop where
  he : elems H sz ya = some (rows, rd)
  h : F2 (F2 (Rk c dy)) ys rows
  hs : ∀ r ∈ rows, r.length = sz ∧ r.all AV.one = true
theorem elems_own {z off len s : Nat} {rows : List (List AV)} (h0 : len ≠ 0) (hg : hget H z = some (.row s rows)) (hl : off + len ≤ rows.length) : elems H s (.own z off len) = some ((rows.drop off).take len, [z]) := by
  cases len with
  | zero => exact absurd rfl h0
  | succ k => simp [elems, hg, hl]
theorem appD {sz bytes : Nat} {xs ys : List (List D)} {d : D} (h : D.den1 (.app sz bytes) [.list xs, .list ys] = some d) : d = .list (xs ++ ys) ∧ (ys.isEmpty = true ∨ (xs.length + ys.length + 1) * (bytes + 1) ≤ 1099511627776) := by
  simp only [D.den1] at h
  split at h
  · rename_i hc; cases h; exact ⟨rfl, hc.1⟩
  · cases h
theorem app_ok (r : Rel c S env H K mk) {sz bytes : Nat} {x y : Arg} {cy : E} {dy : Option (List Nat)} {ry rd : List Nat} {f : Ef} (hcy : cy.upto c.ρ.length = true) (h : appS S sz bytes (sarg S.env x) cy dy ry = some f) (hr : emR Fs f.em c.ρ ρ')
    (ht : ∀ ys, cy.den c.ρ = .list ys → ys.all (fun y => y.length == sz) = true → ∃ rows, Tail c H sz dy (arg env y) ys rows rd) (hrd : ∀ x ∈ rd, c.okr ry x) : OpD TT cb c S env H K mk (.app sz bytes x y) f ρ' := by
  have hv := sarg_ok r.env x
  have hall : ∀ {xs ys d}, D.den1 (.app sz bytes) [.list xs, .list ys] = some d → ys.all (fun y => y.length == sz) = true := fun {xs ys d} h => by
    simp only [D.den1] at h
    split at h
    · rename_i hc; exact hc.2
    · cases h
  unfold appS at h
  split at h
  · rename_i e1
    cases h
    rw [e1] at hv
    have ha := hv.inv_nil
    refine OpD.mkL (c1 := c) (heap1 := S.heap) (Cx.le.refl c) rfl r hr (fun d hd => ?_) hrd
    simp only [denL, E.den] at hd
    cases ed : E.den c.ρ cy <;> rw [ed] at hd <;> try (simp [D.den1] at hd; done)
    rename_i ys
    obtain ⟨rows, t1, t2, t3⟩ := ht ys ed (hall hd)
    obtain ⟨rfl, hb⟩ := appD hd
    cases rows with
    | nil =>
      have := t2.len
      have hys : ys = [] := by simpa using this
      subst hys
      exact ⟨[], .nilS, [], H.nx, rfl, by simp [evalOp, t1, ha], .none rfl (.inl rfl)⟩
    | cons r0 rs =>
      have hl := t2.len
      have hb' : (0 + ys.length + 1) * (bytes + 1) ≤ 1099511627776 := by
        rcases hb with hb | hb
        · rw [List.isEmpty_iff] at hb; subst hb; simp at hl
        · simpa using hb
      refine ⟨ys, _, _, _, rfl, ?_, .fresh (rows := r0 :: rs) (by omega) t3 (by rw [hl, List.take_length]; exact t2)⟩
      simp only [evalOp, t1, ha]
      rw [if_pos (by rw [← hl]; simpa using hb'), hl]
  · rename_i id e1
    rw [e1] at hv
    split at h
    · rename_i s cx dx e2
      split at h
      · rename_i hsz
        subst hsz
        cases h
        obtain ⟨p, hp, ha⟩ := hv.inv_own
        obtain ⟨p', g1, g2, g3, g4⟩ := r.blk e2
        rw [hp] at g1; cases g1
        obtain ⟨xs, q1, q2, q3, q4, q5⟩ := g3
        have main : ∀ d, D.den1 (.app s bytes) (denL c.ρ [cx, cy]) = some d → ∃ ys rows, Tail c H s dy (arg env y) ys rows rd ∧ d = .list (xs ++ ys) ∧ (ys = [] ∨ (xs.length + ys.length + 1) * (bytes + 1) ≤ 1099511627776) := fun d hd => by
          simp only [denL, q2] at hd
          cases ed : E.den c.ρ cy <;> rw [ed] at hd <;> try (simp [D.den1] at hd; done)
          rename_i ys
          obtain ⟨rows, t⟩ := ht ys ed (hall hd)
          obtain ⟨e, hb⟩ := appD hd
          exact ⟨ys, rows, t, e, hb.imp List.isEmpty_iff.1 (fun h => h)⟩
        rcases ha with ⟨z, hz, ha⟩ | ⟨hl0, ha⟩
        · obtain ⟨rows0, t1, t2, t3, t4⟩ := q5 _ hz
          by_cases hrow : ∃ ys, cy.den c.ρ = .list ys ∧ ys = []
          · -- nothing is appended
            obtain ⟨ys, hy1, hy2⟩ := hrow
            subst hy2
            refine OpD.nextL (rd := rd) r hr e2 hp (fun d hd => ?_) (fun w hw => by
              rcases hrd w hw with h | ⟨s, p, h1, h2, h3⟩
              · exact .inl h
              · exact .inr ⟨s, p, h1, h2, by simp [h3]⟩)
            obtain ⟨ys, rows, t, rfl, hb⟩ := main d hd
            simp only [denL, q2, hy1] at hd
            have hys : ys = [] := by
              have := (appD hd).1
              simpa using this
            subst hys
            have hrows : rows = [] := by have := t.h.len; simpa using this.symm
            subst hrows
            refine ⟨xs ++ [], .own z p.off p.len, [], H.nx, rfl, ?_, ?_⟩
            · simp [evalOp, t.he, ha]
            · rw [List.append_nil, ← q3]
              exact .same hz t1 (by rw [q3]; exact t2) t3 (by rw [q3]; exact t4.mono fun _ _ => F2.mono fun _ _ => Rk.addL)
          · refine OpD.nextL (rd := z :: rd) r hr e2 hp (fun d hd => ?_) (fun w hw => by
              rcases List.mem_cons.1 hw with rfl | hw
              · exact okr_of hp hz (by simp [g2])
              · rcases hrd w hw with h | ⟨s, p, h1, h2, h3⟩
                · exact .inl h
                · exact .inr ⟨s, p, h1, h2, by simp [h3]⟩)
            have hd0 := hd
            obtain ⟨ys, rows, t, rfl, hb⟩ := main d hd
            simp only [denL, q2] at hd0
            have hys : ys ≠ [] := fun e => hrow (by
              cases ed : E.den c.ρ cy <;> rw [ed] at hd0 <;> try (simp [D.den1] at hd0; done)
              rename_i ys'
              have := (appD hd0).1
              simp only [D.list.injEq, List.append_cancel_left_eq] at this
              exact ⟨ys', rfl, by rw [← this]; exact e⟩)
            have hb' := hb.resolve_left hys
            have hl := t.h.len
            cases rows with
            | nil => exact absurd (by simpa using hl) hys
            | cons r0 rs =>
              refine ⟨xs ++ ys, _, _, _, rfl, ?_, .fresh hz (rows := (rows0.drop p.off).take p.len ++ r0 :: rs) ?_ ?_ ?_⟩
              · simp only [evalOp, t.he, ha, t1]
                rw [if_pos ⟨trivial, t2, by rw [← hl, ← q3]; exact hb'⟩]
                simp [← hl, ← q3]
              · simp [← hl, q3]; omega
              · intro q hq
                rcases List.mem_append.1 hq with hq | hq
                · exact t3 q (List.mem_of_mem_drop (List.mem_of_mem_take hq))
                · exact t.hs q hq
              · exact (t4.mono fun _ _ => F2.mono fun _ _ => Rk.addL).append (t.h.mono fun _ _ => F2.mono fun _ _ => Rk.addRr)
        · have hxs : xs = [] := by rw [hl0] at q3; simpa using q3
          subst hxs
          refine OpD.nextL (rd := rd) r hr e2 hp (fun d hd => ?_) (fun w hw => by
            rcases hrd w hw with h | ⟨s, p, h1, h2, h3⟩
            · exact .inl h
            · exact .inr ⟨s, p, h1, h2, by simp [h3]⟩)
          obtain ⟨ys, rows, t, rfl, hb⟩ := main d hd
          have hl := t.h.len
          cases rows with
          | nil =>
            have hys : ys = [] := by simpa using hl
            subst hys
            refine ⟨[], arg env x, [], H.nx, rfl, ?_, .none rfl ha⟩
            rcases ha with ha | ha <;> simp [evalOp, t.he, ha]
          | cons r0 rs =>
            have hys : ys ≠ [] := fun e => by subst e; simp at hl
            have hb' := hb.resolve_left hys
            refine ⟨ys, .own H.nx 0 ys.length, _, _, rfl, ?_, .new hl t.hs (t.h.mono fun _ _ => F2.mono fun _ _ => Rk.addRr)⟩
            have hb'' : (((r0 :: rs).length + 1) * (bytes + 1) ≤ 1099511627776) := by rw [← hl]; simpa using hb'
            rcases ha with ha | ha <;> simp only [evalOp, t.he, ha] <;> rw [if_pos hb'', hl]
      · cases h
    · cases h
  · cases h
end Go.Q
/- One operation: all the others. -/
set_option linter.unusedVariables false
set_option linter.unusedSimpArgs false
namespace Go.Q
open Go.V
variable {c c' : Cx} {S : SS} {env : List AV} {H H' : Heap} {K : List FC} {mk : List Nat}
variable {TT : FuncId → Option IFn} {cb : Cb} {Fs : FuncId → List D → Option D} {ρ' : List D}

theorem okZero_ok {zero : List AV} (h : okZero zero = true) : F2 RD (zeroD zero) zero ∧ zero.all AV.one = true ∧ (zeroD zero).length = zero.length := by
  induction zero with
  | nil => exact ⟨.nil, rfl, rfl⟩
  | cons v zero ih =>
    simp only [okZero, List.all_cons, Bool.and_eq_true] at h
    obtain ⟨h1, h2, h3⟩ := ih h.2
    have : RD (match ofAV1 v with | .e (.c d) => d | .nil => .list [] | _ => .unit) v ∧ v.one = true := by
      cases v <;> simp [ofAV1] at h ⊢ <;> first | exact ⟨.int, rfl⟩ | exact ⟨.bool, rfl⟩ | exact ⟨.str, rfl⟩ | exact ⟨.nilS, rfl⟩ | exact ⟨.nilP, rfl⟩ | exact ⟨.nilF, rfl⟩ | skip
    exact ⟨.cons this.1 h1, by simp [this.2, h2], by simp [zeroD] at h3 ⊢⟩
theorem Rk.list {dp : Option (List Nat)} {xs : List D} {as : List AV} (h : F2 RD xs as) : F2 (Rk c dp) xs as := h.mono fun _ _ => Rk.ofRD
theorem fill_ok {senv : List SV} (he : F2 (Cv c) senv env) : ∀ {parts : List (Nat × Nat × Arg)} {cs cs' : List SV} {as : List AV}, F2 (Cv c) cs as → as.all AV.one = true → fillV senv parts cs = some cs' →
    ∃ as', fillA env parts as = some as' ∧ F2 (Cv c) cs' as' ∧ as'.all AV.one = true
  | [], cs, cs', as, h, h1, hf => by cases hf; exact ⟨as, rfl, h, h1⟩
  | (off, size, x) :: ps, cs, cs', as, h, h1, hf => by
    simp only [fillV] at hf
    split at hf
    · rename_i xs e1
      split at hf
      · rename_i hl
        obtain ⟨c1, c2⟩ := cells_ok (sarg_ok he x) e1
        cases e2 : putS cs off xs with
        | none => rw [e2] at hf; cases hf
        | some cs1 =>
          rw [e2] at hf
          obtain ⟨as1, k1, k2, k3, k4⟩ := put_ok h h1 c1 c2 e2
          obtain ⟨as', k5, k6, k7⟩ := fill_ok he k2 k3 hf
          refine ⟨as', ?_, k6, k7⟩
          simp only [fillA]
          rw [if_pos ⟨by rw [← c1.len]; exact hl, c2⟩, k1]
          exact k5
      · cases hf
    · cases hf
theorem idxD {sz : Nat} {xs : List (List D)} {d d' : D} (h : D.den1 (.idx sz) [.list xs, d] = some d') : ∃ k m x, d = .int k m ∧ 0 ≤ m ∧ m.toNat < xs.length ∧ xs[m.toNat]? = some x ∧ x.length = sz := by
  simp only [D.den1] at h
  cases e : d.idx xs.length with
  | none => rw [e] at h; cases h
  | some i =>
    rw [e] at h
    simp only [Option.bind_some] at h
    cases d <;> simp only [D.idx, reduceCtorEq] at e
    rename_i k m
    split at e
    · rename_i hc
      cases e
      cases e2 : xs[m.toNat]? with
      | none => rw [e2] at h; cases h
      | some x =>
        rw [e2] at h
        simp only [Option.bind_some] at h
        split at h
        · rename_i hl; exact ⟨k, m, x, rfl, hc.1, by omega, e2, hl⟩
        · cases h
    · cases e
theorem idx_at {a : AV} {k : IntKind} {m : Int} {n : Nat} (h : Dt c (.int k m) a) (h0 : 0 ≤ m) (hl : m.toNat < n) : idx a n = some m.toNat := by
  rw [h.int]; simp only [idx]; rw [if_pos ⟨h0, by omega⟩]
theorem indexS_ok (r : Rel c S env H K mk) {sz : Nat} {x i : Arg} {f : Ef} (h : doOp S (.indexS sz x i) = some f) (hr : emR Fs f.em c.ρ ρ') : OpD TT cb c S env H K mk (.indexS sz x i) f ρ' := by
  have hv := sarg_ok r.env x
  simp only [doOp] at h
  split at h
  · rename_i id i' e1 e2
    rw [e1] at hv
    obtain ⟨hi, hd⟩ := dat_ok (sarg_ok r.env i) e2
    split at h
    · rename_i s y dp e3
      split at h
      · rename_i hsz
        subst hsz
        cases h
        obtain ⟨p, hp, ha⟩ := hv.inv_own
        obtain ⟨p', g1, g2, g3, g4⟩ := r.blk e3
        rw [hp] at g1; cases g1
        obtain ⟨xs, q1, q2, q3, q4, q5⟩ := g3
        obtain ⟨d, d1, d2, d3, d4, d5⟩ := emP_ok r.n hr
        obtain ⟨le, r'⟩ := r.em d4 d5
        simp only [denL, q2] at d1
        obtain ⟨k, m, x', f1, f2, f3, f4, f5⟩ := idxD d1
        rw [f1] at hd
        rcases ha with ⟨z, hz, ha⟩ | ⟨hl0, -⟩
        · obtain ⟨rows, t1, t2, t3, t4⟩ := q5 _ hz
          have hix := idx_at (n := p.len) hd f2 (by omega)
          refine ⟨.ptr z (p.off + m.toNat) 0, [z], [], H.nx, _, ?_, le, rfl, by rw [wrH_nil]; exact r', .ptrO hp hz (le.upto hi) (by rw [le.den hi]; exact f1) f2 (by omega), fun w hw => ?_, by simp⟩
          · simp [evalOp, ha, t1, hix]
          · simp only [List.mem_singleton] at hw; subst hw
            exact okr_of hp hz (by simp [g2])
        · omega
      · cases h
    · cases h
  · rename_i y i' e1 e2
    rw [e1] at hv
    cases h
    obtain ⟨hi, hd⟩ := dat_ok (sarg_ok r.env i) e2
    obtain ⟨hx, hrd, h1⟩ := hv.inv_e
    obtain ⟨d, d1, d2, d3, d4, d5⟩ := emP_ok r.n hr
    obtain ⟨le, r'⟩ := r.em d4 d5
    simp only [denL] at d1
    cases ed : E.den c.ρ y <;> rw [ed] at d1 <;> try (simp [D.den1] at d1; done)
    rename_i xs
    obtain ⟨k, m, x', f1, f2, f3, f4, f5⟩ := idxD d1
    rw [f1] at hd
    rw [ed] at hrd
    generalize ha : arg env x = a at hrd
    cases hrd with
    | nilS => simp at f3
    | emp => simp at f3
    | lst hne hs h =>
      rename_i s rows
      obtain ⟨row, u1, u2⟩ := h.get f4
      have hs' : s = sz := by rw [← (hs row (List.mem_of_getElem? u1)).1, ← u2.len, f5]
      subst hs'
      have hix := idx_at (n := rows.length) hd f2 (by rw [← h.len]; omega)
      exact ⟨.ptrL s rows m.toNat 0, [], [], H.nx, _, by simp [evalOp, ha, hix], le, rfl, by rw [wrH_nil]; exact r', .ptrE (le.upto hx) (le.upto hi) (by rw [le.den hx]; exact ed) (by rw [le.den hi]; exact f1) f2 f3 hs h, by simp, by simp⟩
  · rename_i y rs i' e1 e2
    rw [e1] at hv
    cases h
    obtain ⟨hi, hd⟩ := dat_ok (sarg_ok r.env i) e2
    obtain ⟨hx, hro, h1⟩ := hv.inv_fz
    obtain ⟨d, d1, d2, d3, d4, d5⟩ := emP_ok r.n hr
    obtain ⟨le, r'⟩ := r.em d4 d5
    simp only [denL] at d1
    cases ed : E.den c.ρ y <;> rw [ed] at d1 <;> try (simp [D.den1] at d1; done)
    rename_i xs
    obtain ⟨k, m, x', f1, f2, f3, f4, f5⟩ := idxD d1
    rw [f1] at hd
    rw [ed] at hro
    generalize ha : arg env x = a at hro
    cases hro with
    | b hrd =>
      cases hrd with
      | nilS => simp at f3
      | emp => simp at f3
      | lst hne hs h =>
        rename_i s rows
        obtain ⟨row, u1, u2⟩ := h.get f4
        have hs' : s = sz := by rw [← (hs row (List.mem_of_getElem? u1)).1, ← u2.len, f5]
        subst hs'
        have hix := idx_at (n := rows.length) hd f2 (by rw [← h.len]; omega)
        exact ⟨.ptrL s rows m.toNat 0, [], [], H.nx, _, by simp [evalOp, ha, hix], le, rfl, by rw [wrH_nil]; exact r', .ptrE (le.upto hx) (le.upto hi) (by rw [le.den hx]; exact ed) (by rw [le.den hi]; exact f1) f2 f3 hs h, by simp, by simp⟩
    | own hΦ hA hl hs h =>
      rename_i id off s rows
      obtain ⟨row, u1, u2⟩ := h.get f4
      rw [getElem?_sub f3] at u1
      have hs' : s = sz := by rw [← (hs row (List.mem_of_getElem? u1)).1, ← u2.len, f5]
      subst hs'
      have hix := idx_at (n := xs.length) hd f2 f3
      have hg := (r.frz _ _ _ hΦ).1
      refine ⟨.ptr id (off + m.toNat) 0, [id], [], H.nx, _, by simp [evalOp, ha, hg, hix], le, rfl, by rw [wrH_nil]; exact r', .ptrF (le.upto hx) (le.upto hi) (by rw [le.den hx]; exact ed) (by rw [le.den hi]; exact f1) f2 f3 hΦ (le.okr hA) hl hs (RO.monoLL (fun _ _ h => h) (fun _ => le.okr) h), fun w hw => ?_, by simp⟩
      simp only [List.mem_singleton] at hw; subst hw
      exact le.okr hA
  · cases h
theorem constIx_ok {v : SV} {a : AV} {i n : Nat} (hv : Cv c v a) (h : constIx v = some i) (hl : i < n) : idx a n = some i := by
  unfold constIx at h
  split at h
  · rename_i k m
    split at h
    · rename_i h0
      cases h
      obtain ⟨-, hd, -⟩ := hv.inv_e
      simp only [E.den] at hd
      cases hd
      simp only [idx]; rw [if_pos ⟨h0, by omega⟩]
    · cases h
  · cases h
theorem uptoD {n : Nat} {d : D} {i : Nat} {a : AV} (h : d.upto n = some i) (hd : Dt c d a) : ∃ k m, a = .int k m ∧ 0 ≤ m ∧ m ≤ n ∧ i = m.toNat := by
  cases d <;> simp only [D.upto, reduceCtorEq] at h
  rename_i k m
  split at h
  · rename_i hc; cases h; exact ⟨k, m, hd.int, hc.1, hc.2, rfl⟩
  · cases h
theorem optS_ok {senv : List SV} (he : F2 (Cv c) senv env) {o : Option Arg} {l : List E} (h : optS senv o = some l) : (o = none ∧ l = []) ∨ ∃ x y, o = some x ∧ l = [y] ∧ y.upto c.ρ.length = true ∧ Dt c (y.den c.ρ) (arg env x) := by
  cases o with
  | none => cases h; exact .inl ⟨rfl, rfl⟩
  | some x =>
    simp only [optS] at h
    cases e : dat (sarg senv x) with
    | none => rw [e] at h; cases h
    | some y =>
      rw [e] at h; cases h
      obtain ⟨g1, g2⟩ := dat_ok (sarg_ok he x) e
      exact .inr ⟨x, y, rfl, rfl, g1, g2⟩
theorem bnd_none (env : List AV) (d m : Nat) : bnd env d m none = some d := rfl
theorem bnd_some {x : Arg} {d m i : Nat} {e : D} (h : e.upto m = some i) (hd : Dt c e (arg env x)) : bnd env d m (some x) = some i := by
  obtain ⟨k, n, h1, h2, h3, h4⟩ := uptoD h hd
  simp only [bnd, h1]; rw [if_pos ⟨h2, h3⟩, h4]
theorem upto_le {d : D} {n i : Nat} (h : d.upto n = some i) : i ≤ n := by
  cases d <;> simp only [D.upto, reduceCtorEq] at h
  split at h
  · cases h; omega
  · cases h
/-- Parts of a list that nobody writes. -/
theorem sub_RD {sz : Nat} {xs : List (List D)} {a : AV} (hall : xs.all (fun y => y.length == sz) = true) (h : RD (.list xs) a) :
    (xs = [] ∧ (a = .nilS ∨ ∃ z, a = .emp z)) ∨ ∃ rows, a = .lst sz rows ∧ xs ≠ [] ∧ xs.length = rows.length ∧ (∀ y ∈ rows, y.length = sz ∧ y.all AV.one = true) ∧ F2 (F2 RD) xs rows := by
  cases h with
  | nilS => exact .inl ⟨rfl, .inl rfl⟩
  | emp => exact .inl ⟨rfl, .inr ⟨_, rfl⟩⟩
  | lst hne hs h =>
    rename_i s rows
    cases xs with
    | nil => exact absurd rfl hne
    | cons x xs =>
      obtain ⟨row, t, rfl, h1, h2⟩ := F2.inv_cons h
      have h3 : x.length = sz := by simpa using (List.all_eq_true.1 hall x (by simp))
      have hs' : s = sz := by rw [← (hs row (by simp)).1, ← h1.len, h3]
      subst hs'
      exact .inr ⟨_, rfl, by simp, h.len, hs, h⟩
theorem sl_e (r : Rel c S env H K mk) {sz : Nat} {x : Arg} {lo hi : Option Arg} {l h : List E} {y : E} (hl : optS S.env lo = some l) (hh : optS S.env hi = some h) (e1 : sarg S.env x = .e y) (hr : emR Fs (emP (.sl sz (!l.isEmpty) (!h.isEmpty)) (y :: (l ++ h)) S.n).1 c.ρ ρ') :
    OpD TT cb c S env H K mk (.sl sz x lo hi) (pure1 S (.sl sz (!l.isEmpty) (!h.isEmpty)) (y :: (l ++ h))) ρ' := by
  have hv := sarg_ok r.env x
  rw [e1] at hv
  obtain ⟨hx, hrd, h1⟩ := hv.inv_e
  have main : ∀ (xs : List (List D)) (h' l' : Nat), E.den c.ρ y = .list xs → xs.all (fun y => y.length == sz) = true → l' ≤ h' → h' ≤ xs.length → bnd env xs.length xs.length hi = some h' → bnd env 0 h' lo = some l' →
      ∃ a, evalOp TT cb env H H.nx (.sl sz x lo hi) = some (.eff a [] [] H.nx) ∧ RD (.list ((xs.take h').drop l')) a ∧ a.one = true := by
    intro xs h' l' ed hall h1 h2 h3 h4
    rw [ed] at hrd
    rcases sub_RD hall hrd with ⟨rfl, ha⟩ | ⟨rows, ha, hne, hlen, hs, h⟩
    · have e1 : h' = 0 := by simpa using h2
      subst e1
      have e2 : l' = 0 := by omega
      subst e2
      rcases ha with ha | ⟨z, ha⟩
      · exact ⟨.nilS, by simp only [evalOp, ha]; simp [show bnd env 0 0 hi = some 0 from h3, h4], .nilS, rfl⟩
      · exact ⟨.emp z, by simp only [evalOp, ha]; simp [show bnd env 0 0 hi = some 0 from h3, h4], .emp, rfl⟩
    · have hrows : rows.isEmpty = false := by
        cases rows with
        | nil => simp at hlen; exact absurd hlen hne
        | cons => rfl
      rw [hlen] at h3 h2
      by_cases hc : l' < h'
      · refine ⟨.lst sz ((rows.drop l').take (h' - l')), by simp [evalOp, ha, h3, h4, hrows, hc], ?_, rfl⟩
        have : ((xs.take h').drop l') = ((xs.drop l').take (h' - l')) := by rw [List.drop_take]
        rw [this]
        refine .lst (fun e => ?_) (fun q hq => hs q (List.mem_of_mem_drop (List.mem_of_mem_take hq))) ((h.drop l').take (h' - l'))
        have := congrArg List.length e
        simp at this
        omega
      · refine ⟨.emp false, by simp [evalOp, ha, h3, h4, hrows, hc], ?_, rfl⟩
        have : (xs.take h').drop l' = [] := by rw [List.drop_eq_nil_iff]; simp; omega
        rw [this]; exact .emp
  refine OpD.emd r (w := fun x => .e x) (rd := []) hr (fun d hd => ?_) (by simp)
  have : ∃ a, evalOp TT cb env H H.nx (.sl sz x lo hi) = some (.eff a [] [] H.nx) ∧ RD d a ∧ a.one = true := by
    rcases optS_ok r.env hl with ⟨rfl, rfl⟩ | ⟨xl, yl, rfl, rfl, ul, dl⟩ <;> rcases optS_ok r.env hh with ⟨rfl, rfl⟩ | ⟨xh, yh, rfl, rfl, uh, dh⟩ <;>
      simp only [List.isEmpty_nil, List.isEmpty_cons, Bool.not_true, Bool.not_false, List.nil_append, List.append_nil, List.cons_append, denL] at hd <;>
      cases ed : E.den c.ρ y <;> rw [ed] at hd <;> (try (simp [D.den1] at hd; done)) <;> rename_i xs <;> simp only [D.den1] at hd <;> split at hd <;> (try (cases hd; done)) <;> rename_i hall
    · cases hd
      have := main xs xs.length 0 ed hall (by omega) (by omega) rfl rfl
      simpa using this
    · cases e2 : (E.den c.ρ yh).upto xs.length with
      | none => rw [e2] at hd; cases hd
      | some h' =>
        rw [e2] at hd; cases hd
        have := main xs h' 0 ed hall (by omega) (upto_le e2) (bnd_some e2 dh) rfl
        simpa using this
    · cases e2 : (E.den c.ρ yl).upto xs.length with
      | none => rw [e2] at hd; cases hd
      | some l' =>
        rw [e2] at hd; cases hd
        have := main xs xs.length l' ed hall (upto_le e2) (by omega) rfl (bnd_some e2 dl)
        simpa using this
    · cases e2 : (E.den c.ρ yh).upto xs.length with
      | none => rw [e2] at hd; cases hd
      | some h' =>
        rw [e2] at hd
        simp only [Option.bind_some] at hd
        cases e3 : (E.den c.ρ yl).upto h' with
        | none => rw [e3] at hd; cases hd
        | some l' =>
          rw [e3] at hd; cases hd
          exact main xs h' l' ed hall (upto_le e3) (upto_le e2) (bnd_some e2 dh) (bnd_some e3 dl)
  obtain ⟨a, g1, g2, g3⟩ := this
  exact ⟨a, g1, fun c' z le hz hu => .e hu (by rw [hz]; exact g2) g3⟩
theorem sl_own (r : Rel c S env H K mk) {sz id : Nat} {x : Arg} {lo hi : Option Arg} {l h : List E} {y : E} {dp : Option (List Nat)} (hl : optS S.env lo = some l) (hh : optS S.env hi = some h) (e1 : sarg S.env x = .own id) (e2 : bget S.heap id = some (.list sz y dp)) (hle : l.isEmpty = true)
    (hr : emR Fs (emP (.sl sz false (!h.isEmpty)) (y :: h) S.n).1 c.ρ ρ') : OpD TT cb c S env H K mk (.sl sz x lo hi) (nextList S id sz (.sl sz false (!h.isEmpty)) (y :: h) dp []) ρ' := by
  have hv := sarg_ok r.env x
  rw [e1] at hv
  have hlo : lo = none := by
    rcases optS_ok r.env hl with ⟨rfl, rfl⟩ | ⟨xl, yl, rfl, rfl, ul, dl⟩
    · rfl
    · simp at hle
  subst hlo
  obtain ⟨p, hp, ha⟩ := hv.inv_own
  obtain ⟨p', g1, g2, g3, g4⟩ := r.blk e2
  rw [hp] at g1; cases g1
  obtain ⟨xs, q1, q2, q3, q4, q5⟩ := g3
  have key : ∀ d, D.den1 (.sl sz false (!h.isEmpty)) (denL c.ρ (y :: h)) = some d → ∃ h', d = .list (xs.take h') ∧ h' ≤ xs.length ∧ bnd env xs.length xs.length hi = some h' := fun d hd => by
    rcases optS_ok r.env hh with ⟨rfl, rfl⟩ | ⟨xh, yh, rfl, rfl, uh, dh⟩ <;> simp only [List.isEmpty_nil, List.isEmpty_cons, Bool.not_true, Bool.not_false, denL, q2, D.den1] at hd <;> split at hd <;> (try (cases hd; done))
    · cases hd; exact ⟨xs.length, by simp, by omega, rfl⟩
    · cases e3 : (E.den c.ρ yh).upto xs.length with
      | none => rw [e3] at hd; cases hd
      | some h' => rw [e3] at hd; cases hd; exact ⟨h', rfl, upto_le e3, bnd_some e3 dh⟩
  rcases ha with ⟨z, hz, ha⟩ | ⟨hl0, ha⟩
  · obtain ⟨rows, t1, t2, t3, t4⟩ := q5 _ hz
    refine OpD.nextL (rd := [z]) r hr e2 hp (fun d hd => ?_) (fun w hw => by
      simp only [List.mem_singleton] at hw; subst hw; exact okr_of hp hz (by simp [g2]))
    obtain ⟨h', rfl, h2, h3⟩ := key d hd
    rw [q3] at h3
    refine ⟨xs.take h', .own z p.off h', [], H.nx, rfl, by simp [evalOp, ha, t1, h3, bnd_none], ?_⟩
    have hlen : (xs.take h').length = h' := by simp; omega
    have := Next.same (c := c) (sz := sz) (dp := dp) (xs := xs.take h') hz t1 (by rw [hlen]; omega) t3 (by
      rw [hlen]
      have := t4.take h'
      rwa [List.take_take, Nat.min_eq_left (by omega)] at this)
    rwa [hlen] at this
  · have hxs : xs = [] := by rw [hl0] at q3; simpa using q3
    subst hxs
    refine OpD.nextL (rd := []) r hr e2 hp (fun d hd => ?_) (by simp)
    obtain ⟨h', rfl, h2, h3⟩ := key d hd
    have : h' = 0 := by simpa using h2
    subst this
    refine ⟨[], arg env x, [], H.nx, by simp, ?_, .none rfl ha⟩
    rcases ha with ha | ha <;> simp only [evalOp, ha] <;> simp [show bnd env 0 0 hi = some 0 from h3, bnd_none]
theorem uptoE {n : Nat} {d : D} {i : Nat} (h : d.upto n = some i) : ∃ k m, d = .int k m ∧ 0 ≤ m ∧ m ≤ n ∧ i = m.toNat := by
  cases d <;> simp only [D.upto, reduceCtorEq] at h
  rename_i k m
  split at h
  · rename_i hc; cases h; exact ⟨k, m, rfl, hc.1, hc.2, rfl⟩
  · cases h
/-- The end of a list of one's own. -/
theorem sl_suf (r : Rel c S env H K mk) {sz id : Nat} {x : Arg} {lo hi : Option Arg} {yl y : E} {dp : Option (List Nat)} (hl : optS S.env lo = some [yl]) (hh : optS S.env hi = some []) (e1 : sarg S.env x = .own id) (e2 : bget S.heap id = some (.list sz y dp))
    (hr : emR Fs (emP (.sl sz true false) [y, yl] S.n).1 c.ρ ρ') : OpD TT cb c S env H K mk (.sl sz x lo hi) ⟨(emP (.sl sz true false) [y, yl] S.n).1, .sufO id yl, [rtOf S.heap id], [], S.heap⟩ ρ' := by
  have hv := sarg_ok r.env x
  rw [e1] at hv
  have hhi : hi = none := by
    rcases optS_ok r.env hh with ⟨rfl, -⟩ | ⟨xl, yl, rfl, h, ul, dl⟩
    · rfl
    · simp at h
  subst hhi
  rcases optS_ok r.env hl with ⟨-, h⟩ | ⟨xl, yl', rfl, h, ul, dl⟩
  · simp at h
  cases h
  obtain ⟨p, hp, ha⟩ := hv.inv_own
  obtain ⟨p', g1, g2, g3, g4⟩ := r.blk e2
  rw [hp] at g1; cases g1
  obtain ⟨xs, q1, q2, q3, q4, q5⟩ := g3
  have key : ∀ d, D.den1 (.sl sz true false) (denL c.ρ [y, yl]) = some d → ∃ l', (yl.den c.ρ).upto xs.length = some l' := fun d hd => by
    simp only [denL, q2, D.den1] at hd
    split at hd
    · cases e3 : (E.den c.ρ yl).upto xs.length with
      | none => rw [e3] at hd; cases hd
      | some l' => exact ⟨l', rfl⟩
    · cases hd
  rcases ha with ⟨z, hz, ha⟩ | ⟨hl0, ha⟩
  · obtain ⟨rows, t1, t2, t3, t4⟩ := q5 _ hz
    refine OpD.emd r (w := fun _ => .sufO id yl) (rd := [z]) hr (fun d hd => ?_) (fun w hw => by
      simp only [List.mem_singleton] at hw; subst hw; exact okr_of hp hz (by simp [g2]))
    obtain ⟨l', h3⟩ := key d hd
    have hb := bnd_some (d := 0) h3 dl
    obtain ⟨k, m, w1, w2, w3, rfl⟩ := uptoE h3
    rw [q3] at hb w3
    refine ⟨if m.toNat = 0 ∨ m.toNat < p.len then .own z (p.off + m.toNat) (p.len - m.toNat) else .emp false, by simp only [evalOp, ha, t1, hb, bnd_none, if_true, Option.bind_some, Option.map_some], fun c' e le he hu => ?_⟩
    refine .sufO (le.ψ _ _ hp) (le.upto ul) (by rw [le.den ul]; exact w1) w2 (by omega) ?_
    by_cases hc : m.toNat = 0 ∨ m.toNat < p.len
    · rw [if_pos hc]; exact .inl ⟨z, hz, rfl⟩
    · rw [if_neg hc]; exact .inr ⟨by omega, .inr ⟨_, rfl⟩⟩
  · have hxs : xs.length = 0 := by omega
    refine OpD.emd r (w := fun _ => .sufO id yl) (rd := []) hr (fun d hd => ?_) (by simp)
    obtain ⟨l', h3⟩ := key d hd
    rw [hxs] at h3
    have hb := bnd_some (d := 0) h3 dl
    obtain ⟨k, m, w1, w2, w3, rfl⟩ := uptoE h3
    have hm : m.toNat = 0 := by omega
    rw [hm] at hb
    refine ⟨arg env x, by rcases ha with ha | ha <;> simp [evalOp, ha, hb, bnd_none], fun c' e le he hu => ?_⟩
    exact .sufO (le.ψ _ _ hp) (le.upto ul) (by rw [le.den ul]; exact w1) w2 (by omega) (.inr ⟨by omega, by rcases ha with ha | ha <;> simp [ha]⟩)
theorem seg_put {α : Type} {rows : List α} {off len n : Nat} {z : α} (h : off + len ≤ rows.length) (hn : n ≤ len) :
    ((rows.take (off + n) ++ List.replicate (len - n) z ++ rows.drop (off + n + (len - n))).drop off).take len = ((rows.drop off).take len).take n ++ List.replicate (len - n) z := by
  rw [List.append_assoc, List.drop_append_of_le_length (by simp; omega), List.drop_take, show off + n - off = n by omega, List.take_take, Nat.min_eq_left hn]
  have hA : ((rows.drop off).take n).length = n := by simp; omega
  generalize (rows.drop off).take n = A at hA
  generalize rows.drop (off + n + (len - n)) = C
  have hl : len = (A ++ List.replicate (len - n) z).length := by simp; omega
  rw [← List.append_assoc]
  have := List.take_left (l₁ := A ++ List.replicate (len - n) z) (l₂ := C)
  rwa [← hl] at this
theorem clr_ok (r : Rel c S env H K mk) {sz : Nat} {zero : List AV} {x : Arg} {f : Ef} (h : doOp S (.clr sz zero x) = some f) (hr : emR Fs f.em c.ρ ρ') : OpD TT cb c S env H K mk (.clr sz zero x) f ρ' := by
  have hv := sarg_ok r.env x
  simp only [doOp] at h
  split at h
  · rename_i id lo e1
    rw [e1] at hv
    split at h
    · rename_i s y dp e3
      split at h
      · rename_i hc
        obtain ⟨rfl, hz⟩ := hc
        cases h
        obtain ⟨z1, z2, z3⟩ := okZero_ok hz
        obtain ⟨p, k, n, hp, hi, hn, h0, hl, ha⟩ := hv.inv_sufO
        obtain ⟨d, d1, d2, d3, d4, d5⟩ := emP_ok r.n hr
        obtain ⟨le, r1⟩ := r.em d4 d5
        obtain ⟨p', g1, g2, g3, g4⟩ := r.blk e3
        rw [hp] at g1; cases g1
        obtain ⟨xs, q1, q2, q3, q4, q5⟩ := g3
        simp only [denL, q2, hn, D.den1, D.upto] at d1
        split at d1
        rotate_left
        · cases d1
        rename_i hzl
        rw [if_pos ⟨h0, by omega⟩] at d1
        simp only [Option.map_some, Option.some.injEq] at d1
        subst d1
        have hlen : (xs.take n.toNat ++ List.replicate (xs.length - n.toNat) (zeroD zero)).length = p.len := by simp; omega
        rcases ha with ⟨w, hx, ha⟩ | ⟨hnl, ha⟩
        · obtain ⟨rows, t1, t2, t3, t4⟩ := q5 _ hx
          have hbnd : p.off + n.toNat + (p.len - n.toNat) ≤ rows.length := by omega
          have r' := r1.put e3 hp hx (.list s (emP (.clr s (zeroD zero)) [y, lo] S.n).2 dp) (some (.row s (rows.take (p.off + n.toNat) ++ List.replicate (p.len - n.toNat) zero ++ rows.drop (p.off + n.toNat + (p.len - n.toNat))))) (by
            refine ⟨_, d3, d2, hlen, fun hh => (by rw [hx] at hh; cases hh), fun w' hw' => ?_⟩
            rw [hx] at hw'; cases hw'
            refine ⟨rows.take (p.off + n.toNat) ++ List.replicate (p.len - n.toNat) zero ++ rows.drop (p.off + n.toNat + (p.len - n.toNat)), by rw [hget_wr1]; simp, by simp; omega, fun q hq => ?_, ?_⟩
            · simp only [List.mem_append] at hq
              rcases hq with (hq | hq) | hq
              · exact t3 q (List.mem_of_mem_take hq)
              · rw [List.eq_of_mem_replicate hq]; exact ⟨by rw [← z3, hzl], z2⟩
              · exact t3 q (List.mem_of_mem_drop hq)
            · have e := seg_put (z := zero) t2 hl
              rw [e, q3]
              refine F2.append ?_ (F2.replicate ?_ _)
              · exact (t4.mono fun _ _ => F2.mono fun _ _ => Rk.mono le).take _
              · exact z1.mono fun _ _ => Rk.ofRD)
          refine ⟨undefA, [w], [(w, some (.row s (rows.take (p.off + n.toNat) ++ List.replicate (p.len - n.toNat) zero ++ rows.drop (p.off + n.toNat + (p.len - n.toNat)))))], H.nx, _, ?_, le, rfl, r', .unk, fun z hz => ?_, fun z hz => ?_⟩
          · simp only [evalOp, ha, t1]
            rw [if_pos ⟨trivial, hbnd, z2⟩]
          · simp only [List.mem_singleton] at hz; subst hz
            exact okr_of hp hx (by simp [g2])
          · simp only [List.map_cons, List.map_nil, List.mem_singleton] at hz; subst hz
            exact ⟨r.notF0 e3 hp hx, id, p, hp, hx, by simp [g2]⟩
        · have hxs : xs.take n.toNat ++ List.replicate (xs.length - n.toNat) (zeroD zero) = xs := by
            rw [show xs.length - n.toNat = 0 by omega, List.replicate_zero, List.append_nil, List.take_of_length_le (by omega)]
          rw [hxs] at d2
          have r' := r1.swap e3 hp (.list s (emP (.clr s (zeroD zero)) [y, lo] S.n).2 dp) ⟨xs, d3, d2, q3, q4, fun w hw => by
            obtain ⟨rows, t1, t2, t3, t4⟩ := q5 _ hw
            exact ⟨rows, t1, t2, t3, t4.mono fun _ _ => F2.mono fun _ _ => Rk.mono le⟩⟩
          refine ⟨undefA, [], [], H.nx, _, ?_, le, rfl, by rw [wrH_nil]; exact r', .unk, by simp, by simp⟩
          rcases ha with ha | ⟨z, ha⟩ <;> simp only [evalOp, ha]
      · cases h
    · cases h
  · cases h
/-- No elements of a list that is read, and no room behind them. -/
theorem sl3_ok (r : Rel c S env H K mk) {sz : Nat} {x hi mx : Arg} {lo : Option Arg} {f : Ef} (h : doOp S (.sl3 sz x lo hi mx) = some f) (hr : emR Fs f.em c.ρ ρ') : OpD TT cb c S env H K mk (.sl3 sz x lo hi mx) f ρ' := by
  cases lo with
  | some l => cases h
  | none =>
    have hv := sarg_ok r.env x
    have hw := sarg_ok r.env hi
    have hu := sarg_ok r.env mx
    simp only [doOp] at h
    split at h
    · rename_i y k1 k2 e1 e2 e3
      cases h
      rw [e1] at hv; rw [e2] at hw; rw [e3] at hu
      obtain ⟨hx, hrd, h1⟩ := hv.inv_e
      obtain ⟨-, hw2, -⟩ := hw.inv_e
      obtain ⟨-, hu2, -⟩ := hu.inv_e
      simp only [E.den] at hw2 hu2
      have b1 : ∀ d m, bnd env d m (some hi) = some 0 := fun d m => by
        simp only [bnd]
        generalize arg env hi = a at hw2
        cases hw2
        simp
      have b2 : ∀ d m, bnd env d m (some mx) = some 0 := fun d m => by
        simp only [bnd]
        generalize arg env mx = a at hu2
        cases hu2
        simp
      refine OpD.mkL (c1 := c) (heap1 := S.heap) (rd := []) (Cx.le.refl c) rfl r hr (fun d hd => ?_) (by simp)
      simp only [denL, E.den] at hd
      cases ed : E.den c.ρ y <;> rw [ed] at hd <;> (try (simp [D.den1] at hd; done))
      rename_i xs
      simp only [D.den1] at hd
      split at hd
      rotate_left
      · cases hd
      rename_i hall
      have hd' : d = .list [] := by
        simp only [D.upto] at hd
        rw [if_pos ⟨by omega, by omega⟩] at hd
        simpa using hd.symm
      subst hd'
      rw [ed] at hrd
      rcases sub_RD hall hrd with ⟨rfl, ha⟩ | ⟨rows, ha, hne, hlen, hs, h⟩
      · rcases ha with ha | ⟨z, ha⟩
        · exact ⟨[], .nilS, [], H.nx, rfl, by simp [evalOp, ha, b1, b2, bnd_none], .none rfl (.inl rfl)⟩
        · exact ⟨[], .emp true, [], H.nx, rfl, by simp [evalOp, ha, b1, b2, bnd_none], .none rfl (.inr rfl)⟩
      · have hrows : rows.isEmpty = false := by
          cases rows with
          | nil => simp at hlen; exact absurd hlen hne
          | cons => rfl
        exact ⟨[], .emp true, [], H.nx, rfl, by simp [evalOp, ha, b1, b2, bnd_none, hrows], .none rfl (.inr rfl)⟩
    · cases h
end Go.Q
/- One operation: what is put into a new list; all operations. -/
set_option linter.unusedVariables false
set_option linter.unusedSimpArgs false
namespace Go.Q
open Go.V
variable {c c' : Cx} {S : SS} {env : List AV} {H H' : Heap} {K : List FC} {mk : List Nat}
variable {TT : FuncId → Option IFn} {cb : Cb} {Fs : FuncId → List D → Option D} {ρ' : List D}

theorem bget_put_ne {heap : List HB} {id i : Nat} {b : Option SB} (h : i ≠ id) : bget (hput heap id b) i = bget heap i := by
  unfold bget hput
  rw [List.getElem?_set_ne (fun e => h e.symm)]
theorem freeze_ok : ∀ (ids : List Nat) {c : Cx} {heap : List HB}, Rel c { S with heap := heap } env H K mk → noDup ids = true → (∀ id ∈ ids, ∃ s x dp, bget heap id = some (.list s x dp)) →
    ∃ c1, c.le c1 ∧ c1.ρ = c.ρ ∧ Rel c1 { S with heap := freeze heap ids } env H K mk ∧ ∀ id ∈ ids, ∀ p y s rows, c.ψ id = some p → p.idc = some y → hget H y = some (.row s rows) → c1.Φ y = some (s, rows)
  | [], c, heap, r, _, _ => ⟨c, Cx.le.refl c, rfl, r, by simp⟩
  | id :: ids, c, heap, r, hd, hl => by
    simp only [noDup, Bool.and_eq_true, Bool.not_eq_true', List.contains_eq_mem, decide_eq_false_iff_not] at hd
    obtain ⟨s, x, dp, hb⟩ := hl id (by simp)
    obtain ⟨p, g1, g2, g3, g4⟩ := r.blk (i := id) hb
    have hl' : ∀ id' ∈ ids, ∃ s x dp, bget (hput heap id none) id' = some (.list s x dp) := fun id' h' => by
      rw [bget_put_ne (id := id) (i := id') (by rintro rfl; exact hd.1 h')]; exact hl id' (by simp [h'])
    cases hp : p.idc with
    | none =>
      have r1 := r.drop id
      obtain ⟨c1, k1, k2, k3, k4⟩ := freeze_ok ids (heap := hput heap id none) r1 hd.2 hl'
      refine ⟨c1, k1, k2, k3, fun id' h' q y s rows h1 h2 h3 => ?_⟩
      rcases List.mem_cons.1 h' with rfl | h'
      · rw [g1] at h1; cases h1; rw [hp] at h2; cases h2
      · exact k4 id' h' q y s rows h1 h2 h3
    | some y =>
      obtain ⟨s', rows', hr⟩ := g3.row hp
      obtain ⟨le, r1⟩ := r.freeze hb g1 hp hr
      obtain ⟨c1, k1, k2, k3, k4⟩ := freeze_ok ids (heap := hput heap id none) r1 hd.2 hl'
      refine ⟨c1, le.trans k1, k2, k3, fun id' h' q z s rows h1 h2 h3 => ?_⟩
      rcases List.mem_cons.1 h' with rfl | h'
      · rw [g1] at h1; cases h1; rw [hp] at h2; cases h2
        rw [hr] at h3; cases h3
        exact k1.Φ _ _ (by simp [Cx.frz])
      · exact k4 id' h' q z s rows (le.ψ _ _ h1) h2 h3
/-- What holds of what was put away. -/
def Frozen (c c1 : Cx) (H : Heap) (ids : List Nat) : Prop := ∀ id ∈ ids, ∀ p y s rows, c.ψ id = some p → p.idc = some y → hget H y = some (.row s rows) → c1.Φ y = some (s, rows)
theorem put1_ok (r : Rel c S env H K mk) {c1 : Cx} (le : c.le c1) {v : SV} {a : AV} {P : Put} (hv : Cv c v a) (hp : put1 S.heap v = some P) :
    (∀ id ∈ P.fz, ∃ s x dp, bget S.heap id = some (.list s x dp)) ∧ P.es.length = 1 ∧ uptoL c.ρ.length P.es = true ∧ (Frozen c c1 H P.fz → F2 (Rk c1 P.rs) (denL c1.ρ P.es) [a]) := by
  unfold put1 at hp
  split at hp
  · cases hp
    obtain ⟨h1, h2, h3⟩ := hv.inv_e
    exact ⟨by simp, rfl, by simp [uptoL, h1], fun _ => .single (by rw [le.den h1]; exact h2)⟩
  · cases hp
    have := hv.inv_nil
    subst this
    exact ⟨by simp, rfl, rfl, fun _ => .single .nilS⟩
  · cases hp
    obtain ⟨h1, h2, h3⟩ := hv.inv_fz
    exact ⟨by simp, rfl, by simp [uptoL, h1], fun _ => .single (by rw [le.den h1]; exact RO.mono le.Φ (fun _ => le.okr) h2)⟩
  · rename_i id
    obtain ⟨p, hψ, ha⟩ := hv.inv_own
    have fin : ∀ {s x dp} (rs : List Nat), bget S.heap id = some (.list s x dp) → rtOf S.heap id ∈ rs → (∀ d b, Rk c dp d b → RO c1.Φ (c1.okr rs) d b) → x.upto c.ρ.length = true ∧ (Frozen c c1 H [id] → RO c1.Φ (c1.okr rs) (x.den c.ρ) a) := fun {s x dp} rs hb hrt hsub => by
      obtain ⟨p', g1, g2, g3, g4⟩ := r.blk hb
      rw [hψ] at g1; cases g1
      obtain ⟨xs, q1, q2, q3, q4, q5⟩ := g3
      refine ⟨q1, fun hf => ?_⟩
      rw [q2]
      rcases ha with ⟨z, hz, ha⟩ | ⟨hl0, ha⟩
      · obtain ⟨rows, t1, t2, t3, t4⟩ := q5 _ hz
        have hΦ := hf id (by simp) p z s rows hψ hz t1
        rw [ha, ← q3]
        exact .own hΦ (.inr ⟨id, p, le.ψ _ _ hψ, hz, by rw [g2]; exact hrt⟩) (by rw [q3]; exact t2) t3 (by rw [q3]; exact t4.mono fun _ _ => F2.mono hsub)
      · have hxs : xs = [] := by rw [hl0] at q3; simpa using q3
        subst hxs
        rcases ha with rfl | rfl
        · exact .b .nilS
        · exact .b .emp
    split at hp
    · rename_i s x e1
      cases hp
      obtain ⟨h1, h2⟩ := fin [rtOf S.heap id] e1 (by simp) fun d b h => .b h
      exact ⟨by simp [e1], rfl, by simp [uptoL, h1], fun hf => .single (by rw [le.den h1]; exact h2 hf)⟩
    · rename_i s x rs e1
      cases hp
      obtain ⟨h1, h2⟩ := fin (rtOf S.heap id :: rs) e1 (by simp) fun d b h => RO.mono le.Φ (fun i hi => by
        rcases le.okr hi with h | ⟨s, p, h1, h2, h3⟩
        · exact .inl h
        · exact .inr ⟨s, p, h1, h2, by simp [h3]⟩) h
      exact ⟨by simp [e1], rfl, by simp [uptoL, h1], fun hf => .single (by rw [le.den h1]; exact h2 hf)⟩
    · cases hp
  · cases hp
theorem denL_append {ρ : List D} : ∀ (a b : List E), denL ρ (a ++ b) = denL ρ a ++ denL ρ b
  | [], b => rfl
  | x :: a, b => by simp [denL, denL_append a b]
theorem uptoL_append {n : Nat} : ∀ {a b : List E}, uptoL n a = true → uptoL n b = true → uptoL n (a ++ b) = true
  | [], b, _, h => h
  | x :: a, b, h, h' => by
    simp only [uptoL, Bool.and_eq_true] at h
    simp [uptoL, h.1, uptoL_append h.2 h']
theorem Frozen.left {c1 : Cx} {a b : List Nat} (h : Frozen c c1 H (a ++ b)) : Frozen c c1 H a := fun id hid => h id (by simp [hid])
theorem Frozen.right {c1 : Cx} {a b : List Nat} (h : Frozen c c1 H (a ++ b)) : Frozen c c1 H b := fun id hid => h id (by simp [hid])
theorem putL_ok (r : Rel c S env H K mk) {c1 : Cx} (le : c.le c1) : ∀ {vs : List SV} {as : List AV} {P : Put}, F2 (Cv c) vs as → putL S.heap vs = some P →
    (∀ id ∈ P.fz, ∃ s x dp, bget S.heap id = some (.list s x dp)) ∧ P.es.length = vs.length ∧ uptoL c.ρ.length P.es = true ∧ (Frozen c c1 H P.fz → F2 (Rk c1 P.rs) (denL c1.ρ P.es) as)
  | [], as, P, h, hp => by cases hp; cases h; exact ⟨by simp, rfl, rfl, fun _ => .nil⟩
  | v :: vs, as, P, h, hp => by
    obtain ⟨a, t, rfl, ha, ht⟩ := F2.inv_cons h
    simp only [putL] at hp
    split at hp
    · rename_i p q e1 e2
      cases hp
      obtain ⟨g1, g2, g3, g4⟩ := put1_ok r le ha e1
      obtain ⟨k1, k2, k3, k4⟩ := putL_ok r le ht e2
      refine ⟨fun id hid => ?_, by simp [g2, k2]; omega, uptoL_append g3 k3, fun hf => ?_⟩
      · rcases List.mem_append.1 hid with hid | hid
        · exact g1 id hid
        · exact k1 id hid
      · rw [denL_append]
        exact ((g4 hf.left).mono fun _ _ => Rk.addL).append ((k4 hf.right).mono fun _ _ => Rk.addRr)
    · cases hp
theorem parts_ok (r : Rel c S env H K mk) {c1 : Cx} (le : c.le c1) {sz : Nat} {Q : Option (List Nat)} : ∀ {parts : List (Nat × Arg)} {is : List Nat} {P : Put}, partsE S.env S.heap sz parts = some (is, P) →
    (∀ id ∈ P.fz, ∃ s x dp, bget S.heap id = some (.list s x dp)) ∧ uptoL c.ρ.length P.es = true ∧ (Frozen c c1 H P.fz → (∀ d a, Rk c1 P.rs d a → Rk c1 Q d a) → ∀ {xs xs' : List (List D)} {rows : List (List AV)}, F2 (F2 (Rk c1 Q)) xs rows → (∀ q ∈ rows, q.length = sz ∧ q.all AV.one = true) →
      fillD sz is (denL c1.ρ P.es) xs = some xs' → ∃ rows', fillS env sz parts rows = some rows' ∧ F2 (F2 (Rk c1 Q)) xs' rows' ∧ ∀ q ∈ rows', q.length = sz ∧ q.all AV.one = true)
  | [], is, P, hp => by
    cases hp
    refine ⟨by simp, rfl, fun _ _ xs xs' rows h hs hf => ?_⟩
    simp only [denL, fillD, Option.some.injEq] at hf
    subst hf
    exact ⟨rows, rfl, h, hs⟩
  | (i, x) :: ps, is, P, hp => by
    simp only [partsE] at hp
    split at hp
    · rename_i p is' q e1 e2
      split at hp
      · rename_i hl
        cases hp
        cases e3 : (sarg S.env x).cells with
        | none => rw [e3] at e1; cases e1
        | some cs =>
          rw [e3] at e1
          obtain ⟨c1', c2'⟩ := cells_ok (sarg_ok r.env x) e3
          obtain ⟨g1, g2, g3, g4⟩ := putL_ok r le c1' e1
          obtain ⟨k1, k2, k3⟩ := parts_ok r le (Q := Q) e2
          refine ⟨fun id hid => ?_, uptoL_append g3 k2, fun hf hQ xs xs' rows h hs hfill => ?_⟩
          · rcases List.mem_append.1 hid with hid | hid
            · exact g1 id hid
            · exact k1 id hid
          · have hcell := (g4 hf.left).mono fun d a h => hQ d a (Rk.addL h)
            have hlen : (denL c1.ρ p.es).length = sz := by rw [denL_len]; exact hl
            simp only [fillD, denL_append] at hfill
            split at hfill
            · rename_i hc
              rw [← hlen, List.take_left, List.drop_left] at hfill
              rw [hlen] at hfill
              have hcl : (arg env x).cells.length = sz := by rw [← hcell.len, hlen]
              obtain ⟨rows', m1, m2, m3⟩ := k3 hf.right (fun d a h => hQ d a (Rk.addRr h)) (h.set hcell i) (fun q hq => by
                rcases List.mem_or_eq_of_mem_set hq with hq | rfl
                · exact hs q hq
                · exact ⟨hcl, c2'⟩) hfill
              refine ⟨rows', ?_, m2, m3⟩
              simp only [fillS]
              rw [if_pos ⟨hcl, c2', by rw [← h.len]; exact hc.2⟩]
              exact m1
            · cases hfill
      · cases hp
    · cases hp
theorem buildS_ok (r : Rel c S env H K mk) {sz n : Nat} {zero : List AV} {parts : List (Nat × Arg)} {f : Ef} (h : doOp S (.buildS sz n zero parts) = some f) (hr : emR Fs f.em c.ρ ρ') : OpD TT cb c S env H K mk (.buildS sz n zero parts) f ρ' := by
  simp only [doOp] at h
  split at h
  · rename_i is P e1
    split at h
    · rename_i hz
      cases h
      simp only [Bool.and_eq_true] at hz
      obtain ⟨z1, z2, z3⟩ := okZero_ok hz.1
      obtain ⟨g1, -, -⟩ := parts_ok r (Cx.le.refl c) (Q := none) e1
      obtain ⟨c1, le, hρ, r1, hf⟩ := freeze_ok P.fz (heap := S.heap) r hz.2 g1
      obtain ⟨-, k2, k3⟩ := parts_ok r le (Q := P.rs) e1
      refine OpD.mkL (c1 := c1) (heap1 := freeze S.heap P.fz) (rd := []) le hρ r1 hr (fun d hd => ?_) (by simp)
      rw [← hρ] at hd
      simp only [D.den1] at hd
      split at hd
      · rename_i hc
        cases e2 : fillD sz is (denL c1.ρ P.es) (List.replicate n (zeroD zero)) with
        | none => rw [e2] at hd; cases hd
        | some xs =>
          rw [e2] at hd; cases hd
          obtain ⟨rows, m1, m2, m3⟩ := k3 hf (fun _ _ h => h) (F2.replicate (Rk.list z1) n) (fun q hq => by
            rw [List.eq_of_mem_replicate hq]; exact ⟨by rw [← z3]; exact hc.2, z2⟩) e2
          have hn : xs.length = n := by
            have h1 : rows.length = n := by
              have : ∀ {ps : List (Nat × Arg)} {a b : List (List AV)}, fillS env sz ps a = some b → b.length = a.length := by
                intro ps
                induction ps with
                | nil => intro a b h; cases h; rfl
                | cons p ps ih =>
                  intro a b h
                  obtain ⟨i, x⟩ := p
                  simp only [fillS] at h
                  split at h
                  · have := ih h; simpa using this
                  · cases h
              have := this m1
              simpa using this
            rw [m2.len, h1]
          refine ⟨xs, .own H.nx 0 n, _, _, rfl, ?_, by rw [← hn]; exact .fresh (by rw [m2.len]; exact Nat.le_refl _) m3 (by rw [m2.len, List.take_length]; exact m2)⟩
          simp only [evalOp]
          rw [if_pos ⟨hc.1, by rw [← z3]; exact hc.2, z2⟩, m1]
          rfl
      · cases hd
    · cases h
  · cases h
theorem bget_freeze {id : Nat} : ∀ (ids : List Nat) {heap : List HB}, id ∉ ids → bget (freeze heap ids) id = bget heap id
  | [], heap, _ => rfl
  | i :: ids, heap, h => by
    simp only [List.mem_cons, not_or] at h
    rw [freeze, bget_freeze ids h.2, bget_put_ne h.1]
theorem rtOf_freeze {id : Nat} : ∀ (ids : List Nat) {heap : List HB}, rtOf (freeze heap ids) id = rtOf heap id
  | [], heap => rfl
  | i :: ids, heap => by
    rw [freeze, rtOf_freeze ids]
    unfold rtOf hput
    by_cases e : i = id
    · subst e
      by_cases hl : i < heap.length
      · rw [List.getElem?_set_self hl]; rfl
      · rw [List.getElem?_eq_none (by simpa using hl), List.getElem?_eq_none (by simpa using hl)]
    · rw [List.getElem?_set_ne e]
theorem store_ok (r : Rel c S env H K mk) {n : Nat} {x y : Arg} {f : Ef} (h : doOp S (.store n x y) = some f) (hr : emR Fs f.em c.ρ ρ') : OpD TT cb c S env H K mk (.store n x y) f ρ' := by
  have hv := sarg_ok r.env x
  have hw := sarg_ok r.env y
  simp only [doOp] at h
  split at h
  · rename_i id j ys e1 e2
    rw [e1] at hv
    obtain ⟨c1, c2⟩ := cells_ok hw e2
    split at h
    · rename_i cs e3
      split at h
      · rename_i hl
        cases e4 : putS cs j ys with
        | none => rw [e4] at h; cases h
        | some cs' =>
          rw [e4] at h; cases h
          obtain ⟨p, w, hp, hx, ha⟩ := hv.inv_ptr
          obtain ⟨p', g1, g2, g3, g4⟩ := r.blk e3
          rw [hp] at g1; cases g1
          obtain ⟨z, as, q1, q2, q3, q4⟩ := g3
          rw [hx] at q1; cases q1
          obtain ⟨as', k1, k2, k3, k4⟩ := put_ok q3 q4 c1 c2 e4
          have r' := r.put e3 hp hx (.cells cs') (some (.row cs.length [as'])) ⟨_, as', hx, by rw [hget_wr1, k4]; simp, k2, k3⟩
          have hr' : ρ' = c.ρ := hr
          refine ⟨undefA, [w], [(w, some (.row cs.length [as']))], H.nx, c, ?_, Cx.le.refl c, hr'.symm, r', .unk, fun z hz => ?_, fun z hz => ?_⟩
          · have : (arg env y).cells.length = n := by rw [← c1.len]; exact hl
            simp only [evalOp, ha, q2]
            rw [if_pos ⟨this, c2⟩]
            simp [k1]
          · simp only [List.mem_singleton] at hz; subst hz
            exact okr_of hp hx (by simp [g2])
          · simp only [List.map_cons, List.map_nil, List.mem_singleton] at hz; subst hz
            exact ⟨r.notF0 e3 hp hx, id, p, hp, hx, by simp [g2]⟩
      · cases h
    · cases h
  · rename_i id i j ys e1 e2
    rw [e1] at hv
    obtain ⟨c1, c2⟩ := cells_ok hw e2
    split at h
    · rename_i sz z dp P e3 e4
      split at h
      · rename_i hl
        obtain ⟨hl, hnd, hni⟩ := hl
        cases h
        obtain ⟨b1, b2, b3, -⟩ := putL_ok r (Cx.le.refl c) c1 e4
        obtain ⟨cf, lef, hρ, rf, hf⟩ := freeze_ok P.fz (heap := S.heap) r hnd b1
        obtain ⟨-, -, -, b4⟩ := putL_ok r lef c1 e4
        have p2 := b4 hf
        obtain ⟨p, w, k, m, hp0, hx, hi0, hn0, h0, hlt, ha⟩ := hv.inv_ptrO
        have hp := lef.ψ _ _ hp0
        have hi := lef.upto hi0
        have hn : i.den cf.ρ = .int k m := by rw [lef.den hi0]; exact hn0
        have e3' : bget (freeze S.heap P.fz) id = some (.list sz z dp) := by rw [bget_freeze _ (by simpa using hni)]; exact e3
        have hrt : rtOf (freeze S.heap P.fz) id = rtOf S.heap id := rtOf_freeze _
        rw [← hρ] at hr
        obtain ⟨d, d1, d2, d3, d4, d5⟩ := emP_ok rf.n hr
        obtain ⟨le, r1⟩ := rf.em d4 d5
        obtain ⟨p', g1, g2, g3, g4⟩ := rf.blk e3'
        rw [hp] at g1; cases g1
        obtain ⟨xs, q1, q2, q3, q4, q5⟩ := g3
        obtain ⟨rows, t1, t2, t3, t4⟩ := q5 _ hx
        simp only [denL, q2, hn, D.den1, D.idx] at d1
        rw [if_pos ⟨h0, by omega⟩] at d1
        simp only [Option.bind_some] at d1
        cases u1 : xs[m.toNat]? with
        | none => rw [u1] at d1; cases d1
        | some xd =>
          rw [u1] at d1
          simp only [Option.bind_some] at d1
          cases u2 : putD xd j (denL cf.ρ P.es) with
          | none => rw [u2] at d1; cases d1
          | some xd' =>
            rw [u2] at d1
            simp only [Option.map_some, Option.some.injEq] at d1
            obtain ⟨row, u3, u4⟩ := t4.get u1
            rw [getElem?_sub hlt] at u3
            obtain ⟨row', k1, k2, k3, k4⟩ := putD_ok (u4.mono fun _ _ => Rk.addL (b := P.rs)) (t3 row (List.mem_of_getElem? u3)).2 (p2.mono fun _ _ => Rk.addRr (a := dp)) c2 u2
            have hrl : row.length = sz := (t3 row (List.mem_of_getElem? u3)).1
            subst d1
            have r' := r1.put e3' hp hx (.list sz (emP (.set j) (z :: i :: P.es) S.n).2 (addR dp P.rs)) (some (.row sz (rows.set (p.off + m.toNat) row'))) (by
              refine ⟨_, d3, d2, by simp [q3], fun hh => (by rw [hx] at hh; cases hh), fun w' hw' => ?_⟩
              rw [hx] at hw'; cases hw'
              refine ⟨rows.set (p.off + m.toNat) row', by rw [hget_wr1]; simp, by simpa using t2, fun q hq => ?_, ?_⟩
              · rcases List.mem_or_eq_of_mem_set hq with hq | rfl
                · exact t3 q hq
                · exact ⟨by rw [k4, hrl], k3⟩
              · rw [sub_set hlt]
                exact (t4.mono fun _ _ => F2.mono fun _ _ h => Rk.mono le (Rk.addL (b := P.rs) h)).set (k2.mono fun _ _ => Rk.mono le) _)
            refine ⟨undefA, [w], [(w, some (.row sz (rows.set (p.off + m.toNat) row')))], H.nx, _, ?_, lef.trans le, rfl, r', .unk, fun z hz => ?_, fun z hz => ?_⟩
            · have : (arg env y).cells.length = n := by rw [← hl, ← denL_len (ρ := cf.ρ) P.es, p2.len]
              simp only [evalOp, ha, t1]
              rw [if_pos ⟨this, c2⟩]
              simp [k1, u3]
            · simp only [List.mem_singleton] at hz; subst hz
              exact okr_of hp hx (by simp [g2, hrt])
            · simp only [List.map_cons, List.map_nil, List.mem_singleton] at hz; subst hz
              refine ⟨?_, id, p, hp, hx, by simp [g2, hrt]⟩
              rw [← lef.F0]; exact rf.notF0 e3' hp hx
      · cases h
    · cases h
  · cases h
theorem toE1_len (r : Rel c S env H K mk) {v : SV} {a : AV} {y : E} (hv : Cv c v a) (h : toE1 S.heap v = some y) {xs : List (List D)} (hy : y.den c.ρ = .list xs) :
    ∃ z : Option AV, (∃ s rows, a = .lst s rows ∧ rows.length = xs.length) ∨ (∃ i o, a = .own i o xs.length) ∨ ((a = .nilS ∨ ∃ z, a = .emp z) ∧ xs = []) := by
  refine ⟨none, ?_⟩
  have hRD : ∀ {a}, RD (.list xs) a → (∃ s rows, a = .lst s rows ∧ rows.length = xs.length) ∨ (∃ i o, a = .own i o xs.length) ∨ ((a = .nilS ∨ ∃ z, a = .emp z) ∧ xs = []) := fun {a} h => by
    cases h with
    | nilS => exact .inr (.inr ⟨.inl rfl, rfl⟩)
    | emp => exact .inr (.inr ⟨.inr ⟨_, rfl⟩, rfl⟩)
    | lst hne hs h => exact .inl ⟨_, _, rfl, h.len.symm⟩
  cases v <;> simp only [toE1, reduceCtorEq] at h
  · cases h
    obtain ⟨h1, h2, h3⟩ := hv.inv_e
    rw [hy] at h2; exact hRD h2
  · cases h
    obtain ⟨h1, h2, h3⟩ := hv.inv_fz
    rw [hy] at h2
    cases h2 with
    | b h => exact hRD h
    | own => exact .inr (.inl ⟨_, _, rfl⟩)
  · rename_i id
    obtain ⟨p, hp, ha⟩ := hv.inv_own
    split at h
    · rename_i s x dp e1
      cases h
      obtain ⟨p', g1, g2, g3, g4⟩ := r.blk e1
      rw [hp] at g1; cases g1
      obtain ⟨xs', q1, q2, q3, q4, q5⟩ := g3
      rw [hy] at q2; cases q2
      rcases ha with ⟨z, hz, ha⟩ | ⟨hl0, ha⟩
      · exact .inr (.inl ⟨z, p.off, by rw [ha, q3]⟩)
      · refine .inr (.inr ⟨ha.imp (fun h => h) (fun h => ⟨_, h⟩), ?_⟩)
        rw [hl0] at q3; simpa using q3
    · cases h
  · cases h
    have := hv.inv_nil
    simp only [E.den, D.list.injEq] at hy
    exact .inr (.inr ⟨.inl this, hy.symm⟩)
theorem lenS_ok (r : Rel c S env H K mk) {x : Arg} {y : E} (h : toE1 S.heap (sarg S.env x) = some y) (hr : emR Fs (emP .len [y] S.n).1 c.ρ ρ') : OpD TT cb c S env H K mk (.lenS x) { pure1 S .len [y] with rd := rts1 S.heap (sarg S.env x) } ρ' := by
  refine OpD.emd r (w := fun x => .e x) (rd := []) hr (fun d hd => ?_) (by simp)
  simp only [denL] at hd
  cases ed : E.den c.ρ y <;> rw [ed] at hd <;> try (simp [D.den1] at hd; done)
  rename_i xs
  simp only [D.den1, Option.some.injEq] at hd
  obtain ⟨-, hh⟩ := toE1_len r (sarg_ok r.env x) h ed
  have : evalOp TT cb env H H.nx (.lenS x) = some (.eff (.int .i64 xs.length) [] [] H.nx) := by
    rcases hh with ⟨s, rows, ha, hl⟩ | ⟨i, o, ha⟩ | ⟨ha | ⟨z, ha⟩, rfl⟩ <;> simp [evalOp, ha]
    exact congrArg _ hl
  exact ⟨_, this, fun c' z le hz hu => .e hu (by rw [hz, ← hd]; exact .int) rfl⟩
end Go.Q
/- One operation: every one. -/
set_option linter.unusedVariables false
set_option linter.unusedSimpArgs false
namespace Go.Q
open Go.V
variable {c c' : Cx} {S : SS} {env : List AV} {H H' : Heap} {K : List FC} {mk : List Nat}
variable {TT : FuncId → Option IFn} {cb : Cb} {Fs : FuncId → List D → Option D} {ρ' : List D}

theorem vals_get {l : List SV} {as : List AV} (h : F2 (Cv c) l as) {i : Nat} {v : SV} (hi : l[i]? = some v) : ∃ a, as[i]? = some a ∧ Cv c v a := h.get hi
theorem rep_row {n sz l : Nat} {z : List D} {zero : List AV} {dp : Option (List Nat)} (h : F2 RD z zero) (h1 : zero.all AV.one = true) (hl : zero.length = sz) (hn : l ≤ n) :
    (∀ r ∈ List.replicate n zero, r.length = sz ∧ r.all AV.one = true) ∧ F2 (F2 (Rk c dp)) (List.replicate l z) ((List.replicate n zero).take l) := by
  refine ⟨fun r hr => by rw [List.eq_of_mem_replicate hr]; exact ⟨hl, h1⟩, ?_⟩
  rw [List.take_replicate, Nat.min_eq_left hn]
  exact F2.replicate (Rk.list h) l
theorem doOp_ok (r : Rel c S env H K mk) {io : PO} {f : Ef} (h : doOp S io = some f) (hr : emR Fs f.em c.ρ ρ') : OpD TT cb c S env H K mk io f ρ' := by
  cases io with
  | mv x => cases h; exact OpD.plain r (rd := []) hr rfl (sarg_ok r.env x) (by simp)
  | pick x a b =>
    simp only [doOp] at h
    split at h
    · rename_i e1
      cases h
      have hv := sarg_ok r.env x
      rw [e1] at hv
      obtain ⟨-, hd, -⟩ := hv.inv_e
      simp only [E.den] at hd
      generalize ha : arg env x = w at hd
      cases hd
      exact OpD.plain r (rd := []) hr (by simp [evalOp, ha]) (sarg_ok r.env a) (by simp)
    · rename_i e1
      cases h
      have hv := sarg_ok r.env x
      rw [e1] at hv
      obtain ⟨-, hd, -⟩ := hv.inv_e
      simp only [E.den] at hd
      generalize ha : arg env x = w at hd
      cases hd
      exact OpD.plain r (rd := []) hr (by simp [evalOp, ha]) (sarg_ok r.env b) (by simp)
    · cases h
  | new cells =>
    simp only [doOp] at h
    split at h
    · rename_i h1
      cases h
      exact OpD.block r hr (ofAV1_okL cells) h1 (by simp [evalOp, h1])
    · cases h
  | box x =>
    simp only [doOp] at h
    cases e1 : (sarg S.env x).cells with
    | none => rw [e1] at h; cases h
    | some cs =>
      rw [e1] at h; cases h
      obtain ⟨c1, c2⟩ := cells_ok (sarg_ok r.env x) e1
      exact OpD.block r hr c1 c2 (by simp [evalOp, c2])
  | build zero parts =>
    simp only [doOp] at h
    split at h
    · rename_i h1
      cases e1 : fillV S.env parts (zero.map ofAV1) with
      | none => rw [e1] at h; cases h
      | some cs =>
        rw [e1] at h; cases h
        obtain ⟨as', k1, k2, k3⟩ := fill_ok r.env (ofAV1_okL zero) h1 e1
        exact OpD.plain r (rd := []) hr (by simp [evalOp, k1]) (.agg k2 k3) (by simp)
    · cases h
  | buildS sz n zero parts => exact buildS_ok r h hr
  | load n x => exact load_ok r h hr
  | store n x y => exact store_ok r h hr
  | fieldA off x =>
    have hv := sarg_ok r.env x
    simp only [doOp] at h
    split at h
    · rename_i id j e1
      cases h; rw [e1] at hv
      obtain ⟨p, z, hp, hz, ha⟩ := hv.inv_ptr
      exact OpD.plain r (rd := []) hr (by simp [evalOp, ha]) (.ptr hp hz) (by simp)
    · rename_i id i j e1
      cases h; rw [e1] at hv
      obtain ⟨p, w, k, m, hp, hx, hi, hn, h0, hl, ha⟩ := hv.inv_ptrO
      exact OpD.plain r (rd := []) hr (by simp [evalOp, ha]) (.ptrO hp hx hi hn h0 hl) (by simp)
    · rename_i y i j rs e1
      cases h; rw [e1] at hv
      obtain ⟨hx, hi, xs, k, m, hd, hn, h0, hl, hh⟩ := hv.inv_ptrE
      rcases hh with ⟨sz, rows, hs, h, ha⟩ | ⟨r0, id, o, sz, rows, rfl, hΦ, hA, hl', hs, h, ha⟩
      · exact OpD.plain r (rd := []) hr (by simp [evalOp, ha]) (.ptrE hx hi hd hn h0 hl hs h) (by simp)
      · exact OpD.plain r (rd := []) hr (by simp [evalOp, ha]) (.ptrF hx hi hd hn h0 hl hΦ hA hl' hs h) (by simp)
    · cases h
  | indexS sz x i => exact indexS_ok r h hr
  | indexA len sz x i =>
    have hv := sarg_ok r.env x
    have hw := sarg_ok r.env i
    simp only [doOp] at h
    split at h
    · rename_i id j i' e1 e2
      split at h
      · rename_i hl
        cases h; rw [e1] at hv
        obtain ⟨p, z, hp, hz, ha⟩ := hv.inv_ptr
        exact OpD.plain r (rd := []) hr (by simp [evalOp, ha, constIx_ok hw e2 hl]) (.ptr hp hz) (by simp)
      · cases h
    · rename_i id i0 j i' e1 e2
      split at h
      · rename_i hl'
        cases h; rw [e1] at hv
        obtain ⟨p, w, k, m, hp, hx, hi, hn, h0, hl, ha⟩ := hv.inv_ptrO
        exact OpD.plain r (rd := []) hr (by simp [evalOp, ha, constIx_ok hw e2 hl']) (.ptrO hp hx hi hn h0 hl) (by simp)
      · cases h
    · rename_i y i0 j rs i' e1 e2
      split at h
      · rename_i hl0
        cases h; rw [e1] at hv
        obtain ⟨hx, hi, xs, k, m, hd, hn, h0, hl, hh⟩ := hv.inv_ptrE
        rcases hh with ⟨sz', rows, hs, h, ha⟩ | ⟨r0, id, o, sz', rows, rfl, hΦ, hA, hl', hs, h, ha⟩
        · exact OpD.plain r (rd := []) hr (by simp [evalOp, ha, constIx_ok hw e2 hl0]) (.ptrE hx hi hd hn h0 hl hs h) (by simp)
        · exact OpD.plain r (rd := []) hr (by simp [evalOp, ha, constIx_ok hw e2 hl0]) (.ptrF hx hi hd hn h0 hl hΦ hA hl' hs h) (by simp)
      · cases h
    · cases h
  | field n off x =>
    have hv := sarg_ok r.env x
    simp only [doOp] at h
    split at h
    · rename_i cs e1
      rw [e1] at hv
      cases e2 : partS n cs off with
      | none => rw [e2] at h; cases h
      | some v =>
        rw [e2] at h; cases h
        obtain ⟨as, ha, h1, h2⟩ := hv.inv_agg
        obtain ⟨b, k1, k2⟩ := part_ok h1 h2 e2
        exact OpD.plain r (rd := []) hr (by simp [evalOp, ha, k1]) k2 (by simp)
    · cases h
  | indexV len n sz x i =>
    have hv := sarg_ok r.env x
    have hw := sarg_ok r.env i
    simp only [doOp] at h
    split at h
    · rename_i cs i' e1 e3
      rw [e1] at hv
      split at h
      · rename_i hl
        cases e2 : partS n cs (i' * sz) with
        | none => rw [e2] at h; cases h
        | some v =>
          rw [e2] at h; cases h
          obtain ⟨as, ha, h1, h2⟩ := hv.inv_agg
          obtain ⟨b, k1, k2⟩ := part_ok h1 h2 e2
          exact OpD.plain r (rd := []) hr (by simp [evalOp, ha, constIx_ok hw e3 hl, k1]) k2 (by simp)
      · cases h
    · cases h
  | bin op x y =>
    simp only [doOp] at h
    split at h
    · rename_i a b e1 e2
      cases h
      obtain ⟨-, d1⟩ := dat_ok (sarg_ok r.env x) e1
      obtain ⟨-, d2⟩ := dat_ok (sarg_ok r.env y) e2
      refine OpD.emd r (w := fun x => .e x) (rd := []) hr (fun d hd => ?_) (by simp)
      obtain ⟨a', k1, k2, k3⟩ := bin_ok (show binD op (a.den c.ρ) (b.den c.ρ) = some d from hd) d1 d2
      exact ⟨a', by simp [evalOp, k1], fun c' z le hz hu => .e hu (by rw [hz]; exact k2) k3⟩
    · cases h
  | eqv neg agg ks x y =>
    cases agg with
    | true =>
      simp only [doOp] at h
      split at h
      · rename_i cs ds e1 e2
        have hv := sarg_ok r.env x
        have hw := sarg_ok r.env y
        rw [e1] at hv; rw [e2] at hw
        obtain ⟨as, ha, h1, -⟩ := hv.inv_agg
        obtain ⟨bs, hb, h2, -⟩ := hw.inv_agg
        split at h
        · rename_i a b e3 e4
          split at h
          · rename_i hl
            cases h
            obtain ⟨-, d1⟩ := datC_ok h1 e3
            obtain ⟨-, d2⟩ := datC_ok h2 e4
            refine OpD.emd r (w := fun x => .e x) (rd := []) hr (fun d hd => ?_) (by simp)
            rw [denL_append] at hd
            have hl' : (denL c.ρ a).length = ks.length := by rw [denL_len]; exact hl
            simp only [D.den1, ← hl', List.take_left, List.drop_left] at hd
            cases e5 : eqDL ks (denL c.ρ a) (denL c.ρ b) with
            | none => rw [e5] at hd; cases hd
            | some q =>
              rw [e5] at hd; cases hd
              exact ⟨_, by simp [evalOp, ha, hb, eq_ok e5 d1 d2]; rfl, fun c' z le hz hu => .e hu (by rw [hz]; exact .bool) rfl⟩
          · cases h
        · cases h
      · cases h
    | false =>
      simp only [doOp] at h
      split at h
      · rename_i a b e3 e4
        split at h
        · rename_i hl
          cases h
          obtain ⟨-, d1⟩ := dat_ok (sarg_ok r.env x) e3
          obtain ⟨-, d2⟩ := dat_ok (sarg_ok r.env y) e4
          refine OpD.emd r (w := fun x => .e x) (rd := []) hr (fun d hd => ?_) (by simp)
          simp only [D.den1, denL, hl, List.take_succ_cons, List.take_zero, List.drop_succ_cons, List.drop_zero] at hd
          cases e5 : eqDL ks [a.den c.ρ] [b.den c.ρ] with
          | none => rw [e5] at hd; cases hd
          | some q =>
            rw [e5] at hd; cases hd
            exact ⟨_, by simp [evalOp, eq_ok e5 (.single d1) (.single d2)]; rfl, fun c' z le hz hu => .e hu (by rw [hz]; exact .bool) rfl⟩
        · cases h
      · cases h
  | un op x =>
    simp only [doOp] at h
    cases e1 : dat (sarg S.env x) with
    | none => rw [e1] at h; cases h
    | some a =>
      rw [e1] at h; cases h
      obtain ⟨-, d1⟩ := dat_ok (sarg_ok r.env x) e1
      refine OpD.emd r (w := fun x => .e x) (rd := []) hr (fun d hd => ?_) (by simp)
      obtain ⟨a', k1, k2, k3⟩ := un_ok (show unD op (a.den c.ρ) = some d from hd) d1
      exact ⟨a', by simp [evalOp, k1], fun c' z le hz hu => .e hu (by rw [hz]; exact k2) k3⟩
  | conv k x =>
    simp only [doOp] at h
    cases e1 : dat (sarg S.env x) with
    | none => rw [e1] at h; cases h
    | some a =>
      rw [e1] at h; cases h
      obtain ⟨-, d1⟩ := dat_ok (sarg_ok r.env x) e1
      refine OpD.emd r (w := fun x => .e x) (rd := []) hr (fun d hd => ?_) (by simp)
      simp only [denL] at hd
      cases ed : E.den c.ρ a <;> rw [ed] at hd d1 <;> try (simp [D.den1] at hd; done)
      simp only [D.den1, Option.some.injEq] at hd
      exact ⟨_, by simp [evalOp, d1.int]; rfl, fun c' z le hz hu => .e hu (by rw [hz, ← hd]; exact .int) rfl⟩
  | mkS sz bytes zero l cp =>
    simp only [doOp] at h
    split at h
    · rename_i el ec e1 e2
      split at h
      · rename_i hz
        cases h
        obtain ⟨z1, z2, z3⟩ := okZero_ok hz
        obtain ⟨-, d1⟩ := dat_ok (sarg_ok r.env l) e1
        obtain ⟨-, d2⟩ := dat_ok (sarg_ok r.env cp) e2
        refine OpD.mkL (c1 := c) (heap1 := S.heap) (rd := []) (Cx.le.refl c) rfl r hr (fun d hd => ?_) (by simp)
        simp only [denL] at hd
        cases ed1 : E.den c.ρ el <;> rw [ed1] at hd d1 <;> try (simp [D.den1] at hd; done)
        cases ed2 : E.den c.ρ ec <;> rw [ed2] at hd d2 <;> try (simp [D.den1] at hd; done)
        rename_i k1 n1 k2 n2
        simp only [D.den1] at hd
        split at hd
        · rename_i hc
          cases hd
          obtain ⟨rr1, rr2⟩ := rep_row (c := c) (sz := sz) (dp := none) z1 z2 (by rw [← z3]; exact hc.2.2.2) (show n1.toNat ≤ n2.toNat by omega)
          have hlen : (List.replicate n1.toNat (zeroD zero)).length = n1.toNat := by simp
          refine ⟨_, .own H.nx 0 n1.toNat, [(H.nx, some (.row sz (List.replicate n2.toNat zero)))], H.nx + 1, rfl, ?_, ?_⟩
          · simp only [evalOp, d1.int, d2.int]
            rw [if_pos ⟨hc.1, hc.2.1, hc.2.2.1, by rw [← z3]; exact hc.2.2.2, z2⟩]
          · have := Made.fresh (c := c) (H := H) (sz := sz) (dp := none) (xs := List.replicate n1.toNat (zeroD zero)) (rows := List.replicate n2.toNat zero) (by simp; omega) rr1 (by rw [hlen]; exact rr2)
            rwa [hlen] at this
        · cases hd
      · cases h
    · cases h
  | sl sz x lo hi =>
    simp only [doOp] at h
    split at h
    · rename_i l hh e1 e2
      split at h
      · rename_i e3
        have hv := sarg_ok r.env x
        rw [e3] at hv
        have ha := hv.inv_nil
        split at h
        · rename_i e4
          cases h
          obtain ⟨rfl, rfl⟩ := List.append_eq_nil_iff.1 e4
          rcases optS_ok r.env e1 with ⟨rfl, -⟩ | ⟨x, y, -, h, -⟩
          · rcases optS_ok r.env e2 with ⟨rfl, -⟩ | ⟨x, y, -, h, -⟩
            · exact OpD.plain r (rd := []) hr (by simp [evalOp, ha, bnd_none]) .nil (by simp)
            · cases h
          · cases h
        · rename_i k e4
          cases h
          rcases optS_ok r.env e1 with ⟨rfl, rfl⟩ | ⟨xl, yl, rfl, rfl, ul, dl⟩ <;> rcases optS_ok r.env e2 with ⟨rfl, rfl⟩ | ⟨xh, yh, rfl, rfl, uh, dh⟩ <;> simp at e4
          · subst e4
            have hb : bnd env 0 0 (some xh) = some 0 := by
              have := dh.int
              simp [bnd, this]
            exact OpD.plain r (rd := []) hr (by simp [evalOp, ha, bnd_none, hb]) .nil (by simp)
          · subst e4
            have hb : bnd env 0 0 (some xl) = some 0 := by
              have := dl.int
              simp [bnd, this]
            exact OpD.plain r (rd := []) hr (by simp [evalOp, ha, bnd_none, hb]) .nil (by simp)
        · cases h
      · rename_i y e3
        cases h
        exact sl_e r e1 e2 e3 hr
      · rename_i id e3
        split at h
        · rename_i s y dp e4
          split at h
          · rename_i hc
            obtain ⟨rfl, hle⟩ := hc
            cases h
            exact sl_own r e1 e2 e3 e4 hle hr
          · split at h
            · split at h
              · rename_i hs
                subst hs
                cases h
                exact sl_suf r e1 e2 e3 e4 hr
              · cases h
            · cases h
        · cases h
      · cases h
    · cases h
  | ext x i =>
    have hv := sarg_ok r.env x
    simp only [doOp] at h
    split at h
    · rename_i vs e1
      rw [e1] at hv
      obtain ⟨as, ha, h1⟩ := hv.inv_tup
      cases e2 : vs[i]? with
      | none => rw [e2] at h; cases h
      | some v =>
        rw [e2] at h; cases h
        obtain ⟨b, k1, k2⟩ := h1.get e2
        exact OpD.plain r (rd := []) hr (by simp [evalOp, ha, k1]) k2 (by simp)
    · cases h
  | mkF g first caps =>
    cases h
    exact OpD.plain r (rd := []) hr rfl (.fn (sargL_ok r.env first) (sargL_ok r.env caps)) (by simp)
  | lenS x =>
    simp only [doOp] at h
    split at h
    · rename_i e1
      cases h
      have hv := sarg_ok r.env x
      rw [e1] at hv
      exact OpD.plain r (rd := []) hr (by simp [evalOp, hv.inv_nil]) (.e rfl .int rfl) (by simp)
    · cases e1 : toE1 S.heap (sarg S.env x) with
      | none => rw [e1] at h; cases h
      | some y =>
        rw [e1] at h
        cases h
        exact lenS_ok r e1 hr
  | lenC n => cases h; exact OpD.plain r (rd := []) hr rfl (.e rfl .int rfl) (by simp)
  | app sz bytes x y =>
    have hw := sarg_ok r.env y
    simp only [doOp] at h
    split at h
    · rename_i e1
      rw [e1] at hw
      have hy := hw.inv_nil
      have hv := sarg_ok r.env x
      split at h
      · rename_i e2
        cases h
        rw [e2] at hv
        exact OpD.plain r (rd := []) hr (by simp [evalOp, hy, hv.inv_nil, elems]) .nil (by simp)
      · rename_i id e2
        cases h
        rw [e2] at hv
        obtain ⟨p, hp, ha⟩ := hv.inv_own
        rcases ha with ⟨z, hz, ha⟩ | ⟨hl0, ha | ha⟩ <;> rw [ha] at hv <;> exact OpD.plain r (rd := []) hr (by simp [evalOp, hy, ha, elems]) hv (by simp)
      · cases h
    · rename_i cy e1
      rw [e1] at hw
      obtain ⟨h1, h2, h3⟩ := hw.inv_e
      refine app_ok r (rd := []) h1 h hr (fun ys ed hall => ?_) (by simp)
      rw [ed] at h2
      rcases sub_RD hall h2 with ⟨rfl, ha | ⟨z, ha⟩⟩ | ⟨rows, ha, hne, hlen, hs, h⟩
      · exact ⟨[], by simp [ha, elems], .nil, by simp⟩
      · exact ⟨[], by simp [ha, elems], .nil, by simp⟩
      · exact ⟨rows, by simp [ha, elems], h, hs⟩
    · rename_i id' e1
      rw [e1] at hw
      split at h
      · rename_i s cy dy e2
        split at h
        · rename_i hsz
          subst hsz
          obtain ⟨p, hp, ha⟩ := hw.inv_own
          obtain ⟨p', g1, g2, g3, g4⟩ := r.blk e2
          rw [hp] at g1; cases g1
          obtain ⟨xs, q1, q2, q3, q4, q5⟩ := g3
          rcases ha with ⟨z, hz, ha⟩ | ⟨hl0, ha⟩
          · obtain ⟨rows, t1, t2, t3, t4⟩ := q5 _ hz
            by_cases hp0 : p.len = 0
            · refine app_ok r (rd := []) q1 h hr (fun ys ed hall => ?_) (by simp)
              rw [q2] at ed; cases ed
              have hxs : xs = [] := by rw [hp0] at q3; simpa using q3
              subst hxs
              exact ⟨[], by simp [ha, elems, hp0], .nil, by simp⟩
            · refine app_ok r (rd := [z]) q1 h hr (fun ys ed hall => ?_) (fun w hw => by simp only [List.mem_singleton] at hw; subst hw; exact okr_of hp hz (by simp [g2]))
              rw [q2] at ed; cases ed
              exact ⟨_, by rw [ha]; exact elems_own hp0 t1 t2, t4, fun q hq => t3 q (List.mem_of_mem_drop (List.mem_of_mem_take hq))⟩
          · refine app_ok r (rd := []) q1 h hr (fun ys ed hall => ?_) (by simp)
            rw [q2] at ed; cases ed
            have hxs : xs = [] := by rw [hl0] at q3; simpa using q3
            subst hxs
            rcases ha with ha | ha <;> exact ⟨[], by simp [ha, elems], .nil, by simp⟩
        · cases h
      · cases h
    · rename_i cy rs e1
      rw [e1] at hw
      obtain ⟨h1, h2, h3⟩ := hw.inv_fz
      cases ed : E.den c.ρ cy with
      | list ys =>
        rw [ed] at h2
        generalize ha : arg env y = a at h2
        cases h2 with
        | b h2 =>
          refine app_ok r (rd := []) h1 h hr (fun ys' ed' hall => ?_) (by simp)
          rw [ed] at ed'; cases ed'
          rcases sub_RD hall h2 with ⟨rfl, ha' | ⟨z, ha'⟩⟩ | ⟨rows, ha', hne, hlen, hs, h⟩
          · exact ⟨[], by simp [ha, ha', elems], .nil, by simp⟩
          · exact ⟨[], by simp [ha, ha', elems], .nil, by simp⟩
          · exact ⟨rows, by simp [ha, ha', elems], h.mono fun _ _ => F2.mono fun _ _ => Rk.ofRD, hs⟩
        | own hΦ hA hl hs h5 =>
          rename_i id off s rows
          by_cases h0 : ys = []
          · subst h0
            refine app_ok r (rd := []) h1 h hr (fun ys' ed' hall => ?_) (by simp)
            rw [ed] at ed'; cases ed'
            exact ⟨[], by simp [ha, elems], .nil, by simp⟩
          · refine app_ok r (rd := [id]) h1 h hr (fun ys' ed' hall => ?_) (fun w hw => by simp only [List.mem_singleton] at hw; subst hw; exact hA)
            rw [ed] at ed'; cases ed'
            have hg := (r.frz _ _ _ hΦ).1
            obtain ⟨y0, ys0, rfl⟩ := List.exists_cons_of_ne_nil h0
            have hsub : ∀ q ∈ (rows.drop off).take (y0 :: ys0).length, q.length = s ∧ q.all AV.one = true := fun q hq => hs q (List.mem_of_mem_drop (List.mem_of_mem_take hq))
            have hss : s = sz := by
              obtain ⟨row, u1, u2⟩ := h5.get (i := 0) (a := y0) rfl
              rw [← (hsub row (List.mem_of_getElem? u1)).1, ← u2.len]
              simpa using (List.all_eq_true.1 hall y0 (by simp))
            subst hss
            refine ⟨(rows.drop off).take (y0 :: ys0).length, ?_, h5, hsub⟩
            have hl' : off + (ys0.length + 1) ≤ rows.length := by simpa using hl
            simp [ha, elems, hg, hl']
      | _ =>
        refine app_ok r (rd := []) h1 h hr (fun ys' ed' hall => ?_) (by simp)
        rw [ed] at ed'; cases ed'
    · cases h
  | appZ sz bytes zero x n =>
    simp only [doOp] at h
    split at h
    · rename_i en e1 e2
      split at h
      · rename_i hz
        cases h
        obtain ⟨z1, z2, z3⟩ := okZero_ok hz
        have hv := sarg_ok r.env x
        rw [e1] at hv
        have ha := hv.inv_nil
        obtain ⟨-, d1⟩ := dat_ok (sarg_ok r.env n) e2
        refine OpD.mkL (c1 := c) (heap1 := S.heap) (rd := []) (Cx.le.refl c) rfl r hr (fun d hd => ?_) (by simp)
        simp only [denL] at hd
        cases ed1 : E.den c.ρ en <;> rw [ed1] at hd d1 <;> try (simp [D.den1] at hd; done)
        rename_i k1 n1
        simp only [D.den1] at hd
        split at hd
        · rename_i hc
          cases hd
          by_cases hn0 : n1 = 0
          · subst hn0
            exact ⟨[], .nilS, [], H.nx, rfl, by simp [evalOp, d1.int, ha], .none rfl (.inl rfl)⟩
          · obtain ⟨rr1, rr2⟩ := rep_row (c := c) (sz := sz) (dp := none) z1 z2 (by rw [← z3]; exact hc.2.2) (Nat.le_refl n1.toNat)
            have hlen : (List.replicate n1.toNat (zeroD zero)).length = n1.toNat := by simp
            refine ⟨_, .own H.nx 0 n1.toNat, [(H.nx, some (.row sz (List.replicate n1.toNat zero)))], H.nx + 1, rfl, ?_, ?_⟩
            · have e3 : arg env n = .int k1 n1 := d1.int
              simp only [evalOp, e3, ha]
              rw [if_pos ⟨hc.1, by rw [← z3]; exact hc.2.2, z2⟩, if_pos hc.2.1]
            · have := Made.fresh (c := c) (H := H) (sz := sz) (dp := none) (xs := List.replicate n1.toNat (zeroD zero)) (rows := List.replicate n1.toNat zero) (by simp) rr1 (by rw [hlen]; exact rr2)
              rwa [hlen] at this
        · cases hd
      · cases h
    · cases h
  | capS x =>
    simp only [doOp] at h
    split at h
    · rename_i e1
      cases h
      have hv := sarg_ok r.env x
      rw [e1] at hv
      exact OpD.plain r (rd := []) hr (by simp [evalOp, hv.inv_nil]) (.e rfl .int rfl) (by simp)
    · cases h
  | isNil neg x =>
    simp only [doOp] at h
    split at h
    · rename_i e1
      cases h
      have hv := sarg_ok r.env x
      rw [e1] at hv
      exact OpD.plain r (rd := []) hr (by simp [evalOp, hv.inv_nil]) (.e rfl .bool rfl) (by simp)
    · cases h
  | mx max xs =>
    simp only [doOp] at h
    split at h
    · rename_i h2
      cases e1 : datL S.env xs with
      | none => rw [e1] at h; cases h
      | some es =>
        rw [e1] at h; cases h
        obtain ⟨-, d1⟩ := datL_ok r.env e1
        refine OpD.emd r (w := fun x => .e x) (rd := []) hr (fun d hd => ?_) (by simp)
        have hl := d1.len
        rw [denL_len] at hl
        match xs, es, h2, hl, d1, hd with
        | x :: y :: xs, e :: e' :: es, _, _, d1, hd =>
          simp only [denL, List.map_cons] at d1
          obtain ⟨b, t, hbt, hb, ht⟩ := F2.inv_cons d1
          simp only [List.cons.injEq] at hbt
          obtain ⟨rfl, rfl⟩ := hbt
          have hd : mxLD max (e.den c.ρ) (e'.den c.ρ :: denL c.ρ es) = some d := hd
          obtain ⟨a', k1, k2⟩ := mxL_ok hd hb ht
          obtain ⟨k, n, rfl⟩ : ∃ k n, d = .int k n := by
            have key : ∀ {ds : List D} {d1 d : D}, (∃ k n, d1 = .int k n) → mxLD max d1 ds = some d → ∃ k n, d = .int k n := by
              intro ds
              induction ds with
              | nil => intro d1 d h1 h; cases h; exact h1
              | cons y ys ih =>
                rintro d1 d ⟨k, n, rfl⟩ h
                cases y <;> simp [mxLD, mxD] at h
                exact ih ⟨_, _, rfl⟩ h
            simp only [mxLD] at hd
            cases q : mxD max (e.den c.ρ) (e'.den c.ρ) with
            | none => rw [q] at hd; cases hd
            | some z =>
              rw [q] at hd
              refine key (d1 := z) ?_ hd
              generalize e.den c.ρ = u at q
              generalize e'.den c.ρ = w at q
              cases u <;> cases w <;> simp [mxD] at q
              exact ⟨_, _, q.symm⟩
          rw [k2.int] at k1
          exact ⟨_, by simp [evalOp, k1]; rfl, fun c' z le hz hu => .e hu (by rw [hz]; exact .int) rfl⟩
    · cases h
  | sl3 sz x lo hi mx => exact sl3_ok r h hr
  | call => simp [doOp] at h
  | callv => simp [doOp] at h
  | clr sz zero x => exact clr_ok r h hr
  | bad => simp [doOp] at h
  | mkM => simp [doOp] at h
  | look => simp [doOp] at h
  | mset => simp [doOp] at h
  | ment => simp [doOp] at h
  | mest => simp [doOp] at h
  | mdel => simp [doOp] at h
  | lenM => simp [doOp] at h
  | mkI t x => cases h; exact OpD.plain r (rd := []) hr rfl .unk (by simp)
  | inv => simp [doOp] at h
  | tas => simp [doOp] at h
  | isNilI => simp [doOp] at h
  | cpy => simp [doOp] at h
  | nck x =>
    have hv := sarg_ok r.env x
    simp only [doOp] at h
    split at h
    · rename_i id j e1
      cases h
      rw [e1] at hv
      obtain ⟨p, y, -, -, ha⟩ := hv.inv_ptr
      exact OpD.plain r (rd := []) hr (a := arg env x) (by simp [evalOp, ha]) hv (by simp)
    · rename_i id i j e1
      cases h
      rw [e1] at hv
      obtain ⟨p, y, k, n, -, -, -, -, -, -, ha⟩ := hv.inv_ptrO
      exact OpD.plain r (rd := []) hr (a := arg env x) (by simp [evalOp, ha]) hv (by simp)
    · rename_i y i j rs e1
      cases h
      rw [e1] at hv
      have hc := hv
      obtain ⟨-, -, xs, k, n, -, -, -, -, hh⟩ := hv.inv_ptrE
      rcases hh with ⟨sz, rows, -, -, ha⟩ | ⟨r', id, off, sz, rows, -, -, -, -, -, -, ha⟩
      · exact OpD.plain r (rd := []) hr (a := arg env x) (by simp [evalOp, ha]) hc (by simp)
      · exact OpD.plain r (rd := []) hr (a := arg env x) (by simp [evalOp, ha]) hc (by simp)
    · cases h
  | strX => simp [doOp] at h
  | slA => simp [doOp] at h
  | dfr => simp [doOp] at h
  | pnc => simp [doOp] at h
  | rcv => simp [doOp] at h
end Go.Q
