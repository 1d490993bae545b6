/- One operation: what is put into a new list; all operations. -/
import Derived.Test.YtiailejekbnkgaaGreatJI
set_option linter.unusedVariables false
set_option linter.unusedSimpArgs false
namespace Go.Q
open Go.V
variable {c c' : Cx} {S : SS} {env : List AV} {H H' : Heap} {K : List FC} {mk : List Nat}
variable {TT : FuncId → Option IFn} {cb : Cb} {Fs : FuncId → List D → Option D} {ρ' : List D}

theorem bget_put_ne {heap : List HB} {id i : Nat} {b : Option SB} (h : i ≠ id) : bget (hput heap id b) i = bget heap i := by
  unfold bget hput
  rw [List.getElem?_set_ne (fun e => h e.symm)]
theorem freeze_ok : ∀ (ids : List Nat) {c : Cx} {heap : List HB}, Rel c { S with heap := heap } env H K mk → noDup ids = true → (∀ id ∈ ids, ∃ s x dp, bget heap id = some (.list s x dp)) →
    ∃ c1, c.le c1 ∧ c1.ρ = c.ρ ∧ Rel c1 { S with heap := freeze heap ids } env H K mk ∧ ∀ id ∈ ids, ∀ p y s rows, c.ψ id = some p → p.idc = some y → hget H y = some (.row s rows) → c1.Φ y = some (s, rows)
  | [], c, heap, r, _, _ => ⟨c, Cx.le.refl c, rfl, r, by simp⟩
  | id :: ids, c, heap, r, hd, hl => by
    simp only [noDup, Bool.and_eq_true, Bool.not_eq_true', List.contains_eq_mem, decide_eq_false_iff_not] at hd
    obtain ⟨s, x, dp, hb⟩ := hl id (by simp)
    obtain ⟨p, g1, g2, g3, g4⟩ := r.blk (i := id) hb
    have hl' : ∀ id' ∈ ids, ∃ s x dp, bget (hput heap id none) id' = some (.list s x dp) := fun id' h' => by
      rw [bget_put_ne (id := id) (i := id') (by rintro rfl; exact hd.1 h')]; exact hl id' (by simp [h'])
    cases hp : p.idc with
    | none =>
      have r1 := r.drop id
      obtain ⟨c1, k1, k2, k3, k4⟩ := freeze_ok ids (heap := hput heap id none) r1 hd.2 hl'
      refine ⟨c1, k1, k2, k3, fun id' h' q y s rows h1 h2 h3 => ?_⟩
      rcases List.mem_cons.1 h' with rfl | h'
      · rw [g1] at h1; cases h1; rw [hp] at h2; cases h2
      · exact k4 id' h' q y s rows h1 h2 h3
    | some y =>
      obtain ⟨s', rows', hr⟩ := g3.row hp
      obtain ⟨le, r1⟩ := r.freeze hb g1 hp hr
      obtain ⟨c1, k1, k2, k3, k4⟩ := freeze_ok ids (heap := hput heap id none) r1 hd.2 hl'
      refine ⟨c1, le.trans k1, k2, k3, fun id' h' q z s rows h1 h2 h3 => ?_⟩
      rcases List.mem_cons.1 h' with rfl | h'
      · rw [g1] at h1; cases h1; rw [hp] at h2; cases h2
        rw [hr] at h3; cases h3
        exact k1.Φ _ _ (by simp [Cx.frz])
      · exact k4 id' h' q z s rows (le.ψ _ _ h1) h2 h3
/-- What holds of what was put away. -/
def Frozen (c c1 : Cx) (H : Heap) (ids : List Nat) : Prop := ∀ id ∈ ids, ∀ p y s rows, c.ψ id = some p → p.idc = some y → hget H y = some (.row s rows) → c1.Φ y = some (s, rows)
theorem put1_ok (r : Rel c S env H K mk) {c1 : Cx} (le : c.le c1) {v : SV} {a : AV} {P : Put} (hv : Cv c v a) (hp : put1 S.heap v = some P) :
    (∀ id ∈ P.fz, ∃ s x dp, bget S.heap id = some (.list s x dp)) ∧ P.es.length = 1 ∧ uptoL c.ρ.length P.es = true ∧ (Frozen c c1 H P.fz → F2 (Rk c1 P.rs) (denL c1.ρ P.es) [a]) := by
  unfold put1 at hp
  split at hp
  · cases hp
    obtain ⟨h1, h2, h3⟩ := hv.inv_e
    exact ⟨by simp, rfl, by simp [uptoL, h1], fun _ => .single (by rw [le.den h1]; exact h2)⟩
  · cases hp
    have := hv.inv_nil
    subst this
    exact ⟨by simp, rfl, rfl, fun _ => .single .nilS⟩
  · cases hp
    obtain ⟨h1, h2, h3⟩ := hv.inv_fz
    exact ⟨by simp, rfl, by simp [uptoL, h1], fun _ => .single (by rw [le.den h1]; exact RO.mono le.Φ (fun _ => le.okr) h2)⟩
  · rename_i id
    obtain ⟨p, hψ, ha⟩ := hv.inv_own
    have fin : ∀ {s x dp} (rs : List Nat), bget S.heap id = some (.list s x dp) → rtOf S.heap id ∈ rs → (∀ d b, Rk c dp d b → RO c1.Φ (c1.okr rs) d b) → x.upto c.ρ.length = true ∧ (Frozen c c1 H [id] → RO c1.Φ (c1.okr rs) (x.den c.ρ) a) := fun {s x dp} rs hb hrt hsub => by
      obtain ⟨p', g1, g2, g3, g4⟩ := r.blk hb
      rw [hψ] at g1; cases g1
      obtain ⟨xs, q1, q2, q3, q4, q5⟩ := g3
      refine ⟨q1, fun hf => ?_⟩
      rw [q2]
      rcases ha with ⟨z, hz, ha⟩ | ⟨hl0, ha⟩
      · obtain ⟨rows, t1, t2, t3, t4⟩ := q5 _ hz
        have hΦ := hf id (by simp) p z s rows hψ hz t1
        rw [ha, ← q3]
        exact .own hΦ (.inr ⟨id, p, le.ψ _ _ hψ, hz, by rw [g2]; exact hrt⟩) (by rw [q3]; exact t2) t3 (by rw [q3]; exact t4.mono fun _ _ => F2.mono hsub)
      · have hxs : xs = [] := by rw [hl0] at q3; simpa using q3
        subst hxs
        rcases ha with rfl | rfl
        · exact .b .nilS
        · exact .b .emp
    split at hp
    · rename_i s x e1
      cases hp
      obtain ⟨h1, h2⟩ := fin [rtOf S.heap id] e1 (by simp) fun d b h => .b h
      exact ⟨by simp [e1], rfl, by simp [uptoL, h1], fun hf => .single (by rw [le.den h1]; exact h2 hf)⟩
    · rename_i s x rs e1
      cases hp
      obtain ⟨h1, h2⟩ := fin (rtOf S.heap id :: rs) e1 (by simp) fun d b h => RO.mono le.Φ (fun i hi => by
        rcases le.okr hi with h | ⟨s, p, h1, h2, h3⟩
        · exact .inl h
        · exact .inr ⟨s, p, h1, h2, by simp [h3]⟩) h
      exact ⟨by simp [e1], rfl, by simp [uptoL, h1], fun hf => .single (by rw [le.den h1]; exact h2 hf)⟩
    · cases hp
  · cases hp
theorem denL_append {ρ : List D} : ∀ (a b : List E), denL ρ (a ++ b) = denL ρ a ++ denL ρ b
  | [], b => rfl
  | x :: a, b => by simp [denL, denL_append a b]
theorem uptoL_append {n : Nat} : ∀ {a b : List E}, uptoL n a = true → uptoL n b = true → uptoL n (a ++ b) = true
  | [], b, _, h => h
  | x :: a, b, h, h' => by
    simp only [uptoL, Bool.and_eq_true] at h
    simp [uptoL, h.1, uptoL_append h.2 h']
theorem Frozen.left {c1 : Cx} {a b : List Nat} (h : Frozen c c1 H (a ++ b)) : Frozen c c1 H a := fun id hid => h id (by simp [hid])
theorem Frozen.right {c1 : Cx} {a b : List Nat} (h : Frozen c c1 H (a ++ b)) : Frozen c c1 H b := fun id hid => h id (by simp [hid])
theorem putL_ok (r : Rel c S env H K mk) {c1 : Cx} (le : c.le c1) : ∀ {vs : List SV} {as : List AV} {P : Put}, F2 (Cv c) vs as → putL S.heap vs = some P →
    (∀ id ∈ P.fz, ∃ s x dp, bget S.heap id = some (.list s x dp)) ∧ P.es.length = vs.length ∧ uptoL c.ρ.length P.es = true ∧ (Frozen c c1 H P.fz → F2 (Rk c1 P.rs) (denL c1.ρ P.es) as)
  | [], as, P, h, hp => by cases hp; cases h; exact ⟨by simp, rfl, rfl, fun _ => .nil⟩
  | v :: vs, as, P, h, hp => by
    obtain ⟨a, t, rfl, ha, ht⟩ := F2.inv_cons h
    simp only [putL] at hp
    split at hp
    · rename_i p q e1 e2
      cases hp
      obtain ⟨g1, g2, g3, g4⟩ := put1_ok r le ha e1
      obtain ⟨k1, k2, k3, k4⟩ := putL_ok r le ht e2
      refine ⟨fun id hid => ?_, by simp [g2, k2]; omega, uptoL_append g3 k3, fun hf => ?_⟩
      · rcases List.mem_append.1 hid with hid | hid
        · exact g1 id hid
        · exact k1 id hid
      · rw [denL_append]
        exact ((g4 hf.left).mono fun _ _ => Rk.addL).append ((k4 hf.right).mono fun _ _ => Rk.addRr)
    · cases hp
theorem parts_ok (r : Rel c S env H K mk) {c1 : Cx} (le : c.le c1) {sz : Nat} {Q : Option (List Nat)} : ∀ {parts : List (Nat × Arg)} {is : List Nat} {P : Put}, partsE S.env S.heap sz parts = some (is, P) →
    (∀ id ∈ P.fz, ∃ s x dp, bget S.heap id = some (.list s x dp)) ∧ uptoL c.ρ.length P.es = true ∧ (Frozen c c1 H P.fz → (∀ d a, Rk c1 P.rs d a → Rk c1 Q d a) → ∀ {xs xs' : List (List D)} {rows : List (List AV)}, F2 (F2 (Rk c1 Q)) xs rows → (∀ q ∈ rows, q.length = sz ∧ q.all AV.one = true) →
      fillD sz is (denL c1.ρ P.es) xs = some xs' → ∃ rows', fillS env sz parts rows = some rows' ∧ F2 (F2 (Rk c1 Q)) xs' rows' ∧ ∀ q ∈ rows', q.length = sz ∧ q.all AV.one = true)
  | [], is, P, hp => by
    cases hp
    refine ⟨by simp, rfl, fun _ _ xs xs' rows h hs hf => ?_⟩
    simp only [denL, fillD, Option.some.injEq] at hf
    subst hf
    exact ⟨rows, rfl, h, hs⟩
  | (i, x) :: ps, is, P, hp => by
    simp only [partsE] at hp
    split at hp
    · rename_i p is' q e1 e2
      split at hp
      · rename_i hl
        cases hp
        cases e3 : (sarg S.env x).cells with
        | none => rw [e3] at e1; cases e1
        | some cs =>
          rw [e3] at e1
          obtain ⟨c1', c2'⟩ := cells_ok (sarg_ok r.env x) e3
          obtain ⟨g1, g2, g3, g4⟩ := putL_ok r le c1' e1
          obtain ⟨k1, k2, k3⟩ := parts_ok r le (Q := Q) e2
          refine ⟨fun id hid => ?_, uptoL_append g3 k2, fun hf hQ xs xs' rows h hs hfill => ?_⟩
          · rcases List.mem_append.1 hid with hid | hid
            · exact g1 id hid
            · exact k1 id hid
          · have hcell := (g4 hf.left).mono fun d a h => hQ d a (Rk.addL h)
            have hlen : (denL c1.ρ p.es).length = sz := by rw [denL_len]; exact hl
            simp only [fillD, denL_append] at hfill
            split at hfill
            · rename_i hc
              rw [← hlen, List.take_left, List.drop_left] at hfill
              rw [hlen] at hfill
              have hcl : (arg env x).cells.length = sz := by rw [← hcell.len, hlen]
              obtain ⟨rows', m1, m2, m3⟩ := k3 hf.right (fun d a h => hQ d a (Rk.addRr h)) (h.set hcell i) (fun q hq => by
                rcases List.mem_or_eq_of_mem_set hq with hq | rfl
                · exact hs q hq
                · exact ⟨hcl, c2'⟩) hfill
              refine ⟨rows', ?_, m2, m3⟩
              simp only [fillS]
              rw [if_pos ⟨hcl, c2', by rw [← h.len]; exact hc.2⟩]
              exact m1
            · cases hfill
      · cases hp
    · cases hp
theorem buildS_ok (r : Rel c S env H K mk) {sz n : Nat} {zero : List AV} {parts : List (Nat × Arg)} {f : Ef} (h : doOp S (.buildS sz n zero parts) = some f) (hr : emR Fs f.em c.ρ ρ') : OpD TT cb c S env H K mk (.buildS sz n zero parts) f ρ' := by
  simp only [doOp] at h
  split at h
  · rename_i is P e1
    split at h
    · rename_i hz
      cases h
      simp only [Bool.and_eq_true] at hz
      obtain ⟨z1, z2, z3⟩ := okZero_ok hz.1
      obtain ⟨g1, -, -⟩ := parts_ok r (Cx.le.refl c) (Q := none) e1
      obtain ⟨c1, le, hρ, r1, hf⟩ := freeze_ok P.fz (heap := S.heap) r hz.2 g1
      obtain ⟨-, k2, k3⟩ := parts_ok r le (Q := P.rs) e1
      refine OpD.mkL (c1 := c1) (heap1 := freeze S.heap P.fz) (rd := []) le hρ r1 hr (fun d hd => ?_) (by simp)
      rw [← hρ] at hd
      simp only [D.den1] at hd
      split at hd
      · rename_i hc
        cases e2 : fillD sz is (denL c1.ρ P.es) (List.replicate n (zeroD zero)) with
        | none => rw [e2] at hd; cases hd
        | some xs =>
          rw [e2] at hd; cases hd
          obtain ⟨rows, m1, m2, m3⟩ := k3 hf (fun _ _ h => h) (F2.replicate (Rk.list z1) n) (fun q hq => by
            rw [List.eq_of_mem_replicate hq]; exact ⟨by rw [← z3]; exact hc.2, z2⟩) e2
          have hn : xs.length = n := by
            have h1 : rows.length = n := by
              have : ∀ {ps : List (Nat × Arg)} {a b : List (List AV)}, fillS env sz ps a = some b → b.length = a.length := by
                intro ps
                induction ps with
                | nil => intro a b h; cases h; rfl
                | cons p ps ih =>
                  intro a b h
                  obtain ⟨i, x⟩ := p
                  simp only [fillS] at h
                  split at h
                  · have := ih h; simpa using this
                  · cases h
              have := this m1
              simpa using this
            rw [m2.len, h1]
          refine ⟨xs, .own H.nx 0 n, _, _, rfl, ?_, by rw [← hn]; exact .fresh (by rw [m2.len]; exact Nat.le_refl _) m3 (by rw [m2.len, List.take_length]; exact m2)⟩
          simp only [evalOp]
          rw [if_pos ⟨hc.1, by rw [← z3]; exact hc.2, z2⟩, m1]
          rfl
      · cases hd
    · cases h
  · cases h
theorem bget_freeze {id : Nat} : ∀ (ids : List Nat) {heap : List HB}, id ∉ ids → bget (freeze heap ids) id = bget heap id
  | [], heap, _ => rfl
  | i :: ids, heap, h => by
    simp only [List.mem_cons, not_or] at h
    rw [freeze, bget_freeze ids h.2, bget_put_ne h.1]
theorem rtOf_freeze {id : Nat} : ∀ (ids : List Nat) {heap : List HB}, rtOf (freeze heap ids) id = rtOf heap id
  | [], heap => rfl
  | i :: ids, heap => by
    rw [freeze, rtOf_freeze ids]
    unfold rtOf hput
    by_cases e : i = id
    · subst e
      by_cases hl : i < heap.length
      · rw [List.getElem?_set_self hl]; rfl
      · rw [List.getElem?_eq_none (by simpa using hl), List.getElem?_eq_none (by simpa using hl)]
    · rw [List.getElem?_set_ne e]
theorem store_ok (r : Rel c S env H K mk) {n : Nat} {x y : Arg} {f : Ef} (h : doOp S (.store n x y) = some f) (hr : emR Fs f.em c.ρ ρ') : OpD TT cb c S env H K mk (.store n x y) f ρ' := by
  have hv := sarg_ok r.env x
  have hw := sarg_ok r.env y
  simp only [doOp] at h
  split at h
  · rename_i id j ys e1 e2
    rw [e1] at hv
    obtain ⟨c1, c2⟩ := cells_ok hw e2
    split at h
    · rename_i cs e3
      split at h
      · rename_i hl
        cases e4 : putS cs j ys with
        | none => rw [e4] at h; cases h
        | some cs' =>
          rw [e4] at h; cases h
          obtain ⟨p, w, hp, hx, ha⟩ := hv.inv_ptr
          obtain ⟨p', g1, g2, g3, g4⟩ := r.blk e3
          rw [hp] at g1; cases g1
          obtain ⟨z, as, q1, q2, q3, q4⟩ := g3
          rw [hx] at q1; cases q1
          obtain ⟨as', k1, k2, k3, k4⟩ := put_ok q3 q4 c1 c2 e4
          have r' := r.put e3 hp hx (.cells cs') (some (.row cs.length [as'])) ⟨_, as', hx, by rw [hget_wr1, k4]; simp, k2, k3⟩
          have hr' : ρ' = c.ρ := hr
          refine ⟨undefA, [w], [(w, some (.row cs.length [as']))], H.nx, c, ?_, Cx.le.refl c, hr'.symm, r', .unk, fun z hz => ?_, fun z hz => ?_⟩
          · have : (arg env y).cells.length = n := by rw [← c1.len]; exact hl
            simp only [evalOp, ha, q2]
            rw [if_pos ⟨this, c2⟩]
            simp [k1]
          · simp only [List.mem_singleton] at hz; subst hz
            exact okr_of hp hx (by simp [g2])
          · simp only [List.map_cons, List.map_nil, List.mem_singleton] at hz; subst hz
            exact ⟨r.notF0 e3 hp hx, id, p, hp, hx, by simp [g2]⟩
      · cases h
    · cases h
  · rename_i id i j ys e1 e2
    rw [e1] at hv
    obtain ⟨c1, c2⟩ := cells_ok hw e2
    split at h
    · rename_i sz z dp P e3 e4
      split at h
      · rename_i hl
        obtain ⟨hl, hnd, hni⟩ := hl
        cases h
        obtain ⟨b1, b2, b3, -⟩ := putL_ok r (Cx.le.refl c) c1 e4
        obtain ⟨cf, lef, hρ, rf, hf⟩ := freeze_ok P.fz (heap := S.heap) r hnd b1
        obtain ⟨-, -, -, b4⟩ := putL_ok r lef c1 e4
        have p2 := b4 hf
        obtain ⟨p, w, k, m, hp0, hx, hi0, hn0, h0, hlt, ha⟩ := hv.inv_ptrO
        have hp := lef.ψ _ _ hp0
        have hi := lef.upto hi0
        have hn : i.den cf.ρ = .int k m := by rw [lef.den hi0]; exact hn0
        have e3' : bget (freeze S.heap P.fz) id = some (.list sz z dp) := by rw [bget_freeze _ (by simpa using hni)]; exact e3
        have hrt : rtOf (freeze S.heap P.fz) id = rtOf S.heap id := rtOf_freeze _
        rw [← hρ] at hr
        obtain ⟨d, d1, d2, d3, d4, d5⟩ := emP_ok rf.n hr
        obtain ⟨le, r1⟩ := rf.em d4 d5
        obtain ⟨p', g1, g2, g3, g4⟩ := rf.blk e3'
        rw [hp] at g1; cases g1
        obtain ⟨xs, q1, q2, q3, q4, q5⟩ := g3
        obtain ⟨rows, t1, t2, t3, t4⟩ := q5 _ hx
        simp only [denL, q2, hn, D.den1, D.idx] at d1
        rw [if_pos ⟨h0, by omega⟩] at d1
        simp only [Option.bind_some] at d1
        cases u1 : xs[m.toNat]? with
        | none => rw [u1] at d1; cases d1
        | some xd =>
          rw [u1] at d1
          simp only [Option.bind_some] at d1
          cases u2 : putD xd j (denL cf.ρ P.es) with
          | none => rw [u2] at d1; cases d1
          | some xd' =>
            rw [u2] at d1
            simp only [Option.map_some, Option.some.injEq] at d1
            obtain ⟨row, u3, u4⟩ := t4.get u1
            rw [getElem?_sub hlt] at u3
            obtain ⟨row', k1, k2, k3, k4⟩ := putD_ok (u4.mono fun _ _ => Rk.addL (b := P.rs)) (t3 row (List.mem_of_getElem? u3)).2 (p2.mono fun _ _ => Rk.addRr (a := dp)) c2 u2
            have hrl : row.length = sz := (t3 row (List.mem_of_getElem? u3)).1
            subst d1
            have r' := r1.put e3' hp hx (.list sz (emP (.set j) (z :: i :: P.es) S.n).2 (addR dp P.rs)) (some (.row sz (rows.set (p.off + m.toNat) row'))) (by
              refine ⟨_, d3, d2, by simp [q3], fun hh => (by rw [hx] at hh; cases hh), fun w' hw' => ?_⟩
              rw [hx] at hw'; cases hw'
              refine ⟨rows.set (p.off + m.toNat) row', by rw [hget_wr1]; simp, by simpa using t2, fun q hq => ?_, ?_⟩
              · rcases List.mem_or_eq_of_mem_set hq with hq | rfl
                · exact t3 q hq
                · exact ⟨by rw [k4, hrl], k3⟩
              · rw [sub_set hlt]
                exact (t4.mono fun _ _ => F2.mono fun _ _ h => Rk.mono le (Rk.addL (b := P.rs) h)).set (k2.mono fun _ _ => Rk.mono le) _)
            refine ⟨undefA, [w], [(w, some (.row sz (rows.set (p.off + m.toNat) row')))], H.nx, _, ?_, lef.trans le, rfl, r', .unk, fun z hz => ?_, fun z hz => ?_⟩
            · have : (arg env y).cells.length = n := by rw [← hl, ← denL_len (ρ := cf.ρ) P.es, p2.len]
              simp only [evalOp, ha, t1]
              rw [if_pos ⟨this, c2⟩]
              simp [k1, u3]
            · simp only [List.mem_singleton] at hz; subst hz
              exact okr_of hp hx (by simp [g2, hrt])
            · simp only [List.map_cons, List.map_nil, List.mem_singleton] at hz; subst hz
              refine ⟨?_, id, p, hp, hx, by simp [g2, hrt]⟩
              rw [← lef.F0]; exact rf.notF0 e3' hp hx
      · cases h
    · cases h
  · cases h
theorem toE1_len (r : Rel c S env H K mk) {v : SV} {a : AV} {y : E} (hv : Cv c v a) (h : toE1 S.heap v = some y) {xs : List (List D)} (hy : y.den c.ρ = .list xs) :
    ∃ z : Option AV, (∃ s rows, a = .lst s rows ∧ rows.length = xs.length) ∨ (∃ i o, a = .own i o xs.length) ∨ ((a = .nilS ∨ ∃ z, a = .emp z) ∧ xs = []) := by
  refine ⟨none, ?_⟩
  have hRD : ∀ {a}, RD (.list xs) a → (∃ s rows, a = .lst s rows ∧ rows.length = xs.length) ∨ (∃ i o, a = .own i o xs.length) ∨ ((a = .nilS ∨ ∃ z, a = .emp z) ∧ xs = []) := fun {a} h => by
    cases h with
    | nilS => exact .inr (.inr ⟨.inl rfl, rfl⟩)
    | emp => exact .inr (.inr ⟨.inr ⟨_, rfl⟩, rfl⟩)
    | lst hne hs h => exact .inl ⟨_, _, rfl, h.len.symm⟩
  cases v <;> simp only [toE1, reduceCtorEq] at h
  · cases h
    obtain ⟨h1, h2, h3⟩ := hv.inv_e
    rw [hy] at h2; exact hRD h2
  · cases h
    obtain ⟨h1, h2, h3⟩ := hv.inv_fz
    rw [hy] at h2
    cases h2 with
    | b h => exact hRD h
    | own => exact .inr (.inl ⟨_, _, rfl⟩)
  · rename_i id
    obtain ⟨p, hp, ha⟩ := hv.inv_own
    split at h
    · rename_i s x dp e1
      cases h
      obtain ⟨p', g1, g2, g3, g4⟩ := r.blk e1
      rw [hp] at g1; cases g1
      obtain ⟨xs', q1, q2, q3, q4, q5⟩ := g3
      rw [hy] at q2; cases q2
      rcases ha with ⟨z, hz, ha⟩ | ⟨hl0, ha⟩
      · exact .inr (.inl ⟨z, p.off, by rw [ha, q3]⟩)
      · refine .inr (.inr ⟨ha.imp (fun h => h) (fun h => ⟨_, h⟩), ?_⟩)
        rw [hl0] at q3; simpa using q3
    · cases h
  · cases h
    have := hv.inv_nil
    simp only [E.den, D.list.injEq] at hy
    exact .inr (.inr ⟨.inl this, hy.symm⟩)
theorem lenS_ok (r : Rel c S env H K mk) {x : Arg} {y : E} (h : toE1 S.heap (sarg S.env x) = some y) (hr : emR Fs (emP .len [y] S.n).1 c.ρ ρ') : OpD TT cb c S env H K mk (.lenS x) { pure1 S .len [y] with rd := rts1 S.heap (sarg S.env x) } ρ' := by
  refine OpD.emd r (w := fun x => .e x) (rd := []) hr (fun d hd => ?_) (by simp)
  simp only [denL] at hd
  cases ed : E.den c.ρ y <;> rw [ed] at hd <;> try (simp [D.den1] at hd; done)
  rename_i xs
  simp only [D.den1, Option.some.injEq] at hd
  obtain ⟨-, hh⟩ := toE1_len r (sarg_ok r.env x) h ed
  have : evalOp TT cb env H H.nx (.lenS x) = some (.eff (.int .i64 xs.length) [] [] H.nx) := by
    rcases hh with ⟨s, rows, ha, hl⟩ | ⟨i, o, ha⟩ | ⟨ha | ⟨z, ha⟩, rfl⟩ <;> simp [evalOp, ha]
    exact congrArg _ hl
  exact ⟨_, this, fun c' z le hz hu => .e hu (by rw [hz, ← hd]; exact .int) rfl⟩
end Go.Q
/- One operation: every one. -/
set_option linter.unusedVariables false
set_option linter.unusedSimpArgs false
namespace Go.Q
open Go.V
variable {c c' : Cx} {S : SS} {env : List AV} {H H' : Heap} {K : List FC} {mk : List Nat}
variable {TT : FuncId → Option IFn} {cb : Cb} {Fs : FuncId → List D → Option D} {ρ' : List D}

theorem vals_get {l : List SV} {as : List AV} (h : F2 (Cv c) l as) {i : Nat} {v : SV} (hi : l[i]? = some v) : ∃ a, as[i]? = some a ∧ Cv c v a := h.get hi
theorem rep_row {n sz l : Nat} {z : List D} {zero : List AV} {dp : Option (List Nat)} (h : F2 RD z zero) (h1 : zero.all AV.one = true) (hl : zero.length = sz) (hn : l ≤ n) :
    (∀ r ∈ List.replicate n zero, r.length = sz ∧ r.all AV.one = true) ∧ F2 (F2 (Rk c dp)) (List.replicate l z) ((List.replicate n zero).take l) := by
  refine ⟨fun r hr => by rw [List.eq_of_mem_replicate hr]; exact ⟨hl, h1⟩, ?_⟩
  rw [List.take_replicate, Nat.min_eq_left hn]
  exact F2.replicate (Rk.list h) l
theorem doOp_ok (r : Rel c S env H K mk) {io : PO} {f : Ef} (h : doOp S io = some f) (hr : emR Fs f.em c.ρ ρ') : OpD TT cb c S env H K mk io f ρ' := by
  cases io with
  | mv x => cases h; exact OpD.plain r (rd := []) hr rfl (sarg_ok r.env x) (by simp)
  | pick x a b =>
    simp only [doOp] at h
    split at h
    · rename_i e1
      cases h
      have hv := sarg_ok r.env x
      rw [e1] at hv
      obtain ⟨-, hd, -⟩ := hv.inv_e
      simp only [E.den] at hd
      generalize ha : arg env x = w at hd
      cases hd
      exact OpD.plain r (rd := []) hr (by simp [evalOp, ha]) (sarg_ok r.env a) (by simp)
    · rename_i e1
      cases h
      have hv := sarg_ok r.env x
      rw [e1] at hv
      obtain ⟨-, hd, -⟩ := hv.inv_e
      simp only [E.den] at hd
      generalize ha : arg env x = w at hd
      cases hd
      exact OpD.plain r (rd := []) hr (by simp [evalOp, ha]) (sarg_ok r.env b) (by simp)
    · cases h
  | new cells =>
    simp only [doOp] at h
    split at h
    · rename_i h1
      cases h
      exact OpD.block r hr (ofAV1_okL cells) h1 (by simp [evalOp, h1])
    · cases h
  | box x =>
    simp only [doOp] at h
    cases e1 : (sarg S.env x).cells with
    | none => rw [e1] at h; cases h
    | some cs =>
      rw [e1] at h; cases h
      obtain ⟨c1, c2⟩ := cells_ok (sarg_ok r.env x) e1
      exact OpD.block r hr c1 c2 (by simp [evalOp, c2])
  | build zero parts =>
    simp only [doOp] at h
    split at h
    · rename_i h1
      cases e1 : fillV S.env parts (zero.map ofAV1) with
      | none => rw [e1] at h; cases h
      | some cs =>
        rw [e1] at h; cases h
        obtain ⟨as', k1, k2, k3⟩ := fill_ok r.env (ofAV1_okL zero) h1 e1
        exact OpD.plain r (rd := []) hr (by simp [evalOp, k1]) (.agg k2 k3) (by simp)
    · cases h
  | buildS sz n zero parts => exact buildS_ok r h hr
  | load n x => exact load_ok r h hr
  | store n x y => exact store_ok r h hr
  | fieldA off x =>
    have hv := sarg_ok r.env x
    simp only [doOp] at h
    split at h
    · rename_i id j e1
      cases h; rw [e1] at hv
      obtain ⟨p, z, hp, hz, ha⟩ := hv.inv_ptr
      exact OpD.plain r (rd := []) hr (by simp [evalOp, ha]) (.ptr hp hz) (by simp)
    · rename_i id i j e1
      cases h; rw [e1] at hv
      obtain ⟨p, w, k, m, hp, hx, hi, hn, h0, hl, ha⟩ := hv.inv_ptrO
      exact OpD.plain r (rd := []) hr (by simp [evalOp, ha]) (.ptrO hp hx hi hn h0 hl) (by simp)
    · rename_i y i j rs e1
      cases h; rw [e1] at hv
      obtain ⟨hx, hi, xs, k, m, hd, hn, h0, hl, hh⟩ := hv.inv_ptrE
      rcases hh with ⟨sz, rows, hs, h, ha⟩ | ⟨r0, id, o, sz, rows, rfl, hΦ, hA, hl', hs, h, ha⟩
      · exact OpD.plain r (rd := []) hr (by simp [evalOp, ha]) (.ptrE hx hi hd hn h0 hl hs h) (by simp)
      · exact OpD.plain r (rd := []) hr (by simp [evalOp, ha]) (.ptrF hx hi hd hn h0 hl hΦ hA hl' hs h) (by simp)
    · cases h
  | indexS sz x i => exact indexS_ok r h hr
  | indexA len sz x i =>
    have hv := sarg_ok r.env x
    have hw := sarg_ok r.env i
    simp only [doOp] at h
    split at h
    · rename_i id j i' e1 e2
      split at h
      · rename_i hl
        cases h; rw [e1] at hv
        obtain ⟨p, z, hp, hz, ha⟩ := hv.inv_ptr
        exact OpD.plain r (rd := []) hr (by simp [evalOp, ha, constIx_ok hw e2 hl]) (.ptr hp hz) (by simp)
      · cases h
    · rename_i id i0 j i' e1 e2
      split at h
      · rename_i hl'
        cases h; rw [e1] at hv
        obtain ⟨p, w, k, m, hp, hx, hi, hn, h0, hl, ha⟩ := hv.inv_ptrO
        exact OpD.plain r (rd := []) hr (by simp [evalOp, ha, constIx_ok hw e2 hl']) (.ptrO hp hx hi hn h0 hl) (by simp)
      · cases h
    · rename_i y i0 j rs i' e1 e2
      split at h
      · rename_i hl0
        cases h; rw [e1] at hv
        obtain ⟨hx, hi, xs, k, m, hd, hn, h0, hl, hh⟩ := hv.inv_ptrE
        rcases hh with ⟨sz', rows, hs, h, ha⟩ | ⟨r0, id, o, sz', rows, rfl, hΦ, hA, hl', hs, h, ha⟩
        · exact OpD.plain r (rd := []) hr (by simp [evalOp, ha, constIx_ok hw e2 hl0]) (.ptrE hx hi hd hn h0 hl hs h) (by simp)
        · exact OpD.plain r (rd := []) hr (by simp [evalOp, ha, constIx_ok hw e2 hl0]) (.ptrF hx hi hd hn h0 hl hΦ hA hl' hs h) (by simp)
      · cases h
    · cases h
  | field n off x =>
    have hv := sarg_ok r.env x
    simp only [doOp] at h
    split at h
    · rename_i cs e1
      rw [e1] at hv
      cases e2 : partS n cs off with
      | none => rw [e2] at h; cases h
      | some v =>
        rw [e2] at h; cases h
        obtain ⟨as, ha, h1, h2⟩ := hv.inv_agg
        obtain ⟨b, k1, k2⟩ := part_ok h1 h2 e2
        exact OpD.plain r (rd := []) hr (by simp [evalOp, ha, k1]) k2 (by simp)
    · cases h
  | indexV len n sz x i =>
    have hv := sarg_ok r.env x
    have hw := sarg_ok r.env i
    simp only [doOp] at h
    split at h
    · rename_i cs i' e1 e3
      rw [e1] at hv
      split at h
      · rename_i hl
        cases e2 : partS n cs (i' * sz) with
        | none => rw [e2] at h; cases h
        | some v =>
          rw [e2] at h; cases h
          obtain ⟨as, ha, h1, h2⟩ := hv.inv_agg
          obtain ⟨b, k1, k2⟩ := part_ok h1 h2 e2
          exact OpD.plain r (rd := []) hr (by simp [evalOp, ha, constIx_ok hw e3 hl, k1]) k2 (by simp)
      · cases h
    · cases h
  | bin op x y =>
    simp only [doOp] at h
    split at h
    · rename_i a b e1 e2
      cases h
      obtain ⟨-, d1⟩ := dat_ok (sarg_ok r.env x) e1
      obtain ⟨-, d2⟩ := dat_ok (sarg_ok r.env y) e2
      refine OpD.emd r (w := fun x => .e x) (rd := []) hr (fun d hd => ?_) (by simp)
      obtain ⟨a', k1, k2, k3⟩ := bin_ok (show binD op (a.den c.ρ) (b.den c.ρ) = some d from hd) d1 d2
      exact ⟨a', by simp [evalOp, k1], fun c' z le hz hu => .e hu (by rw [hz]; exact k2) k3⟩
    · cases h
  | eqv neg agg ks x y =>
    cases agg with
    | true =>
      simp only [doOp] at h
      split at h
      · rename_i cs ds e1 e2
        have hv := sarg_ok r.env x
        have hw := sarg_ok r.env y
        rw [e1] at hv; rw [e2] at hw
        obtain ⟨as, ha, h1, -⟩ := hv.inv_agg
        obtain ⟨bs, hb, h2, -⟩ := hw.inv_agg
        split at h
        · rename_i a b e3 e4
          split at h
          · rename_i hl
            cases h
            obtain ⟨-, d1⟩ := datC_ok h1 e3
            obtain ⟨-, d2⟩ := datC_ok h2 e4
            refine OpD.emd r (w := fun x => .e x) (rd := []) hr (fun d hd => ?_) (by simp)
            rw [denL_append] at hd
            have hl' : (denL c.ρ a).length = ks.length := by rw [denL_len]; exact hl
            simp only [D.den1, ← hl', List.take_left, List.drop_left] at hd
            cases e5 : eqDL ks (denL c.ρ a) (denL c.ρ b) with
            | none => rw [e5] at hd; cases hd
            | some q =>
              rw [e5] at hd; cases hd
              exact ⟨_, by simp [evalOp, ha, hb, eq_ok e5 d1 d2]; rfl, fun c' z le hz hu => .e hu (by rw [hz]; exact .bool) rfl⟩
          · cases h
        · cases h
      · cases h
    | false =>
      simp only [doOp] at h
      split at h
      · rename_i a b e3 e4
        split at h
        · rename_i hl
          cases h
          obtain ⟨-, d1⟩ := dat_ok (sarg_ok r.env x) e3
          obtain ⟨-, d2⟩ := dat_ok (sarg_ok r.env y) e4
          refine OpD.emd r (w := fun x => .e x) (rd := []) hr (fun d hd => ?_) (by simp)
          simp only [D.den1, denL, hl, List.take_succ_cons, List.take_zero, List.drop_succ_cons, List.drop_zero] at hd
          cases e5 : eqDL ks [a.den c.ρ] [b.den c.ρ] with
          | none => rw [e5] at hd; cases hd
          | some q =>
            rw [e5] at hd; cases hd
            exact ⟨_, by simp [evalOp, eq_ok e5 (.single d1) (.single d2)]; rfl, fun c' z le hz hu => .e hu (by rw [hz]; exact .bool) rfl⟩
        · cases h
      · cases h
  | un op x =>
    simp only [doOp] at h
    cases e1 : dat (sarg S.env x) with
    | none => rw [e1] at h; cases h
    | some a =>
      rw [e1] at h; cases h
      obtain ⟨-, d1⟩ := dat_ok (sarg_ok r.env x) e1
      refine OpD.emd r (w := fun x => .e x) (rd := []) hr (fun d hd => ?_) (by simp)
      obtain ⟨a', k1, k2, k3⟩ := un_ok (show unD op (a.den c.ρ) = some d from hd) d1
      exact ⟨a', by simp [evalOp, k1], fun c' z le hz hu => .e hu (by rw [hz]; exact k2) k3⟩
  | conv k x =>
    simp only [doOp] at h
    cases e1 : dat (sarg S.env x) with
    | none => rw [e1] at h; cases h
    | some a =>
      rw [e1] at h; cases h
      obtain ⟨-, d1⟩ := dat_ok (sarg_ok r.env x) e1
      refine OpD.emd r (w := fun x => .e x) (rd := []) hr (fun d hd => ?_) (by simp)
      simp only [denL] at hd
      cases ed : E.den c.ρ a <;> rw [ed] at hd d1 <;> try (simp [D.den1] at hd; done)
      simp only [D.den1, Option.some.injEq] at hd
      exact ⟨_, by simp [evalOp, d1.int]; rfl, fun c' z le hz hu => .e hu (by rw [hz, ← hd]; exact .int) rfl⟩
  | mkS sz bytes zero l cp =>
    simp only [doOp] at h
    split at h
    · rename_i el ec e1 e2
      split at h
      · rename_i hz
        cases h
        obtain ⟨z1, z2, z3⟩ := okZero_ok hz
        obtain ⟨-, d1⟩ := dat_ok (sarg_ok r.env l) e1
        obtain ⟨-, d2⟩ := dat_ok (sarg_ok r.env cp) e2
        refine OpD.mkL (c1 := c) (heap1 := S.heap) (rd := []) (Cx.le.refl c) rfl r hr (fun d hd => ?_) (by simp)
        simp only [denL] at hd
        cases ed1 : E.den c.ρ el <;> rw [ed1] at hd d1 <;> try (simp [D.den1] at hd; done)
        cases ed2 : E.den c.ρ ec <;> rw [ed2] at hd d2 <;> try (simp [D.den1] at hd; done)
        rename_i k1 n1 k2 n2
        simp only [D.den1] at hd
        split at hd
        · rename_i hc
          cases hd
          obtain ⟨rr1, rr2⟩ := rep_row (c := c) (sz := sz) (dp := none) z1 z2 (by rw [← z3]; exact hc.2.2.2) (show n1.toNat ≤ n2.toNat by omega)
          have hlen : (List.replicate n1.toNat (zeroD zero)).length = n1.toNat := by simp
          refine ⟨_, .own H.nx 0 n1.toNat, [(H.nx, some (.row sz (List.replicate n2.toNat zero)))], H.nx + 1, rfl, ?_, ?_⟩
          · simp only [evalOp, d1.int, d2.int]
            rw [if_pos ⟨hc.1, hc.2.1, hc.2.2.1, by rw [← z3]; exact hc.2.2.2, z2⟩]
          · have := Made.fresh (c := c) (H := H) (sz := sz) (dp := none) (xs := List.replicate n1.toNat (zeroD zero)) (rows := List.replicate n2.toNat zero) (by simp; omega) rr1 (by rw [hlen]; exact rr2)
            rwa [hlen] at this
        · cases hd
      · cases h
    · cases h
  | sl sz x lo hi =>
    simp only [doOp] at h
    split at h
    · rename_i l hh e1 e2
      split at h
      · rename_i e3
        have hv := sarg_ok r.env x
        rw [e3] at hv
        have ha := hv.inv_nil
        split at h
        · rename_i e4
          cases h
          obtain ⟨rfl, rfl⟩ := List.append_eq_nil_iff.1 e4
          rcases optS_ok r.env e1 with ⟨rfl, -⟩ | ⟨x, y, -, h, -⟩
          · rcases optS_ok r.env e2 with ⟨rfl, -⟩ | ⟨x, y, -, h, -⟩
            · exact OpD.plain r (rd := []) hr (by simp [evalOp, ha, bnd_none]) .nil (by simp)
            · cases h
          · cases h
        · rename_i k e4
          cases h
          rcases optS_ok r.env e1 with ⟨rfl, rfl⟩ | ⟨xl, yl, rfl, rfl, ul, dl⟩ <;> rcases optS_ok r.env e2 with ⟨rfl, rfl⟩ | ⟨xh, yh, rfl, rfl, uh, dh⟩ <;> simp at e4
          · subst e4
            have hb : bnd env 0 0 (some xh) = some 0 := by
              have := dh.int
              simp [bnd, this]
            exact OpD.plain r (rd := []) hr (by simp [evalOp, ha, bnd_none, hb]) .nil (by simp)
          · subst e4
            have hb : bnd env 0 0 (some xl) = some 0 := by
              have := dl.int
              simp [bnd, this]
            exact OpD.plain r (rd := []) hr (by simp [evalOp, ha, bnd_none, hb]) .nil (by simp)
        · cases h
      · rename_i y e3
        cases h
        exact sl_e r e1 e2 e3 hr
      · rename_i id e3
        split at h
        · rename_i s y dp e4
          split at h
          · rename_i hc
            obtain ⟨rfl, hle⟩ := hc
            cases h
            exact sl_own r e1 e2 e3 e4 hle hr
          · split at h
            · split at h
              · rename_i hs
                subst hs
                cases h
                exact sl_suf r e1 e2 e3 e4 hr
              · cases h
            · cases h
        · cases h
      · cases h
    · cases h
  | ext x i =>
    have hv := sarg_ok r.env x
    simp only [doOp] at h
    split at h
    · rename_i vs e1
      rw [e1] at hv
      obtain ⟨as, ha, h1⟩ := hv.inv_tup
      cases e2 : vs[i]? with
      | none => rw [e2] at h; cases h
      | some v =>
        rw [e2] at h; cases h
        obtain ⟨b, k1, k2⟩ := h1.get e2
        exact OpD.plain r (rd := []) hr (by simp [evalOp, ha, k1]) k2 (by simp)
    · cases h
  | mkF g first caps =>
    cases h
    exact OpD.plain r (rd := []) hr rfl (.fn (sargL_ok r.env first) (sargL_ok r.env caps)) (by simp)
  | lenS x =>
    simp only [doOp] at h
    split at h
    · rename_i e1
      cases h
      have hv := sarg_ok r.env x
      rw [e1] at hv
      exact OpD.plain r (rd := []) hr (by simp [evalOp, hv.inv_nil]) (.e rfl .int rfl) (by simp)
    · cases e1 : toE1 S.heap (sarg S.env x) with
      | none => rw [e1] at h; cases h
      | some y =>
        rw [e1] at h
        cases h
        exact lenS_ok r e1 hr
  | lenC n => cases h; exact OpD.plain r (rd := []) hr rfl (.e rfl .int rfl) (by simp)
  | app sz bytes x y =>
    have hw := sarg_ok r.env y
    simp only [doOp] at h
    split at h
    · rename_i e1
      rw [e1] at hw
      have hy := hw.inv_nil
      have hv := sarg_ok r.env x
      split at h
      · rename_i e2
        cases h
        rw [e2] at hv
        exact OpD.plain r (rd := []) hr (by simp [evalOp, hy, hv.inv_nil, elems]) .nil (by simp)
      · rename_i id e2
        cases h
        rw [e2] at hv
        obtain ⟨p, hp, ha⟩ := hv.inv_own
        rcases ha with ⟨z, hz, ha⟩ | ⟨hl0, ha | ha⟩ <;> rw [ha] at hv <;> exact OpD.plain r (rd := []) hr (by simp [evalOp, hy, ha, elems]) hv (by simp)
      · cases h
    · rename_i cy e1
      rw [e1] at hw
      obtain ⟨h1, h2, h3⟩ := hw.inv_e
      refine app_ok r (rd := []) h1 h hr (fun ys ed hall => ?_) (by simp)
      rw [ed] at h2
      rcases sub_RD hall h2 with ⟨rfl, ha | ⟨z, ha⟩⟩ | ⟨rows, ha, hne, hlen, hs, h⟩
      · exact ⟨[], by simp [ha, elems], .nil, by simp⟩
      · exact ⟨[], by simp [ha, elems], .nil, by simp⟩
      · exact ⟨rows, by simp [ha, elems], h, hs⟩
    · rename_i id' e1
      rw [e1] at hw
      split at h
      · rename_i s cy dy e2
        split at h
        · rename_i hsz
          subst hsz
          obtain ⟨p, hp, ha⟩ := hw.inv_own
          obtain ⟨p', g1, g2, g3, g4⟩ := r.blk e2
          rw [hp] at g1; cases g1
          obtain ⟨xs, q1, q2, q3, q4, q5⟩ := g3
          rcases ha with ⟨z, hz, ha⟩ | ⟨hl0, ha⟩
          · obtain ⟨rows, t1, t2, t3, t4⟩ := q5 _ hz
            by_cases hp0 : p.len = 0
            · refine app_ok r (rd := []) q1 h hr (fun ys ed hall => ?_) (by simp)
              rw [q2] at ed; cases ed
              have hxs : xs = [] := by rw [hp0] at q3; simpa using q3
              subst hxs
              exact ⟨[], by simp [ha, elems, hp0], .nil, by simp⟩
            · refine app_ok r (rd := [z]) q1 h hr (fun ys ed hall => ?_) (fun w hw => by simp only [List.mem_singleton] at hw; subst hw; exact okr_of hp hz (by simp [g2]))
              rw [q2] at ed; cases ed
              exact ⟨_, by rw [ha]; exact elems_own hp0 t1 t2, t4, fun q hq => t3 q (List.mem_of_mem_drop (List.mem_of_mem_take hq))⟩
          · refine app_ok r (rd := []) q1 h hr (fun ys ed hall => ?_) (by simp)
            rw [q2] at ed; cases ed
            have hxs : xs = [] := by rw [hl0] at q3; simpa using q3
            subst hxs
            rcases ha with ha | ha <;> exact ⟨[], by simp [ha, elems], .nil, by simp⟩
        · cases h
      · cases h
    · rename_i cy rs e1
      rw [e1] at hw
      obtain ⟨h1, h2, h3⟩ := hw.inv_fz
      cases ed : E.den c.ρ cy with
      | list ys =>
        rw [ed] at h2
        generalize ha : arg env y = a at h2
        cases h2 with
        | b h2 =>
          refine app_ok r (rd := []) h1 h hr (fun ys' ed' hall => ?_) (by simp)
          rw [ed] at ed'; cases ed'
          rcases sub_RD hall h2 with ⟨rfl, ha' | ⟨z, ha'⟩⟩ | ⟨rows, ha', hne, hlen, hs, h⟩
          · exact ⟨[], by simp [ha, ha', elems], .nil, by simp⟩
          · exact ⟨[], by simp [ha, ha', elems], .nil, by simp⟩
          · exact ⟨rows, by simp [ha, ha', elems], h.mono fun _ _ => F2.mono fun _ _ => Rk.ofRD, hs⟩
        | own hΦ hA hl hs h5 =>
          rename_i id off s rows
          by_cases h0 : ys = []
          · subst h0
            refine app_ok r (rd := []) h1 h hr (fun ys' ed' hall => ?_) (by simp)
            rw [ed] at ed'; cases ed'
            exact ⟨[], by simp [ha, elems], .nil, by simp⟩
          · refine app_ok r (rd := [id]) h1 h hr (fun ys' ed' hall => ?_) (fun w hw => by simp only [List.mem_singleton] at hw; subst hw; exact hA)
            rw [ed] at ed'; cases ed'
            have hg := (r.frz _ _ _ hΦ).1
            obtain ⟨y0, ys0, rfl⟩ := List.exists_cons_of_ne_nil h0
            have hsub : ∀ q ∈ (rows.drop off).take (y0 :: ys0).length, q.length = s ∧ q.all AV.one = true := fun q hq => hs q (List.mem_of_mem_drop (List.mem_of_mem_take hq))
            have hss : s = sz := by
              obtain ⟨row, u1, u2⟩ := h5.get (i := 0) (a := y0) rfl
              rw [← (hsub row (List.mem_of_getElem? u1)).1, ← u2.len]
              simpa using (List.all_eq_true.1 hall y0 (by simp))
            subst hss
            refine ⟨(rows.drop off).take (y0 :: ys0).length, ?_, h5, hsub⟩
            have hl' : off + (ys0.length + 1) ≤ rows.length := by simpa using hl
            simp [ha, elems, hg, hl']
      | _ =>
        refine app_ok r (rd := []) h1 h hr (fun ys' ed' hall => ?_) (by simp)
        rw [ed] at ed'; cases ed'
    · cases h
  | appZ sz bytes zero x n =>
    simp only [doOp] at h
    split at h
    · rename_i en e1 e2
      split at h
      · rename_i hz
        cases h
        obtain ⟨z1, z2, z3⟩ := okZero_ok hz
        have hv := sarg_ok r.env x
        rw [e1] at hv
        have ha := hv.inv_nil
        obtain ⟨-, d1⟩ := dat_ok (sarg_ok r.env n) e2
        refine OpD.mkL (c1 := c) (heap1 := S.heap) (rd := []) (Cx.le.refl c) rfl r hr (fun d hd => ?_) (by simp)
        simp only [denL] at hd
        cases ed1 : E.den c.ρ en <;> rw [ed1] at hd d1 <;> try (simp [D.den1] at hd; done)
        rename_i k1 n1
        simp only [D.den1] at hd
        split at hd
        · rename_i hc
          cases hd
          by_cases hn0 : n1 = 0
          · subst hn0
            exact ⟨[], .nilS, [], H.nx, rfl, by simp [evalOp, d1.int, ha], .none rfl (.inl rfl)⟩
          · obtain ⟨rr1, rr2⟩ := rep_row (c := c) (sz := sz) (dp := none) z1 z2 (by rw [← z3]; exact hc.2.2) (Nat.le_refl n1.toNat)
            have hlen : (List.replicate n1.toNat (zeroD zero)).length = n1.toNat := by simp
            refine ⟨_, .own H.nx 0 n1.toNat, [(H.nx, some (.row sz (List.replicate n1.toNat zero)))], H.nx + 1, rfl, ?_, ?_⟩
            · have e3 : arg env n = .int k1 n1 := d1.int
              simp only [evalOp, e3, ha]
              rw [if_pos ⟨hc.1, by rw [← z3]; exact hc.2.2, z2⟩, if_pos hc.2.1]
            · have := Made.fresh (c := c) (H := H) (sz := sz) (dp := none) (xs := List.replicate n1.toNat (zeroD zero)) (rows := List.replicate n1.toNat zero) (by simp) rr1 (by rw [hlen]; exact rr2)
              rwa [hlen] at this
        · cases hd
      · cases h
    · cases h
  | capS x =>
    simp only [doOp] at h
    split at h
    · rename_i e1
      cases h
      have hv := sarg_ok r.env x
      rw [e1] at hv
      exact OpD.plain r (rd := []) hr (by simp [evalOp, hv.inv_nil]) (.e rfl .int rfl) (by simp)
    · cases h
  | isNil neg x =>
    simp only [doOp] at h
    split at h
    · rename_i e1
      cases h
      have hv := sarg_ok r.env x
      rw [e1] at hv
      exact OpD.plain r (rd := []) hr (by simp [evalOp, hv.inv_nil]) (.e rfl .bool rfl) (by simp)
    · cases h
  | mx max xs =>
    simp only [doOp] at h
    split at h
    · rename_i h2
      cases e1 : datL S.env xs with
      | none => rw [e1] at h; cases h
      | some es =>
        rw [e1] at h; cases h
        obtain ⟨-, d1⟩ := datL_ok r.env e1
        refine OpD.emd r (w := fun x => .e x) (rd := []) hr (fun d hd => ?_) (by simp)
        have hl := d1.len
        rw [denL_len] at hl
        match xs, es, h2, hl, d1, hd with
        | x :: y :: xs, e :: e' :: es, _, _, d1, hd =>
          simp only [denL, List.map_cons] at d1
          obtain ⟨b, t, hbt, hb, ht⟩ := F2.inv_cons d1
          simp only [List.cons.injEq] at hbt
          obtain ⟨rfl, rfl⟩ := hbt
          have hd : mxLD max (e.den c.ρ) (e'.den c.ρ :: denL c.ρ es) = some d := hd
          obtain ⟨a', k1, k2⟩ := mxL_ok hd hb ht
          obtain ⟨k, n, rfl⟩ : ∃ k n, d = .int k n := by
            have key : ∀ {ds : List D} {d1 d : D}, (∃ k n, d1 = .int k n) → mxLD max d1 ds = some d → ∃ k n, d = .int k n := by
              intro ds
              induction ds with
              | nil => intro d1 d h1 h; cases h; exact h1
              | cons y ys ih =>
                rintro d1 d ⟨k, n, rfl⟩ h
                cases y <;> simp [mxLD, mxD] at h
                exact ih ⟨_, _, rfl⟩ h
            simp only [mxLD] at hd
            cases q : mxD max (e.den c.ρ) (e'.den c.ρ) with
            | none => rw [q] at hd; cases hd
            | some z =>
              rw [q] at hd
              refine key (d1 := z) ?_ hd
              generalize e.den c.ρ = u at q
              generalize e'.den c.ρ = w at q
              cases u <;> cases w <;> simp [mxD] at q
              exact ⟨_, _, q.symm⟩
          rw [k2.int] at k1
          exact ⟨_, by simp [evalOp, k1]; rfl, fun c' z le hz hu => .e hu (by rw [hz]; exact .int) rfl⟩
    · cases h
  | sl3 sz x lo hi mx => exact sl3_ok r h hr
  | call => simp [doOp] at h
  | callv => simp [doOp] at h
  | clr sz zero x => exact clr_ok r h hr
  | bad => simp [doOp] at h
  | mkM => simp [doOp] at h
  | look => simp [doOp] at h
  | mset => simp [doOp] at h
  | ment => simp [doOp] at h
  | mest => simp [doOp] at h
  | mdel => simp [doOp] at h
  | lenM => simp [doOp] at h
  | mkI t x => cases h; exact OpD.plain r (rd := []) hr rfl .unk (by simp)
  | inv => simp [doOp] at h
  | tas => simp [doOp] at h
  | isNilI => simp [doOp] at h
  | cpy => simp [doOp] at h
  | nck x =>
    have hv := sarg_ok r.env x
    simp only [doOp] at h
    split at h
    · rename_i id j e1
      cases h
      rw [e1] at hv
      obtain ⟨p, y, -, -, ha⟩ := hv.inv_ptr
      exact OpD.plain r (rd := []) hr (a := arg env x) (by simp [evalOp, ha]) hv (by simp)
    · rename_i id i j e1
      cases h
      rw [e1] at hv
      obtain ⟨p, y, k, n, -, -, -, -, -, -, ha⟩ := hv.inv_ptrO
      exact OpD.plain r (rd := []) hr (a := arg env x) (by simp [evalOp, ha]) hv (by simp)
    · rename_i y i j rs e1
      cases h
      rw [e1] at hv
      have hc := hv
      obtain ⟨-, -, xs, k, n, -, -, -, -, hh⟩ := hv.inv_ptrE
      rcases hh with ⟨sz, rows, -, -, ha⟩ | ⟨r', id, off, sz, rows, -, -, -, -, -, -, ha⟩
      · exact OpD.plain r (rd := []) hr (a := arg env x) (by simp [evalOp, ha]) hc (by simp)
      · exact OpD.plain r (rd := []) hr (a := arg env x) (by simp [evalOp, ha]) hc (by simp)
    · cases h
  | strX => simp [doOp] at h
  | bstr => simp [doOp] at h
  | eqS => simp [doOp] at h
  | slA => simp [doOp] at h
  | dfr => simp [doOp] at h
  | pnc => simp [doOp] at h
  | rcv => simp [doOp] at h
end Go.Q
/- Calls of functions that have trees of their own. -/
set_option linter.unusedVariables false
set_option linter.unusedSimpArgs false
namespace Go.Q
open Go.V
variable {c c' : Cx} {S : SS} {env : List AV} {H H' : Heap} {K : List FC} {mk : List Nat}
variable {TT : FuncId → Option IFn} {cb : Cb} {Fs : FuncId → List D → Option D} {ρ' : List D}

/-! Results -/
def RR1 : RS → D → AV → Prop
  | .e, d, t => RD d t ∧ t.one = true
  | .own sz, d, t => (∃ xs rows, d = .list xs ∧ t = .fresh sz rows ∧ (∀ q ∈ rows, q.length = sz ∧ q.all AV.one = true) ∧ F2 (F2 RD) xs rows) ∨ (d = .list [] ∧ (t = .nilS ∨ t = .emp true))
  | .km ks vs, d, t => d = .node [] ∧ t = .mapL ks vs
  | _, _, _ => False
def RRL : List RS → List D → List AV → Prop
  | [], [], [] => True
  | r :: rs, d :: ds, t :: ts => RR1 r d t ∧ RRL rs ds ts
  | _, _, _ => False
def RR2 : RS → D → AV → Prop
  | .node rs, d, t => ∃ ds ts, d = .node ds ∧ t = .agg ts ∧ RRL rs ds ts
  | r, d, t => RR1 r d t
def RRM : List RS → List D → List AV → Prop
  | [], [], [] => True
  | r :: rs, d :: ds, t :: ts => RR2 r d t ∧ RRM rs ds ts
  | _, _, _ => False
def RR : RS → D → AV → Prop
  | .tup rs, d, t => ∃ ds ts, d = .node ds ∧ t = .tup ts ∧ RRM rs ds ts
  | r, d, t => RR2 r d t

/-! Arguments -/
theorem RD.noId {d : D} {a : AV} (h : RD d a) (h1 : a.one = true) : a.noId = true := by
  cases h <;> first | rfl | cases h1 | skip
  rename_i hf
  simp [AV.noId, hf.1, hf.2]
theorem reifyD_noId {v : AV} {n : Nat} (h : v.noId = true) : reifyD H n v = some (v, []) := by
  cases n with
  | zero => simp [reifyD, h]
  | succ n =>
    unfold reifyD
    split
    · cases h
    · cases h
    · cases h
    · cases h
    · simp [h]
theorem reifyW_RD {n : Nat} : ∀ {xs : List D} {as : List AV}, F2 RD xs as → as.all AV.one = true → reifyW (reifyD H n) as = some (as, [])
  | _, _, .nil, _ => rfl
  | _, _, .cons h t, h1 => by
    simp only [List.all_cons, Bool.and_eq_true] at h1
    simp [reifyW, reifyD_noId (h.noId h1.1), reifyW_RD t h1.2]
theorem reifyWW_RD {n : Nat} : ∀ {xs : List (List D)} {as : List (List AV)}, F2 (F2 RD) xs as → (∀ y ∈ as, y.all AV.one = true) → reifyWW (reifyD H n) as = some (as, [])
  | _, _, .nil, _ => rfl
  | _, _, .cons h t, h1 => by
    simp [reifyWW, reifyW_RD h (h1 _ (by simp)), reifyWW_RD t (fun y hy => h1 y (by simp [hy]))]
/-- A list of one's own as an argument. -/
theorem reify_own {n id off s : Nat} {A : Nat → Prop} {xs : List (List D)} {rows : List (List AV)} (hg : hget H id = some (.row s rows)) (hA : A id) (hl : off + xs.length ≤ rows.length) (hs : ∀ y ∈ rows, y.length = s ∧ y.all AV.one = true)
    (hw : ∃ ys rd, reifyWW (reifyD H n) ((rows.drop off).take xs.length) = some (ys, rd) ∧ F2 (F2 RD) xs ys ∧ (∀ y ∈ ys, y.length = s ∧ y.all AV.one = true) ∧ ∀ x ∈ rd, A x) :
    ∃ a' rd, reifyD H (n + 1) (.own id off xs.length) = some (a', rd) ∧ RD (.list xs) a' ∧ a'.one = true ∧ ∀ x ∈ rd, A x := by
  by_cases h0 : xs.length = 0
  · have : xs = [] := by simpa using h0
    subst this
    exact ⟨.emp false, [], by simp [reifyD], .emp, rfl, by simp⟩
  · obtain ⟨ys, rd, g1, g2, g3, g4⟩ := hw
    refine ⟨.lst s ys, id :: rd, ?_, .lst (fun e => h0 (by simp [e])) g3 g2, rfl, fun x hx => ?_⟩
    · unfold reifyD
      split
      · rename_i e
        simp only [AV.own.injEq] at e
        exact absurd e.2.2 h0
      · rename_i i o l hne e
        simp only [AV.own.injEq] at e
        obtain ⟨rfl, rfl, rfl⟩ := e
        rw [hg]
        simp only
        rw [if_pos hl, g1]; rfl
      · rename_i e; cases e
      · rename_i e; cases e
      · rename_i h1 h2 h3 h4 h5; first | exact absurd rfl (h3 _ _ _) | exact absurd rfl (h2 _ _ _)
    · rcases List.mem_cons.1 hx with rfl | hx
      · exact hA
      · exact g4 x hx
mutual
theorem reify_RO {Φ : Frz} {A : Nat → Prop} (hΦ : ∀ x sz rows, Φ x = some (sz, rows) → hget H x = some (.row sz rows)) : ∀ {d : D} {a : AV} (n : Nat), RO Φ A d a → a.one = true → d.shal1 n = true → ∃ a' rd, reifyD H n a = some (a', rd) ∧ RD d a' ∧ a'.one = true ∧ ∀ x ∈ rd, A x
  | d, a, n, .b h, h1, _ => ⟨a, [], reifyD_noId (h.noId h1), h, h1, by simp⟩
  | _, _, 0, .own g1 g2 g3 g4 g5, h1, hs => by simp [D.shal1, D.shal0] at hs
  | .list xs, _, n + 1, .own g1 g2 g3 g4 g5, h1, hs => by
    simp only [D.shal1, D.shal0, Bool.and_eq_true] at hs
    obtain ⟨ys, rd, k1, k2, k3, k4⟩ := reifyWW_RO hΦ n g5 (fun y hy => g4 y (List.mem_of_mem_drop (List.mem_of_mem_take hy))) hs.2
    exact reify_own (hΦ _ _ _ g1) g2 g3 g4 ⟨ys, rd, k1, k2, k3, k4⟩
theorem reifyW_RO {Φ : Frz} {A : Nat → Prop} (hΦ : ∀ x sz rows, Φ x = some (sz, rows) → hget H x = some (.row sz rows)) : ∀ {d : List D} {a : List AV} (n : Nat), F2 (RO Φ A) d a → a.all AV.one = true → d.all (D.shal1 n) = true → ∃ a' rd, reifyW (reifyD H n) a = some (a', rd) ∧ F2 RD d a' ∧ a'.all AV.one = true ∧ ∀ x ∈ rd, A x
  | _, _, n, .nil, _, _ => ⟨[], [], rfl, .nil, rfl, by simp⟩
  | _, _, n, .cons h t, h1, hs => by
    simp only [List.all_cons, Bool.and_eq_true] at h1 hs
    obtain ⟨a', rd, g1, g2, g3, g4⟩ := reify_RO hΦ n h h1.1 hs.1
    obtain ⟨as', rds, k1, k2, k3, k4⟩ := reifyW_RO hΦ n t h1.2 hs.2
    refine ⟨a' :: as', rd ++ rds, by simp [reifyW, g1, k1], .cons g2 k2, by simp [g3, k3], fun x hx => ?_⟩
    rcases List.mem_append.1 hx with hx | hx
    · exact g4 x hx
    · exact k4 x hx
theorem reifyWW_RO {Φ : Frz} {A : Nat → Prop} (hΦ : ∀ x sz rows, Φ x = some (sz, rows) → hget H x = some (.row sz rows)) : ∀ {d : List (List D)} {a : List (List AV)} (n : Nat) {s : Nat}, F2 (F2 (RO Φ A)) d a → (∀ y ∈ a, y.length = s ∧ y.all AV.one = true) → (d.all fun x => x.all (D.shal1 n)) = true →
    ∃ a' rd, reifyWW (reifyD H n) a = some (a', rd) ∧ F2 (F2 RD) d a' ∧ (∀ y ∈ a', y.length = s ∧ y.all AV.one = true) ∧ ∀ x ∈ rd, A x
  | _, _, n, s, .nil, _, _ => ⟨[], [], rfl, .nil, by simp, by simp⟩
  | _, _, n, s, .cons h t, h1, hs => by
    simp only [List.all_cons, Bool.and_eq_true] at hs
    obtain ⟨a', rd, g1, g2, g3, g4⟩ := reifyW_RO hΦ n h (h1 _ (by simp)).2 hs.1
    obtain ⟨as', rds, k1, k2, k3, k4⟩ := reifyWW_RO hΦ n t (fun y hy => h1 y (by simp [hy])) hs.2
    refine ⟨a' :: as', rd ++ rds, by simp [reifyWW, g1, k1], .cons g2 k2, fun y hy => ?_, fun x hx => ?_⟩
    · rcases List.mem_cons.1 hy with rfl | hy
      · exact ⟨by rw [← g2.len, h.len]; exact (h1 _ (by simp)).1, g3⟩
      · exact k3 y hy
    · rcases List.mem_append.1 hx with hx | hx
      · exact g4 x hx
      · exact k4 x hx
end
theorem shal_cell {d : D} (h : d.shal 4 = true) {a : AV} (hr : RO c.Φ (fun _ => True) d a) (h1 : a.one = true) : d.shal1 4 = true := by
  cases d <;> try exact h
  cases hr with
  | b h => cases h; cases h1
/-- One cell as an argument. -/
theorem toE1_ok (r : Rel c S env H K mk) {v : SV} {a : AV} {x : E} (hv : Cv c v a) (hx : toE1 S.heap v = some x) (hsh : isDeep1 S.heap v = true → (x.den c.ρ).shal1 4 = true) :
    x.upto c.ρ.length = true ∧ ∃ a' rd, reifyC H a = some (a', rd) ∧ RD (x.den c.ρ) a' ∧ a'.one = true ∧ (∀ y ∈ rd, c.okr (rts1 S.heap v) y) ∧ (hasOwn1 v = false → rd = []) := by
  cases v <;> simp only [toE1, reduceCtorEq] at hx
  · cases hx
    obtain ⟨h1, h2, h3⟩ := hv.inv_e
    exact ⟨h1, a, [], reifyD_noId (h2.noId h3), h2, h3, by simp, fun _ => rfl⟩
  · cases hx
    obtain ⟨h1, h2, h3⟩ := hv.inv_fz
    obtain ⟨a', rd, g1, g2, g3, g4⟩ := reify_RO (fun x sz rows h => (r.frz x sz rows h).1) 4 h2 h3 (hsh rfl)
    exact ⟨h1, a', rd, g1, g2, g3, g4, fun h => by cases h⟩
  · rename_i id
    obtain ⟨p, hp, ha⟩ := hv.inv_own
    split at hx
    · rename_i s y dp e1
      cases hx
      obtain ⟨p', g1, g2, g3, g4⟩ := r.blk e1
      rw [hp] at g1; cases g1
      obtain ⟨xs, q1, q2, q3, q4, q5⟩ := g3
      refine ⟨q1, ?_⟩
      rw [q2]
      rcases ha with ⟨z, hz, ha⟩ | ⟨hl0, ha⟩
      · obtain ⟨rows, t1, t2, t3, t4⟩ := q5 _ hz
        subst ha
        rw [← q3] at t2 t4
        have hz' : c.okr (rts1 S.heap (.own id)) z := okr_of hp hz (by simp [rts1, g2])
        have hw : ∃ ys rd, reifyWW (reifyD H 3) ((rows.drop p.off).take xs.length) = some (ys, rd) ∧ F2 (F2 RD) xs ys ∧ (∀ y ∈ ys, y.length = s ∧ y.all AV.one = true) ∧ ∀ x ∈ rd, c.okr (rts1 S.heap (.own id)) x := by
          cases dp with
          | none =>
            have hs' : ∀ y ∈ (rows.drop p.off).take xs.length, y.length = s ∧ y.all AV.one = true := fun y hy => t3 y (List.mem_of_mem_drop (List.mem_of_mem_take hy))
            exact ⟨_, [], reifyWW_RD t4 (fun y hy => (hs' y hy).2), t4, hs', by simp⟩
          | some rs =>
            have hsh' := hsh (by simp [isDeep1, e1])
            rw [q2] at hsh'
            simp only [D.shal1, D.shal0, Bool.and_eq_true] at hsh'
            obtain ⟨ys, rd, k1, k2, k3, k4⟩ := reifyWW_RO (A := c.okr rs) (fun x sz rows h => (r.frz x sz rows h).1) 3 t4 (fun y hy => t3 y (List.mem_of_mem_drop (List.mem_of_mem_take hy))) hsh'.2
            refine ⟨ys, rd, k1, k2, k3, fun x hx => ?_⟩
            rcases k4 x hx with h | ⟨s', p', h1, h2, h3⟩
            · exact .inl h
            · exact .inr ⟨s', p', h1, h2, by simp [rts1, e1, h3]⟩
        obtain ⟨a', rd, k1, k2, k3, k4⟩ := reify_own (n := 3) t1 hz' t2 t3 hw
        rw [← q3]
        exact ⟨a', rd, k1, k2, k3, k4, fun h => by cases h⟩
      · have hxs : xs = [] := by rw [hl0] at q3; simpa using q3
        subst hxs
        rcases ha with rfl | rfl
        · exact ⟨.nilS, [], rfl, .nilS, rfl, by simp, fun _ => rfl⟩
        · exact ⟨.emp true, [], rfl, .emp, rfl, by simp, fun _ => rfl⟩
    · cases hx
  · cases hx
    rw [hv.inv_nil]
    exact ⟨rfl, .nilS, [], rfl, .nilS, rfl, by simp, fun _ => rfl⟩
theorem toE1L_ok (r : Rel c S env H K mk) : ∀ {vs : List SV} {as : List AV} {xs : List E}, F2 (Cv c) vs as → toE1L S.heap vs = some xs → ((vs.any (isDeep1 S.heap)) = true → (denL c.ρ xs).all (D.shal1 4) = true) →
    uptoL c.ρ.length xs = true ∧ ∃ as' rd, reifyL H as = some (as', rd) ∧ F2 RD (denL c.ρ xs) as' ∧ as'.all AV.one = true ∧ (∀ y ∈ rd, c.okr (rtsL S.heap vs) y) ∧ (vs.any hasOwn1 = false → rd = [])
  | [], _, xs, h, hx, _ => by cases hx; cases h; exact ⟨rfl, [], [], rfl, .nil, rfl, by simp, fun _ => rfl⟩
  | v :: vs, as, xs, h, hx, hsh => by
    obtain ⟨a, t, rfl, ha, ht⟩ := F2.inv_cons h
    simp only [toE1L] at hx
    split at hx
    · rename_i y ys e1 e2
      cases hx
      have hsh1 : isDeep1 S.heap v = true → (y.den c.ρ).shal1 4 = true := fun hd => by
        have := hsh (by simp [hd])
        simp only [denL, List.all_cons, Bool.and_eq_true] at this
        exact this.1
      have hsh2 : (vs.any (isDeep1 S.heap)) = true → (denL c.ρ ys).all (D.shal1 4) = true := fun hd => by
        have := hsh (by rw [List.any_cons, hd, Bool.or_true])
        simp only [denL, List.all_cons, Bool.and_eq_true] at this
        exact this.2
      obtain ⟨g0, a', rd, g1, g2, g3, g4, g5⟩ := toE1_ok r ha e1 hsh1
      obtain ⟨k0, as', rds, k1, k2, k3, k4, k5⟩ := toE1L_ok r ht e2 hsh2
      refine ⟨by simp [uptoL, g0, k0], a' :: as', rd ++ rds, by simp [reifyL, g1, k1], .cons g2 k2, by simp [g3, k3], fun x hx => ?_, fun h => ?_⟩
      · rcases List.mem_append.1 hx with hx | hx
        · rcases g4 x hx with h | ⟨s, p, h1, h2, h3⟩
          · exact .inl h
          · exact .inr ⟨s, p, h1, h2, by simp [rtsL, h3]⟩
        · rcases k4 x hx with h | ⟨s, p, h1, h2, h3⟩
          · exact .inl h
          · exact .inr ⟨s, p, h1, h2, by simp [rtsL, h3]⟩
      · simp only [List.any_cons, Bool.or_eq_false_iff] at h
        rw [g5 h.1, k5 h.2]; rfl
    · cases hx
theorem plain1_ok {v : SV} {a : AV} {x : E} (hv : Cv c v a) (h : plain1 v = some x) : x.upto c.ρ.length = true ∧ RD (x.den c.ρ) a ∧ a.one = true := by
  cases v <;> simp only [plain1, reduceCtorEq] at h <;> cases h
  · exact hv.inv_e
  · have := hv.inv_nil
    subst this
    exact ⟨rfl, .nilS, rfl⟩
theorem flat1_of {d : D} {a : AV} (h : RD d a) (hf : d.flat0 = true) : a.flat1 = true := by
  cases h <;> first | rfl | cases hf
theorem flat1L_of : ∀ {d : List D} {a : List AV}, F2 RD d a → d.all D.flat0 = true → a.all AV.flat1 = true
  | _, _, .nil, _ => rfl
  | _, _, .cons h t, hf => by
    simp only [List.all_cons, Bool.and_eq_true] at hf ⊢
    exact ⟨flat1_of h hf.1, flat1L_of t hf.2⟩
theorem flat_of {d : D} {a : AV} (h : RD d a) (hf : d.flat = true) : a.flat = true := by
  cases h <;> first | rfl | (cases hf; done) | skip
  rename_i ds as h
  exact flat1L_of h hf
theorem plainLL_ok : ∀ {vs : List SV} {as : List AV} {xs : List E}, F2 (Cv c) vs as → plainLL vs = some xs → uptoL c.ρ.length xs = true ∧ F2 RD (denL c.ρ xs) as
  | [], _, xs, h, hx => by cases hx; cases h; exact ⟨rfl, .nil⟩
  | v :: vs, as, xs, h, hx => by
    obtain ⟨a, t, rfl, ha, ht⟩ := F2.inv_cons h
    unfold plainLL at hx
    split at hx
    · rename_i e; cases e
    · rename_i cs vs' e
      simp only [List.cons.injEq] at e
      obtain ⟨rfl, rfl⟩ := e
      split at hx
      · rename_i y ys e1 e2
        cases hx
        obtain ⟨bs, rfl, h1, h2⟩ := ha.inv_agg
        obtain ⟨g1, g2⟩ := plainL_ok h1 e1
        obtain ⟨k1, k2⟩ := plainLL_ok ht e2
        exact ⟨by simp [uptoL, E.upto, g1, k1], .cons (.node g2) k2⟩
      · cases hx
    · rename_i v' vs' hne e
      simp only [List.cons.injEq] at e
      obtain ⟨rfl, rfl⟩ := e
      split at hx
      · rename_i y ys e1 e2
        cases hx
        obtain ⟨g1, g2, -⟩ := plain1_ok ha e1
        obtain ⟨k1, k2⟩ := plainLL_ok ht e2
        exact ⟨by simp [uptoL, g1, k1], .cons g2 k2⟩
      · cases hx
theorem flatLL_of : ∀ {d : List D} {a : List AV}, F2 RD d a → (∀ x ∈ d, x.flat = true) → a.all AV.flat = true
  | _, _, .nil, _ => rfl
  | _, _, .cons h t, hf => by
    simp only [List.all_cons, Bool.and_eq_true]
    exact ⟨flat_of h (hf _ (by simp)), flatLL_of t fun x hx => hf x (by simp [hx])⟩
theorem mem_denL {ρ : List D} {xs : List E} {d : D} (h : d ∈ denL ρ xs) : ∃ x ∈ xs, d = x.den ρ := by
  obtain ⟨i, hi, e⟩ := List.getElem_of_mem h
  have h1 : (denL ρ xs)[i]? = some d := by rw [List.getElem?_eq_getElem hi, e]
  rw [denL_get] at h1
  cases e2 : xs[i]? with
  | none => rw [e2] at h1; cases h1
  | some x => rw [e2] at h1; cases h1; exact ⟨x, List.mem_of_getElem? e2, rfl⟩
theorem toE_ok (r : Rel c S env H K mk) {v : SV} {a : AV} {x : E} (hv : Cv c v a) (hx : toE S.heap v = some x) (hsh : isDeep S.heap v = true → (x.den c.ρ).shal 4 = true) (hpre : ∀ y ∈ preOf [x], (y.den c.ρ).flat = true) :
    x.upto c.ρ.length = true ∧ ∃ a' rd, reify H a = some (a', rd) ∧ RD (x.den c.ρ) a' ∧ (∀ y ∈ rd, c.okr (rtsV S.heap v) y) ∧ (hasOwn v = false → rd = []) := by
  by_cases hagg : ∃ cs, v = .agg cs
  · obtain ⟨cs, rfl⟩ := hagg
    obtain ⟨as, rfl, h1, h2⟩ := hv.inv_agg
    simp only [toE] at hx
    cases e1 : toE1L S.heap cs with
    | none => rw [e1] at hx; cases hx
    | some xs =>
      rw [e1] at hx; cases hx
      obtain ⟨g0, as', rd, g1, g2, g3, g4, g5⟩ := toE1L_ok r h1 e1 (fun hd => by
        have := hsh hd
        simpa [E.den, D.shal] using this)
      exact ⟨g0, .agg as', rd, by simp [reify, g1], .node g2, g4, g5⟩
  · by_cases hfn : ∃ f p q, v = .fn f p q
    · obtain ⟨f, p, q, rfl⟩ := hfn
      obtain ⟨as, bs, rfl, h1, h2⟩ := hv.inv_fn
      simp only [toE] at hx
      split at hx
      · rename_i e1 e2 p1 p2
        cases hx
        obtain ⟨g1, g2⟩ := plainLL_ok h1 p1
        obtain ⟨k1, k2⟩ := plainLL_ok h2 p2
        have hf1 : as.all AV.flat = true := flatLL_of g2 fun d hd => by
          obtain ⟨y, hy, rfl⟩ := mem_denL hd; exact hpre y (by simp [preOf, hy])
        have hf2 : bs.all AV.flat = true := flatLL_of k2 fun d hd => by
          obtain ⟨y, hy, rfl⟩ := mem_denL hd; exact hpre y (by simp [preOf, hy])
        exact ⟨by simp [E.upto, g1, k1], _, [], reifyD_noId (by simp [AV.noId, hf1, hf2]), .fn g2 k2 ⟨hf1, hf2⟩, by simp, fun _ => rfl⟩
      · cases hx
    · have hx' : toE1 S.heap v = some x := by cases v <;> first | exact hx | exact absurd ⟨_, rfl⟩ hagg | exact absurd ⟨_, _, _, rfl⟩ hfn
      have e1 : isDeep S.heap v = isDeep1 S.heap v := by cases v <;> first | rfl | exact absurd ⟨_, rfl⟩ hagg
      have e2 : rtsV S.heap v = rts1 S.heap v := by cases v <;> first | rfl | exact absurd ⟨_, rfl⟩ hagg
      have e3 : hasOwn v = hasOwn1 v := by cases v <;> first | rfl | exact absurd ⟨_, rfl⟩ hagg
      have ha : ∀ cs, a ≠ .agg cs := fun cs e => by
        subst e
        cases hv <;> first | exact hagg ⟨_, rfl⟩ | (simp [toE1] at hx'; done) | simp_all [AV.one]
      have hre : reify H a = reifyC H a := by cases a <;> first | rfl | exact absurd rfl (ha _)
      have hsh' : isDeep1 S.heap v = true → (x.den c.ρ).shal1 4 = true := fun hd => by
        have h4 := hsh (by rw [e1]; exact hd)
        cases hdx : x.den c.ρ <;> rw [hdx] at h4 <;> try exact h4
        -- a cell is no node
        rename_i ds
        exfalso
        cases v <;> simp only [toE1, reduceCtorEq] at hx' <;> simp only [isDeep1, Bool.false_eq_true, reduceCtorEq] at hd
        · cases hx'
          obtain ⟨-, q2, q3⟩ := hv.inv_fz
          rw [hdx] at q2
          cases q2 with
          | b h => cases h; cases q3
        · split at hx'
          · rename_i id s y dp e5
            cases hx'
            obtain ⟨p', g1, g2, g3, g4⟩ := r.blk e5
            obtain ⟨xs, q1, q2, -⟩ := g3
            rw [hdx] at q2; cases q2
          · cases hx'
      rw [e2, e3, hre]
      obtain ⟨g0, a', rd, g1, g2, g3, g4, g5⟩ := toE1_ok r hv hx' hsh'
      exact ⟨g0, a', rd, g1, g2, g4, g5⟩
end Go.Q
/- Calls of functions that have trees of their own: results. -/
set_option linter.unusedVariables false
set_option linter.unusedSimpArgs false
namespace Go.Q
open Go.V
variable {c c' : Cx} {S : SS} {env : List AV} {H H' : Heap} {K : List FC} {mk : List Nat}
variable {TT : FuncId → Option IFn} {cb : Cb} {Fs : FuncId → List D → Option D} {Sh : Shp} {ρ' : List D}

/-- What a result that is taken over brings. -/
def Att (c : Cx) (S : SS) (env : List AV) (H : Heap) (K : List FC) (mk : List Nat) (heap' : List HB) (wr : Wr) (nx : Nat) (P : Cx → Prop) : Prop :=
  ∃ c', c.le c' ∧ c'.ρ = c.ρ ∧ Rel c' { S with heap := heap' } env (wrH H wr nx) K mk ∧ P c' ∧ H.nx ≤ nx ∧ S.heap.length ≤ heap'.length ∧
    ∀ y ∈ wr.map (·.1), ¬ c.F0 y ∧ ∃ s p, c'.ψ s = some p ∧ p.idc = some y ∧ S.heap.length ≤ p.rt ∧ p.rt < heap'.length
theorem wrH_comp (H : Heap) (a b : Wr) (n m : Nat) (h : H.nx ≤ n) (h' : n ≤ m) : wrH (wrH H a n) b m = wrH H (a ++ b) m ∧ (wrH H a n).nx = n := by
  have : max H.nx n = n := Nat.max_eq_right h
  refine ⟨?_, by simp [wrH, this]⟩
  simp only [wrH, wrL, List.foldl_append, this, Nat.max_eq_right h', Nat.max_eq_right (Nat.le_trans h h')]
theorem Att.none (r : Rel c S env H K mk) {P : Cx → Prop} (h : P c) : Att c S env H K mk S.heap [] H.nx P :=
  ⟨c, Cx.le.refl c, rfl, by rw [wrH_nil]; exact r, h, Nat.le_refl _, Nat.le_refl _, by simp⟩
theorem Att.bind {h1 h2 : List HB} {w1 w2 : Wr} {n1 n2 : Nat} {P Q : Cx → Prop} (h : Att c S env H K mk h1 w1 n1 P)
    (k : ∀ c1, c.le c1 → c1.ρ = c.ρ → P c1 → Rel c1 { S with heap := h1 } env (wrH H w1 n1) K mk → Att c1 { S with heap := h1 } env (wrH H w1 n1) K mk h2 w2 n2 Q) : Att c S env H K mk h2 (w1 ++ w2) n2 Q := by
  obtain ⟨c1, le, hρ, r1, hp, hn, hl, hw⟩ := h
  obtain ⟨c2, le2, hρ2, r2, hq, hn2, hl2, hw2⟩ := k c1 le hρ hp r1
  have hnx : (wrH H w1 n1).nx = n1 := by simp [wrH]; omega
  rw [hnx] at hn2
  obtain ⟨e1, -⟩ := wrH_comp H w1 w2 n1 n2 hn hn2
  rw [e1] at r2
  refine ⟨c2, le.trans le2, hρ2.trans hρ, r2, hq, by omega, by simp at hl2; omega, fun y hy => ?_⟩
  rw [List.map_append] at hy
  rcases List.mem_append.1 hy with hy | hy
  · obtain ⟨q1, s, p, q2, q3, q4, q5⟩ := hw y hy
    exact ⟨q1, s, p, le2.ψ _ _ q2, q3, q4, by simp at hl2; omega⟩
  · obtain ⟨q1, s, p, q2, q3, q4, q5⟩ := hw2 y hy
    exact ⟨by rw [← le.F0]; exact q1, s, p, q2, q3, by simp at q4; omega, q5⟩
theorem RD.notFresh {d : D} {t : AV} (h : RD d t) : ∀ s xs, t ≠ .fresh s xs := by
  intro s xs e; subst e; cases h
theorem attachC_RD {d : D} {t : AV} (h : RD d t) (nx : Nat) : attachC nx t = (t, [], nx) := by
  cases h <;> rfl
theorem att1 (r : Rel c S env H K mk) {rs : RS} {d : D} {t : AV} {x : E} (h : RR1 rs d t) (hx : x.den c.ρ = d) (hu : x.upto c.ρ.length = true) :
    Att c S env H K mk (fromR1 x S.heap rs).2 (attachC H.nx t).2.1 (attachC H.nx t).2.2 fun c' => Cv c' (fromR1 x S.heap rs).1 (attachC H.nx t).1 ∧ (attachC H.nx t).1.one = true := by
  cases rs with
  | e =>
    obtain ⟨h1, h2⟩ := h
    rw [attachC_RD h1]
    exact Att.none r ⟨.e hu (by rw [hx]; exact h1) h2, h2⟩
  | own sz =>
    obtain ⟨f1, f2, f3⟩ := r.fresh
    rcases h with ⟨xs, rows, rfl, rfl, hs, h⟩ | ⟨rfl, ht⟩
    · have r2 := r.alloc (some (.row sz rows))
      let q : Pl := ⟨some H.nx, 0, rows.length, S.heap.length⟩
      have r3 := r2.add q (.list sz x none) (fun x hx => by
        cases hx
        exact ⟨by simp [wrH], f2, fun i q b' _ hq => f1 i q hq, fun i q hq hq' => absurd hq' (f1 i q hq)⟩)
        ⟨xs, hu, hx, h.len, fun hh => (by cases hh), fun y hy => (by
          cases hy
          exact ⟨rows, by rw [hget_wr1]; simp, by simp [q], hs, by have h' : F2 (F2 (Rk c none)) xs rows := h; simpa [q] using h'⟩)⟩
      have le3 := r2.le_add q
      refine ⟨_, le3, rfl, r3, ⟨.own (p := q) (by simp [Cx.add, fromR1]) rfl, rfl⟩, by simp [attachC], by simp [fromR1, hnew], fun y hy => ?_⟩
      simp only [attachC, List.map_cons, List.map_nil, List.mem_singleton] at hy
      subst hy
      exact ⟨f3, S.heap.length, q, by simp [Cx.add], rfl, by simp [q], by simp [q, fromR1, hnew]⟩
    · let q : Pl := ⟨none, 0, 0, S.heap.length⟩
      have r3 := r.add q (.list sz x none) (fun x hx => by cases hx) ⟨[], hu, hx, rfl, fun _ => rfl, fun y hy => (by cases hy)⟩
      have le3 := r.le_add q
      have e : attachC H.nx t = (t, [], H.nx) := by rcases ht with rfl | rfl <;> rfl
      rw [e]
      exact ⟨_, le3, rfl, by rw [wrH_nil]; exact r3, ⟨.ownE (p := q) (by simp [Cx.add, fromR1]) rfl ht, by rcases ht with rfl | rfl <;> rfl⟩, Nat.le_refl _, by simp [fromR1, hnew], by simp⟩
  | km ks vs =>
    obtain ⟨-, rfl⟩ := h
    exact Att.none r ⟨.km, rfl⟩
  | node => exact h.elim
  | tup => exact h.elim
theorem attL {x : E} : ∀ {rs : List RS} {ds : List D} {ts : List AV} {c : Cx} {S : SS} {H : Heap} (j : Nat), Rel c S env H K mk → RRL rs ds ts → (∀ (i : Nat) d, ds[i]? = some d → (mkCell x (j + i)).den c.ρ = d) → x.upto c.ρ.length = true →
    Att c S env H K mk (fromRL x j rs S.heap).2 (attachL H.nx ts).2.1 (attachL H.nx ts).2.2 fun c' => F2 (Cv c') (fromRL x j rs S.heap).1 (attachL H.nx ts).1 ∧ (attachL H.nx ts).1.all AV.one = true
  | [], [], [], c, S, H, j, r, _, _, _ => Att.none r ⟨.nil, rfl⟩
  | rs :: rss, d :: ds, t :: ts, c, S, H, j, r, h, hc, hu => by
    have h0 := hc 0 d rfl
    refine Att.bind (att1 r h.1 h0 (mkCell_upto hu)) fun c1 le hρ hp r1 => ?_
    obtain ⟨hp1, hp2⟩ := hp
    have hnx : (wrH H (attachC H.nx t).2.1 (attachC H.nx t).2.2).nx = (attachC H.nx t).2.2 := by
      have : H.nx ≤ (attachC H.nx t).2.2 := by cases t <;> simp [attachC]
      simp [wrH]; omega
    have ih := attL (S := { S with heap := (fromR1 (mkCell x j) S.heap rs).2 }) (j + 1) r1 h.2 (fun i d' hd => by
      rw [hρ]
      have := hc (i + 1) d' (by simpa using hd)
      rw [show j + 1 + i = j + (i + 1) by omega]; exact this) (le.upto hu)
    rw [hnx] at ih
    obtain ⟨c2, le2, hρ2, r2, ⟨k1, k2⟩, k3⟩ := ih
    exact ⟨c2, le2, hρ2, r2, ⟨.cons (Cv.mono le2 hp1) k1, by simp only [attachL, List.all_cons, hp2, k2, Bool.and_self]⟩, k3⟩
theorem RRL_len : ∀ {rs : List RS} {ds : List D} {ts : List AV}, RRL rs ds ts → ts.length = ds.length
  | [], [], [], _ => rfl
  | _ :: _, _ :: _, _ :: _, h => by simp [RRL_len h.2]
theorem att2 (r : Rel c S env H K mk) {rs : RS} {d : D} {t : AV} {x : E} (h : RR2 rs d t) (hx : x.den c.ρ = d) (hu : x.upto c.ρ.length = true) :
    Att c S env H K mk (fromR2 x S.heap rs).2 (attach1 H.nx t).2.1 (attach1 H.nx t).2.2 fun c' => Cv c' (fromR2 x S.heap rs).1 (attach1 H.nx t).1 := by
  by_cases hn : ∃ l, rs = .node l
  · obtain ⟨l, rfl⟩ := hn
    obtain ⟨ds, ts, rfl, rfl, h⟩ := h
    obtain ⟨c2, le2, hρ2, r2, ⟨k1, k2⟩, k3⟩ := attL (x := x) 0 r h (fun i d' hd => by rw [mkCell_den, hx]; simp [D.cells, List.getD_eq_getElem?_getD, hd]) hu
    exact ⟨c2, le2, hρ2, r2, .agg k1 k2, k3⟩
  · have h' : RR1 rs d t := by cases rs <;> first | exact h | exact absurd ⟨_, rfl⟩ hn
    have e1 : fromR2 x S.heap rs = fromR1 x S.heap rs := by cases rs <;> first | rfl | exact absurd ⟨_, rfl⟩ hn
    have e2 : attach1 H.nx t = attachC H.nx t := by
      cases t <;> first | rfl | skip
      exfalso
      cases rs <;> simp only [RR1] at h'
      · obtain ⟨h1, h2⟩ := h'; cases h2
      · rcases h' with ⟨xs, rows, -, e, -⟩ | ⟨-, e | e⟩ <;> cases e
      · cases h'.2
    rw [e1, e2]
    obtain ⟨c2, le2, hρ2, r2, ⟨k1, k2⟩, k3⟩ := att1 r h' hx hu
    exact ⟨c2, le2, hρ2, r2, k1, k3⟩
theorem attach1_nx (nx : Nat) (t : AV) : nx ≤ (attach1 nx t).2.2 := by
  have hC : ∀ nx (t : AV), nx ≤ (attachC nx t).2.2 := fun nx t => by cases t <;> simp [attachC]
  have hL : ∀ (ts : List AV) nx, nx ≤ (attachL nx ts).2.2 := fun ts => by
    induction ts with
    | nil => intro nx; exact Nat.le_refl _
    | cons t ts ih => intro nx; exact Nat.le_trans (hC nx t) (ih _)
  cases t <;> first | exact hC nx _ | exact hL _ nx
theorem attM {x : E} : ∀ {rs : List RS} {ds : List D} {ts : List AV} {c : Cx} {S : SS} {H : Heap} (j : Nat), Rel c S env H K mk → RRM rs ds ts → (∀ (i : Nat) d, ds[i]? = some d → (mkCell x (j + i)).den c.ρ = d) → x.upto c.ρ.length = true →
    Att c S env H K mk (fromRM x j rs S.heap).2 (attachM H.nx ts).2.1 (attachM H.nx ts).2.2 fun c' => F2 (Cv c') (fromRM x j rs S.heap).1 (attachM H.nx ts).1
  | [], [], [], c, S, H, j, r, _, _, _ => Att.none r .nil
  | rs :: rss, d :: ds, t :: ts, c, S, H, j, r, h, hc, hu => by
    have h0 := hc 0 d rfl
    refine Att.bind (att2 r h.1 h0 (mkCell_upto hu)) fun c1 le hρ hp r1 => ?_
    have hnx : (wrH H (attach1 H.nx t).2.1 (attach1 H.nx t).2.2).nx = (attach1 H.nx t).2.2 := by
      have := attach1_nx H.nx t
      simp [wrH]; omega
    have ih := attM (S := { S with heap := (fromR2 (mkCell x j) S.heap rs).2 }) (j + 1) r1 h.2 (fun i d' hd => by
      rw [hρ]
      have := hc (i + 1) d' (by simpa using hd)
      rw [show j + 1 + i = j + (i + 1) by omega]; exact this) (le.upto hu)
    rw [hnx] at ih
    obtain ⟨c2, le2, hρ2, r2, k1, k3⟩ := ih
    exact ⟨c2, le2, hρ2, r2, .cons (Cv.mono le2 hp) k1, k3⟩
theorem attR (r : Rel c S env H K mk) {rs : RS} {d : D} {t : AV} {x : E} (h : RR rs d t) (hx : x.den c.ρ = d) (hu : x.upto c.ρ.length = true) :
    Att c S env H K mk (fromR x S.heap rs).2 (attach H.nx t).2.1 (attach H.nx t).2.2 fun c' => Cv c' (fromR x S.heap rs).1 (attach H.nx t).1 := by
  by_cases hn : ∃ l, rs = .tup l
  · obtain ⟨l, rfl⟩ := hn
    obtain ⟨ds, ts, rfl, rfl, h⟩ := h
    obtain ⟨c2, le2, hρ2, r2, k1, k3⟩ := attM (x := x) 0 r h (fun i d' hd => by rw [mkCell_den, hx]; simp [D.cells, List.getD_eq_getElem?_getD, hd]) hu
    exact ⟨c2, le2, hρ2, r2, .tup k1, k3⟩
  · have h' : RR2 rs d t := by cases rs <;> first | exact h | exact absurd ⟨_, rfl⟩ hn
    have e1 : fromR x S.heap rs = fromR2 x S.heap rs := by cases rs <;> first | rfl | exact absurd ⟨_, rfl⟩ hn
    have e2 : attach H.nx t = attach1 H.nx t := by
      cases t <;> first | rfl | skip
      exfalso
      cases rs with
      | e => obtain ⟨h1, h2⟩ := h'; cases h1
      | own sz => rcases h' with ⟨xs, rows, -, e, -⟩ | ⟨-, e | e⟩ <;> cases e
      | km => cases h'.2
      | node l => obtain ⟨ds, ts, -, e, -⟩ := h'; cases e
      | tup l => exact hn ⟨_, rfl⟩
    rw [e1, e2]
    exact att2 r h' hx hu

/-! Results that hold nothing that the arguments held -/
theorem lst0_RD {d : D} {a : AV} (h : RD d a) (hf : d.flat = true) (h1 : a.one = true) : a.hasLst0 = false := by
  cases h <;> first | rfl | (cases hf; done)
theorem lst_cell {d : D} {a : AV} (h : RD d a) (hf : d.shal1 0 = true) : ∀ cs, hasLstL (a :: cs) = hasLstL cs := by
  intro cs
  cases h <;> first | rfl | (simp [D.shal1, D.shal0] at hf; done)
theorem lst_row : ∀ {ds : List D} {as : List AV}, F2 RD ds as → ds.all (D.shal1 0) = true → hasLstL as = false
  | _, _, .nil, _ => rfl
  | _, _, .cons h t, hf => by
    simp only [List.all_cons, Bool.and_eq_true] at hf
    rw [lst_cell h hf.1]; exact lst_row t hf.2
theorem lst1 {ρ : List D} {rs : RS} {d : D} {t : AV} {x : E} (h : RR1 rs d t) (hx : x.den ρ = d) (hf : ∀ y ∈ flats1 x rs, (y.den ρ).flat = true) (ho : ∀ y ∈ owns1 x rs, (y.den ρ).shal 1 = true) : t.hasLst0 = false := by
  cases rs with
  | e => exact lst0_RD h.1 (by rw [← hx]; exact hf x (by simp [flats1])) h.2
  | own sz =>
    rcases h with ⟨xs, rows, rfl, rfl, hs, h⟩ | ⟨rfl, rfl | rfl⟩ <;> try rfl
    have h1 := ho x (by simp [owns1])
    rw [hx] at h1
    simp only [D.shal, D.shal1, D.shal0, Bool.and_eq_true] at h1
    simp only [AV.hasLst0, List.any_eq_false]
    intro row hrow
    obtain ⟨i, hi, e⟩ := List.getElem_of_mem hrow
    obtain ⟨dx, q1, q2⟩ := h.getr (i := i) (b := row) (by rw [List.getElem?_eq_getElem hi, e])
    simp [lst_row q2 (List.all_eq_true.1 h1.2 dx (List.mem_of_getElem? q1))]
  | km ks vs =>
    have := hf (.c (.list [])) (by simp [flats1])
    simp [E.den, D.flat, D.flat0] at this
  | node => exact h.elim
  | tup => exact h.elim
theorem lstL {ρ : List D} {x : E} : ∀ {rs : List RS} {ds : List D} {ts : List AV} (j : Nat), RRL rs ds ts → (∀ (i : Nat) d, ds[i]? = some d → (mkCell x (j + i)).den ρ = d) → (∀ y ∈ flatsL x j rs, (y.den ρ).flat = true) → (∀ y ∈ ownsL x j rs, (y.den ρ).shal 1 = true) → ts.any AV.hasLst0 = false
  | [], [], [], j, _, _, _, _ => rfl
  | r :: rs, d :: ds, t :: ts, j, h, hc, hf, ho => by
    rw [List.any_cons, lst1 (x := mkCell x j) h.1 (hc 0 d rfl) (fun y hy => hf y (by simp [flatsL, hy])) (fun y hy => ho y (by simp [ownsL, hy])), Bool.false_or]
    exact lstL (j + 1) h.2 (fun i d' hd => by rw [show j + 1 + i = j + (i + 1) by omega]; exact hc (i + 1) d' (by simpa using hd)) (fun y hy => hf y (by simp [flatsL, hy])) (fun y hy => ho y (by simp [ownsL, hy]))
theorem lst2 {ρ : List D} {rs : RS} {d : D} {t : AV} {x : E} (h : RR2 rs d t) (hx : x.den ρ = d) (hf : ∀ y ∈ flats2 x rs, (y.den ρ).flat = true) (ho : ∀ y ∈ owns2 x rs, (y.den ρ).shal 1 = true) : t.hasLst1 = false := by
  by_cases hn : ∃ l, rs = .node l
  · obtain ⟨l, rfl⟩ := hn
    obtain ⟨ds, ts, rfl, rfl, h⟩ := h
    exact lstL 0 h (fun i d' hd => by rw [mkCell_den, hx]; simp [D.cells, List.getD_eq_getElem?_getD, hd]) hf ho
  · have h' : RR1 rs d t := by cases rs <;> first | exact h | exact absurd ⟨_, rfl⟩ hn
    have := lst1 h' hx (by cases rs <;> first | exact hf | exact absurd ⟨_, rfl⟩ hn) (by cases rs <;> first | exact ho | exact absurd ⟨_, rfl⟩ hn)
    cases t <;> first | exact this | skip
    cases rs <;> simp only [RR1] at h'
    · obtain ⟨h1, h2⟩ := h'; cases h2
    · rcases h' with ⟨xs, rows, -, e, -⟩ | ⟨-, e | e⟩ <;> cases e
    · cases h'.2
theorem lstM {ρ : List D} {x : E} : ∀ {rs : List RS} {ds : List D} {ts : List AV} (j : Nat), RRM rs ds ts → (∀ (i : Nat) d, ds[i]? = some d → (mkCell x (j + i)).den ρ = d) → (∀ y ∈ flatsM x j rs, (y.den ρ).flat = true) → (∀ y ∈ ownsM x j rs, (y.den ρ).shal 1 = true) → ts.any AV.hasLst1 = false
  | [], [], [], j, _, _, _, _ => rfl
  | r :: rs, d :: ds, t :: ts, j, h, hc, hf, ho => by
    rw [List.any_cons, lst2 (x := mkCell x j) h.1 (hc 0 d rfl) (fun y hy => hf y (by simp [flatsM, hy])) (fun y hy => ho y (by simp [ownsM, hy])), Bool.false_or]
    exact lstM (j + 1) h.2 (fun i d' hd => by rw [show j + 1 + i = j + (i + 1) by omega]; exact hc (i + 1) d' (by simpa using hd)) (fun y hy => hf y (by simp [flatsM, hy])) (fun y hy => ho y (by simp [ownsM, hy]))
theorem lstR {ρ : List D} {rs : RS} {d : D} {t : AV} {x : E} (h : RR rs d t) (hx : x.den ρ = d) (hf : ∀ y ∈ flatsR x rs, (y.den ρ).flat = true) (ho : ∀ y ∈ ownsR x rs, (y.den ρ).shal 1 = true) : t.hasLst = false := by
  by_cases hn : ∃ l, rs = .tup l
  · obtain ⟨l, rfl⟩ := hn
    obtain ⟨ds, ts, rfl, rfl, h⟩ := h
    exact lstM 0 h (fun i d' hd => by rw [mkCell_den, hx]; simp [D.cells, List.getD_eq_getElem?_getD, hd]) hf ho
  · have h' : RR2 rs d t := by cases rs <;> first | exact h | exact absurd ⟨_, rfl⟩ hn
    have := lst2 h' hx (by cases rs <;> first | exact hf | exact absurd ⟨_, rfl⟩ hn) (by cases rs <;> first | exact ho | exact absurd ⟨_, rfl⟩ hn)
    cases t <;> first | exact this | skip
    cases rs with
    | e => obtain ⟨h1, h2⟩ := h'; cases h1
    | own sz => rcases h' with ⟨xs, rows, -, e, -⟩ | ⟨-, e | e⟩ <;> cases e
    | km => cases h'.2
    | node l => obtain ⟨ds, ts, -, e, -⟩ := h'; cases e
    | tup l => exact absurd ⟨_, rfl⟩ hn

/-! The call -/
theorem preOf_cons (x : E) (xs : List E) : preOf (x :: xs) = preOf [x] ++ preOf xs := by cases x <;> simp [preOf]
theorem toEL_ok (r : Rel c S env H K mk) : ∀ {vs : List SV} {as : List AV} {xs : List E}, F2 (Cv c) vs as → toEL S.heap vs = some xs → (∀ x ∈ shalOf S.heap vs xs, (x.den c.ρ).shal 4 = true) → (∀ y ∈ preOf xs, (y.den c.ρ).flat = true) →
    uptoL c.ρ.length xs = true ∧ ∃ as' rd, reifyArgs H as = some (as', rd) ∧ F2 RD (denL c.ρ xs) as' ∧ (∀ y ∈ rd, c.okr (rtsVL S.heap vs) y) ∧ (vs.any hasOwn = false → rd = [])
  | [], _, xs, h, hx, _, _ => by cases hx; cases h; exact ⟨rfl, [], [], rfl, .nil, by simp, fun _ => rfl⟩
  | v :: vs, as, xs, h, hx, hsh, hpre => by
    obtain ⟨a, t, rfl, ha, ht⟩ := F2.inv_cons h
    simp only [toEL] at hx
    split at hx
    · rename_i y ys e1 e2
      cases hx
      rw [preOf_cons] at hpre
      obtain ⟨g0, a', rd, g1, g2, g4, g5⟩ := toE_ok r ha e1 (fun hd => hsh y (by simp [shalOf, hd])) (fun z hz => hpre z (by simp [hz]))
      obtain ⟨k0, as', rds, k1, k2, k4, k5⟩ := toEL_ok r ht e2 (fun z hz => hsh z (by
        simp only [shalOf]; split
        · simp [hz]
        · exact hz)) (fun z hz => hpre z (by simp [hz]))
      refine ⟨by simp [uptoL, g0, k0], a' :: as', rd ++ rds, by simp [reifyArgs, g1, k1], .cons g2 k2, fun x hx => ?_, fun h => ?_⟩
      · rcases List.mem_append.1 hx with hx | hx
        · rcases g4 x hx with h | ⟨s, p, h1, h2, h3⟩
          · exact .inl h
          · exact .inr ⟨s, p, h1, h2, by simp [rtsVL, h3]⟩
        · rcases k4 x hx with h | ⟨s, p, h1, h2, h3⟩
          · exact .inl h
          · exact .inr ⟨s, p, h1, h2, by simp [rtsVL, h3]⟩
      · simp only [List.any_cons, Bool.or_eq_false_iff] at h
        rw [g5 h.1, k5 h.2]; rfl
    · cases hx
/-- What is known of the functions that are called. -/
def Knows (TT : FuncId → Option IFn) (cb : Cb) (Fs : FuncId → List D → Option D) (Sh : Shp) : Prop :=
  ∀ f ds d args, Fs f ds = some d → F2 RD ds args → (∀ fn, TT f = some fn → fn.byref = false) ∧ (TT f).isSome = true ∧ ∃ t H' rs, cb (.pu f) args noH = some (t, H') ∧ Sh f = some rs ∧ RR rs d t
/-- What a call does. -/
def CallD (TT : FuncId → Option IFn) (cb : Cb) (c : Cx) (S : SS) (env : List AV) (H : Heap) (K : List FC) (mk : List Nat) (f : FuncId) (as : List AV) (ef : Ef) (ρ' : List D) : Prop :=
  ∃ v rd wr nx c', callOp TT cb f as H H.nx = some (.eff v rd wr nx) ∧ c.le c' ∧ c'.ρ = ρ' ∧ Rel c' { S with heap := ef.heap, n := emN ef.em S.n } env (wrH H wr nx) K mk ∧ Cv c' ef.v v ∧
    (∀ x ∈ rd, c'.okr ef.rd x) ∧ ∀ x ∈ wr.map (·.1), ¬ c.F0 x ∧ ∃ s p, c'.ψ s = some p ∧ p.idc = some x ∧ p.rt ∈ ef.wr
theorem callPu_ok (hk : Knows TT cb Fs Sh) (r : Rel c S env H K mk) {f : FuncId} {rs : RS} {args : List SV} {as : List AV} {ef : Ef} (hsh : Sh f = some rs) (h : callPu S f rs args = some ef) (ha : F2 (Cv c) args as) (hr : emR Fs ef.em c.ρ ρ') :
    CallD TT cb c S env H K mk f as ef ρ' := by
  unfold callPu at h
  split at h
  · rename_i es e1
    simp only [Option.some.injEq] at h
    subst h
    obtain ⟨h1, h2, d, h3, h4, h5, h6⟩ := hr
    obtain ⟨g0, as', rd, g1, g2, g3, g4⟩ := toEL_ok r ha e1 h1 h2
    obtain ⟨k1, k2, t, H', rs', k3, k4, k5⟩ := hk f _ d as' h3 g2
    rw [hsh] at k4; cases k4
    obtain ⟨le, r1⟩ := r.var d
    have hx : (E.v S.n).den (c.ρ ++ [d]) = d := by simp [E.den, r.n]
    have hu : (E.v S.n).upto (c.ρ ++ [d]).length = true := by simp [E.upto, r.n]
    obtain ⟨c2, le2, hρ2, r2, k6, hnx, hl, hw⟩ := attR r1 k5 hx hu
    obtain ⟨fn, hfn⟩ := Option.isSome_iff_exists.1 k2
    have hcond : rd = [] ∨ t.hasLst = false := by
      by_cases ho : args.any hasOwn = true
      · rw [if_pos ho] at h5 h6
        rw [h4] at h5 h6
        exact .inr (lstR k5 hx h5 h6)
      · exact .inl (g4 (by simpa using ho))
    refine ⟨_, rd, _, _, c2, ?_, le.trans le2, by rw [hρ2, h4], r2, k6, fun x hx => (le.trans le2).okr (g3 x hx), fun y hy => ?_⟩
    · simp only [callOp, hfn, k1 fn hfn, g1, k3]
      simp only [Bool.false_eq_true, if_false]
      rw [if_pos hcond]
    · obtain ⟨q1, s, p, q2, q3, q4, q5⟩ := hw y hy
      refine ⟨q1, s, p, q2, q3, ?_⟩
      simp only at q4 q5
      have hmem : (List.range (fromR (E.v S.n) S.heap rs).2.length)[p.rt]? = some p.rt := by rw [List.getElem?_range q5]
      rw [List.mem_iff_getElem?]
      refine ⟨p.rt - S.heap.length, ?_⟩
      rw [List.getElem?_drop, Nat.add_sub_cancel' q4]
      exact hmem
  · cases h
end Go.Q
/- Trees: how they are put together; one step. -/
set_option linter.unusedVariables false
set_option linter.unusedSimpArgs false
namespace Go.Q
open Go.V
variable {c c' : Cx} {S : SS} {env : List AV} {H H' : Heap} {K : List FC} {mk : List Nat}
variable {TT : FuncId → Option IFn} {cb : Cb} {Fs : FuncId → List D → Option D} {Sh : Shp} {ρ ρ' : List D} {m : Nat}

mutual
theorem shift_den (k : Nat) : ∀ (t : T) (ρ : List D), (t.shift k).den m Fs ρ = (t.den m Fs ρ).map fun p => (p.1 + k, p.2)
  | .fail, ρ => rfl
  | .leaf j, ρ => rfl
  | .op p as t, ρ => by
    simp only [T.shift, T.den]
    cases D.den1 p (denL ρ as) with
    | none => rfl
    | some d => exact shift_den k t _
  | .call f as t, ρ => by
    simp only [T.shift, T.den]
    cases Fs f (denL ρ as) with
    | none => rfl
    | some d => exact shift_den k t _
  | .callD g as t, ρ => by
    simp only [T.shift, T.den]
    cases g.den ρ <;> try rfl
    rename_i f a b
    simp only
    cases Fs f (a ++ denL ρ as ++ b) with
    | none => rfl
    | some d => exact shift_den k t _
  | .flat x t, ρ => by
    simp only [T.shift, T.den]
    split
    · exact shift_den k t _
    · rfl
  | .shal n x t, ρ => by
    simp only [T.shift, T.den]
    split
    · exact shift_den k t _
    · rfl
  | .ite x a b, ρ => by
    simp only [T.shift, T.den]
    cases x.den ρ <;> try rfl
    simp only
    split
    · exact shift_den k a _
    · exact shift_den k b _
  | .blk body outs ks, ρ => by
    simp only [T.shift, T.den]
    cases outOf outs (body.den m Fs ρ) with
    | none => rfl
    | some q => exact shiftK_den k ks _ _
  | .loop init body outs ks, ρ => by
    simp only [T.shift, T.den]
    cases iterD (fun vals => outOf outs (body.den m Fs (ρ ++ vals))) m (denL ρ init) with
    | none => rfl
    | some q => exact shiftK_den k ks _ _
theorem shiftK_den (k : Nat) : ∀ (ts : List T) (ρ : List D) (i : Nat), denK m Fs ρ (shiftL k ts) i = (denK m Fs ρ ts i).map fun p => (p.1 + k, p.2)
  | [], ρ, i => rfl
  | t :: ts, ρ, 0 => by simp only [shiftL, denK]; exact shift_den k t ρ
  | t :: ts, ρ, i + 1 => by simp only [shiftL, denK]; exact shiftK_den k ts ρ i
end
/-- The leaf that is come to, gone on from. -/
def goOn (m : Nat) (Fs : FuncId → List D → Option D) (us : List T) : Res → Res
  | some (j, ρ) => (us.getD j .fail).den m Fs ρ
  | none => none
mutual
theorem graft_den (us : List T) : ∀ (t : T) (ρ : List D), (t.graft us).den m Fs ρ = goOn m Fs us (t.den m Fs ρ)
  | .fail, ρ => rfl
  | .leaf j, ρ => rfl
  | .op p as t, ρ => by
    simp only [T.graft, T.den]
    cases D.den1 p (denL ρ as) with
    | none => rfl
    | some d => exact graft_den us t _
  | .call f as t, ρ => by
    simp only [T.graft, T.den]
    cases Fs f (denL ρ as) with
    | none => rfl
    | some d => exact graft_den us t _
  | .callD g as t, ρ => by
    simp only [T.graft, T.den]
    cases g.den ρ <;> try rfl
    rename_i f a b
    simp only
    cases Fs f (a ++ denL ρ as ++ b) with
    | none => rfl
    | some d => exact graft_den us t _
  | .flat x t, ρ => by
    simp only [T.graft, T.den]
    split
    · exact graft_den us t _
    · rfl
  | .shal n x t, ρ => by
    simp only [T.graft, T.den]
    split
    · exact graft_den us t _
    · rfl
  | .ite x a b, ρ => by
    simp only [T.graft, T.den]
    cases x.den ρ <;> try rfl
    simp only
    split
    · exact graft_den us a _
    · exact graft_den us b _
  | .blk body outs ks, ρ => by
    simp only [T.graft, T.den]
    cases outOf outs (body.den m Fs ρ) with
    | none => rfl
    | some q => exact graftK_den us ks _ _
  | .loop init body outs ks, ρ => by
    simp only [T.graft, T.den]
    cases iterD (fun vals => outOf outs (body.den m Fs (ρ ++ vals))) m (denL ρ init) with
    | none => rfl
    | some q => exact graftK_den us ks _ _
theorem graftK_den (us : List T) : ∀ (ts : List T) (ρ : List D) (i : Nat), denK m Fs ρ (graftL us ts) i = goOn m Fs us (denK m Fs ρ ts i)
  | [], ρ, i => rfl
  | t :: ts, ρ, 0 => by simp only [graftL, denK]; exact graft_den us t ρ
  | t :: ts, ρ, i + 1 => by simp only [graftL, denK]; exact graftK_den us ts ρ i
end
/-- A result is come to, with what is known there. -/
def At {α : Type} (m : Nat) (Fs : FuncId → List D → Option D) (r : R α) (ρ : List D) (a : α) (ρ' : List D) : Prop := ∃ j, r.t.den m Fs ρ = some (j, ρ') ∧ r.l[j]? = some a
theorem bindL_ok {α β : Type} {f : α → Option (R β)} : ∀ {as : List α} {k : Nat} {ts : List T} {bs : List β}, bindL f as k = some (ts, bs) → ts.length = as.length ∧
    ∀ {i : Nat} {a : α}, as[i]? = some a → ∃ r off, f a = some r ∧ ts[i]? = some (r.t.shift (k + off)) ∧ ∀ (j : Nat) b, r.l[j]? = some b → bs[off + j]? = some b
  | [], k, ts, bs, h => by cases h; exact ⟨rfl, fun h => by simp at h⟩
  | a0 :: as, k, ts, bs, h => by
    simp only [bindL] at h
    split at h
    · rename_i r e1
      split at h
      · rename_i ts' bs' e2
        cases h
        obtain ⟨g1, g2⟩ := bindL_ok e2
        refine ⟨by simp [g1], fun {i a} hi => ?_⟩
        cases i with
        | zero =>
          cases hi
          exact ⟨r, 0, e1, rfl, fun j b hb => by rw [Nat.zero_add, List.getElem?_append_left (List.getElem?_eq_some_iff.1 hb).1]; exact hb⟩
        | succ i =>
          obtain ⟨r', off, k1, k2, k3⟩ := g2 (i := i) (a := a) (by simpa using hi)
          refine ⟨r', r.l.length + off, k1, by simpa [Nat.add_assoc] using k2, fun j b hb => ?_⟩
          rw [List.getElem?_append_right (by omega), show r.l.length + off + j - r.l.length = off + j by omega]
          exact k3 j b hb
      · cases h
    · cases h
/-- Going on: what is come to, is come to by way of a first result. -/
theorem bind_at {α β : Type} {r : R α} {f : α → Option (R β)} {r' : R β} (h : r.bind f = some r') {j : Nat} (hd : r'.t.den m Fs ρ = some (j, ρ')) (hl : ∀ i ρ1, r.t.den m Fs ρ = some (i, ρ1) → ∃ a, r.l[i]? = some a) :
    ∃ a ρ1 ra, At m Fs r ρ a ρ1 ∧ f a = some ra ∧ ∃ j', ra.t.den m Fs ρ1 = some (j', ρ') ∧ ∀ b, ra.l[j']? = some b → r'.l[j]? = some b := by
  unfold R.bind at h
  split at h
  · rename_i ts bs e1
    cases h
    rw [graft_den] at hd
    cases e2 : r.t.den m Fs ρ with
    | none => rw [e2] at hd; cases hd
    | some q =>
      obtain ⟨i, ρ1⟩ := q
      rw [e2] at hd
      obtain ⟨a, ha⟩ := hl i ρ1 e2
      obtain ⟨-, g2⟩ := bindL_ok e1
      obtain ⟨ra, off, k1, k2, k3⟩ := g2 ha
      simp only [goOn, List.getD_eq_getElem?_getD, k2, Option.getD_some, shift_den] at hd
      cases e3 : ra.t.den m Fs ρ1 with
      | none => rw [e3] at hd; cases hd
      | some q' =>
        obtain ⟨j', ρ2⟩ := q'
        rw [e3] at hd
        simp only [Option.map_some, Option.some.injEq, Prod.mk.injEq] at hd
        obtain ⟨rfl, rfl⟩ := hd
        exact ⟨a, ρ1, ra, ⟨i, e2, ha⟩, k1, j', e3, fun b hb => by rw [Nat.zero_add, Nat.add_comm]; exact k3 j' b hb⟩
  · cases h
/-- All leaves that can be come to are there. -/
def Whole {α : Type} (m : Nat) (Fs : FuncId → List D → Option D) (r : R α) : Prop := ∀ ρ j ρ', r.t.den m Fs ρ = some (j, ρ') → ∃ a, r.l[j]? = some a
theorem flat_add {t : T} {q : Nat × List D} : ∀ {fl : List E}, (addFlat fl t).den m Fs ρ = some q → (∀ x ∈ fl, (x.den ρ).flat = true) ∧ t.den m Fs ρ = some q
  | [], h => ⟨by simp, h⟩
  | x :: xs, h => by
    simp only [addFlat, T.den] at h
    split at h
    · rename_i hx
      obtain ⟨g1, g2⟩ := flat_add (fl := xs) h
      exact ⟨fun y hy => by rcases List.mem_cons.1 hy with rfl | hy; exact hx; exact g1 y hy, g2⟩
    · cases h
theorem shal_add {n : Nat} {t : T} {q : Nat × List D} : ∀ {fl : List E}, (addShal n fl t).den m Fs ρ = some q → (∀ x ∈ fl, (x.den ρ).shal n = true) ∧ t.den m Fs ρ = some q
  | [], h => ⟨by simp, h⟩
  | x :: xs, h => by
    simp only [addShal, T.den] at h
    split at h
    · rename_i hx
      obtain ⟨g1, g2⟩ := shal_add (fl := xs) h
      exact ⟨fun y hy => by rcases List.mem_cons.1 hy with rfl | hy; exact hx; exact g1 y hy, g2⟩
    · cases h
theorem emT_den {em : Em} {t : T} {q : Nat × List D} (h : (emT em t).den m Fs ρ = some q) : ∃ ρ1, emR Fs em ρ ρ1 ∧ t.den m Fs ρ1 = some q := by
  cases em with
  | none => exact ⟨ρ, rfl, h⟩
  | prim p as =>
    simp only [emT, T.den] at h
    cases e : D.den1 p (denL ρ as) with
    | none => rw [e] at h; cases h
    | some d => rw [e] at h; exact ⟨_, ⟨d, e, rfl⟩, h⟩
  | call f as sh pre fl so =>
    obtain ⟨g1, h⟩ := shal_add h
    obtain ⟨g2, h⟩ := flat_add (fl := pre) h
    simp only [T.den] at h
    cases e : Fs f (denL ρ as) with
    | none => rw [e] at h; cases h
    | some d =>
      rw [e] at h
      obtain ⟨g3, h⟩ := flat_add (fl := fl) h
      obtain ⟨g4, h⟩ := shal_add h
      exact ⟨_, ⟨g1, g2, d, e, rfl, g3, g4⟩, h⟩
  | callD g as sh pre fl so =>
    obtain ⟨g1, h⟩ := shal_add h
    obtain ⟨g2, h⟩ := flat_add (fl := pre) h
    simp only [T.den] at h
    cases eg : g.den ρ <;> rw [eg] at h <;> try (cases h; done)
    rename_i f a b
    simp only at h
    cases e : Fs f (a ++ denL ρ as ++ b) with
    | none => rw [e] at h; cases h
    | some d =>
      rw [e] at h
      obtain ⟨g3, h⟩ := flat_add (fl := fl) h
      obtain ⟨g4, h⟩ := shal_add h
      exact ⟨_, ⟨g1, g2, f, a, b, d, eg, e, rfl, g3, g4⟩, h⟩

/-! A function that is data -/
theorem reify_flat1 {a : AV} (h : a.flat1 = true) : reifyC H a = some (a, []) := by
  have : a.noId = true := by cases a <;> first | rfl | cases h
  exact reifyD_noId this
theorem reifyL_flat : ∀ {as : List AV}, as.all AV.flat1 = true → reifyL H as = some (as, [])
  | [], _ => rfl
  | a :: as, h => by
    simp only [List.all_cons, Bool.and_eq_true] at h
    simp [reifyL, reify_flat1 h.1, reifyL_flat h.2]
theorem reify_flat {a : AV} (h : a.flat = true) : reify H a = some (a, []) := by
  cases a <;> try exact reify_flat1 h
  rename_i cs
  simp [reify, reifyL_flat (show cs.all AV.flat1 = true from h)]
theorem reifyArgs_flat : ∀ {as bs : List AV} {bs' : List AV} {rd : List Nat}, as.all AV.flat = true → reifyArgs H bs = some (bs', rd) → reifyArgs H (as ++ bs) = some (as ++ bs', rd)
  | [], bs, bs', rd, _, h => h
  | a :: as, bs, bs', rd, h, h' => by
    simp only [List.all_cons, Bool.and_eq_true] at h
    simp [reifyArgs, reify_flat h.1, reifyArgs_flat h.2 h']
theorem reifyArgs_flatR : ∀ {as bs : List AV} {as' : List AV} {rd : List Nat}, reifyArgs H as = some (as', rd) → bs.all AV.flat = true → reifyArgs H (as ++ bs) = some (as' ++ bs, rd)
  | [], bs, as', rd, h, hb => by
    cases h
    have := reifyArgs_flat (H := H) (as := bs) (bs := []) (bs' := []) (rd := []) hb rfl
    simpa using this
  | a :: as, bs, as', rd, h, hb => by
    simp only [reifyArgs] at h
    split at h
    · rename_i x r1 y r2 e1 e2
      cases h
      simp [reifyArgs, e1, reifyArgs_flatR e2 hb]
    · cases h
theorem callDyn_ok (hk : Knows TT cb Fs Sh) (r : Rel c S env H K mk) {g : E} {args : List SV} {as : List AV} {a : AV} {ef : Ef} (hg : g.upto c.ρ.length = true) (hgr : RD (g.den c.ρ) a) (h : callDyn S g args = some ef) (ha : F2 (Cv c) args as) (hr : emR Fs ef.em c.ρ ρ') : ∃ f first caps, a = .fn f first caps ∧ CallD TT cb c S env H K mk f (first ++ as ++ caps) ef ρ' := by
  unfold callDyn at h
  split at h
  · rename_i es e1
    simp only [Option.some.injEq] at h
    subst h
    obtain ⟨h1, h2, f, d1, d2, d, hgd, h3, h4, h5, h6⟩ := hr
    rw [hgd] at hgr
    cases hgr with
    | fn hf1 hf2 hff =>
    rename_i first caps
    refine ⟨f, first, caps, rfl, ?_⟩
    obtain ⟨g0, as', rd, g1, g2, g3, g4⟩ := toEL_ok r ha e1 h1 h2
    obtain ⟨k1, k2, t, H', rs', k3, k4, k5⟩ := hk f _ d (first ++ as' ++ caps) h3 ((hf1.append g2).append hf2)
    have hfl : d.flat0 = true := by
      have := h5 _ (List.mem_singleton.2 rfl)
      rw [h4] at this
      simpa [E.den, denL, D.flat, r.n] using this
    obtain ⟨le, r1⟩ := r.var d
    have hx : (E.v S.n).den (c.ρ ++ [d]) = d := by simp [E.den, r.n]
    have hu : (E.v S.n).upto (c.ρ ++ [d]).length = true := by simp [E.upto, r.n]
    have k5' : RD d t ∧ t.one = true := by
      cases rs' with
      | e => exact k5
      | own sz => rcases k5 with ⟨xs, rows, rfl, -⟩ | ⟨rfl, -⟩ <;> cases hfl
      | km => obtain ⟨rfl, -⟩ := k5; cases hfl
      | node l => obtain ⟨ds, ts, rfl, -⟩ := k5; cases hfl
      | tup l => obtain ⟨ds, ts, rfl, -⟩ := k5; cases hfl
    obtain ⟨fn, hfn⟩ := Option.isSome_iff_exists.1 k2
    have hre : reifyArgs H (first ++ as ++ caps) = some (first ++ as' ++ caps, rd) := reifyArgs_flatR (reifyArgs_flat hff.1 g1) hff.2
    have hcond : rd = [] ∨ t.hasLst = false := by
      right
      obtain ⟨q1, q2⟩ := k5'
      cases q1 <;> first | rfl | cases hfl | cases q2
    have hat : attach H.nx t = (t, [], H.nx) := by
      obtain ⟨q1, q2⟩ := k5'
      cases q1 <;> first | rfl | cases q2
    refine ⟨t, rd, [], H.nx, _, ?_, le, h4.symm, by rw [wrH_nil]; exact r1, .e hu (by rw [hx]; exact k5'.1) k5'.2, fun x hx => le.okr (g3 x hx), by simp⟩
    simp only [callOp, hfn, k1 fn hfn, hre, k3]
    simp only [Bool.false_eq_true, if_false]
    rw [if_pos hcond, hat]
  · cases h
end Go.Q
/- Places are numbered on. -/
set_option linter.unusedVariables false
set_option linter.unusedSimpArgs false
namespace Go.Q
open Go.V
variable {TT : FuncId → Option IFn} {cb : Cb}

def Cal.isPu : Cal → Bool
  | .pu _ => true
  | _ => false
def CbMono (cb : Cb) : Prop := ∀ cal as H a H', Cal.isPu cal = false → cb cal as H = some (a, H') → H.nx ≤ H'.nx
theorem wrH_mono (H : Heap) (wr : Wr) (nx : Nat) : H.nx ≤ (wrH H wr nx).nx := Nat.le_max_left _ _
theorem callOp_mono (hm : CbMono cb) {f : FuncId} {args : List AV} {H H' : Heap} {nx : Nat} {v : AV} (h : callOp TT cb f args H nx = some (.whole v H')) : H.nx ≤ H'.nx := by
  unfold callOp at h
  split at h
  · cases h
  · split at h
    · cases e : cb (.fn f) args H with
      | none => simp [e] at h
      | some p =>
        simp only [e, Option.bind_some] at h
        split at h
        · cases h
        · cases h; exact hm _ _ _ _ _ rfl e
    · split at h
      · split at h
        · split at h <;> cases h
        · cases h
      · cases h
theorem evalOp_mono (hm : CbMono cb) {env : List AV} {H H' : Heap} {nx : Nat} {io : PO} {v : AV} (h : evalOp TT cb env H nx io = some (.whole v H')) : H.nx ≤ H'.nx := by
  rcases evalOp_whole h with ⟨f, args, rfl, h⟩ | ⟨g, args, f, first, caps, rfl, -, h⟩ | ⟨g, args, id, rfl, ha, -⟩ | ⟨tbl, x, args, t, u, f, rfl, -, -, h⟩
  · exact callOp_mono hm h
  · exact callOp_mono hm h
  · simp only [evalOp, ha] at h
    cases e : cb (.yl id) (args.map (arg env)) H with
    | none => simp [e] at h
    | some p => simp only [e, Option.map_some, Option.some.injEq, OpR.whole.injEq] at h; obtain ⟨-, rfl⟩ := h; exact hm _ _ _ _ _ rfl e
  · exact callOp_mono hm h
theorem evalOps_mono (hm : CbMono cb) : ∀ {ops : List IOp} {st st' : St}, evalOps TT cb ops st = some st' → st.H.nx ≤ st'.H.nx
  | [], st, st', h => by cases h; exact Nat.le_refl _
  | o :: os, st, st', h => by
    simp only [evalOps] at h
    split at h
    · split at h
      · exact Nat.le_trans (wrH_mono _ _ _) (evalOps_mono hm h)
      · rename_i v H e; exact Nat.le_trans (evalOp_mono hm e) (evalOps_mono hm h)
      · cases h
    · have := evalOps_mono hm h; exact this
theorem evalDraw_mono : ∀ {ops : List IOp} {n : Nat} {fs : List Foot} {st st' : St}, evalDraw TT cb ops n fs st = some st' → st.H.nx ≤ st'.H.nx
  | [], n, fs, st, st', h => by cases h; exact Nat.le_refl _
  | o :: os, n, fs, st, st', h => by
    simp only [evalDraw] at h
    split at h
    · split at h
      · split at h
        · exact Nat.le_trans (wrH_mono _ _ _) (evalDraw_mono h)
        · cases h
      · split at h
        · exact Nat.le_trans (wrH_mono _ _ _) (evalDraw_mono h)
        · cases h
      · cases h
    · have := evalDraw_mono h; exact this
theorem evalX_mono (hm : CbMono cb) : ∀ {ops : List IOp} {r r' : RSt} {ex : Ex}, evalX TT cb ops r = some (ex, r') → r.st.H.nx ≤ r'.st.H.nx
  | [], r, r', ex, h => by cases h; exact Nat.le_refl _
  | o :: os, r, r', ex, h => by
    simp only [evalX] at h
    split at h
    · split at h
      · exact Nat.le_trans (wrH_mono _ _ _) (evalX_mono hm h)
      · rename_i v H e; exact Nat.le_trans (evalOp_mono hm e) (evalX_mono hm h)
      · split at h
        · have := evalX_mono hm h; exact this
        · split at h
          · rename_i p H e
            cases h
            have key : ∀ {f : FuncId} {args : List AV}, panCall TT cb f args r.st.H = some (p, H) → r.st.H.nx ≤ H.nx := fun {f args} e => by
              unfold panCall at e
              split at e
              · split at e
                · split at e
                  · rename_i e2; cases e; exact hm _ _ _ _ _ rfl e2
                  · cases e
                · cases e
              · cases e
            unfold panOp at e
            split at e
            · exact key e
            · split at e
              · exact key e
              · cases e
            · split at e
              · simp only [Option.map_eq_some_iff, Prod.mk.injEq] at e
                obtain ⟨_, _, -, rfl⟩ := e
                exact Nat.le_refl _
              · cases e
            · cases e
          · cases h
    · have := evalX_mono hm h; exact this
theorem iterX_mono {f : RSt → Option (Ex × RSt)} (hf : ∀ r ex r', f r = some (ex, r') → r.st.H.nx ≤ r'.st.H.nx) : ∀ {n : Nat} {r r' : RSt} {ex : Ex}, iter f n r = some (ex, r') → r.st.H.nx ≤ r'.st.H.nx
  | 0, r, r', ex, h => by cases h
  | n + 1, r, r', ex, h => by
    simp only [iter] at h
    split at h
    · rename_i st' e; exact Nat.le_trans (hf _ _ _ e) (iterX_mono hf h)
    · exact hf _ _ _ h
theorem run_mono (hm : CbMono cb) {m : Nat} {rd : Option Nat} : ∀ {code : IC} {r r' : RSt} {ex : Ex}, run TT cb m rd code r = some (ex, r') → r.st.H.nx ≤ r'.st.H.nx
  | .skip, r, r', ex, h => by cases h; exact Nat.le_refl _
  | .region ops draw, r, r', ex, h => by
    simp only [run] at h
    split at h
    · simp only [Option.map_eq_some_iff, Prod.mk.injEq] at h
      obtain ⟨s, e, -, rfl⟩ := h
      exact evalDraw_mono e
    · split at h
      · rename_i s e; cases h; exact evalOps_mono hm e
      · split at h
        · exact evalX_mono hm h
        · cases h
  | .seq a b, r, r', ex, h => by
    simp only [run] at h
    split at h
    · rename_i st' e; exact Nat.le_trans (run_mono hm e) (run_mono hm h)
    · exact run_mono hm h
  | .cond c a b, r, r', ex, h => by
    simp only [run] at h
    split at h
    · exact run_mono hm h
    · exact run_mono hm h
    · cases h
  | .block id c, r, r', ex, h => by
    simp only [run] at h
    split at h
    · rename_i id' st' e
      have := run_mono hm e
      split at h <;> cases h <;> exact this
    · exact run_mono hm h
  | .loop c, r, r', ex, h => by
    simp only [run] at h
    exact iterX_mono (fun r ex r' e => run_mono hm e) h
  | .exit id, r, r', ex, h => by cases h; exact Nat.le_refl _
  | .ret, r, r', ex, h => by cases h; exact Nat.le_refl _
  | .scope c, r, r', ex, h => by simp only [run] at h; exact run_mono hm h
  | .rangeF g ps a b, r, r', ex, h => by
    simp only [run] at h
    split at h
    · split at h
      · split at h
        · rename_i H1 id ds e1
          split at h
          · rename_i v H2 e2
            split at h
            · cases h
            · have h1 : r.st.H.nx ≤ H1.nx := by
                unfold enterH at e1
                split at e1
                · cases e1; exact wrH_mono _ _ _
                · split at e1
                  · cases e1; exact wrH_mono _ _ _
                  · cases e1
              have h2 := hm _ _ _ _ _ rfl e2
              unfold leaveH at h
              split at h
              · cases h
              · cases h
              · cases h; exact Nat.le_trans (Nat.le_trans h1 h2) (wrH_mono _ _ _)
              · cases h
          · cases h
        · cases h
      · cases h
    · cases h
  | .bad, r, r', ex, h => by cases h
theorem takeMarks_mono : ∀ {ds : List DE} {H H' : Heap}, takeMarks H ds = some H' → H.nx ≤ H'.nx
  | [], H, H', h => by cases h; exact Nat.le_refl _
  | .mk id :: ds, H, H', h => by
    simp only [takeMarks] at h
    split at h
    · exact Nat.le_trans (wrH_mono _ _ _) (takeMarks_mono h)
    · cases h
  | .fn _ _ :: ds, H, H', h => by cases h
theorem leaveX_mono (hm : CbMono cb) {fn : IFn} {env : List AV} : ∀ {ds : List DE} {md : Option Value} {H H' : Heap} {v : AV}, leaveX cb fn env md ds H = some (v, H') → H.nx ≤ H'.nx
  | [], none, H, H', v, h => by
    simp only [leaveX, Option.map_eq_some_iff, Prod.mk.injEq] at h
    obtain ⟨_, _, -, rfl⟩ := h; exact Nat.le_refl _
  | [], some p, H, H', v, h => by cases h; exact Nat.le_refl _
  | .mk id :: ds, md, H, H', v, h => by
    simp only [leaveX] at h
    split at h
    · exact Nat.le_trans (wrH_mono _ _ _) (leaveX_mono hm h)
    · cases h
  | .fn f args :: ds, md, H, H', v, h => by
    simp only [leaveX] at h
    split at h
    · rename_i H1 e; exact Nat.le_trans (hm _ _ _ _ _ rfl e) (leaveX_mono hm h)
    · rename_i H1 e; exact Nat.le_trans (hm _ _ _ _ _ rfl e) (leaveX_mono hm h)
    · cases h
theorem callBody_mono (hm : CbMono cb) {m : Nat} {f : FuncId} {args : List AV} {H H' : Heap} {v : AV} (h : callBody TT m cb f args H = some (v, H')) : H.nx ≤ H'.nx := by
  unfold callBody at h
  split at h
  · cases h
  · rename_i fn e0
    split at h
    · cases h
    · rename_i p r e
      exact Nat.le_trans (run_mono hm e) (leaveX_mono hm h)
    · rename_i r ex e hx
      have h1 := run_mono hm hx
      split at h
      · rename_i q e2
        cases h
        unfold leaveF at e2
        split at e2
        · rename_i H2 e3
          simp only [Option.map_eq_some_iff, Prod.mk.injEq] at e2
          obtain ⟨_, _, -, rfl⟩ := e2
          exact Nat.le_trans h1 (takeMarks_mono e3)
        · cases e2
      · exact Nat.le_trans h1 (leaveX_mono hm h)
    · cases h
theorem callRound_mono (hm : CbMono cb) {m : Nat} {id : Nat} {args : List AV} {H H' : Heap} {v : AV} (h : callRound TT m cb id args H = some (v, H')) : H.nx ≤ H'.nx := by
  unfold callRound at h
  split at h
  · split at h
    · split at h
      · rename_i r e1
        have h1 := run_mono hm e1
        split at h
        · rename_i r' e2
          have h2 : r.st.H.nx ≤ r'.st.H.nx := by
            unfold enterR at e2
            split at e2
            · cases e2; exact wrH_mono _ _ _
            · cases e2
          split at h
          · rename_i ex r'' e3
            have h3 := run_mono hm e3
            have h4 : r''.st.H.nx ≤ H'.nx := by
              unfold leaveR at h
              split at h
              · split at h
                · cases h; exact wrH_mono _ _ _
                · cases h
                · cases h; exact wrH_mono _ _ _
              · cases h
            simp only at h1
            omega
          · cases h
        · cases h
      · cases h
    · cases h
  · cases h
end Go.Q
