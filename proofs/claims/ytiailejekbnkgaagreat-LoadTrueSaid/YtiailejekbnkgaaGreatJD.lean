/- Soundness: append, as an operation. -/
import Derived.Test.YtiailejekbnkgaaGreatJC
set_option linter.unusedVariables false
set_option linter.unusedSimpArgs false
namespace Go.V
open Go.RowKit
variable {P : Program}

theorem only_new (φ : Phi) (nx : Nat) (loc : Loc) : ∀ id, (id < nx ∨ nx + 1 ≤ id) → (if id = nx then some loc else φ id) = φ id := by
  intro id hid
  have : id ≠ nx := by omega
  simp [this]
section ops
variable {P : Program} {S : Nat → Prop} {φ : Phi} {h : Mem} {H : Heap} {w : World} {env : List AV} {a : Act} {o : Oper} {nx : Nat}
/-- A block's elements are turned. -/
theorem rowset_ends {id sz : Nat} {xs zs : List (List AV)} {loc : Loc} {old new : Array Value} {e : TypeId} (hs : Sim P S φ h w) (hb : h id = some (.row sz xs)) (hφ : φ id = some loc)
    (ho : w.heap[loc.blk]? = some (.cells old e (0, 0))) (hsz : new.size = old.size) (hlen : zs.length = xs.length) (hl : ∀ x ∈ zs, x.length = sz)
    (hnew : ∀ (i j : Nat) x a, zs[i]? = some x → x[j]? = some a → a.one = true ∧ ∃ v, new[loc.base + i * sz + j]? = some v ∧ Rep w S φ a v) :
    Adv S φ h w S φ (updH h [(id, some (.row sz zs))]) (w.setRow loc.blk new) ∧ Sim P S φ (updH h [(id, some (.row sz zs))]) (w.setRow loc.blk new) := by
  rw [updH_one]
  obtain ⟨loc', q1, q2, q3⟩ := hs.blk id _ hb
  rw [hφ] at q1; cases q1
  have hown : Own φ h loc.blk := ⟨id, _, loc, hb, hφ, rfl⟩
  have hadv : Adv S φ h w S φ (fun k => if k = id then some (.row sz zs) else h k) (w.setRow loc.blk new) := by
    refine ⟨fun _ _ e => e, fun _ e => e, fun _ e => .inl e, rfl, rfl, rfl, by simp, fun b _ hn => setRow_other _ _ _ _ (fun e => hn (e ▸ hown)), ?_, fun b e n hb => shape_setRow ho hsz hb⟩
    rintro b ⟨k, y, l, e1, e2, e3⟩
    by_cases hk : k = id
    · subst hk; rw [hφ] at e2; cases e2; exact .inl (e3 ▸ hown)
    · exact .inl ⟨k, y, l, by simpa [hk] using e1, e2, e3⟩
  refine ⟨hadv, ?_, ?_, fun b hb => by simpa using hs.bd b hb⟩
  · intro k b hk
    by_cases hid : k = id
    · subst hid
      have hk' : some (Blk.row sz zs) = some b := by simpa using hk
      cases hk'
      refine ⟨loc, hφ, ?_, q3⟩
      obtain ⟨f1, f2, c, e', f3, f4, f5⟩ := q2
      rw [ho] at f3; cases f3
      refine ⟨f1, hl, new, e, setRow_heap w _ _ _ _ _ ho, by rw [hlen]; omega, fun i j y a g1 g2 => ?_⟩
      obtain ⟨o1, v, r1, r2⟩ := hnew i j y a g1 g2
      exact ⟨o1, v, r1, hadv.rep hs r2⟩
    · have hk' : h k = some b := by simpa [hid] using hk
      obtain ⟨l, p1, p2, p3⟩ := hs.blk k b hk'
      have hne : l.blk ≠ loc.blk := fun e => hid (hs.inj k id b _ l loc hk' hb p1 hφ e)
      exact ⟨l, p1, p2.adv hadv hs (setRow_other _ _ _ _ hne), p3⟩
  · intro k k' b b' l l' a1 a2 a3 a4 a5
    have key : ∀ k b, (if k = id then some (Blk.row sz zs) else h k) = some b → ∃ b, h k = some b := fun k b hk => by
      by_cases hid : k = id
      · exact ⟨_, hid ▸ hb⟩
      · exact ⟨b, by simpa [hid] using hk⟩
    obtain ⟨c, a1'⟩ := key k b a1
    obtain ⟨c', a2'⟩ := key k' b' a2
    exact hs.inj k k' c c' l l' a1' a2' a3 a4 a5
/-- What a slice without room becomes: a new block. -/
theorem fresh_ends {e : TypeId} {n : Nat} {ys : List (List AV)} {c : Array Value} {nc : Nat} (hs : Sim P S φ h w) (hn : φ nx = none) (hfl : Flat w.drew S φ n ys (c.extract 0 (ys.length * n))) (hone : ∀ x ∈ ys, x.all AV.one = true) (hc : nc * n ≤ c.size) (hnc : ys.length ≤ nc) :
    Ends P S φ h w (.own nx 0 ys.length) [(nx, some (.row n ys))] nx (nx + 1) (.slice (some ⟨w.heap.size, 0, none⟩) ys.length nc) (w.drew.alloc (.cells c e)) := by
  have hle : ys.length * n ≤ c.size := Nat.le_trans (Nat.mul_le_mul_right _ hnc) hc
  obtain ⟨q1, q2⟩ := V.new_ends (nx := nx) (sz := n) (xs := ys) (c := c) (e := e) hs.drewR hn hfl.2.1 hle hone (fun i j x a e1 e2 => by
    obtain ⟨v, r1, r2⟩ := hfl.2.2 i j x a e1 e2
    refine ⟨v, ?_, r2⟩
    rw [Array.getElem?_extract] at r1
    split at r1
    · simpa using r1
    · cases r1)
  refine ⟨S, _, (Adv.drewR S φ h w).trans q1, q2, ?_, only_new _ _ _⟩
  have := own_new (w := w.drew.alloc (.cells c e)) (S := S) (φ := fun id => if id = nx then some ⟨w.drew.heap.size, 0, n⟩ else φ id) (nx := nx) (len := ys.length) (cap := nc) (by simp) (shape_new w.drew _ e) hc hnc
  exact this
theorem zeroCells_size (z : Array Value) (n : Nat) : (Builtin.zeroCells z n).size = n * z.size := by simp [Builtin.zeroCells]
theorem extract_pre {a b : Array Value} {n : Nat} (h : a.size = n) : (a ++ b).extract 0 n = a := by
  rw [Array.extract_append]; simp [h]
theorem snd_app {c : Call} {x y : Operand} {t u e e' : TypeId} {i : TypeInfo} {z : List AV} {ax ay : Arg} {v : AV} {rd : List Nat} {wr : Wr} {nx' : Nat} {T : FuncId → Option IFn} {cb : Cb} (ho : o.op = .call c) (hc : c.callee = .builtin .append) (hargs : c.args = #[x, y])
    (ht : c.argTypes[0]? = some t) (hu : P.underlying t = some (.slice e)) (ht' : c.argTypes[1]? = some u) (hu' : P.underlying u = some (.slice e')) (hi : P.info? e = some i) (hz : zeroK P e = some z) (hzl : z.length = i.size) (hx : cOpd x = some ax) (hy : cOpd y = some ay)
    (he : evalOp T cb env H nx (.app i.size i.bytes ax ay) = some (.eff v rd wr nx')) (hrd : ∀ id ∈ rd, h id = hget H id) (hs : Sim P S φ h w) (hr : Reps w S φ env a.tmps) (hn : nx < nx' → φ nx = none) : OpOK P o a w (Ends P S φ h w v wr nx nx') := by
  have hv := arg_rep hr hx
  have hvy := arg_rep hr hy
  obtain ⟨consts, hex⟩ := builtin_exec (a := a) ho hc
  obtain ⟨i', zv, h1, h2, h3⟩ := zeroK_spec hz
  rw [hi] at h1; cases h1
  obtain ⟨z1, z2⟩ := zero_rep (w := w) (S := S) (φ := φ) h3
  have hzs : zv.cells.size = i.size := by rw [z1.1]; exact hzl
  have fin : ∀ vv w', (Builtin.append_ c.argTypes o.type #[a.eval x, a.eval y]).run P w = .ok vv w' → Ends P S φ h w v wr nx nx' vv w' → OpOK P o a w (Ends P S φ h w v wr nx nx') := fun vv w' e1 e2 =>
    .inl ⟨vv, w', by rw [hex]; simp [invoke, builtin, hargs, e1], e2⟩
  have run1 : ∀ vv w', (Builtin.append_ c.argTypes o.type #[a.eval x, a.eval y]).run P w = .ok vv w' → (execOp a.eval o).run P w = .ok (.value vv) w' := fun vv w' e1 => by rw [hex]; simp [invoke, builtin, hargs, e1]
  have fresh : ∀ {ys : List (List AV)} (base : Option Addr) {b : Option Addr} {cap : Nat} {cs : Array Value}, a.eval x = .slice base 0 0 → (ys.length + 1) * (i.bytes + 1) ≤ 1099511627776 → 0 < ys.length → a.eval y = .slice b ys.length cap → (Builtin.firstCells i.size ys.length (.slice b ys.length cap)).run P w.drew = .ok cs w.drew → Flat w.drew S φ i.size ys cs → (∀ x ∈ ys, x.all AV.one = true) → (hn : φ nx = none) →
      OpOK P o a w (Ends P S φ h w (.own nx 0 ys.length) [(nx, some (.row i.size ys))] nx (nx + 1)) := by
    intro ys base b cap cs hval hcc hpos f1 f2 f3 hone hn
    obtain ⟨nc, g1, g2⟩ := run_append_move (P := P) (w := w) (ty := o.type) (sLen := 0) (sCap := 0) (base := base) (old := #[]) ht hu ht' hu' hi h2 (by omega) (by simpa using hcc) (run_first0 _ _ _ _) f2
    refine .inl ⟨_, _, run1 _ _ (by rw [hval, f1]; exact g2), ?_⟩
    have := fresh_ends (P := P) (nx := nx) (e := e) (n := i.size) (ys := ys) (c := #[] ++ cs ++ Builtin.zeroCells zv.cells (nc - (0 + ys.length))) (nc := nc) hs hn (by
      simp only [Array.empty_append]; rw [extract_pre f3.1]; exact f3) hone (by
        have := f3.1
        simp [zeroCells_size, hzs, this, ← Nat.add_mul]
        exact Nat.mul_le_mul_right _ (by omega)) (by omega)
    simpa using this
  simp only [evalOp] at he
  split at he
  · -- nothing is appended
    rename_i rd' e1
    have hrd' : rd' = rd := by
      split at he <;> (first | cases he | skip) <;> rfl
    subst hrd'
    obtain ⟨b, cap, f1, cs, f2, f3⟩ := elems_rep (P := P) e1 hrd hs hvy
    rw [f1] at f2
    have hcs : cs = #[] := by have := f3.1; simpa using this
    subst hcs
    split at he
    · rename_i e2
      cases he
      rw [e2] at hv
      have hval : a.eval x = .slice none 0 0 := by generalize a.eval x = q at hv; cases hv; rfl
      refine fin _ _ (by rw [hval, f1]; exact run_append_in (P := P) ht hu ht' hu' hi (by simp) f2 rfl) (ends_pure hs .nilS)
    · rename_i id off len e2
      cases he
      rw [e2] at hv
      obtain ⟨loc, cap', e'', n', hφ, hsh, hn', hlc, hval⟩ := hv.inv_own
      refine fin _ _ (by rw [hval, f1]; exact run_append_in (P := P) ht hu ht' hu' hi (by simpa using hlc) f2 rfl) (ends_pure hs ?_)
      simpa using Rep.own (w := w) (S := S) hφ hsh hn' hlc
    · rename_i z e2
      cases he
      rw [e2] at hv
      obtain ⟨aa, cap', hval, hz⟩ := hv.inv_emp
      refine fin _ _ (by rw [hval, f1]; exact run_append_in (P := P) ht hu ht' hu' hi (by simp) f2 rfl) (ends_pure hs ?_)
      exact .emp hz
    · cases he
  · -- something is
    rename_i ys rd' hne e1
    split at he
    · rename_i e2
      split at he
      · rename_i hcc
        cases he
        obtain ⟨b, cap, f1, cs, f2, f3⟩ := elems_rep (P := P) e1 hrd hs.drewR ((Adv.drewR S φ h w).rep hs hvy)
        have hone := elems_one e1 hrd hs hvy
        rw [e2] at hv
        have hval : a.eval x = .slice none 0 0 := by generalize a.eval x = q at hv; cases hv; rfl
        rw [f1] at f2
        have hpos : 0 < ys.length := by
          cases ys with
          | nil => first | exact (hne rfl).elim | exact absurd rfl (hne rfl rd') | exact (hne rd' rfl).elim
          | cons _ _ => simp
        exact fresh none hval hcc hpos f1 f2 f3 hone (hn (by omega))
      · cases he
    · rename_i e2
      split at he
      · rename_i hcc
        cases he
        obtain ⟨b, cap, f1, cs, f2, f3⟩ := elems_rep (P := P) e1 hrd hs.drewR ((Adv.drewR S φ h w).rep hs hvy)
        have hone := elems_one e1 hrd hs hvy
        rw [e2] at hv
        obtain ⟨aa, cap', hval, hz⟩ := hv.inv_emp
        have := hz rfl; subst this
        rw [f1] at f2
        have hpos : 0 < ys.length := by
          cases ys with
          | nil => first | exact (hne rfl).elim | exact absurd rfl (hne rfl rd') | exact (hne rd' rfl).elim
          | cons _ _ => simp
        exact fresh (some aa) hval hcc hpos f1 f2 f3 hone (hn (by omega))
      · cases he
    · rename_i id off len e2
      split at he
      · rename_i s xs e3
        split at he
        · rename_i hcc
          obtain ⟨hsz, hle, hby⟩ := hcc
          cases he
          subst hsz
          have hb : h id = some (.row i.size xs) := by rw [hrd id (by simp)]; exact e3
          rw [e2] at hv
          obtain ⟨loc, cap', e'', n', hφ, hsh, hn', hlc, hval⟩ := hv.inv_own
          obtain ⟨loc', p1, p2, p3⟩ := hs.blk id _ hb
          rw [hφ] at p1; cases p1
          have hls : loc.sz = i.size := p2.1
          have hlen : ((xs.drop off).take len).length = len := by simp; omega
          obtain ⟨sub1, sub2⟩ := p2.sub (off := off) (len := len)
          have hone2 := elems_one e1 (fun k hk => hrd k (by simp [hk])) hs hvy
          have hone : ∀ q ∈ (xs.drop off).take len ++ ys, q.all AV.one = true := by
            intro q hq
            rw [List.mem_append] at hq
            rcases hq with hq | hq
            · obtain ⟨k, hk, rfl⟩ := List.getElem_of_mem hq
              rw [List.all_eq_true]
              intro d hd
              obtain ⟨j, hj, rfl⟩ := List.getElem_of_mem hd
              exact (sub2 k j _ _ (List.getElem?_eq_getElem hk) (List.getElem?_eq_getElem hj)).1
            · exact hone2 q hq
          obtain ⟨blk1, blk2, cur, ce, f3, f4, f5⟩ := p2
          have hn0 : φ nx = none := hn (by omega)
          have only : ∀ loc2 : Loc, ∀ k, (k < nx ∨ nx + 1 ≤ k) → (fun k => if k = nx then some loc2 else φ k) k = φ k := fun loc2 => only_new φ nx loc2
          have hupd : updH h [(id, none), (nx, some (.row i.size ((xs.drop off).take len ++ ys)))] = fun k => if k = nx then some (.row i.size ((xs.drop off).take len ++ ys)) else if k = id then none else h k := rfl
          by_cases hfit : len + ys.length ≤ cap'
          · -- in place
            obtain ⟨b, cap, f1, cs, f2, fl⟩ := elems_rep (P := P) e1 (fun k hk => hrd k (by simp [hk])) hs hvy
            rw [f1] at f2
            have hn2 : n' = cur.size := by
              unfold World.shape? at hsh; rw [f3] at hsh; simp at hsh; exact hsh.2.symm
            have hbig : loc.base + off * i.size + (len + ys.length) * i.size ≤ cur.size := by
              rw [hn2, hls] at hn'
              have : (off + (len + ys.length)) * i.size ≤ (off + cap') * i.size := Nat.mul_le_mul_right _ (by omega)
              rw [Nat.add_mul] at this; omega
            have hcsz : cs.toList.length = ys.length * i.size := by simpa using fl.1
            have hstore := run_storeCells_at P loc.blk (loc.base + off * i.size + len * i.size) ce cs.toList 0 cur w f3 (by rw [hcsz]; rw [Nat.add_mul] at hbig; omega) (by
              intro d hd
              obtain ⟨k, hk, rfl⟩ := List.getElem_of_mem hd
              have hk' : k < ys.length * i.size := by omega
              have h0 : 0 < i.size := by
                rcases Nat.eq_zero_or_pos i.size with e | e
                · rw [e] at hk'; simp at hk'
                · exact e
              have hq : k / i.size < ys.length := Nat.div_lt_of_lt_mul (by rw [Nat.mul_comm]; exact hk')
              have hm : k % i.size < ys[k / i.size].length := by rw [fl.2.1 _ (List.getElem_mem hq)]; exact Nat.mod_lt _ h0
              obtain ⟨dv, r1, r2⟩ := fl.2.2 (k / i.size) (k % i.size) _ _ (List.getElem?_eq_getElem hq) (List.getElem?_eq_getElem hm)
              rw [Nat.div_add_mod'] at r1
              have : cs.toList[k] = dv := by
                have e9 : cs[k]? = some cs.toList[k] := by simp at hk ⊢
                rw [e9] at r1; cases r1; rfl
              rw [this]
              have ho1 := hone2 _ (List.getElem_mem hq)
              rw [List.all_eq_true] at ho1
              exact r2.oneCell (ho1 _ (List.getElem_mem hm)))
            obtain ⟨new, hnew⟩ : ∃ new, new = (List.take (loc.base + off * i.size + len * i.size + 0) cur.toList ++ cs.toList ++ List.drop (loc.base + off * i.size + len * i.size + 0 + cs.toList.length) cur.toList).toArray := ⟨_, rfl⟩
            rw [← hnew] at hstore
            rw [Nat.add_zero] at hnew
            have hbig' : loc.base + off * i.size + len * i.size + ys.length * i.size ≤ cur.size := by rw [Nat.add_mul] at hbig; omega
            have hnsz : new.size = cur.size := by rw [hnew]; simp at hcsz ⊢; omega
            have hget : ∀ m, new[m]? = if m < loc.base + off * i.size + len * i.size then cur[m]? else if m < loc.base + off * i.size + len * i.size + ys.length * i.size then cs[m - (loc.base + off * i.size + len * i.size)]? else cur[m]? := by
              intro m
              rw [hnew]
              simp only [List.getElem?_toArray]
              have hl2 : (List.take (loc.base + off * i.size + len * i.size) cur.toList).length = loc.base + off * i.size + len * i.size := by simp; omega
              by_cases q : m < loc.base + off * i.size + len * i.size
              · rw [if_pos q, List.append_assoc, List.getElem?_append_left (by omega), List.getElem?_take, if_pos q]; simp
              · rw [if_neg q]
                by_cases q2 : m < loc.base + off * i.size + len * i.size + ys.length * i.size
                · rw [if_pos q2, List.append_assoc, List.getElem?_append_right (by omega), List.getElem?_append_left (by omega), hl2]; simp
                · rw [if_neg q2, List.append_assoc, List.getElem?_append_right (by omega), List.getElem?_append_right (by omega), List.getElem?_drop, hl2, hcsz]
                  simp only [Array.getElem?_toList]
                  congr 1; omega
            have hrun := run_append_in (P := P) (ty := o.type) (base := some ⟨loc.blk, loc.base + off * loc.sz, none⟩) (sLen := len) (sCap := cap') ht hu ht' hu' hi hfit f2 (w' := w.setRow loc.blk new) (by simp only [add_none, hls]; exact hstore)
            refine fin _ _ (by rw [hval, f1]; exact hrun) ?_
            obtain ⟨q1, q2⟩ := swap_sim (id := id) (nx := nx) (zs := (xs.drop off).take len ++ ys) (loc' := ⟨loc.blk, loc.base + off * i.size, i.size⟩) (new := new) (w' := w.setRow loc.blk new) hs hb hφ hn0
              (fun b _ hne => setRow_other _ _ _ _ hne) (by simp) rfl rfl rfl (fun b e n hh => shape_setRow f3 hnsz hh) rfl (.inl rfl) p3 (setRow_heap w _ _ _ _ _ f3)
              (by simp only [List.length_append, hlen, hnsz]; exact hbig) (fun q hq => by rw [List.mem_append] at hq; exact hq.elim (sub1 q) (fl.2.1 q)) hone (fun k j q d r1 r2 => by
                have hj : j < i.size := by
                  have hm := List.mem_of_getElem? r1
                  rw [List.mem_append] at hm
                  have : q.length = i.size := hm.elim (sub1 q) (fl.2.1 q)
                  rcases Nat.lt_or_ge j q.length with h' | h'
                  · omega
                  · rw [List.getElem?_eq_none h'] at r2; cases r2
                by_cases hk : k < len
                · rw [List.getElem?_append_left (by omega)] at r1
                  rw [List.getElem?_take, if_pos hk, List.getElem?_drop] at r1
                  obtain ⟨o1, dv, r3, r4⟩ := f5 (off + k) j q d r1 r2
                  refine ⟨dv, ?_, r4⟩
                  have := cell_lt hk hj
                  show new[loc.base + off * i.size + k * i.size + j]? = _
                  rw [hget, if_pos (by omega)]
                  rw [Nat.add_mul] at r3
                  rw [← r3]; congr 1; omega
                · rw [List.getElem?_append_right (by omega), hlen] at r1
                  obtain ⟨dv, r3, r4⟩ := fl.2.2 (k - len) j q d r1 r2
                  refine ⟨dv, ?_, r4⟩
                  have hk2 : k - len < ys.length := by
                    rcases Nat.lt_or_ge (k - len) ys.length with h' | h'
                    · exact h'
                    · rw [List.getElem?_eq_none h'] at r1; cases r1
                  have := cell_lt hk2 hj
                  have h4 : k * i.size = len * i.size + (k - len) * i.size := by rw [← Nat.add_mul]; congr 1; omega
                  show new[loc.base + off * i.size + k * i.size + j]? = _
                  rw [hget, if_neg (by omega), if_pos (by omega), show loc.base + off * i.size + k * i.size + j - (loc.base + off * i.size + len * i.size) = (k - len) * i.size + j by omega]
                  exact r3)
            refine ⟨S, _, by rw [hupd]; exact q1, by rw [hupd]; exact q2, ?_, only _⟩
            have hsh2 : (w.setRow loc.blk new).shape? loc.blk = some (e'', n') := shape_setRow f3 hnsz hsh
            have := Rep.own (w := w.setRow loc.blk new) (S := S) (φ := fun k => if k = nx then some ⟨loc.blk, loc.base + off * i.size, i.size⟩ else φ k) (id := nx) (off := 0) (len := len + ys.length) (cap := cap') (loc := ⟨loc.blk, loc.base + off * i.size, i.size⟩) (by simp) hsh2 (by
              rw [hls] at hn'
              simp only [Nat.zero_add]; rw [Nat.add_mul] at hn'; omega) hfit
            rw [hls]
            simpa using this
          · -- moved
            obtain ⟨b, cap, f1, cs, f2, fl⟩ := elems_rep (P := P) e1 (fun k hk => hrd k (by simp [hk])) hs.drewR ((Adv.drewR S φ h w).rep hs hvy)
            rw [f1] at f2
            obtain ⟨old, g1, g2⟩ := run_cells (P := P) (w := w.drew) (S := S) (φ := φ) (sz := i.size) (b := loc.blk) (base := loc.base + off * loc.sz) (xs := (xs.drop off).take len) sub1 (fun k j q d r1 r2 => by
              obtain ⟨-, dv, r3, r4⟩ := sub2 k j q d r1 r2
              exact ⟨dv, r3, (Adv.drewR S φ h w).rep hs r4⟩)
            rw [hlen] at g1
            obtain ⟨nc, k1, k2⟩ := run_append_move (P := P) (w := w) (ty := o.type) (sLen := len) (sCap := cap') (base := some ⟨loc.blk, loc.base + off * loc.sz, none⟩) (old := old) ht hu ht' hu' hi h2 (by omega) hby g1 f2
            refine fin _ _ (by rw [hval, f1]; exact k2) ?_
            have hfl := flat_append (r := Builtin.zeroCells zv.cells (nc - (len + ys.length))) g2 fl
            have hosz : old.size = len * i.size := by rw [g2.1, hlen]
            have htot : nc * i.size ≤ (old ++ cs ++ Builtin.zeroCells zv.cells (nc - (len + ys.length))).size := by
              have := fl.1
              simp [Builtin.zeroCells, hzs, this, hosz, ← Nat.add_mul]
              exact Nat.mul_le_mul_right _ (by omega)
            obtain ⟨q1, q2⟩ := swap_sim (id := id) (nx := nx) (zs := (xs.drop off).take len ++ ys) (loc' := ⟨w.heap.size, 0, i.size⟩) (new := old ++ cs ++ Builtin.zeroCells zv.cells (nc - (len + ys.length))) (e := e) (w' := w.drew.alloc (.cells (old ++ cs ++ Builtin.zeroCells zv.cells (nc - (len + ys.length))) e)) hs.drewR hb hφ hn0
              (fun b hb _ => Below.heap_alloc w.drew _ b hb) (by simp) rfl rfl rfl (fun b e n hh => shape_alloc hh) rfl (.inr (Nat.le_refl _)) (fun hS => absurd (hs.bd _ hS) (by simp)) (World.alloc_heap_new w.drew _)
              (by simp only [List.length_append, hlen, Nat.zero_add]; refine Nat.le_trans ?_ htot; exact Nat.mul_le_mul_right _ k1) (fun q hq => by rw [List.mem_append] at hq; exact hq.elim (sub1 q) (fl.2.1 q)) hone (by simpa using hfl)
            refine ⟨S, _, by rw [hupd]; exact (Adv.drewR S φ h w).trans q1, by rw [hupd]; exact q2, ?_, only _⟩
            have := own_new (w := w.drew.alloc (.cells (old ++ cs ++ Builtin.zeroCells zv.cells (nc - (len + ys.length))) e)) (S := S) (φ := fun k => if k = nx then some ⟨w.heap.size, 0, i.size⟩ else φ k) (nx := nx) (len := len + ys.length) (cap := nc) (by simp) (shape_new w.drew _ e) htot k1
            exact this
        · cases he
      · cases he
    · -- a slice without room
      rename_i id off len e2
      split at he
      · rename_i s xs e3
        split at he
        · rename_i hcc
          obtain ⟨hsz, hle, hby⟩ := hcc
          cases he
          subst hsz
          have hb : h id = some (.row i.size xs) := by rw [hrd id (by simp)]; exact e3
          rw [e2] at hv
          obtain ⟨loc, hφ, hval⟩ : ∃ loc, φ id = some loc ∧ a.eval x = .slice (some ⟨loc.blk, loc.base + off * loc.sz, none⟩) len len := by
            generalize a.eval x = q at hv
            cases hv with | clp h1 h2 h3 => exact ⟨_, h1, rfl⟩
          obtain ⟨loc', p1, p2, p3⟩ := hs.blk id _ hb
          rw [hφ] at p1; cases p1
          have hlen : ((xs.drop off).take len).length = len := by simp; omega
          obtain ⟨sub1, sub2⟩ := p2.sub (off := off) (len := len)
          have hone2 := elems_one e1 (fun k hk => hrd k (by simp [hk])) hs hvy
          have hone : ∀ q ∈ (xs.drop off).take len ++ ys, q.all AV.one = true := by
            intro q hq
            rw [List.mem_append] at hq
            rcases hq with hq | hq
            · obtain ⟨k, hk, rfl⟩ := List.getElem_of_mem hq
              rw [List.all_eq_true]
              intro d hd
              obtain ⟨j, hj, rfl⟩ := List.getElem_of_mem hd
              exact (sub2 k j _ _ (List.getElem?_eq_getElem hk) (List.getElem?_eq_getElem hj)).1
            · exact hone2 q hq
          have hpos : 0 < ys.length := by
            cases ys with
            | nil => first | exact (hne rfl).elim | exact absurd rfl (hne rfl rd') | exact (hne rd' rfl).elim
            | cons _ _ => simp
          obtain ⟨b, cap, f1, cs, f2, fl⟩ := elems_rep (P := P) e1 (fun k hk => hrd k (by simp [hk])) hs.drewR ((Adv.drewR S φ h w).rep hs hvy)
          rw [f1] at f2
          obtain ⟨old, g1, g2⟩ := run_cells (P := P) (w := w.drew) (S := S) (φ := φ) (sz := i.size) (b := loc.blk) (base := loc.base + off * loc.sz) (xs := (xs.drop off).take len) sub1 (fun k j q d r1 r2 => by
            obtain ⟨-, dv, r3, r4⟩ := sub2 k j q d r1 r2
            exact ⟨dv, r3, (Adv.drewR S φ h w).rep hs r4⟩)
          rw [hlen] at g1
          obtain ⟨nc, k1, k2⟩ := run_append_move (P := P) (w := w) (ty := o.type) (sLen := len) (sCap := len) (base := some ⟨loc.blk, loc.base + off * loc.sz, none⟩) (old := old) ht hu ht' hu' hi h2 (by omega) hby g1 f2
          refine fin _ _ (by rw [hval, f1]; exact k2) ?_
          have hfl := flat_append (r := Builtin.zeroCells zv.cells (nc - (len + ys.length))) g2 fl
          have hosz : old.size = len * i.size := by rw [g2.1, hlen]
          have hcsz : cs.size = ys.length * i.size := fl.1
          have htot : nc * i.size ≤ (old ++ cs ++ Builtin.zeroCells zv.cells (nc - (len + ys.length))).size := by
            simp [Builtin.zeroCells, hzs, hcsz, hosz, ← Nat.add_mul]
            exact Nat.mul_le_mul_right _ (by omega)
          have hle2 : ((xs.drop off).take len ++ ys).length * i.size ≤ (old ++ cs ++ Builtin.zeroCells zv.cells (nc - (len + ys.length))).size := by
            refine Nat.le_trans ?_ htot
            rw [List.length_append, hlen]
            exact Nat.mul_le_mul_right _ k1
          have hn0 : φ nx = none := hn (by omega)
          obtain ⟨q1, q2⟩ := V.new_ends (nx := nx) (sz := i.size) (xs := (xs.drop off).take len ++ ys) (c := old ++ cs ++ Builtin.zeroCells zv.cells (nc - (len + ys.length))) (e := e) hs.drewR hn0 (fun q hq => by rw [List.mem_append] at hq; exact hq.elim (sub1 q) (fl.2.1 q)) hle2 hone (fun k j q d r1 r2 => by
            simpa using hfl k j q d r1 r2)
          refine ⟨S, _, by rw [updH_one]; exact (Adv.drewR S φ h w).trans q1, by rw [updH_one]; exact q2, ?_, only_new _ _ _⟩
          have := own_new (w := w.drew.alloc (.cells (old ++ cs ++ Builtin.zeroCells zv.cells (nc - (len + ys.length))) e)) (S := S) (φ := fun k => if k = nx then some ⟨w.drew.heap.size, 0, i.size⟩ else φ k) (nx := nx) (len := len + ys.length) (cap := nc) (by simp) (shape_new w.drew _ e) htot k1
          exact this
        · cases he
      · cases he
    · cases he
  · cases he
theorem snd_appZ {c : Call} {x y : Operand} {t u e : TypeId} {i : TypeInfo} {z : List AV} {ax ay : Arg} {v : AV} {rd : List Nat} {wr : Wr} {nx' : Nat} {k' : IntKind} {T : FuncId → Option IFn} {cb : Cb} (ho : o.op = .call c) (hc : c.callee = .builtin .append) (hargs : c.args = #[x, y])
    (ht : c.argTypes[0]? = some t) (hu : P.underlying t = some (.slice e)) (ht' : c.argTypes[1]? = some u) (hu' : P.underlying u = some (.int k')) (hi : P.info? e = some i) (hz : zeroK P e = some z) (hzl : z.length = i.size) (hx : cOpd x = some ax) (hy : cOpd y = some ay)
    (he : evalOp T cb env H nx (.appZ i.size i.bytes z ax ay) = some (.eff v rd wr nx')) (hs : Sim P S φ h w) (hr : Reps w S φ env a.tmps) (hn : nx < nx' → φ nx = none) : OpOK P o a w (Ends P S φ h w v wr nx nx') := by
  have hv := arg_rep hr hx
  have hvy := arg_rep hr hy
  obtain ⟨consts, hex⟩ := builtin_exec (a := a) ho hc
  obtain ⟨i', zv, h1, h2, h3⟩ := zeroK_spec hz
  rw [hi] at h1; cases h1
  obtain ⟨z1, z2⟩ := zero_rep (w := w) (S := S) (φ := φ) h3
  have hzs : zv.cells.size = i.size := by rw [z1.1]; exact hzl
  have run1 : ∀ vv w', (Builtin.append_ c.argTypes o.type #[a.eval x, a.eval y]).run P w = .ok vv w' → (execOp a.eval o).run P w = .ok (.value vv) w' := fun vv w' e1 => by rw [hex]; simp [invoke, builtin, hargs, e1]
  have made : ∀ (k : IntKind) (n : Int) (base : Option Addr), a.eval x = .slice base 0 0 → a.eval y = .int k n → 0 ≤ n → n ≠ 0 → z.all AV.one = true → (n + 1) * (i.bytes + 1) ≤ 1099511627776 → φ nx = none →
      OpOK P o a w (Ends P S φ h w (.own nx 0 n.toNat) [(nx, some (.row i.size (List.replicate n.toNat z)))] nx (nx + 1)) := by
    intro k n base e1 e2 h0 h00 hone hb hnx
    obtain ⟨m, rfl⟩ := Int.eq_ofNat_of_zero_le h0
    simp only [Int.toNat_natCast] at *
    have hb' : (m + 1) * (i.bytes + 1) ≤ 1099511627776 := by
      have : (((m + 1) * (i.bytes + 1) : Nat) : Int) ≤ 1099511627776 := by rw [Int.natCast_mul]; simpa using hb
      omega
    obtain ⟨nc, g1, g2⟩ := run_appendZ_move (P := P) (w := w) (ty := o.type) (base := base) (n := m) (k := k) ht hu ht' hu' hi h2 (by omega) hb' hzs
    refine .inl ⟨_, _, run1 _ _ (by rw [e1, e2]; exact g2), ?_⟩
    have hfl := flat_made (w := w.drew) (S := S) (φ := φ) (n := m) ((Adv.drewR S φ h w).reps hs z1)
    have hz2 : Builtin.zeroCells zv.cells m = (Array.range (m * z.length)).map (zv.cells[· % zv.cells.size]!) := by unfold Builtin.zeroCells; rw [hzs, hzl]
    rw [← hz2, hzl] at hfl
    have := fresh_ends (P := P) (nx := nx) (e := e) (n := i.size) (ys := List.replicate m z) (c := Builtin.zeroCells zv.cells m ++ Builtin.zeroCells zv.cells (nc - m)) (nc := nc) hs hnx (by
      rw [extract_pre (by simp [zeroCells_size, hzs])]; exact hfl) (fun q hq => by rw [List.eq_of_mem_replicate hq]; exact hone) (by
        simp [zeroCells_size, hzs, ← Nat.add_mul]
        exact Nat.mul_le_mul_right _ (by omega)) (by simpa using g1)
    simpa using this
  simp only [evalOp] at he
  split at he
  · rename_i k e1
    rw [e1] at hvy
    split at he
    · rename_i e2
      cases he
      rw [e2] at hv
      have hval : a.eval x = .slice none 0 0 := by generalize a.eval x = q at hv; cases hv; rfl
      refine .inl ⟨_, _, run1 _ _ (by rw [hval, hvy.inv_int]; exact run_appendZ_none (P := P) ht hu ht' hu' hi (Nat.le_refl _)), ends_pure hs .nilS⟩
    · rename_i id off len e2
      cases he
      rw [e2] at hv
      obtain ⟨loc, cap', e'', n', hφ, hsh, hn', hlc, hval⟩ := hv.inv_own
      refine .inl ⟨_, _, run1 _ _ (by rw [hval, hvy.inv_int]; exact run_appendZ_none (P := P) ht hu ht' hu' hi hlc), ends_pure hs (.own hφ hsh hn' hlc)⟩
    · rename_i zz e2
      cases he
      rw [e2] at hv
      obtain ⟨aa, cap', hval, hz⟩ := hv.inv_emp
      refine .inl ⟨_, _, run1 _ _ (by rw [hval, hvy.inv_int]; exact run_appendZ_none (P := P) ht hu ht' hu' hi (Nat.zero_le _)), ends_pure hs (.emp hz)⟩
    · cases he
  · rename_i k n hne e1
    rw [e1] at hvy
    split at he
    · rename_i hc1
      have hn0 : n ≠ 0 := fun e => by subst e; first | exact hne k rfl | exact (hne rfl).elim | exact hne rfl
      split at he
      · rename_i e2
        split at he
        · rename_i hc2
          cases he
          rw [e2] at hv
          have hval : a.eval x = .slice none 0 0 := by generalize a.eval x = q at hv; cases hv; rfl
          exact made k n none hval hvy.inv_int hc1.1 hn0 hc1.2.2 hc2 (hn (by omega))
        · cases he
      · rename_i e2
        split at he
        · rename_i hc2
          cases he
          rw [e2] at hv
          obtain ⟨aa, cap', hval, hz⟩ := hv.inv_emp
          have := hz rfl; subst this
          exact made k n (some aa) hval hvy.inv_int hc1.1 hn0 hc1.2.2 hc2 (hn (by omega))
        · cases he
      · cases he
    · cases he
  · cases he
/-! 'clear' -/
theorem over_ends {id off s : Nat} {xs zs : List (List AV)} {cs : Array Value} {loc : Loc} {k : IntKind} {m : Int} (hs : Sim P S φ h w) (hb : h id = some (.row s xs)) (hφ : φ id = some loc) (hle : off + zs.length ≤ xs.length) (hfl : Flat w S φ s zs cs) (hone : ∀ x ∈ zs, x.all AV.one = true) :
    ∃ w1, (storeCells ⟨loc.blk, loc.base + off * loc.sz, none⟩ cs.toList).run P w = .ok () w1 ∧ Ends P S φ h w (.int k m) [(id, some (.row s (xs.take off ++ zs ++ xs.drop (off + zs.length))))] nx nx (.int k m) w1 := by
  obtain ⟨loc', p1, p2, p3⟩ := hs.blk id _ hb
  rw [hφ] at p1; cases p1
  obtain ⟨b1, b2, cur, ce, f3, f4, f5⟩ := p2
  have hmul : (off + zs.length) * s ≤ xs.length * s := Nat.mul_le_mul_right _ hle
  rw [Nat.add_mul] at hmul
  have hzc : cs.toList.length = zs.length * s := by simpa using hfl.1
  have hzone : ∀ d ∈ cs.toList, d.oneCell' = true := by
    intro d hd
    obtain ⟨k, hk, rfl⟩ := List.getElem_of_mem hd
    have hk' : k < zs.length * s := by omega
    have h0 : 0 < s := by
      rcases Nat.eq_zero_or_pos s with e | e
      · rw [e] at hk'; simp at hk'
      · exact e
    have hq : k / s < zs.length := Nat.div_lt_of_lt_mul (by rw [Nat.mul_comm]; exact hk')
    have hm : k % s < (zs[k / s]).length := by rw [hfl.2.1 _ (List.getElem_mem hq)]; exact Nat.mod_lt _ h0
    obtain ⟨dv, r1, r2⟩ := hfl.2.2 (k / s) (k % s) _ _ (List.getElem?_eq_getElem hq) (List.getElem?_eq_getElem hm)
    rw [Nat.div_add_mod'] at r1
    have : cs.toList[k] = dv := by
      have e9 : cs[k]? = some cs.toList[k] := by simp at hk ⊢
      rw [e9] at r1; cases r1; rfl
    rw [this]
    have ho := hone _ (List.getElem_mem hq)
    rw [List.all_eq_true] at ho
    exact r2.oneCell (ho _ (List.getElem_mem hm))
  have hstore := run_storeCells_at P loc.blk (loc.base + off * s) ce cs.toList 0 cur w f3 (by rw [hzc]; omega) hzone
  obtain ⟨new, hnew⟩ : ∃ new, new = (List.take (loc.base + off * s + 0) cur.toList ++ cs.toList ++ List.drop (loc.base + off * s + 0 + cs.toList.length) cur.toList).toArray := ⟨_, rfl⟩
  rw [← hnew] at hstore
  rw [Nat.add_zero] at hnew
  have hnsz : new.size = cur.size := by rw [hnew]; simp at hzc ⊢; omega
  have hget : ∀ m, new[m]? = if m < loc.base + off * s then cur[m]? else if m < loc.base + off * s + zs.length * s then cs[m - (loc.base + off * s)]? else cur[m]? := by
    intro m
    rw [hnew]
    simp only [List.getElem?_toArray]
    have hl2 : (List.take (loc.base + off * s) cur.toList).length = loc.base + off * s := by simp; omega
    by_cases q : m < loc.base + off * s
    · rw [if_pos q, List.append_assoc, List.getElem?_append_left (by omega), List.getElem?_take, if_pos q]; simp
    · rw [if_neg q]
      by_cases q2 : m < loc.base + off * s + zs.length * s
      · rw [if_pos q2, List.append_assoc, List.getElem?_append_right (by omega), List.getElem?_append_left (by omega), hl2]; simp
      · rw [if_neg q2, List.append_assoc, List.getElem?_append_right (by omega), List.getElem?_append_right (by omega), List.getElem?_drop, hl2, hzc]
        simp only [Array.getElem?_toList]
        congr 1; omega
  refine ⟨w.setRow loc.blk new, by rw [b1]; exact hstore, ?_⟩
  obtain ⟨q1, q2⟩ := rowset_ends (id := id) (zs := xs.take off ++ zs ++ xs.drop (off + zs.length)) (new := new) hs hb hφ f3 hnsz (by simp; omega) (fun q hq => by
      rw [List.mem_append, List.mem_append] at hq
      rcases hq with (hq | hq) | hq
      · exact b2 q (List.mem_of_mem_take hq)
      · exact hfl.2.1 q hq
      · exact b2 q (List.mem_of_mem_drop hq)) (fun k j q d r1 r2 => by
      have hj : ∀ q : List AV, q.length = s → q[j]? = some d → j < s := fun q hq r => by
        rcases Nat.lt_or_ge j q.length with h' | h'
        · omega
        · rw [List.getElem?_eq_none h'] at r; cases r
      rw [hget]
      by_cases k1 : k < off
      · rw [List.append_assoc, List.getElem?_append_left (by simp; omega), List.getElem?_take, if_pos k1] at r1
        obtain ⟨o1, dv, r3, r4⟩ := f5 k j q d r1 r2
        have := cell_lt k1 (hj q (b2 q (List.mem_of_getElem? r1)) r2)
        exact ⟨o1, dv, by rw [if_pos (by omega)]; exact r3, r4⟩
      · by_cases k2 : k < off + zs.length
        · rw [List.append_assoc, List.getElem?_append_right (by simp; omega), List.getElem?_append_left (by simp; omega)] at r1
          have hm : (xs.take off).length = off := by simp; omega
          rw [hm] at r1
          have hjs := hj q (hfl.2.1 q (List.mem_of_getElem? r1)) r2
          obtain ⟨dv, r3, r4⟩ := hfl.2.2 (k - off) j q d r1 r2
          have h5 : k - off < zs.length := by omega
          have := cell_lt h5 hjs
          have h6 : k * s = off * s + (k - off) * s := by rw [← Nat.add_mul]; congr 1; omega
          have ho := hone q (List.mem_of_getElem? r1)
          rw [List.all_eq_true] at ho
          refine ⟨ho d (List.mem_of_getElem? r2), dv, ?_, r4⟩
          rw [if_neg (by omega), if_pos (by omega), show loc.base + k * s + j - (loc.base + off * s) = (k - off) * s + j by omega]
          exact r3
        · rw [List.append_assoc, List.getElem?_append_right (by simp; omega), List.getElem?_append_right (by simp; omega), List.getElem?_drop] at r1
          simp only [List.length_take] at r1
          rw [show off + zs.length + (k - min off xs.length - zs.length) = k by omega] at r1
          obtain ⟨o1, dv, r3, r4⟩ := f5 k j q d r1 r2
          have h6 : (off + zs.length) * s ≤ k * s := Nat.mul_le_mul_right _ (by omega)
          rw [Nat.add_mul] at h6
          exact ⟨o1, dv, by rw [if_neg (by omega), if_neg (by omega)]; exact r3, r4⟩)
  exact ⟨S, φ, q1, q2, .int, fun _ _ => rfl⟩
/-- The first elements of a slice. -/
theorem elems_take {sz : Nat} {y : AV} {v : Value} {ys : List (List AV)} {rd : List Nat} (n : Nat) (hn : n ≤ ys.length) (he : elems H sz y = some (ys, rd)) (hrd : ∀ id ∈ rd, h id = hget H id) (hs : Sim P S φ h w) (hv : Rep w S φ y v) :
    ∃ b cap, v = .slice b ys.length cap ∧ ∃ c, (Builtin.firstCells sz n v).run P w = .ok c w ∧ Flat w S φ sz (ys.take n) c := by
  unfold elems at he
  split at he
  · cases he
    have : n = 0 := by simpa using hn
    subst this
    refine ⟨none, 0, ?_, #[], ?_, by simp, by simp, by simp⟩
    · generalize v = q at hv; cases hv; rfl
    · generalize v = q at hv; cases hv; rfl
  · cases he
    have : n = 0 := by simpa using hn
    subst this
    obtain ⟨aa, cap, f1, -⟩ := hv.inv_emp
    exact ⟨some aa, cap, f1, #[], by rw [f1]; exact run_first0 _ _ _ _, by simp, by simp, by simp⟩
  · rename_i s xs'
    split at he
    · rename_i hsz
      cases he
      subst hsz
      obtain ⟨aa, cap, f1, f0, f2⟩ := hv.inv_lst
      rcases f2 with f2 | ⟨b, base, rfl, f2⟩
      · subst f2
        have : n = 0 := by simpa using hn
        subst this
        exact ⟨aa, cap, f1, #[], by rw [f1]; cases aa <;> first | rfl | exact run_first0 _ _ _ _, by simp, by simp, by simp⟩
      · have hat := f2.sub (l := 0) (n := n)
        simp only [List.drop_zero, Nat.zero_mul, Nat.add_zero] at hat
        obtain ⟨c, g1, g2⟩ := run_cells (P := P) (w := w) (S := S) (φ := φ) (sz := s) (b := b) (base := base) (xs := ys.take n) (fun x hx => (hat.1 x hx).1) (fun i j x c e1 e2 => by
          obtain ⟨u, u1, u2⟩ := hat.2.2 i j x c e1 e2
          exact ⟨u, u1, u2.mono (fun _ e => e) (fun _ _ => rfl) (fun _ _ _ e => e) (fun _ _ e => by cases e)⟩)
        rw [List.length_take, Nat.min_eq_left hn] at g1
        exact ⟨_, cap, f1, c, by rw [f1]; exact g1, g2⟩
    · cases he
  · cases he
    have : n = 0 := by simpa using hn
    subst this
    obtain ⟨loc, cap, e', n', hφ, hsh, hn', hlc, hval⟩ := hv.inv_own
    exact ⟨_, cap, hval, #[], by rw [hval]; exact run_first0 _ _ _ _, by simp, by simp, by simp⟩
  · rename_i id off len hne
    split at he
    · rename_i s xs e1
      split at he
      · rename_i hc
        cases he
        obtain ⟨rfl, hle⟩ := hc
        obtain ⟨loc, cap', e'', n', hφ, hsh, hn', hlc, hval⟩ := hv.inv_own
        have hb : h id = some (.row s xs) := by rw [hrd id (by simp)]; exact e1
        obtain ⟨loc', p1, p2, p3⟩ := hs.blk id _ hb
        rw [hφ] at p1; cases p1
        have hlen : ((xs.drop off).take len).length = len := by simp; omega
        obtain ⟨sub1, sub2⟩ := p2.sub (off := off) (len := n)
        have htk : ((xs.drop off).take len).take n = (xs.drop off).take n := by rw [List.take_take, Nat.min_eq_left (by omega)]
        obtain ⟨c, g1, g2⟩ := run_cells (P := P) (w := w) (S := S) (φ := φ) (sz := s) (b := loc.blk) (base := loc.base + off * loc.sz) (xs := (xs.drop off).take n) sub1 (fun i j x c e1 e2 => by
          obtain ⟨-, u, u1, u2⟩ := sub2 i j x c e1 e2
          exact ⟨u, u1, u2⟩)
        rw [show ((xs.drop off).take n).length = n by simp; omega] at g1
        exact ⟨_, cap', by rw [hval, hlen], c, by rw [hval]; exact g1, by rw [htk]; exact g2⟩
      · cases he
    · cases he
  · cases he
theorem snd_cpy {c : Call} {x y : Operand} {t u e e' : TypeId} {n : Nat} {ax ay : Arg} {v : AV} {rd : List Nat} {wr : Wr} {nx' : Nat} {T : FuncId → Option IFn} {cb : Cb} (ho : o.op = .call c) (hc : c.callee = .builtin .copy) (hargs : c.args = #[x, y])
    (ht : c.argTypes[0]? = some t) (hu : P.underlying t = some (.slice e)) (hk : sizeK P e = some n) (hx : cOpd x = some ax) (hy : cOpd y = some ay)
    (he : evalOp T cb env H nx (.cpy n ax ay) = some (.eff v rd wr nx')) (hrd : ∀ id ∈ rd, h id = hget H id) (hs : Sim P S φ h w) (hr : Reps w S φ env a.tmps) : OpOK P o a w (Ends P S φ h w v wr nx nx') := by
  have hv := arg_rep hr hx
  have hvy := arg_rep hr hy
  obtain ⟨consts, hex⟩ := builtin_exec (a := a) ho hc
  simp only [evalOp] at he
  split at he
  · rename_i id off len ys rd' e1 e2
    split at he
    · rename_i s xs e3
      split at he
      · rename_i hcc
        obtain ⟨rfl, hle, hpos⟩ := hcc
        simp only [Option.some.injEq, OpR.eff.injEq] at he
        obtain ⟨rfl, rfl, rfl, rfl⟩ := he
        rw [e1] at hv
        obtain ⟨loc, cap', e'', n', hφ, hsh, hn', hlc, hval⟩ := hv.inv_own
        have hb : h id = some (.row s xs) := by rw [hrd id (by simp)]; exact e3
        obtain ⟨b, cap, f1, cs, f2, f3⟩ := elems_take (P := P) (min ys.length len) (Nat.min_le_left _ _) e2 (fun k hk => hrd k (by simp [hk])) hs hvy
        have hone := elems_one e2 (fun k hk => hrd k (by simp [hk])) hs hvy
        have hl : (ys.take (min ys.length len)).length = min ys.length len := by simp
        obtain ⟨w1, g1, g2⟩ := over_ends (nx := nx) (k := .i64) (m := ((min ys.length len : Nat) : Int)) hs hb hφ (off := off) (zs := ys.take (min ys.length len)) (by rw [hl]; omega) f3 (fun q hq => hone q (List.mem_of_mem_take hq))
        rw [hl] at g2
        refine .inl ⟨_, w1, ?_, g2⟩
        rw [hex]
        rw [f1] at f2
        simp [invoke, builtin, hargs, Builtin.copy_, ht, run_underlying hu, hval, f1, Builtin.lenOf, run_sizeK hk, f2, g1, goInt, Result.andThen]
      · cases he
    · cases he
  · cases he
theorem snd_clr {c : Call} {x : Operand} {t e : TypeId} {n : Nat} {z : List AV} {ax : Arg} {v : AV} {rd : List Nat} {wr : Wr} {nx' : Nat} {T : FuncId → Option IFn} {cb : Cb} (ho : o.op = .call c) (hc : c.callee = .builtin .clear) (hargs : c.args = #[x])
    (ht : c.argTypes[0]? = some t) (hu : P.underlying t = some (.slice e)) (hk : sizeK P e = some n) (hz : zeroK P e = some z) (hzl : z.length = n) (hx : cOpd x = some ax)
    (he : evalOp T cb env H nx (.clr n z ax) = some (.eff v rd wr nx')) (hrd : ∀ id ∈ rd, h id = hget H id) (hs : Sim P S φ h w) (hr : Reps w S φ env a.tmps) : OpOK P o a w (Ends P S φ h w v wr nx nx') := by
  have hv := arg_rep hr hx
  obtain ⟨consts, hex⟩ := builtin_exec (a := a) ho hc
  obtain ⟨i, zv, h1, h2, h3⟩ := zeroK_spec hz
  obtain ⟨i', k1, k2⟩ := sizeK_spec hk
  rw [k1] at h1; cases h1
  obtain ⟨z1, z2⟩ := zero_rep (w := w) (S := S) (φ := φ) h3
  have hzs : zv.cells.size = n := by rw [z1.1]; exact hzl
  have run1 : ∀ w', (Builtin.clear_ c.argTypes o.type #[a.eval x]).run P w = .ok undef w' → (execOp a.eval o).run P w = .ok (.value undef) w' := fun w' e1 => by rw [hex]; simp [invoke, builtin, hargs, e1]
  have none_ok : ∀ base cap, a.eval x = .slice base 0 cap → OpOK P o a w (Ends P S φ h w undefA [] nx nx) := fun base cap e1 =>
    .inl ⟨undef, w, run1 _ (by rw [e1]; cases base <;> simp [Builtin.clear_, ht, run_underlying hu, undef]), ends_pure hs undef_rep⟩
  simp only [evalOp] at he
  split at he
  · rename_i e2
    cases he
    rw [e2] at hv
    exact none_ok none 0 (by generalize a.eval x = q at hv; cases hv; rfl)
  · rename_i zz e2
    cases he
    rw [e2] at hv
    obtain ⟨aa, cap', hval, -⟩ := hv.inv_emp
    exact none_ok _ _ hval
  · rename_i id off len e2
    rw [e2] at hv
    split at he
    · rename_i s xs e3
      split at he
      · rename_i hcc
        cases he
        obtain ⟨rfl, hle, hone⟩ := hcc
        obtain ⟨loc, cap', e'', n', hφ, hsh, hn', hlc, hval⟩ := hv.inv_own
        have hb : h id = some (.row s xs) := by rw [hrd id (by simp)]; exact e3
        by_cases hl0 : len = 0
        · subst hl0
          have : xs.take off ++ List.replicate 0 z ++ xs.drop (off + 0) = xs := by simp
          rw [this]
          have hr1 : (Builtin.clear_ c.argTypes o.type #[a.eval x]).run P w = .ok undef w := by rw [hval]; simp [Builtin.clear_, ht, run_underlying hu, undef]
          have hup : updH h [(id, some (.row s xs))] = h := by
            funext k; rw [updH_one]
            by_cases hk : k = id
            · simp [hk, hb]
            · simp [hk]
          exact .inl ⟨undef, w, run1 _ hr1, S, φ, by rw [hup]; exact Adv.refl _ _ _ _, by rw [hup]; exact hs, undef_rep, fun _ _ => rfl⟩
        · obtain ⟨loc', p1, p2, p3⟩ := hs.blk id _ hb
          rw [hφ] at p1; cases p1
          obtain ⟨b1, b2, cur, ce, f3, f4, f5⟩ := p2
          have hmul : (off + len) * s ≤ xs.length * s := Nat.mul_le_mul_right _ hle
          rw [Nat.add_mul] at hmul
          have hzc : (Builtin.zeroCells zv.cells len).toList.length = len * s := by simp [zeroCells_size, hzs]
          have hfl := flat_made (w := w) (S := S) (φ := φ) (n := len) z1
          have hz2 : Builtin.zeroCells zv.cells len = (Array.range (len * z.length)).map (zv.cells[· % zv.cells.size]!) := by unfold Builtin.zeroCells; rw [hzs, hzl]
          rw [← hz2, hzl] at hfl
          have hzone : ∀ d ∈ (Builtin.zeroCells zv.cells len).toList, d.oneCell' = true := by
            intro d hd
            obtain ⟨k, hk, rfl⟩ := List.getElem_of_mem hd
            have hk' : k < len * s := by omega
            have h0 : 0 < s := by
              rcases Nat.eq_zero_or_pos s with e | e
              · rw [e] at hk'; simp at hk'
              · exact e
            have hq : k / s < (List.replicate len z).length := by simp; exact Nat.div_lt_of_lt_mul (by rw [Nat.mul_comm]; exact hk')
            have hm : k % s < ((List.replicate len z)[k / s]).length := by simp [hzl]; exact Nat.mod_lt _ h0
            obtain ⟨dv, r1, r2⟩ := hfl.2.2 (k / s) (k % s) _ _ (List.getElem?_eq_getElem hq) (List.getElem?_eq_getElem hm)
            rw [Nat.div_add_mod'] at r1
            have : (Builtin.zeroCells zv.cells len).toList[k] = dv := by
              have e9 : (Builtin.zeroCells zv.cells len)[k]? = some (Builtin.zeroCells zv.cells len).toList[k] := by simp at hk ⊢
              rw [e9] at r1; cases r1; rfl
            rw [this]
            rw [List.all_eq_true] at hone
            exact r2.oneCell (hone _ (by simp))
          have hstore := run_storeCells_at P loc.blk (loc.base + off * s) ce (Builtin.zeroCells zv.cells len).toList 0 cur w f3 (by rw [hzc]; omega) hzone
          obtain ⟨new, hnew⟩ : ∃ new, new = (List.take (loc.base + off * s + 0) cur.toList ++ (Builtin.zeroCells zv.cells len).toList ++ List.drop (loc.base + off * s + 0 + (Builtin.zeroCells zv.cells len).toList.length) cur.toList).toArray := ⟨_, rfl⟩
          rw [← hnew] at hstore
          rw [Nat.add_zero] at hnew
          have hnsz : new.size = cur.size := by rw [hnew]; simp at hzc ⊢; omega
          have hget : ∀ m, new[m]? = if m < loc.base + off * s then cur[m]? else if m < loc.base + off * s + len * s then (Builtin.zeroCells zv.cells len)[m - (loc.base + off * s)]? else cur[m]? := by
            intro m
            rw [hnew]
            simp only [List.getElem?_toArray]
            have hl2 : (List.take (loc.base + off * s) cur.toList).length = loc.base + off * s := by simp; omega
            by_cases q : m < loc.base + off * s
            · rw [if_pos q, List.append_assoc, List.getElem?_append_left (by omega), List.getElem?_take, if_pos q]; simp
            · rw [if_neg q]
              by_cases q2 : m < loc.base + off * s + len * s
              · rw [if_pos q2, List.append_assoc, List.getElem?_append_right (by omega), List.getElem?_append_left (by omega), hl2]; simp
              · rw [if_neg q2, List.append_assoc, List.getElem?_append_right (by omega), List.getElem?_append_right (by omega), List.getElem?_drop, hl2, hzc]
                simp only [Array.getElem?_toList]
                congr 1; omega
          have hr1 : (Builtin.clear_ c.argTypes o.type #[a.eval x]).run P w = .ok undef (w.setRow loc.blk new) := by
            rw [hval]
            obtain ⟨m, rfl⟩ : ∃ m, len = m + 1 := ⟨len - 1, by omega⟩
            simp only [b1] at *
            simp only [Builtin.clear_, ht, List.getElem?_toArray, List.getElem?_cons_zero, Sem.run_bind, run_underlying hu, Result.andThen_ok, zeroValue, typeInfo, run_program, k1, h2, Sem.run_pure, hstore]
            rfl
          refine .inl ⟨undef, _, run1 _ hr1, ?_⟩
          obtain ⟨q1, q2⟩ := rowset_ends (id := id) (zs := xs.take off ++ List.replicate len z ++ xs.drop (off + len)) (new := new) hs hb hφ f3 hnsz (by simp; omega) (fun q hq => by
              rw [List.mem_append, List.mem_append] at hq
              rcases hq with (hq | hq) | hq
              · exact b2 q (List.mem_of_mem_take hq)
              · rw [List.eq_of_mem_replicate hq]; exact hzl
              · exact b2 q (List.mem_of_mem_drop hq)) (fun k j q d r1 r2 => by
              have hj : ∀ q : List AV, q.length = s → q[j]? = some d → j < s := fun q hq r => by
                rcases Nat.lt_or_ge j q.length with h' | h'
                · omega
                · rw [List.getElem?_eq_none h'] at r; cases r
              rw [hget]
              by_cases k1 : k < off
              · rw [List.append_assoc, List.getElem?_append_left (by simp; omega), List.getElem?_take, if_pos k1] at r1
                obtain ⟨o1, dv, r3, r4⟩ := f5 k j q d r1 r2
                have := cell_lt k1 (hj q (b2 q (List.mem_of_getElem? r1)) r2)
                exact ⟨o1, dv, by rw [if_pos (by omega)]; exact r3, r4⟩
              · by_cases k2 : k < off + len
                · rw [List.append_assoc, List.getElem?_append_right (by simp; omega), List.getElem?_append_left (by simp; omega)] at r1
                  have hm : (xs.take off).length = off := by simp; omega
                  rw [hm] at r1
                  have hq := List.eq_of_mem_replicate (List.mem_of_getElem? r1)
                  have hjs := hj q (by rw [hq]; exact hzl) r2
                  obtain ⟨dv, r3, r4⟩ := hfl.2.2 (k - off) j q d r1 r2
                  have h5 : k - off < len := by omega
                  have := cell_lt h5 hjs
                  have h6 : k * s = off * s + (k - off) * s := by rw [← Nat.add_mul]; congr 1; omega
                  rw [List.all_eq_true] at hone
                  refine ⟨hone d (by rw [hq] at r2; exact List.mem_of_getElem? r2), dv, ?_, r4⟩
                  rw [if_neg (by omega), if_pos (by omega), show loc.base + k * s + j - (loc.base + off * s) = (k - off) * s + j by omega]
                  exact r3
                · rw [List.append_assoc, List.getElem?_append_right (by simp; omega), List.getElem?_append_right (by simp; omega), List.getElem?_drop] at r1
                  simp only [List.length_take, List.length_replicate] at r1
                  rw [show off + len + (k - min off xs.length - len) = k by omega] at r1
                  obtain ⟨o1, dv, r3, r4⟩ := f5 k j q d r1 r2
                  have h6 : (off + len) * s ≤ k * s := Nat.mul_le_mul_right _ (by omega)
                  rw [Nat.add_mul] at h6
                  exact ⟨o1, dv, by rw [if_neg (by omega), if_neg (by omega)]; exact r3, r4⟩)
          exact ⟨S, φ, q1, q2, undef_rep, fun _ _ => rfl⟩
      · cases he
    · cases he
  · cases he
end ops
end Go.V
/- Soundness: equal. -/
set_option linter.unusedVariables false
set_option linter.unusedSimpArgs false
namespace Go.V
open Go.RowKit
variable {P : Program}

/-- The first cells, and the others. -/
theorem eqL_split : ∀ {k1 k2 : List Bool} {a b : List AV} {r : Bool}, eqL (k1 ++ k2) a b = some r →
    ∃ r1, eqL k1 (a.take k1.length) (b.take k1.length) = some r1 ∧ ((r1 = true ∧ eqL k2 (a.drop k1.length) (b.drop k1.length) = some r) ∨ (r1 = false ∧ r = false))
  | [], k2, a, b, r, h => ⟨true, by simp [eqL], .inl ⟨rfl, by simpa using h⟩⟩
  | k :: k1, k2, [], b, r, h => by simp [eqL] at h
  | k :: k1, k2, x :: a, [], r, h => by simp [eqL] at h
  | k :: k1, k2, x :: a, y :: b, r, h => by
    simp only [List.cons_append, eqL] at h
    split at h
    · rename_i e
      obtain ⟨r1, h1, h2⟩ := eqL_split h
      exact ⟨r1, by simp [eqL, e, h1], by simpa using h2⟩
    · rename_i e; cases h; exact ⟨false, by simp [eqL, e], .inr ⟨rfl, rfl⟩⟩
    · cases h
section ops
variable {P : Program} {S : Nat → Prop} {φ : Phi} {h : Mem} {H : Heap} {w : World} {env : List AV} {a : Act} {o : Oper} {nx : Nat}
theorem Reps.sub {cs : List AV} {vs : Array Value} (hr : Reps w S φ cs vs) (o n : Nat) : Reps w S φ ((cs.drop o).take n) (vs.extract o (o + n)) := by
  refine ⟨by simp [hr.1]; omega, fun i c v e1 e2 => ?_⟩
  rw [List.getElem?_take] at e1
  split at e1
  · rw [List.getElem?_drop] at e1
    rw [Array.getElem?_extract] at e2
    split at e2
    · exact hr.2 _ c v e1 e2
    · cases e2
  · cases e1
/-- What is proved of a type. -/
def EqOK (P : Program) (w : World) (S : Nat → Prop) (φ : Phi) (D : Nat) (t : TypeId) (ks : List Bool) : Prop :=
  (aggK P t = true → ∀ cs ds vc vd b, Reps w S φ cs vc → Reps w S φ ds vd → eqL ks cs ds = some b → (Op.equalIn D t (.agg vc) (.agg vd)).run P w = .ok b w) ∧
  (aggK P t = false → ks.length = 1 ∧ ∀ c d v u b, Rep w S φ c v → Rep w S φ d u → eqL ks [c] [d] = some b → (Op.equalIn D t v u).run P w = .ok b w)
theorem eq_part {D : Nat} {t : TypeId} {ks : List Bool} {n : Nat} (hE : EqOK P w S φ D t ks) (hn : sizeK P t = some ks.length) (hu : (P.underlying t).isSome = true) {cs ds : List AV} {vc vd : Array Value} {b : Bool} {off : Nat} (h1 : Reps w S φ cs vc) (h2 : Reps w S φ ds vd) (he : eqL ks ((cs.drop off).take ks.length) ((ds.drop off).take ks.length) = some b) :
    ∃ v u, (Go.part t vc off).run P w = .ok v w ∧ (Go.part t vd off).run P w = .ok u w ∧ (Op.equalIn D t v u).run P w = .ok b w := by
  obtain ⟨d, hd⟩ := Option.isSome_iff_exists.1 hu
  cases hg : aggK P t with
  | true =>
    have hg' : isAggD d = true := by simpa [aggK, hd] using hg
    refine ⟨.agg (vc.extract off (off + ks.length)), .agg (vd.extract off (off + ks.length)), ?_, ?_, hE.1 hg _ _ _ _ b (h1.sub off ks.length) (h2.sub off ks.length) he⟩
    · simp only [Go.part, Sem.run_bind, run_isAgg hd, Result.andThen_ok, hg', if_true, run_sizeK hn]; rfl
    · simp only [Go.part, Sem.run_bind, run_isAgg hd, Result.andThen_ok, hg', if_true, run_sizeK hn]; rfl
  | false =>
    have hg' : isAggD d = false := by simpa [aggK, hd] using hg
    obtain ⟨hl, hone⟩ := hE.2 hg
    rw [hl] at he
    have key : ∀ (xs : List AV) (vs : Array Value), Reps w S φ xs vs → (∃ x v, (xs.drop off).take 1 = [x] ∧ vs[off]? = some v ∧ Rep w S φ x v) ∨ (xs.drop off).take 1 = [] := fun xs vs hr => by
      cases hx : xs[off]? with
      | none => right; simp at hx ⊢; omega
      | some x =>
        obtain ⟨v, r1, r2⟩ := hr.get hx
        left
        refine ⟨x, v, ?_, r1, r2⟩
        have hlt : off < xs.length := by
          rcases Nat.lt_or_ge off xs.length with h' | h'
          · exact h'
          · rw [List.getElem?_eq_none h'] at hx; cases hx
        rw [List.drop_eq_getElem_cons hlt]
        have : xs[off]? = some xs[off] := by simp [hlt]
        rw [this] at hx; cases hx; rfl
    obtain ⟨k, rfl⟩ : ∃ k, ks = [k] := by
      cases ks with
      | nil => simp at hl
      | cons k ks => cases ks with
        | nil => exact ⟨k, rfl⟩
        | cons _ _ => simp at hl
    rcases key cs vc h1 with ⟨x, v, e1, e2, e3⟩ | e1
    · rcases key ds vd h2 with ⟨y, u, f1, f2, f3⟩ | f1
      · rw [e1, f1] at he
        refine ⟨v, u, ?_, ?_, hone x y v u b e3 f3 he⟩
        · simp only [Go.part, Sem.run_bind, run_isAgg hd, Result.andThen_ok, hg', Bool.false_eq_true, if_false, e2, Sem.run_pure]
        · simp only [Go.part, Sem.run_bind, run_isAgg hd, Result.andThen_ok, hg', Bool.false_eq_true, if_false, f2, Sem.run_pure]
      · rw [e1, f1] at he; simp [eqL] at he
    · rw [e1] at he; simp [eqL] at he
theorem eqA_run {t : TypeId} {d : TypeDesc} {D : Nat} {k : Bool} {x y : AV} {vx vy : Value} {b : Bool} (hd : P.underlying t = some d) (hk : (k = true ∧ d = .bool) ∨ (k = false ∧ ∃ i, d = .int i)) (hx : Rep w S φ x vx) (hy : Rep w S φ y vy) (he : eqA k x y = some b) : (Op.equalIn (D + 1) t vx vy).run P w = .ok b w := by
  unfold eqA at he
  split at he
  · rename_i i m i' m'
    split at he
    · rename_i hc
      obtain ⟨rfl, rfl⟩ := hc
      cases he
      rcases hk with ⟨h0, -⟩ | ⟨-, q, rfl⟩
      · cases h0
      · rw [hx.inv_int, hy.inv_int]
        simp [Op.equalIn, run_underlying hd]
    · cases he
  · split at he
    · rename_i hc
      subst hc
      cases he
      rcases hk with ⟨-, rfl⟩ | ⟨h0, -⟩
      · rw [hx.inv_bool, hy.inv_bool]
        simp [Op.equalIn, run_underlying hd]
      · cases h0
    · cases he
  · cases he
theorem eqL_one {k : Bool} {x y : AV} {b : Bool} (he : eqL [k] [x] [y] = some b) : eqA k x y = some b := by
  simp only [eqL] at he
  cases e : eqA k x y with
  | none => simp [e] at he
  | some r => cases r <;> simpa [e] using he
theorem flatFs_pre {rec : TypeId → Option (List Bool)} : ∀ {fs : List Field} {acc ks : List Bool}, flatFs P rec fs acc = some ks → ∃ rest, ks = acc ++ rest
  | [], acc, ks, h => by cases h; exact ⟨[], by simp⟩
  | f :: fs, acc, ks, h => by
    simp only [flatFs] at h
    split at h
    · split at h
      · split at h
        · obtain ⟨r, rfl⟩ := flatFs_pre h; exact ⟨_, by rw [List.append_assoc]⟩
        · cases h
      · cases h
    · cases h
theorem flat_loop {d D : Nat} (hE : ∀ t ks, flatK P d t = some ks → EqOK P w S φ D t ks) (hU : ∀ t ks, flatK P d t = some ks → (P.underlying t).isSome = true) {cs ds : List AV} {vc vd : Array Value} (h1 : Reps w S φ cs vc) (h2 : Reps w S φ ds vd) :
    ∀ {fs : List Field} {acc rest : List Bool} {b : Bool}, flatFs P (flatK P d) fs acc = some (acc ++ rest) → eqL rest (cs.drop acc.length) (ds.drop acc.length) = some b →
      Sem.run P (forIn fs ((none, ()) : Option Bool × Unit) fun f __s =>
            if f.name ≠ "_" then do
              let __do_lift ← Go.part f.type vc f.offset
              let __do_lift_1 ← Go.part f.type vd f.offset
              let __do_lift ← Op.equalIn D f.type __do_lift __do_lift_1
              if (!__do_lift) = true then pure (ForInStep.done (some false, ())) else pure (ForInStep.yield (none, ()))
            else pure (ForInStep.yield (none, ()))) w = .ok (if b then none else some false, ()) w
  | [], acc, rest, b, hf, he => by
    have hr : rest = [] := by simp only [flatFs, Option.some.injEq] at hf; simpa using hf
    subst hr
    have hb : b = true := by
      cases hx : cs.drop acc.length with
      | nil => cases hy : ds.drop acc.length with
        | nil => rw [hx, hy] at he; cases he; rfl
        | cons _ _ => rw [hx, hy] at he; cases he
      | cons _ _ => rw [hx] at he; simp [eqL] at he
    subst hb
    rfl
  | f :: fs, acc, rest, b, hf, he => by
    simp only [flatFs] at hf
    split at hf
    · rename_i hc
      obtain ⟨hname, hoff⟩ := hc
      split at hf
      · rename_i ks hks
        split at hf
        · rename_i hsz
          obtain ⟨rest', e⟩ := flatFs_pre hf
          have hrest : rest = ks ++ rest' := by rw [List.append_assoc] at e; exact List.append_cancel_left e
          subst hrest
          rw [← List.append_assoc] at hf
          obtain ⟨r1, g1, g2⟩ := eqL_split he
          obtain ⟨v, u, q1, q2, q3⟩ := eq_part (n := 0) (hE _ _ hks) hsz (hU _ _ hks) h1 h2 g1
          rw [List.forIn_cons]
          simp only [hname, ne_eq, not_false_eq_true, if_true, Sem.run_bind, hoff, q1, q2, q3, Result.andThen_ok]
          rcases g2 with ⟨rfl, g2⟩ | ⟨rfl, rfl⟩
          · simp only [Bool.not_true, Bool.false_eq_true, if_false, Sem.run_pure, Result.andThen_ok]
            have hl : (acc ++ ks).length = acc.length + ks.length := by simp
            exact flat_loop hE hU h1 h2 (acc := acc ++ ks) (rest := rest') hf (by rw [hl, ← List.drop_drop, ← List.drop_drop]; exact g2)
          · simp
        · cases hf
      · cases hf
    · cases hf
theorem arr_loop {D : Nat} {e : TypeId} {ks : List Bool} (hE : EqOK P w S φ D e ks) (hn : sizeK P e = some ks.length) (hu : (P.underlying e).isSome = true) {cs ds : List AV} {vc vd : Array Value} (h1 : Reps w S φ cs vc) (h2 : Reps w S φ ds vd) :
    ∀ (m a : Nat) {b : Bool}, eqL (List.replicate m ks).flatten (cs.drop (a * ks.length)) (ds.drop (a * ks.length)) = some b →
      Sem.run P (forIn (List.range' a m) ((none, ()) : Option Bool × Unit) fun i __s => do
            let __do_lift ← Go.part e vc (i * ks.length)
            let __do_lift_1 ← Go.part e vd (i * ks.length)
            let __do_lift ← Op.equalIn D e __do_lift __do_lift_1
            if (!__do_lift) = true then pure (ForInStep.done (some false, ())) else pure (ForInStep.yield (none, ()))) w = .ok (if b then none else some false, ()) w
  | 0, a, b, he => by
    have hb : b = true := by
      cases hx : cs.drop (a * ks.length) with
      | nil => cases hy : ds.drop (a * ks.length) with
        | nil => rw [hx, hy] at he; cases he; rfl
        | cons _ _ => rw [hx, hy] at he; cases he
      | cons _ _ => rw [hx] at he; simp [eqL] at he
    subst hb
    rfl
  | m + 1, a, b, he => by
    rw [List.replicate_succ, List.flatten_cons] at he
    obtain ⟨r1, g1, g2⟩ := eqL_split he
    obtain ⟨v, u, q1, q2, q3⟩ := eq_part (n := 0) hE hn hu h1 h2 g1
    rw [List.range'_succ, List.forIn_cons]
    simp only [Sem.run_bind, q1, q2, q3, Result.andThen_ok]
    rcases g2 with ⟨rfl, g2⟩ | ⟨rfl, rfl⟩
    · simp only [Bool.not_true, Bool.false_eq_true, if_false, Sem.run_pure, Result.andThen_ok]
      refine arr_loop hE hn hu h1 h2 m (a + 1) ?_
      rw [Nat.add_mul, Nat.one_mul, ← List.drop_drop, ← List.drop_drop]; exact g2
    · simp
theorem flat_under {d : Nat} {t : TypeId} {ks : List Bool} (h : flatK P d t = some ks) : (P.underlying t).isSome = true := by
  cases d with
  | zero => cases h
  | succ d =>
    simp only [flatK] at h
    split at h <;> first | (cases h; done) | (rename_i e; simp [e]; done) | (rename_i e _; simp [e]; done) | (rename_i e; simp [e])
theorem flat_eq : ∀ (d : Nat) (t : TypeId) (ks : List Bool), flatK P d t = some ks → ∀ D, d ≤ D → EqOK P w S φ D t ks
  | 0, t, ks, h, D, hD => by cases h
  | d + 1, t, ks, h, D, hD => by
    obtain ⟨D, rfl⟩ : ∃ D', D = D' + 1 := ⟨D - 1, by omega⟩
    simp only [flatK] at h
    split at h
    · rename_i hu
      cases h
      refine ⟨fun hg => by simp [aggK, hu, isAggD] at hg, fun _ => ⟨rfl, fun c d v u b h1 h2 he => eqA_run hu (.inl ⟨rfl, rfl⟩) h1 h2 (eqL_one he)⟩⟩
    · rename_i i hu
      cases h
      refine ⟨fun hg => by simp [aggK, hu, isAggD] at hg, fun _ => ⟨rfl, fun c d v u b h1 h2 he => eqA_run hu (.inr ⟨rfl, _, rfl⟩) h1 h2 (eqL_one he)⟩⟩
    · rename_i fs hu
      split at h
      · cases h
      · rename_i hsi
        have hsi' : P.stoodInHeld t = false := by simpa using hsi
        refine ⟨fun _ cs ds vc vd b h1 h2 he => ?_, fun hg => by simp [aggK, hu, isAggD] at hg⟩
        have hl := flat_loop (D := D) (fun t ks hh => flat_eq d t ks hh D (by omega)) (fun t ks hh => flat_under hh) h1 h2 (acc := []) (rest := ks) (by simpa using h) (by simpa using he)
        unfold Op.equalIn
        simp only [Sem.run_bind, run_underlying hu, Result.andThen_ok, run_program, hsi', Bool.false_eq_true, if_false]
        rw [← Array.forIn_toList, hl]
        cases b <;> rfl
    · rename_i n e hu
      split at h
      · rename_i ks' hks
        split at h
        · rename_i hsz
          cases h
          refine ⟨fun _ cs ds vc vd b h1 h2 he => ?_, fun hg => by simp [aggK, hu, isAggD] at hg⟩
          have hl := arr_loop (D := D) (flat_eq d e ks' hks D (by omega)) hsz (flat_under hks) h1 h2 n 0 (b := b) (by simpa using he)
          unfold Op.equalIn
          simp only [Sem.run_bind, run_underlying hu, Result.andThen_ok, run_sizeK hsz]
          simp only [Std.Legacy.Range.forIn_eq_forIn_range', Std.Legacy.Range.size, Nat.sub_zero, Nat.add_one_sub_one, Nat.div_one]
          rw [hl]
          cases b <;> rfl
        · cases h
      · cases h
    · cases h
theorem snd_eqv {neg : Bool} {t t' : TypeId} {x y : Operand} {ax ay : Arg} {io : PO} {v : AV} {rd : List Nat} {wr : Wr} {nx' : Nat} {T : FuncId → Option IFn} {cb : Cb} (ho : o.op = .binOp (if neg then .neq else .eql) t x y t') (hio : cEqv P neg t ax ay = some io) (hx : cOpd x = some ax) (hy : cOpd y = some ay) (hnt : isIntT P t = false)
    (he : evalOp T cb env H nx io = some (.eff v rd wr nx')) (hs : Sim P S φ h w) (hr : Reps w S φ env a.tmps) : OpOK P o a w (Ends P S φ h w v wr nx nx') := by
  have hv := arg_rep hr hx
  have hvy := arg_rep hr hy
  unfold cEqv at hio
  split at hio
  · rename_i ks hks
    split at hio
    · cases hio
    · rename_i hgt
      have hgt' : P.eqGuardType P.depth t = false := by simpa using hgt
      cases hio
      have hE := flat_eq (w := w) (S := S) (φ := φ) 20 t ks hks Op.maxDepth (by decide)
      have hex : execOp a.eval o = (do pure (.value (← (do eqGuard (if neg then .neq else .eql) t x y (a.eval x) (a.eval y); binOp (if neg then .neq else .eql) t (a.eval x) (a.eval y))))) := by unfold execOp; simp only [ho]
      have fin : ∀ b, (eqGuard (if neg then .neq else .eql) t x y (a.eval x) (a.eval y)).run P w = .ok () w → (binOp (if neg then .neq else .eql) t (a.eval x) (a.eval y)).run P w = .ok (.bool (if neg then !b else b)) w → OpOK P o a w (Ends P S φ h w (.bool (if neg then !b else b)) [] nx nx) := fun b e1 e2 =>
        opOK_value hex (by rw [Sem.run_bind, e1]; exact e2) (ends_pure hs .bool)
      cases hg : aggK P t with
      | true =>
        rw [hg] at he
        simp only [evalOp] at he
        split at he
        · rename_i cs ds e1 e2
          cases e3 : eqL ks cs ds with
          | none => simp [e3] at he
          | some b =>
            simp [e3] at he
            obtain ⟨rfl, rfl, rfl, rfl⟩ := he
            rw [e1] at hv; rw [e2] at hvy
            obtain ⟨vc, f1, f2⟩ := hv.inv_agg
            obtain ⟨vd, g1, g2⟩ := hvy.inv_agg
            have hrun := hE.1 hg _ _ _ _ b f2 g2 e3
            refine fin b ?_ ?_
            · rw [f1, g1]; cases neg <;> simp [eqGuard, hgt']
            · rw [f1, g1]; cases neg <;> simp [binOp, Op.equal, hrun]
        · cases he
      | false =>
        rw [hg] at he
        simp only [evalOp] at he
        cases e3 : eqL ks [arg env ax] [arg env ay] with
        | none => simp [e3] at he
        | some b =>
          simp [e3] at he
          obtain ⟨rfl, rfl, rfl, rfl⟩ := he
          obtain ⟨hl, hone⟩ := hE.2 hg
          have hrun := hone _ _ _ _ b hv hvy e3
          -- both are truths: numbers are compared elsewhere
          have hbb : ∃ p q, a.eval x = .bool p ∧ a.eval y = .bool q := by
            simp only [flatK] at hks
            split at hks
            · cases hks
              have := eqL_one e3
              unfold eqA at this
              split at this
              · simp at this
              · rename_i p q h1 h2; rw [h1] at hv; rw [h2] at hvy; exact ⟨p, q, hv.inv_bool, hvy.inv_bool⟩
              · cases this
            · rename_i hu; simp [isIntT, hu] at hnt
            · rename_i hu; simp [aggK, hu, isAggD] at hg
            · rename_i hu; simp [aggK, hu, isAggD] at hg
            · cases hks
          obtain ⟨p, q, f1, g1⟩ := hbb
          rw [f1, g1] at hrun
          refine fin b ?_ ?_
          · rw [f1, g1]; cases neg <;> simp [eqGuard]
          · rw [f1, g1]; cases neg <;> simp [binOp, Op.equal, hrun]
  · cases hio
theorem nilT_spec {t : TypeId} (h : nilT P t = true) : ∃ e, P.underlying t = some (.slice e) := by
  unfold nilT at h
  split at h
  · rename_i e he; exact ⟨e, he⟩
  · cases h
theorem isNilC_spec {y : Operand} (h : isNilC y = true) : y = .const (.slice none 0 0) := by
  unfold isNilC at h
  split at h
  · rfl
  · cases h
theorem snd_isNil {neg : Bool} {t t' : TypeId} {x y : Operand} {ax : Arg} {v : AV} {rd : List Nat} {wr : Wr} {nx' : Nat} {T : FuncId → Option IFn} {cb : Cb} (ho : o.op = .binOp (if neg then .neq else .eql) t x y t') (hn : nilT P t = true) (hy : isNilC y = true) (hx : cOpd x = some ax)
    (he : evalOp T cb env H nx (.isNil neg ax) = some (.eff v rd wr nx')) (hs : Sim P S φ h w) (hr : Reps w S φ env a.tmps) : OpOK P o a w (Ends P S φ h w v wr nx nx') := by
  have hv := arg_rep hr hx
  obtain ⟨e, hu⟩ := nilT_spec hn
  have hy' := isNilC_spec hy
  subst hy'
  have hex : execOp a.eval o = (do pure (.value (← (do eqGuard (if neg then .neq else .eql) t x (.const (.slice none 0 0)) (a.eval x) (.slice none 0 0); binOp (if neg then .neq else .eql) t (a.eval x) (.slice none 0 0))))) := by unfold execOp; simp only [ho]; rfl
  have key : ∀ base len cap, a.eval x = .slice base len cap → OpOK P o a w (Ends P S φ h w (.bool (if neg then base.isSome else base.isNone)) [] nx nx) := fun base len cap e1 => by
    refine opOK_value hex (w' := w) (vv := .bool (if neg then base.isSome else base.isNone)) ?_ (ends_pure hs .bool)
    rw [e1]
    have heq : ∀ d, (Op.equalIn (d + 1) t (.slice base len cap) (.slice none 0 0)).run P w = .ok base.isNone w := fun d => by
      unfold Op.equalIn
      rw [Sem.run_bind, run_underlying hu]
      cases base <;> rfl
    have h0 : (Op.equal t (.slice base len cap) (.slice none 0 0)).run P w = .ok base.isNone w := heq 9999
    have hg : ∀ op, (eqGuard op t x (.const (.slice none 0 0)) (.slice base len cap) (.slice none 0 0)).run P w = .ok () w := fun op => by
      unfold eqGuard; cases op <;> rfl
    cases neg
    · have hb : binOp .eql t (.slice base len cap) (.slice none 0 0) = (do pure (.bool (← Op.equal t (.slice base len cap) (.slice none 0 0)))) := rfl
      simp only [Bool.false_eq_true, if_false, hb, Sem.run_bind, hg, h0, Result.andThen_ok, Sem.run_pure]
    · have hb : binOp .neq t (.slice base len cap) (.slice none 0 0) = (do pure (.bool (!(← Op.equal t (.slice base len cap) (.slice none 0 0))))) := rfl
      simp only [if_true, hb, Sem.run_bind, hg, h0, Result.andThen_ok, Sem.run_pure]
      cases base <;> rfl
  simp only [evalOp] at he
  split at he
  · rename_i e2
    cases he
    rw [e2] at hv
    have := key none 0 0 (by generalize a.eval x = q at hv; cases hv; rfl)
    cases neg <;> simpa using this
  · rename_i id off len e2
    cases he
    rw [e2] at hv
    obtain ⟨loc, cap', e'', n', hφ, hsh, hn', hlc, hval⟩ := hv.inv_own
    have := key _ _ _ hval
    cases neg <;> simpa using this
  · rename_i z e2
    cases he
    rw [e2] at hv
    obtain ⟨aa, cap', hval, -⟩ := hv.inv_emp
    have := key _ _ _ hval
    cases neg <;> simpa using this
  · rename_i s q qs e2
    cases he
    rw [e2] at hv
    obtain ⟨aa, cap, f1, f0, f2⟩ := hv.inv_lst
    rcases f2 with f2 | ⟨b, base, rfl, f2⟩
    · cases f2
    · have := key _ _ _ f1
      cases neg <;> simpa using this
  · cases he
end ops
end Go.V
