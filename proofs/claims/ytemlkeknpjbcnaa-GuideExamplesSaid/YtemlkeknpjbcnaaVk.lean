/- Soundness: append, as an operation. -/
import Derived.Test.YtemlkeknpjbcnaaVj
set_option linter.unusedVariables false
set_option linter.unusedSimpArgs false
namespace Go.V
open Go.RowKit
variable {P : Program}

theorem only_new (φ : Phi) (nx : Nat) (loc : Loc) : ∀ id, (id < nx ∨ nx + 1 ≤ id) → (if id = nx then some loc else φ id) = φ id := by
  intro id hid
  have : id ≠ nx := by omega
  simp [this]
section ops
variable {P : Program} {S : Nat → Prop} {φ : Phi} {h : Mem} {H : Heap} {w : World} {env : List AV} {a : Act} {o : Oper} {nx : Nat}
/-- A block's elements are turned. -/
theorem rowset_ends {id sz : Nat} {xs zs : List (List AV)} {loc : Loc} {old new : Array Value} {e : TypeId} (hs : Sim P S φ h w) (hb : h id = some (.row sz xs)) (hφ : φ id = some loc)
    (ho : w.heap[loc.blk]? = some (.cells old e (0, 0))) (hsz : new.size = old.size) (hlen : zs.length = xs.length) (hl : ∀ x ∈ zs, x.length = sz)
    (hnew : ∀ (i j : Nat) x a, zs[i]? = some x → x[j]? = some a → a.one = true ∧ ∃ v, new[loc.base + i * sz + j]? = some v ∧ Rep w S φ a v) :
    Adv S φ h w S φ (updH h [(id, some (.row sz zs))]) (w.setRow loc.blk new) ∧ Sim P S φ (updH h [(id, some (.row sz zs))]) (w.setRow loc.blk new) := by
  rw [updH_one]
  obtain ⟨loc', q1, q2, q3⟩ := hs.blk id _ hb
  rw [hφ] at q1; cases q1
  have hown : Own φ h loc.blk := ⟨id, _, loc, hb, hφ, rfl⟩
  have hadv : Adv S φ h w S φ (fun k => if k = id then some (.row sz zs) else h k) (w.setRow loc.blk new) := by
    refine ⟨fun _ _ e => e, fun _ e => e, fun _ e => .inl e, rfl, rfl, rfl, by simp, fun b _ hn => setRow_other _ _ _ _ (fun e => hn (e ▸ hown)), ?_, fun b e n hb => shape_setRow ho hsz hb⟩
    rintro b ⟨k, y, l, e1, e2, e3⟩
    by_cases hk : k = id
    · subst hk; rw [hφ] at e2; cases e2; exact .inl (e3 ▸ hown)
    · exact .inl ⟨k, y, l, by simpa [hk] using e1, e2, e3⟩
  refine ⟨hadv, ?_, ?_, fun b hb => by simpa using hs.bd b hb⟩
  · intro k b hk
    by_cases hid : k = id
    · subst hid
      have hk' : some (Blk.row sz zs) = some b := by simpa using hk
      cases hk'
      refine ⟨loc, hφ, ?_, q3⟩
      obtain ⟨f1, f2, c, e', f3, f4, f5⟩ := q2
      rw [ho] at f3; cases f3
      refine ⟨f1, hl, new, e, setRow_heap w _ _ _ _ _ ho, by rw [hlen]; omega, fun i j y a g1 g2 => ?_⟩
      obtain ⟨o1, v, r1, r2⟩ := hnew i j y a g1 g2
      exact ⟨o1, v, r1, hadv.rep hs r2⟩
    · have hk' : h k = some b := by simpa [hid] using hk
      obtain ⟨l, p1, p2, p3⟩ := hs.blk k b hk'
      have hne : l.blk ≠ loc.blk := fun e => hid (hs.inj k id b _ l loc hk' hb p1 hφ e)
      exact ⟨l, p1, p2.adv hadv hs (setRow_other _ _ _ _ hne), p3⟩
  · intro k k' b b' l l' a1 a2 a3 a4 a5
    have key : ∀ k b, (if k = id then some (Blk.row sz zs) else h k) = some b → ∃ b, h k = some b := fun k b hk => by
      by_cases hid : k = id
      · exact ⟨_, hid ▸ hb⟩
      · exact ⟨b, by simpa [hid] using hk⟩
    obtain ⟨c, a1'⟩ := key k b a1
    obtain ⟨c', a2'⟩ := key k' b' a2
    exact hs.inj k k' c c' l l' a1' a2' a3 a4 a5
/-- What a slice without room becomes: a new block. -/
theorem fresh_ends {e : TypeId} {n : Nat} {ys : List (List AV)} {c : Array Value} {nc : Nat} (hs : Sim P S φ h w) (hn : φ nx = none) (hfl : Flat w.drew S φ n ys (c.extract 0 (ys.length * n))) (hone : ∀ x ∈ ys, x.all AV.one = true) (hc : nc * n ≤ c.size) (hnc : ys.length ≤ nc) :
    Ends P S φ h w (.own nx 0 ys.length) [(nx, some (.row n ys))] nx (nx + 1) (.slice (some ⟨w.heap.size, 0, none⟩) ys.length nc) (w.drew.alloc (.cells c e)) := by
  have hle : ys.length * n ≤ c.size := Nat.le_trans (Nat.mul_le_mul_right _ hnc) hc
  obtain ⟨q1, q2⟩ := V.new_ends (nx := nx) (sz := n) (xs := ys) (c := c) (e := e) hs.drewR hn hfl.2.1 hle hone (fun i j x a e1 e2 => by
    obtain ⟨v, r1, r2⟩ := hfl.2.2 i j x a e1 e2
    refine ⟨v, ?_, r2⟩
    rw [Array.getElem?_extract] at r1
    split at r1
    · simpa using r1
    · cases r1)
  refine ⟨S, _, (Adv.drewR S φ h w).trans q1, q2, ?_, only_new _ _ _⟩
  have := own_new (w := w.drew.alloc (.cells c e)) (S := S) (φ := fun id => if id = nx then some ⟨w.drew.heap.size, 0, n⟩ else φ id) (nx := nx) (len := ys.length) (cap := nc) (by simp) (shape_new w.drew _ e) hc hnc
  exact this
theorem zeroCells_size (z : Array Value) (n : Nat) : (Builtin.zeroCells z n).size = n * z.size := by simp [Builtin.zeroCells]
theorem extract_pre {a b : Array Value} {n : Nat} (h : a.size = n) : (a ++ b).extract 0 n = a := by
  rw [Array.extract_append]; simp [h]
theorem snd_app {c : Call} {x y : Operand} {t u e e' : TypeId} {i : TypeInfo} {z : List AV} {ax ay : Arg} {v : AV} {rd : List Nat} {wr : Wr} {nx' : Nat} {T : FuncId → Option IFn} {cb : Cb} (ho : o.op = .call c) (hc : c.callee = .builtin .append) (hargs : c.args = #[x, y])
    (ht : c.argTypes[0]? = some t) (hu : P.underlying t = some (.slice e)) (ht' : c.argTypes[1]? = some u) (hu' : P.underlying u = some (.slice e')) (hi : P.info? e = some i) (hz : zeroK P e = some z) (hzl : z.length = i.size) (hx : cOpd x = some ax) (hy : cOpd y = some ay)
    (he : evalOp T cb env H nx (.app i.size i.bytes ax ay) = some (.eff v rd wr nx')) (hrd : ∀ id ∈ rd, h id = hget H id) (hs : Sim P S φ h w) (hr : Reps w S φ env a.tmps) (hn : nx < nx' → φ nx = none) : OpOK P o a w (Ends P S φ h w v wr nx nx') := by
  have hv := arg_rep hr hx
  have hvy := arg_rep hr hy
  obtain ⟨consts, hex⟩ := builtin_exec (a := a) ho hc
  obtain ⟨i', zv, h1, h2, h3⟩ := zeroK_spec hz
  rw [hi] at h1; cases h1
  obtain ⟨z1, z2⟩ := zero_rep (w := w) (S := S) (φ := φ) h3
  have hzs : zv.cells.size = i.size := by rw [z1.1]; exact hzl
  have fin : ∀ vv w', (Builtin.append_ c.argTypes o.type #[a.eval x, a.eval y]).run P w = .ok vv w' → Ends P S φ h w v wr nx nx' vv w' → OpOK P o a w (Ends P S φ h w v wr nx nx') := fun vv w' e1 e2 =>
    .inl ⟨vv, w', by rw [hex]; simp [invoke, builtin, hargs, e1], e2⟩
  have run1 : ∀ vv w', (Builtin.append_ c.argTypes o.type #[a.eval x, a.eval y]).run P w = .ok vv w' → (execOp a.eval o).run P w = .ok (.value vv) w' := fun vv w' e1 => by rw [hex]; simp [invoke, builtin, hargs, e1]
  have fresh : ∀ {ys : List (List AV)} (base : Option Addr) {b : Option Addr} {cap : Nat} {cs : Array Value}, a.eval x = .slice base 0 0 → (ys.length + 1) * (i.bytes + 1) ≤ 1099511627776 → 0 < ys.length → a.eval y = .slice b ys.length cap → (Builtin.firstCells i.size ys.length (.slice b ys.length cap)).run P w.drew = .ok cs w.drew → Flat w.drew S φ i.size ys cs → (∀ x ∈ ys, x.all AV.one = true) → (hn : φ nx = none) →
      OpOK P o a w (Ends P S φ h w (.own nx 0 ys.length) [(nx, some (.row i.size ys))] nx (nx + 1)) := by
    intro ys base b cap cs hval hcc hpos f1 f2 f3 hone hn
    obtain ⟨nc, g1, g2⟩ := run_append_move (P := P) (w := w) (ty := o.type) (sLen := 0) (sCap := 0) (base := base) (old := #[]) ht hu ht' hu' hi h2 (by omega) (by simpa using hcc) (run_first0 _ _ _ _) f2
    refine .inl ⟨_, _, run1 _ _ (by rw [hval, f1]; exact g2), ?_⟩
    have := fresh_ends (P := P) (nx := nx) (e := e) (n := i.size) (ys := ys) (c := #[] ++ cs ++ Builtin.zeroCells zv.cells (nc - (0 + ys.length))) (nc := nc) hs hn (by
      simp only [Array.empty_append]; rw [extract_pre f3.1]; exact f3) hone (by
        have := f3.1
        simp [zeroCells_size, hzs, this, ← Nat.add_mul]
        exact Nat.mul_le_mul_right _ (by omega)) (by omega)
    simpa using this
  simp only [evalOp] at he
  split at he
  · -- nothing is appended
    rename_i rd' e1
    have hrd' : rd' = rd := by
      split at he <;> (first | cases he | skip) <;> rfl
    subst hrd'
    obtain ⟨b, cap, f1, cs, f2, f3⟩ := elems_rep (P := P) e1 hrd hs hvy
    rw [f1] at f2
    have hcs : cs = #[] := by have := f3.1; simpa using this
    subst hcs
    split at he
    · rename_i e2
      cases he
      rw [e2] at hv
      have hval : a.eval x = .slice none 0 0 := by generalize a.eval x = q at hv; cases hv; rfl
      refine fin _ _ (by rw [hval, f1]; exact run_append_in (P := P) ht hu ht' hu' hi (by simp) f2 rfl) (ends_pure hs .nilS)
    · rename_i id off len e2
      cases he
      rw [e2] at hv
      obtain ⟨loc, cap', e'', n', hφ, hsh, hn', hlc, hval⟩ := hv.inv_own
      refine fin _ _ (by rw [hval, f1]; exact run_append_in (P := P) ht hu ht' hu' hi (by simpa using hlc) f2 rfl) (ends_pure hs ?_)
      simpa using Rep.own (w := w) (S := S) hφ hsh hn' hlc
    · rename_i z e2
      cases he
      rw [e2] at hv
      obtain ⟨aa, cap', hval, hz⟩ := hv.inv_emp
      refine fin _ _ (by rw [hval, f1]; exact run_append_in (P := P) ht hu ht' hu' hi (by simp) f2 rfl) (ends_pure hs ?_)
      exact .emp hz
    · cases he
  · -- something is
    rename_i ys rd' hne e1
    split at he
    · rename_i e2
      split at he
      · rename_i hcc
        cases he
        obtain ⟨b, cap, f1, cs, f2, f3⟩ := elems_rep (P := P) e1 hrd hs.drewR ((Adv.drewR S φ h w).rep hs hvy)
        have hone := elems_one e1 hrd hs hvy
        rw [e2] at hv
        have hval : a.eval x = .slice none 0 0 := by generalize a.eval x = q at hv; cases hv; rfl
        rw [f1] at f2
        have hpos : 0 < ys.length := by
          cases ys with
          | nil => first | exact (hne rfl).elim | exact absurd rfl (hne rfl rd') | exact (hne rd' rfl).elim
          | cons _ _ => simp
        exact fresh none hval hcc hpos f1 f2 f3 hone (hn (by omega))
      · cases he
    · rename_i e2
      split at he
      · rename_i hcc
        cases he
        obtain ⟨b, cap, f1, cs, f2, f3⟩ := elems_rep (P := P) e1 hrd hs.drewR ((Adv.drewR S φ h w).rep hs hvy)
        have hone := elems_one e1 hrd hs hvy
        rw [e2] at hv
        obtain ⟨aa, cap', hval, hz⟩ := hv.inv_emp
        have := hz rfl; subst this
        rw [f1] at f2
        have hpos : 0 < ys.length := by
          cases ys with
          | nil => first | exact (hne rfl).elim | exact absurd rfl (hne rfl rd') | exact (hne rd' rfl).elim
          | cons _ _ => simp
        exact fresh (some aa) hval hcc hpos f1 f2 f3 hone (hn (by omega))
      · cases he
    · rename_i id off len e2
      split at he
      · rename_i s xs e3
        split at he
        · rename_i hcc
          obtain ⟨hsz, hle, hby⟩ := hcc
          cases he
          subst hsz
          have hb : h id = some (.row i.size xs) := by rw [hrd id (by simp)]; exact e3
          rw [e2] at hv
          obtain ⟨loc, cap', e'', n', hφ, hsh, hn', hlc, hval⟩ := hv.inv_own
          obtain ⟨loc', p1, p2, p3⟩ := hs.blk id _ hb
          rw [hφ] at p1; cases p1
          have hls : loc.sz = i.size := p2.1
          have hlen : ((xs.drop off).take len).length = len := by simp; omega
          obtain ⟨sub1, sub2⟩ := p2.sub (off := off) (len := len)
          have hone2 := elems_one e1 (fun k hk => hrd k (by simp [hk])) hs hvy
          have hone : ∀ q ∈ (xs.drop off).take len ++ ys, q.all AV.one = true := by
            intro q hq
            rw [List.mem_append] at hq
            rcases hq with hq | hq
            · obtain ⟨k, hk, rfl⟩ := List.getElem_of_mem hq
              rw [List.all_eq_true]
              intro d hd
              obtain ⟨j, hj, rfl⟩ := List.getElem_of_mem hd
              exact (sub2 k j _ _ (List.getElem?_eq_getElem hk) (List.getElem?_eq_getElem hj)).1
            · exact hone2 q hq
          obtain ⟨blk1, blk2, cur, ce, f3, f4, f5⟩ := p2
          have hn0 : φ nx = none := hn (by omega)
          have only : ∀ loc2 : Loc, ∀ k, (k < nx ∨ nx + 1 ≤ k) → (fun k => if k = nx then some loc2 else φ k) k = φ k := fun loc2 => only_new φ nx loc2
          have hupd : updH h [(id, none), (nx, some (.row i.size ((xs.drop off).take len ++ ys)))] = fun k => if k = nx then some (.row i.size ((xs.drop off).take len ++ ys)) else if k = id then none else h k := rfl
          by_cases hfit : len + ys.length ≤ cap'
          · -- in place
            obtain ⟨b, cap, f1, cs, f2, fl⟩ := elems_rep (P := P) e1 (fun k hk => hrd k (by simp [hk])) hs hvy
            rw [f1] at f2
            have hn2 : n' = cur.size := by
              unfold World.shape? at hsh; rw [f3] at hsh; simp at hsh; exact hsh.2.symm
            have hbig : loc.base + off * i.size + (len + ys.length) * i.size ≤ cur.size := by
              rw [hn2, hls] at hn'
              have : (off + (len + ys.length)) * i.size ≤ (off + cap') * i.size := Nat.mul_le_mul_right _ (by omega)
              rw [Nat.add_mul] at this; omega
            have hcsz : cs.toList.length = ys.length * i.size := by simpa using fl.1
            have hstore := run_storeCells_at P loc.blk (loc.base + off * i.size + len * i.size) ce cs.toList 0 cur w f3 (by rw [hcsz]; rw [Nat.add_mul] at hbig; omega) (by
              intro d hd
              obtain ⟨k, hk, rfl⟩ := List.getElem_of_mem hd
              have hk' : k < ys.length * i.size := by omega
              have h0 : 0 < i.size := by
                rcases Nat.eq_zero_or_pos i.size with e | e
                · rw [e] at hk'; simp at hk'
                · exact e
              have hq : k / i.size < ys.length := Nat.div_lt_of_lt_mul (by rw [Nat.mul_comm]; exact hk')
              have hm : k % i.size < ys[k / i.size].length := by rw [fl.2.1 _ (List.getElem_mem hq)]; exact Nat.mod_lt _ h0
              obtain ⟨dv, r1, r2⟩ := fl.2.2 (k / i.size) (k % i.size) _ _ (List.getElem?_eq_getElem hq) (List.getElem?_eq_getElem hm)
              rw [Nat.div_add_mod'] at r1
              have : cs.toList[k] = dv := by
                have e9 : cs[k]? = some cs.toList[k] := by simp at hk ⊢
                rw [e9] at r1; cases r1; rfl
              rw [this]
              have ho1 := hone2 _ (List.getElem_mem hq)
              rw [List.all_eq_true] at ho1
              exact r2.oneCell (ho1 _ (List.getElem_mem hm)))
            obtain ⟨new, hnew⟩ : ∃ new, new = (List.take (loc.base + off * i.size + len * i.size + 0) cur.toList ++ cs.toList ++ List.drop (loc.base + off * i.size + len * i.size + 0 + cs.toList.length) cur.toList).toArray := ⟨_, rfl⟩
            rw [← hnew] at hstore
            rw [Nat.add_zero] at hnew
            have hbig' : loc.base + off * i.size + len * i.size + ys.length * i.size ≤ cur.size := by rw [Nat.add_mul] at hbig; omega
            have hnsz : new.size = cur.size := by rw [hnew]; simp at hcsz ⊢; omega
            have hget : ∀ m, new[m]? = if m < loc.base + off * i.size + len * i.size then cur[m]? else if m < loc.base + off * i.size + len * i.size + ys.length * i.size then cs[m - (loc.base + off * i.size + len * i.size)]? else cur[m]? := by
              intro m
              rw [hnew]
              simp only [List.getElem?_toArray]
              have hl2 : (List.take (loc.base + off * i.size + len * i.size) cur.toList).length = loc.base + off * i.size + len * i.size := by simp; omega
              by_cases q : m < loc.base + off * i.size + len * i.size
              · rw [if_pos q, List.append_assoc, List.getElem?_append_left (by omega), List.getElem?_take, if_pos q]; simp
              · rw [if_neg q]
                by_cases q2 : m < loc.base + off * i.size + len * i.size + ys.length * i.size
                · rw [if_pos q2, List.append_assoc, List.getElem?_append_right (by omega), List.getElem?_append_left (by omega), hl2]; simp
                · rw [if_neg q2, List.append_assoc, List.getElem?_append_right (by omega), List.getElem?_append_right (by omega), List.getElem?_drop, hl2, hcsz]
                  simp only [Array.getElem?_toList]
                  congr 1; omega
            have hrun := run_append_in (P := P) (ty := o.type) (base := some ⟨loc.blk, loc.base + off * loc.sz, none⟩) (sLen := len) (sCap := cap') ht hu ht' hu' hi hfit f2 (w' := w.setRow loc.blk new) (by simp only [add_none, hls]; exact hstore)
            refine fin _ _ (by rw [hval, f1]; exact hrun) ?_
            obtain ⟨q1, q2⟩ := swap_sim (id := id) (nx := nx) (zs := (xs.drop off).take len ++ ys) (loc' := ⟨loc.blk, loc.base + off * i.size, i.size⟩) (new := new) (w' := w.setRow loc.blk new) hs hb hφ hn0
              (fun b _ hne => setRow_other _ _ _ _ hne) (by simp) rfl rfl rfl (fun b e n hh => shape_setRow f3 hnsz hh) rfl (.inl rfl) p3 (setRow_heap w _ _ _ _ _ f3)
              (by simp only [List.length_append, hlen, hnsz]; exact hbig) (fun q hq => by rw [List.mem_append] at hq; exact hq.elim (sub1 q) (fl.2.1 q)) hone (fun k j q d r1 r2 => by
                have hj : j < i.size := by
                  have hm := List.mem_of_getElem? r1
                  rw [List.mem_append] at hm
                  have : q.length = i.size := hm.elim (sub1 q) (fl.2.1 q)
                  rcases Nat.lt_or_ge j q.length with h' | h'
                  · omega
                  · rw [List.getElem?_eq_none h'] at r2; cases r2
                by_cases hk : k < len
                · rw [List.getElem?_append_left (by omega)] at r1
                  rw [List.getElem?_take, if_pos hk, List.getElem?_drop] at r1
                  obtain ⟨o1, dv, r3, r4⟩ := f5 (off + k) j q d r1 r2
                  refine ⟨dv, ?_, r4⟩
                  have := cell_lt hk hj
                  show new[loc.base + off * i.size + k * i.size + j]? = _
                  rw [hget, if_pos (by omega)]
                  rw [Nat.add_mul] at r3
                  rw [← r3]; congr 1; omega
                · rw [List.getElem?_append_right (by omega), hlen] at r1
                  obtain ⟨dv, r3, r4⟩ := fl.2.2 (k - len) j q d r1 r2
                  refine ⟨dv, ?_, r4⟩
                  have hk2 : k - len < ys.length := by
                    rcases Nat.lt_or_ge (k - len) ys.length with h' | h'
                    · exact h'
                    · rw [List.getElem?_eq_none h'] at r1; cases r1
                  have := cell_lt hk2 hj
                  have h4 : k * i.size = len * i.size + (k - len) * i.size := by rw [← Nat.add_mul]; congr 1; omega
                  show new[loc.base + off * i.size + k * i.size + j]? = _
                  rw [hget, if_neg (by omega), if_pos (by omega), show loc.base + off * i.size + k * i.size + j - (loc.base + off * i.size + len * i.size) = (k - len) * i.size + j by omega]
                  exact r3)
            refine ⟨S, _, by rw [hupd]; exact q1, by rw [hupd]; exact q2, ?_, only _⟩
            have hsh2 : (w.setRow loc.blk new).shape? loc.blk = some (e'', n') := shape_setRow f3 hnsz hsh
            have := Rep.own (w := w.setRow loc.blk new) (S := S) (φ := fun k => if k = nx then some ⟨loc.blk, loc.base + off * i.size, i.size⟩ else φ k) (id := nx) (off := 0) (len := len + ys.length) (cap := cap') (loc := ⟨loc.blk, loc.base + off * i.size, i.size⟩) (by simp) hsh2 (by
              rw [hls] at hn'
              simp only [Nat.zero_add]; rw [Nat.add_mul] at hn'; omega) hfit
            rw [hls]
            simpa using this
          · -- moved
            obtain ⟨b, cap, f1, cs, f2, fl⟩ := elems_rep (P := P) e1 (fun k hk => hrd k (by simp [hk])) hs.drewR ((Adv.drewR S φ h w).rep hs hvy)
            rw [f1] at f2
            obtain ⟨old, g1, g2⟩ := run_cells (P := P) (w := w.drew) (S := S) (φ := φ) (sz := i.size) (b := loc.blk) (base := loc.base + off * loc.sz) (xs := (xs.drop off).take len) sub1 (fun k j q d r1 r2 => by
              obtain ⟨-, dv, r3, r4⟩ := sub2 k j q d r1 r2
              exact ⟨dv, r3, (Adv.drewR S φ h w).rep hs r4⟩)
            rw [hlen] at g1
            obtain ⟨nc, k1, k2⟩ := run_append_move (P := P) (w := w) (ty := o.type) (sLen := len) (sCap := cap') (base := some ⟨loc.blk, loc.base + off * loc.sz, none⟩) (old := old) ht hu ht' hu' hi h2 (by omega) hby g1 f2
            refine fin _ _ (by rw [hval, f1]; exact k2) ?_
            have hfl := flat_append (r := Builtin.zeroCells zv.cells (nc - (len + ys.length))) g2 fl
            have hosz : old.size = len * i.size := by rw [g2.1, hlen]
            have htot : nc * i.size ≤ (old ++ cs ++ Builtin.zeroCells zv.cells (nc - (len + ys.length))).size := by
              have := fl.1
              simp [Builtin.zeroCells, hzs, this, hosz, ← Nat.add_mul]
              exact Nat.mul_le_mul_right _ (by omega)
            obtain ⟨q1, q2⟩ := swap_sim (id := id) (nx := nx) (zs := (xs.drop off).take len ++ ys) (loc' := ⟨w.heap.size, 0, i.size⟩) (new := old ++ cs ++ Builtin.zeroCells zv.cells (nc - (len + ys.length))) (e := e) (w' := w.drew.alloc (.cells (old ++ cs ++ Builtin.zeroCells zv.cells (nc - (len + ys.length))) e)) hs.drewR hb hφ hn0
              (fun b hb _ => Below.heap_alloc w.drew _ b hb) (by simp) rfl rfl rfl (fun b e n hh => shape_alloc hh) rfl (.inr (Nat.le_refl _)) (fun hS => absurd (hs.bd _ hS) (by simp)) (World.alloc_heap_new w.drew _)
              (by simp only [List.length_append, hlen, Nat.zero_add]; refine Nat.le_trans ?_ htot; exact Nat.mul_le_mul_right _ k1) (fun q hq => by rw [List.mem_append] at hq; exact hq.elim (sub1 q) (fl.2.1 q)) hone (by simpa using hfl)
            refine ⟨S, _, by rw [hupd]; exact (Adv.drewR S φ h w).trans q1, by rw [hupd]; exact q2, ?_, only _⟩
            have := own_new (w := w.drew.alloc (.cells (old ++ cs ++ Builtin.zeroCells zv.cells (nc - (len + ys.length))) e)) (S := S) (φ := fun k => if k = nx then some ⟨w.heap.size, 0, i.size⟩ else φ k) (nx := nx) (len := len + ys.length) (cap := nc) (by simp) (shape_new w.drew _ e) htot k1
            exact this
        · cases he
      · cases he
    · cases he
  · cases he
theorem snd_appZ {c : Call} {x y : Operand} {t u e : TypeId} {i : TypeInfo} {z : List AV} {ax ay : Arg} {v : AV} {rd : List Nat} {wr : Wr} {nx' : Nat} {k' : IntKind} {T : FuncId → Option IFn} {cb : Cb} (ho : o.op = .call c) (hc : c.callee = .builtin .append) (hargs : c.args = #[x, y])
    (ht : c.argTypes[0]? = some t) (hu : P.underlying t = some (.slice e)) (ht' : c.argTypes[1]? = some u) (hu' : P.underlying u = some (.int k')) (hi : P.info? e = some i) (hz : zeroK P e = some z) (hzl : z.length = i.size) (hx : cOpd x = some ax) (hy : cOpd y = some ay)
    (he : evalOp T cb env H nx (.appZ i.size i.bytes z ax ay) = some (.eff v rd wr nx')) (hs : Sim P S φ h w) (hr : Reps w S φ env a.tmps) (hn : nx < nx' → φ nx = none) : OpOK P o a w (Ends P S φ h w v wr nx nx') := by
  have hv := arg_rep hr hx
  have hvy := arg_rep hr hy
  obtain ⟨consts, hex⟩ := builtin_exec (a := a) ho hc
  obtain ⟨i', zv, h1, h2, h3⟩ := zeroK_spec hz
  rw [hi] at h1; cases h1
  obtain ⟨z1, z2⟩ := zero_rep (w := w) (S := S) (φ := φ) h3
  have hzs : zv.cells.size = i.size := by rw [z1.1]; exact hzl
  have run1 : ∀ vv w', (Builtin.append_ c.argTypes o.type #[a.eval x, a.eval y]).run P w = .ok vv w' → (execOp a.eval o).run P w = .ok (.value vv) w' := fun vv w' e1 => by rw [hex]; simp [invoke, builtin, hargs, e1]
  have made : ∀ (k : IntKind) (n : Int) (base : Option Addr), a.eval x = .slice base 0 0 → a.eval y = .int k n → 0 ≤ n → n ≠ 0 → z.all AV.one = true → (n + 1) * (i.bytes + 1) ≤ 1099511627776 → φ nx = none →
      OpOK P o a w (Ends P S φ h w (.own nx 0 n.toNat) [(nx, some (.row i.size (List.replicate n.toNat z)))] nx (nx + 1)) := by
    intro k n base e1 e2 h0 h00 hone hb hnx
    obtain ⟨m, rfl⟩ := Int.eq_ofNat_of_zero_le h0
    simp only [Int.toNat_natCast] at *
    have hb' : (m + 1) * (i.bytes + 1) ≤ 1099511627776 := by
      have : (((m + 1) * (i.bytes + 1) : Nat) : Int) ≤ 1099511627776 := by rw [Int.natCast_mul]; simpa using hb
      omega
    obtain ⟨nc, g1, g2⟩ := run_appendZ_move (P := P) (w := w) (ty := o.type) (base := base) (n := m) (k := k) ht hu ht' hu' hi h2 (by omega) hb' hzs
    refine .inl ⟨_, _, run1 _ _ (by rw [e1, e2]; exact g2), ?_⟩
    have hfl := flat_made (w := w.drew) (S := S) (φ := φ) (n := m) ((Adv.drewR S φ h w).reps hs z1)
    have hz2 : Builtin.zeroCells zv.cells m = (Array.range (m * z.length)).map (zv.cells[· % zv.cells.size]!) := by unfold Builtin.zeroCells; rw [hzs, hzl]
    rw [← hz2, hzl] at hfl
    have := fresh_ends (P := P) (nx := nx) (e := e) (n := i.size) (ys := List.replicate m z) (c := Builtin.zeroCells zv.cells m ++ Builtin.zeroCells zv.cells (nc - m)) (nc := nc) hs hnx (by
      rw [extract_pre (by simp [zeroCells_size, hzs])]; exact hfl) (fun q hq => by rw [List.eq_of_mem_replicate hq]; exact hone) (by
        simp [zeroCells_size, hzs, ← Nat.add_mul]
        exact Nat.mul_le_mul_right _ (by omega)) (by simpa using g1)
    simpa using this
  simp only [evalOp] at he
  split at he
  · rename_i k e1
    rw [e1] at hvy
    split at he
    · rename_i e2
      cases he
      rw [e2] at hv
      have hval : a.eval x = .slice none 0 0 := by generalize a.eval x = q at hv; cases hv; rfl
      refine .inl ⟨_, _, run1 _ _ (by rw [hval, hvy.inv_int]; exact run_appendZ_none (P := P) ht hu ht' hu' hi (Nat.le_refl _)), ends_pure hs .nilS⟩
    · rename_i id off len e2
      cases he
      rw [e2] at hv
      obtain ⟨loc, cap', e'', n', hφ, hsh, hn', hlc, hval⟩ := hv.inv_own
      refine .inl ⟨_, _, run1 _ _ (by rw [hval, hvy.inv_int]; exact run_appendZ_none (P := P) ht hu ht' hu' hi hlc), ends_pure hs (.own hφ hsh hn' hlc)⟩
    · rename_i zz e2
      cases he
      rw [e2] at hv
      obtain ⟨aa, cap', hval, hz⟩ := hv.inv_emp
      refine .inl ⟨_, _, run1 _ _ (by rw [hval, hvy.inv_int]; exact run_appendZ_none (P := P) ht hu ht' hu' hi (Nat.zero_le _)), ends_pure hs (.emp hz)⟩
    · cases he
  · rename_i k n hne e1
    rw [e1] at hvy
    split at he
    · rename_i hc1
      have hn0 : n ≠ 0 := fun e => by subst e; first | exact hne k rfl | exact (hne rfl).elim | exact hne rfl
      split at he
      · rename_i e2
        split at he
        · rename_i hc2
          cases he
          rw [e2] at hv
          have hval : a.eval x = .slice none 0 0 := by generalize a.eval x = q at hv; cases hv; rfl
          exact made k n none hval hvy.inv_int hc1.1 hn0 hc1.2.2 hc2 (hn (by omega))
        · cases he
      · rename_i e2
        split at he
        · rename_i hc2
          cases he
          rw [e2] at hv
          obtain ⟨aa, cap', hval, hz⟩ := hv.inv_emp
          have := hz rfl; subst this
          exact made k n (some aa) hval hvy.inv_int hc1.1 hn0 hc1.2.2 hc2 (hn (by omega))
        · cases he
      · cases he
    · cases he
  · cases he
/-! 'clear' -/
theorem snd_clr {c : Call} {x : Operand} {t e : TypeId} {n : Nat} {z : List AV} {ax : Arg} {v : AV} {rd : List Nat} {wr : Wr} {nx' : Nat} {T : FuncId → Option IFn} {cb : Cb} (ho : o.op = .call c) (hc : c.callee = .builtin .clear) (hargs : c.args = #[x])
    (ht : c.argTypes[0]? = some t) (hu : P.underlying t = some (.slice e)) (hk : sizeK P e = some n) (hz : zeroK P e = some z) (hzl : z.length = n) (hx : cOpd x = some ax)
    (he : evalOp T cb env H nx (.clr n z ax) = some (.eff v rd wr nx')) (hrd : ∀ id ∈ rd, h id = hget H id) (hs : Sim P S φ h w) (hr : Reps w S φ env a.tmps) : OpOK P o a w (Ends P S φ h w v wr nx nx') := by
  have hv := arg_rep hr hx
  obtain ⟨consts, hex⟩ := builtin_exec (a := a) ho hc
  obtain ⟨i, zv, h1, h2, h3⟩ := zeroK_spec hz
  obtain ⟨i', k1, k2⟩ := sizeK_spec hk
  rw [k1] at h1; cases h1
  obtain ⟨z1, z2⟩ := zero_rep (w := w) (S := S) (φ := φ) h3
  have hzs : zv.cells.size = n := by rw [z1.1]; exact hzl
  have run1 : ∀ w', (Builtin.clear_ c.argTypes o.type #[a.eval x]).run P w = .ok undef w' → (execOp a.eval o).run P w = .ok (.value undef) w' := fun w' e1 => by rw [hex]; simp [invoke, builtin, hargs, e1]
  have none_ok : ∀ base cap, a.eval x = .slice base 0 cap → OpOK P o a w (Ends P S φ h w undefA [] nx nx) := fun base cap e1 =>
    .inl ⟨undef, w, run1 _ (by rw [e1]; cases base <;> simp [Builtin.clear_, ht, run_underlying hu, undef]), ends_pure hs undef_rep⟩
  simp only [evalOp] at he
  split at he
  · rename_i e2
    cases he
    rw [e2] at hv
    exact none_ok none 0 (by generalize a.eval x = q at hv; cases hv; rfl)
  · rename_i zz e2
    cases he
    rw [e2] at hv
    obtain ⟨aa, cap', hval, -⟩ := hv.inv_emp
    exact none_ok _ _ hval
  · rename_i id off len e2
    rw [e2] at hv
    split at he
    · rename_i s xs e3
      split at he
      · rename_i hcc
        cases he
        obtain ⟨rfl, hle, hone⟩ := hcc
        obtain ⟨loc, cap', e'', n', hφ, hsh, hn', hlc, hval⟩ := hv.inv_own
        have hb : h id = some (.row s xs) := by rw [hrd id (by simp)]; exact e3
        by_cases hl0 : len = 0
        · subst hl0
          have : xs.take off ++ List.replicate 0 z ++ xs.drop (off + 0) = xs := by simp
          rw [this]
          have hr1 : (Builtin.clear_ c.argTypes o.type #[a.eval x]).run P w = .ok undef w := by rw [hval]; simp [Builtin.clear_, ht, run_underlying hu, undef]
          have hup : updH h [(id, some (.row s xs))] = h := by
            funext k; rw [updH_one]
            by_cases hk : k = id
            · simp [hk, hb]
            · simp [hk]
          exact .inl ⟨undef, w, run1 _ hr1, S, φ, by rw [hup]; exact Adv.refl _ _ _ _, by rw [hup]; exact hs, undef_rep, fun _ _ => rfl⟩
        · obtain ⟨loc', p1, p2, p3⟩ := hs.blk id _ hb
          rw [hφ] at p1; cases p1
          obtain ⟨b1, b2, cur, ce, f3, f4, f5⟩ := p2
          have hmul : (off + len) * s ≤ xs.length * s := Nat.mul_le_mul_right _ hle
          rw [Nat.add_mul] at hmul
          have hzc : (Builtin.zeroCells zv.cells len).toList.length = len * s := by simp [zeroCells_size, hzs]
          have hfl := flat_made (w := w) (S := S) (φ := φ) (n := len) z1
          have hz2 : Builtin.zeroCells zv.cells len = (Array.range (len * z.length)).map (zv.cells[· % zv.cells.size]!) := by unfold Builtin.zeroCells; rw [hzs, hzl]
          rw [← hz2, hzl] at hfl
          have hzone : ∀ d ∈ (Builtin.zeroCells zv.cells len).toList, d.oneCell' = true := by
            intro d hd
            obtain ⟨k, hk, rfl⟩ := List.getElem_of_mem hd
            have hk' : k < len * s := by omega
            have h0 : 0 < s := by
              rcases Nat.eq_zero_or_pos s with e | e
              · rw [e] at hk'; simp at hk'
              · exact e
            have hq : k / s < (List.replicate len z).length := by simp; exact Nat.div_lt_of_lt_mul (by rw [Nat.mul_comm]; exact hk')
            have hm : k % s < ((List.replicate len z)[k / s]).length := by simp [hzl]; exact Nat.mod_lt _ h0
            obtain ⟨dv, r1, r2⟩ := hfl.2.2 (k / s) (k % s) _ _ (List.getElem?_eq_getElem hq) (List.getElem?_eq_getElem hm)
            rw [Nat.div_add_mod'] at r1
            have : (Builtin.zeroCells zv.cells len).toList[k] = dv := by
              have e9 : (Builtin.zeroCells zv.cells len)[k]? = some (Builtin.zeroCells zv.cells len).toList[k] := by simp at hk ⊢
              rw [e9] at r1; cases r1; rfl
            rw [this]
            rw [List.all_eq_true] at hone
            exact r2.oneCell (hone _ (by simp))
          have hstore := run_storeCells_at P loc.blk (loc.base + off * s) ce (Builtin.zeroCells zv.cells len).toList 0 cur w f3 (by rw [hzc]; omega) hzone
          obtain ⟨new, hnew⟩ : ∃ new, new = (List.take (loc.base + off * s + 0) cur.toList ++ (Builtin.zeroCells zv.cells len).toList ++ List.drop (loc.base + off * s + 0 + (Builtin.zeroCells zv.cells len).toList.length) cur.toList).toArray := ⟨_, rfl⟩
          rw [← hnew] at hstore
          rw [Nat.add_zero] at hnew
          have hnsz : new.size = cur.size := by rw [hnew]; simp at hzc ⊢; omega
          have hget : ∀ m, new[m]? = if m < loc.base + off * s then cur[m]? else if m < loc.base + off * s + len * s then (Builtin.zeroCells zv.cells len)[m - (loc.base + off * s)]? else cur[m]? := by
            intro m
            rw [hnew]
            simp only [List.getElem?_toArray]
            have hl2 : (List.take (loc.base + off * s) cur.toList).length = loc.base + off * s := by simp; omega
            by_cases q : m < loc.base + off * s
            · rw [if_pos q, List.append_assoc, List.getElem?_append_left (by omega), List.getElem?_take, if_pos q]; simp
            · rw [if_neg q]
              by_cases q2 : m < loc.base + off * s + len * s
              · rw [if_pos q2, List.append_assoc, List.getElem?_append_right (by omega), List.getElem?_append_left (by omega), hl2]; simp
              · rw [if_neg q2, List.append_assoc, List.getElem?_append_right (by omega), List.getElem?_append_right (by omega), List.getElem?_drop, hl2, hzc]
                simp only [Array.getElem?_toList]
                congr 1; omega
          have hr1 : (Builtin.clear_ c.argTypes o.type #[a.eval x]).run P w = .ok undef (w.setRow loc.blk new) := by
            rw [hval]
            obtain ⟨m, rfl⟩ : ∃ m, len = m + 1 := ⟨len - 1, by omega⟩
            simp only [b1] at *
            simp only [Builtin.clear_, ht, List.getElem?_toArray, List.getElem?_cons_zero, Sem.run_bind, run_underlying hu, Result.andThen_ok, zeroValue, typeInfo, run_program, k1, h2, Sem.run_pure, hstore]
            rfl
          refine .inl ⟨undef, _, run1 _ hr1, ?_⟩
          obtain ⟨q1, q2⟩ := rowset_ends (id := id) (zs := xs.take off ++ List.replicate len z ++ xs.drop (off + len)) (new := new) hs hb hφ f3 hnsz (by simp; omega) (fun q hq => by
              rw [List.mem_append, List.mem_append] at hq
              rcases hq with (hq | hq) | hq
              · exact b2 q (List.mem_of_mem_take hq)
              · rw [List.eq_of_mem_replicate hq]; exact hzl
              · exact b2 q (List.mem_of_mem_drop hq)) (fun k j q d r1 r2 => by
              have hj : ∀ q : List AV, q.length = s → q[j]? = some d → j < s := fun q hq r => by
                rcases Nat.lt_or_ge j q.length with h' | h'
                · omega
                · rw [List.getElem?_eq_none h'] at r; cases r
              rw [hget]
              by_cases k1 : k < off
              · rw [List.append_assoc, List.getElem?_append_left (by simp; omega), List.getElem?_take, if_pos k1] at r1
                obtain ⟨o1, dv, r3, r4⟩ := f5 k j q d r1 r2
                have := cell_lt k1 (hj q (b2 q (List.mem_of_getElem? r1)) r2)
                exact ⟨o1, dv, by rw [if_pos (by omega)]; exact r3, r4⟩
              · by_cases k2 : k < off + len
                · rw [List.append_assoc, List.getElem?_append_right (by simp; omega), List.getElem?_append_left (by simp; omega)] at r1
                  have hm : (xs.take off).length = off := by simp; omega
                  rw [hm] at r1
                  have hq := List.eq_of_mem_replicate (List.mem_of_getElem? r1)
                  have hjs := hj q (by rw [hq]; exact hzl) r2
                  obtain ⟨dv, r3, r4⟩ := hfl.2.2 (k - off) j q d r1 r2
                  have h5 : k - off < len := by omega
                  have := cell_lt h5 hjs
                  have h6 : k * s = off * s + (k - off) * s := by rw [← Nat.add_mul]; congr 1; omega
                  rw [List.all_eq_true] at hone
                  refine ⟨hone d (by rw [hq] at r2; exact List.mem_of_getElem? r2), dv, ?_, r4⟩
                  rw [if_neg (by omega), if_pos (by omega), show loc.base + k * s + j - (loc.base + off * s) = (k - off) * s + j by omega]
                  exact r3
                · rw [List.append_assoc, List.getElem?_append_right (by simp; omega), List.getElem?_append_right (by simp; omega), List.getElem?_drop] at r1
                  simp only [List.length_take, List.length_replicate] at r1
                  rw [show off + len + (k - min off xs.length - len) = k by omega] at r1
                  obtain ⟨o1, dv, r3, r4⟩ := f5 k j q d r1 r2
                  have h6 : (off + len) * s ≤ k * s := Nat.mul_le_mul_right _ (by omega)
                  rw [Nat.add_mul] at h6
                  exact ⟨o1, dv, by rw [if_neg (by omega), if_neg (by omega)]; exact r3, r4⟩)
          exact ⟨S, φ, q1, q2, undef_rep, fun _ _ => rfl⟩
      · cases he
    · cases he
  · cases he
end ops
end Go.V
