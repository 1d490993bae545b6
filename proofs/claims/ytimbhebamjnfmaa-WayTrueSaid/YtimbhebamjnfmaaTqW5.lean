/- WayTrue: the law. -/
import Derived.Test.YtimbhebamjnfmaaTqW4
set_option linter.unusedVariables false
set_option linter.unusedSimpArgs false
set_option maxRecDepth 100000
set_option maxHeartbeats 1000000
namespace Go.Q
open Go.V
theorem outOf_leaf {α : Type} {outs : List (List E × α)} {j : Nat} {ρ : List D} : outOf outs (some (j, ρ)) = (outs[j]?).map (fun p => (p.2, denL ρ p.1)) := rfl
theorem w4_end (ws : List Wl) (ls : List Lg) (d1 d2 d7 d8 d10 d11 d12 d13 : D) (pl ph now w at' e : Int) (ks : List Int) (by' : List Wd) (ss : List Sp) (tl : List Lg) :
    outOf o4 (T.denV (evL FN) (envW ws ls d1 d2 d7 d8 d10 d11 d12 d13 pl ph now w at' e ks by' ss tl ks.length) tW4) = some (some 1, []) := by
  simp [envW, tW4, T.denV, denL, E.den, D.den1, binD, outOf, I]
theorem stepW_of {ls : List Lg} {w : Int} {ks : List Int} {w0 : Int} {i : Nat} (hi : i < ks.length) (h : okW ls w0 ks i = false) : stepW ls (wAt ls w0 ks i) ks[i] = none := by
  unfold okW at h
  rw [List.getElem?_eq_getElem hi] at h
  simpa using h
theorem tls_all {by' : List Wd} {ls : List Lg} {j : Nat} (hj : j < ls.length) : (tls by' ls ls.length)[j]? = some (trLeg by' j ls[j]) := by rw [tls_get hj, if_pos hj]
theorem tr_gates {by' : List Wd} {l : Lg} {j : Nat} (h : gok l.gs = true) : ∀ g ∈ (trLeg by' j l).gs, 0 ≤ g.ol ∧ g.ol ≤ 100001 := fun q hq => by
  obtain ⟨k, g, h1, h2, h3, rfl⟩ := trL_mem.1 hq
  obtain ⟨hk, rfl⟩ := List.getElem?_eq_some_iff.1 h2
  have gj := (gok_at h hk).1
  have := pick_in (atS by' (2 * j + 3 * k)) gj.b
  have a1 := gj.a; have a2 := gj.c
  simp only [trG, Gs.g]
  omega
theorem walk_loop (ws : List Wl) (ls : List Lg) (w0 day pl ph : Int) (ks : List Int) (by' : List Wd) (ss : List Sp) (at' e : Int) (hL : landOK ws ls = true) (hp : inS pl ph 1 100000 = true) (hgs : ∀ l ∈ ls, l.gs.length ≤ 20)
    (c1 : ¬ w0 < 0) (c2 : ¬ (ws.length : Int) ≤ w0) (c3 : ¬ day < 0) (c4 : ¬ 100000 < day) (c5 : ¬ (24 : Int) < ks.length) (hd : walkR ls pl ph ks w0 day = .node [sps ss, I at', I e]) (d7 d8 d10 d11 d12 d13 : D) :
    ∃ t v, iterL (fun vals => outOf o4 (T.denV (evL FN) ([landD ws ls, I w0, I day, .node [I pl, I ph], ints ks, wds by', .bool true, d7, d8, .node [sps ss, I at', I e], d10, d11, d12, d13, lgs (tls by' ls ls.length), I ks.length] ++ vals) tW4)) [I day, I w0, I ((0 : Nat) : Int)] = some (t, v) ∧
      ((t = 0 ∧ v = [.bool true]) ∨ (t = 1 ∧ v = [] ∧ ((e = 34 ∧ ss = []) ∨ (e = 0 ∧ ss.length = ks.length)))) := by
  have htl := tls_len (ws := by') (ls := ls) ls.length
  cases hbk : firstN (okW ls w0 ks) ks.length 0 with
  | some i0 =>
    have hd' := hd
    unfold walkR at hd'
    rw [hbk] at hd'
    simp only [D.node.injEq, List.cons.injEq, and_true, I, D.int.injEq, true_and] at hd'
    obtain ⟨-, -, he⟩ := hd'
    obtain ⟨-, f1, f2, f3⟩ := firstN_some hbk
    refine ⟨0, [.bool true], ?_, .inl ⟨rfl, rfl⟩⟩
    rw [iter_nat ks.length (okW ls w0 ks) (fun i => [I day, I (wAt ls w0 ks i), I i]) 0 1 (fun _ => [.bool true]) [] (e0 := [I day, I w0, I ((0 : Nat) : Int)]) rfl]
    · rw [hbk]
    · intro i hi _
      have hki := okW_some (ls := ls) (w0 := w0) hi
      cases ho : okW ls w0 ks i with
      | true =>
        obtain ⟨j, j1, j2, j3⟩ := hki ho
        have hin := acr_in (land_leg hL j2) j3
        have := w4_skip ws ls (I w0) (I day) d7 d8 d10 d11 d12 d13 pl ph day (wAt ls w0 ks i) at' e ks by' ss (tls by' ls ls.length) i hi (by omega) j1 j2 j3 hin.1 (by omega)
        exact this
      | false =>
        have := w4_bad ws ls (I w0) (I day) d7 d8 d10 d11 d12 d13 pl ph day (wAt ls w0 ks i) at' e ks by' ss (tls by' ls ls.length) i hi (stepW_of (w := w0) hi ho)
        rw [show (e == 8) = true by rw [← he]; rfl] at this
        exact this
    · intro hall
      rw [hall i0 (by omega)] at f2; cases f2
  | none =>
    have hk : ∀ i, i < ks.length → okW ls w0 ks i = true := fun i hi => firstN_none.1 hbk i (by omega) (by omega)
    have htrue : firstN (fun _ => true) ks.length 0 = none := firstN_none.2 fun _ _ _ => rfl
    cases hwk : firstN (wok ls pl ph ks w0 day) ks.length 0 with
    | some i0 =>
      have hd' := hd
      unfold walkR at hd'
      rw [hbk] at hd'
      simp only [hwk, D.node.injEq, List.cons.injEq, and_true, I, D.int.injEq, true_and, sps, D.list.injEq] at hd'
      obtain ⟨hss, -, he⟩ := hd'
      have hss' : ss = [] := by simpa using hss.symm
      refine ⟨1, [], ?_, .inr ⟨rfl, rfl, .inl ⟨he.symm, hss'⟩⟩⟩
      rw [iter_nat ks.length (fun _ => true) (fun i => [I day, I (wAt ls w0 ks i), I i]) 0 1 (fun _ => []) [] (e0 := [I day, I w0, I ((0 : Nat) : Int)]) rfl]
      · rw [htrue]
      · intro i hi _
        obtain ⟨j, j1, j2, j3⟩ := okW_some (w0 := w0) hi (hk i hi)
        have hin := acr_in (land_leg hL j2) j3
        have := w4_skip ws ls (I w0) (I day) d7 d8 d10 d11 d12 d13 pl ph day (wAt ls w0 ks i) at' e ks by' ss (tls by' ls ls.length) i hi (by omega) j1 j2 j3 hin.1 (by omega)
        exact this
      · intro _
        have := w4_end ws ls (I w0) (I day) d7 d8 d10 d11 d12 d13 pl ph day (wAt ls w0 ks ks.length) at' e ks by' ss (tls by' ls ls.length)
        exact this
    | none =>
      have hd' := hd
      unfold walkR at hd'
      rw [hbk] at hd'
      simp only [hwk, D.node.injEq, List.cons.injEq, and_true, I, D.int.injEq, true_and] at hd'
      obtain ⟨hss, -, he⟩ := hd'
      have hwok : ∀ i, i < ks.length → wok ls pl ph ks w0 day i = true := fun i hi => firstN_none.1 hwk i (by omega) (by omega)
      have hss' : ss = (wst ls pl ph ks w0 day ks.length).ss := by
        simp only [sps, D.list.injEq] at hss
        exact (List.map_inj_right (f := Sp.d) (fun a b h => by
          cases a; cases b; simp only [Sp.d, List.cons.injEq, D.int.injEq, true_and, and_true] at h
          obtain ⟨rfl, rfl, rfl, rfl, rfl, rfl⟩ := h; rfl)).1 hss.symm
      subst hss'
      have hst := wst_ok hL hp (ks := ks) (day := day) (w0 := w0) ⟨by omega, by omega⟩ ⟨by omega, by omega⟩ hk
      have inv : ∀ i, i ≤ ks.length → (wst ls pl ph ks w0 day i).a ≤ tnow by' ls pl ph ks day i ∧ tnow by' ls pl ph ks day i ≤ (wst ls pl ph ks w0 day i).b := by
        intro i
        induction i with
        | zero => intro _; exact ⟨Int.le_refl _, Int.le_refl _⟩
        | succ i ih =>
          intro hi
          have ih := ih (by omega)
          obtain ⟨i1, i2, i3, i4, i5, i6⟩ := hst i (by omega)
          obtain ⟨j, j1, j2, j3⟩ := okW_some (w0 := w0) (show i < ks.length by omega) (hk i (by omega))
          have hn : nxt ls pl ph ks i (wst ls pl ph ks w0 day i) = stop ls[j] j (wst ls pl ph ks w0 day i).w (wst ls pl ph ks w0 day i).a (wst ls pl ph ks w0 day i).b pl ph := by
            simp [nxt, List.getD, List.getElem?_eq_getElem (show i < ks.length by omega), j1, List.getElem?_eq_getElem j2]
          have hw := hwok i (by omega)
          unfold wok at hw
          rw [hn] at hw
          have T := stop_true (k := j) (w := (wst ls pl ph ks w0 day i).w) (land_leg hL j2) hp ⟨i3.1, ih.1, ih.2, i4.2⟩ by' i j (by simpa [leB] using hw)
          have ht : tnow by' ls pl ph ks day (i + 1) = goneS (tnow by' ls pl ph ks day i) (dvd' (pickS ls[j].lo ls[j].hi (atS by' (5 * i + 1))) (pickS pl ph (atS by' (5 * i)))) (trLeg by' j ls[j]).gs := by
            simp [tnow, tday, List.getD, List.getElem?_eq_getElem (show i < ks.length by omega), j1, List.getElem?_eq_getElem j2]
          rw [ht]
          simp only [wst]
          rw [hn]
          exact ⟨T.c1, T.c2⟩
      refine ⟨1, [], ?_, .inr ⟨rfl, rfl, .inr ⟨he.symm, wst_slen _⟩⟩⟩
      rw [iter_nat ks.length (fun _ => true) (fun i => [I (tnow by' ls pl ph ks day i), I (wAt ls w0 ks i), I i]) 0 1 (fun _ => []) [] (e0 := [I day, I w0, I ((0 : Nat) : Int)]) rfl]
      · rw [htrue]
      · intro i hi _
        obtain ⟨i1, i2, i3, i4, i5, i6⟩ := hst i (by omega)
        obtain ⟨j, j1, j2, j3⟩ := okW_some (w0 := w0) hi (hk i hi)
        have hlg := land_leg hL j2
        have hin := acr_in hlg j3
        have hn : nxt ls pl ph ks i (wst ls pl ph ks w0 day i) = stop ls[j] j (wst ls pl ph ks w0 day i).w (wst ls pl ph ks w0 day i).a (wst ls pl ph ks w0 day i).b pl ph := by
          simp [nxt, List.getD, List.getElem?_eq_getElem hi, j1, List.getElem?_eq_getElem j2]
        have hw := hwok i hi
        unfold wok at hw
        rw [hn] at hw
        have iv := inv i (by omega)
        have T := stop_true (k := j) (w := (wst ls pl ph ks w0 day i).w) hlg hp ⟨i3.1, iv.1, iv.2, i4.2⟩ by' i j (by simpa [leB] using hw)
        have ht : tnow by' ls pl ph ks day (i + 1) = goneS (tnow by' ls pl ph ks day i) (dvd' (pickS ls[j].lo ls[j].hi (atS by' (5 * i + 1))) (pickS pl ph (atS by' (5 * i)))) (trLeg by' j ls[j]).gs := by
          simp [tnow, tday, List.getD, List.getElem?_eq_getElem hi, j1, List.getElem?_eq_getElem j2]
        have hget := wst_get (ls := ls) (pl := pl) (ph := ph) (ks := ks) (w0 := w0) (day := day) wst_slen hi
        rw [hn] at hget
        obtain ⟨l1, l2, l3, l4, -⟩ := lg_ok hlg
        have := w4_go ws ls (I w0) (I day) d7 d8 d10 d11 d12 d13 pl ph (tnow by' ls pl ph ks day i) (wAt ls w0 ks i) at' e ks by' (wst ls pl ph ks w0 day ks.length).ss (tls by' ls ls.length) i hi (by omega) j1 j2 j3 hin.1 he.symm hp ⟨l2, l3, l4⟩ (tls_all j2) htl (hgs _ (List.getElem_mem j2)) (tr_gates l1) ⟨by omega, by omega⟩ hget rfl (by simp [stop, i1, j3]) rfl rfl rfl T.db rfl T.c0 T.c1 T.c2 T.c3 T.c4 T.ob
        rw [ht]
        exact this
      · intro _
        have := w4_end ws ls (I w0) (I day) d7 d8 d10 d11 d12 d13 pl ph (tnow by' ls pl ph ks day ks.length) (wAt ls w0 ks ks.length) at' e ks by' (wst ls pl ph ks w0 day ks.length).ss (tls by' ls ls.length)
        exact this
theorem e4 (ws : List Wl) (ls : List Lg) (w0 day pl ph : Int) (ks : List Int) (by' : List Wd) (hl : ls.length ≤ 9223372036854775807) :
    evL FN 4 [landD ws ls, I w0, I day, .node [I pl, I ph], ints ks, wds by'] = some (.bool true) := by
  refine evL_of (F := F4) rfl ?_
  rw [F4_eq]
  have h13 := ye03
  have h14 := e14 ws ls pl ph hl
  cases hr : (!greatL ws ls && landOK ws ls && inS pl ph 1 100000) with
  | false =>
    rw [hr] at h14
    simp only [landD, wls, lgs, ints, wds, I] at h14 ⊢
    simp [Fn.denV, fits, T.denV, denL, E.den, D.cells, D.den1, unD, binD, h13, h14, outOf, denVK]
  | true =>
  rw [hr] at h14
  simp only [Bool.and_eq_true, Bool.not_eq_true'] at hr
  obtain ⟨⟨hG, hL⟩, hp⟩ := hr
  have hG' := hG
  simp only [greatL, Bool.or_eq_false_iff, decide_eq_false_iff_not, Bool.not_eq_false'] at hG'
  obtain ⟨⟨g1, g2⟩, g3⟩ := hG'
  have hgs : ∀ l ∈ ls, l.gs.length ≤ 20 := fun l hm => by simpa using List.all_eq_true.1 g3 l hm
  have hbig : big ls := fun l hm => by have := hgs l hm; omega
  by_cases c1 : w0 < 0
  · simp only [landD, wls, lgs, ints, wds, I] at h14 ⊢
    simp [Fn.denV, fits, T.denV, denL, E.den, D.cells, D.den1, unD, binD, h13, h14, outOf, denVK, c1]
  by_cases c2 : (ws.length : Int) ≤ w0
  · simp only [landD, wls, lgs, ints, wds, I] at h14 ⊢
    simp [Fn.denV, fits, T.denV, denL, E.den, D.cells, D.den1, unD, binD, h13, h14, outOf, denVK, c1, c2]
  by_cases c3 : day < 0
  · simp only [landD, wls, lgs, ints, wds, I] at h14 ⊢
    simp [Fn.denV, fits, T.denV, denL, E.den, D.cells, D.den1, unD, binD, h13, h14, outOf, denVK, c1, c2, c3]
  by_cases c4 : 100000 < day
  · simp only [landD, wls, lgs, ints, wds, I] at h14 ⊢
    simp [Fn.denV, fits, T.denV, denL, E.den, D.cells, D.den1, unD, binD, h13, h14, outOf, denVK, c1, c2, c3, c4]
  by_cases c5 : (24 : Int) < ks.length
  · simp only [landD, wls, lgs, ints, wds, I] at h14 ⊢
    simp [Fn.denV, fits, T.denV, denL, E.den, D.cells, D.den1, unD, binD, h13, h14, outOf, denVK, c1, c2, c3, c4, c5]
  have hw0 : workE ws ls w0 day pl ph = 0 := by
    unfold workE
    rw [if_pos (askE_zero.2 ⟨hL, hp⟩), if_pos (by rw [inR_iff.2 ⟨by omega, by omega⟩, inR_iff.2 ⟨by omega, by omega⟩]; rfl)]
  have h15 := e15x ws ls w0 day pl ph ks (by omega) hl hbig (by omega) hw0
  have a1 := app_new (g := Wl.d) (sz := 9) (bytes := 72) ws (fun _ => rfl) (by omega)
  have a2 := app_new (g := Lg.d) (sz := 5) (bytes := 56) ls (fun _ => rfl) (by omega)
  obtain ⟨ss, at', e, hd⟩ : ∃ ss at' e, walkR ls pl ph ks w0 day = .node [sps ss, I at', I e] := by
    unfold walkR
    split
    · exact ⟨_, _, _, rfl⟩
    · split <;> exact ⟨_, _, _, rfl⟩
  rw [hd] at h15
  have htl := tls_len (ws := by') (ls := ls) ls.length
  have hmain := fun d7 d8 d10 d11 d12 d13 => walk_loop ws ls w0 day pl ph ks by' ss at' e hL hp hgs c1 c2 c3 c4 c5 hd d7 d8 d10 d11 d12 d13
  have hone : ∀ d0 d1 d2 d3 d4 d5 d6 d7 d8 d9 d10 d11 : D, iterL (fun vals => outOf o1 (T.denV (evL FN) ([d0, d1, d2, d3, d4, d5, d6, d7, d8, d9, d10, d11] ++ vals) tW1)) [I ((0 : Nat) : Int), lgs ls] = some (0, [lgs ls]) := by
    intro d0 d1 d2 d3 d4 d5 d6 d7 d8 d9 d10 d11
    have htrue : firstN (fun _ => true) ls.length 0 = none := firstN_none.2 fun _ _ _ => rfl
    rw [iter_nat ls.length (fun _ => true) (fun i => [I i, lgs ls]) 1 0 (fun _ => []) [lgs ls] (e0 := [I ((0 : Nat) : Int), lgs ls]) rfl]
    · rw [htrue]
    · intro i hi _
      have := w1 ls i hi (hgs _ (List.getElem_mem hi)) (by omega) d0 d1 d2 d3 d4 d5 d6 d7 d8 d9 d10 d11
      exact this
    · intro _
      simp [tW1, T.denV, lgs, D.den1, binD, outOf, denL, E.den]
  have htwo : ∀ d0 d1 d2 d3 d4 d6 d7 d8 d9 d10 d11 d12 : D, iterL (fun vals => outOf o3 (T.denV (evL FN) ([d0, d1, d2, d3, d4, wds by', d6, d7, d8, d9, d10, d11, d12, I ls.length] ++ vals) tW3)) [I ((0 : Nat) : Int), lgs ls] = some (0, [lgs (tls by' ls ls.length)]) := by
    intro d0 d1 d2 d3 d4 d6 d7 d8 d9 d10 d11 d12
    have htrue : firstN (fun _ => true) ls.length 0 = none := firstN_none.2 fun _ _ _ => rfl
    rw [iter_nat ls.length (fun _ => true) (fun i => [I i, lgs (tls by' ls i)]) 1 0 (fun _ => []) [lgs (tls by' ls ls.length)] (e0 := [I ((0 : Nat) : Int), lgs ls]) rfl]
    · rw [htrue]
    · intro i hi _
      have := w3 by' ls i hi (by omega) (hgs _ (List.getElem_mem hi)) (lg_ok (land_leg hL hi)).1 d0 d1 d2 d3 d4 d6 d7 d8 d9 d10 d11 d12
      exact this
    · intro _
      simp [tW3, T.denV, lgs, D.den1, binD, outOf, denL, E.den]
  have L0 : I ((0 : Nat) : Int) = I 0 := rfl
  simp only [L0] at hone htwo hmain
  simp only [landD, wls, lgs, ints, wds, I, sps] at h14 h15 a1 a2 hone htwo hmain ⊢
  simp only [List.cons_append, List.nil_append] at hone htwo hmain
  simp [Fn.denV, fits, T.denV, denL, E.den, D.cells, D.den1, unD, binD, h13, h14, outOf_leaf, denVK, c1, c2, c3, c4, c5, h15]
  have q1 : (ws = [] ∨ (ws.length + 1) * 73 ≤ 1099511627776) ∧ ∀ (x : Wl), x ∈ ws → x.d.length = 9 := ⟨.inr (by omega), fun x _ => rfl⟩
  have q2 : (ls = [] ∨ (ls.length + 1) * 57 ≤ 1099511627776) ∧ ∀ (x : Lg), x ∈ ls → x.d.length = 5 := ⟨.inr (by omega), fun x _ => rfl⟩
  rw [if_pos q1, if_pos q2]
  simp only
  rw [hone]
  simp only [denVK, T.denV, denL, E.den, D.den1, List.length_map, List.getD_cons_succ, List.getD_cons_zero, List.cons_append, List.nil_append]
  rw [htwo]
  simp only [denVK, T.denV, denL, E.den, D.den1, List.length_map, List.getD_cons_succ, List.getD_cons_zero, List.cons_append, List.nil_append]
  obtain ⟨t, v, m1, m2⟩ := hmain (.bool false) (.bool false) (.list (ws.map Wl.d)) (.list (ls.map Lg.d)) (.list (ls.map Lg.d)) (.int .i64 ls.length)
  rw [m1]
  rcases m2 with ⟨rfl, rfl⟩ | ⟨rfl, rfl, ⟨rfl, rfl⟩ | ⟨rfl, hss⟩⟩
  · simp [denVK, T.denV, E.den, denL]
  · simp [denVK, T.denV, E.den, denL, D.cells, D.den1, binD, outOf]
  · simp [denVK, T.denV, E.den, denL, D.cells, D.den1, binD, outOf, hss]
end Go.Q
