/- WayTrue: Walk, wholly; what is so is within what is told; the law. -/
import Derived.Test.YtimbhebamjnfmaaTqW3
set_option linter.unusedVariables false
set_option linter.unusedSimpArgs false
set_option maxRecDepth 100000
namespace Go.Q
open Go.V
def walkR (ls : List Lg) (pl ph : Int) (ks : List Int) (w0 day : Int) : D := match firstN (okW ls w0 ks) ks.length 0 with
  | some i => .node [sps [], I i, I 8]
  | none => match firstN (wok ls pl ph ks w0 day) ks.length 0 with
    | some i => .node [sps [], I i, I 34]
    | none => .node [sps (wst ls pl ph ks w0 day ks.length).ss, I 0, I 0]
theorem e15x (ws : List Wl) (ls : List Lg) (w0 day pl ph : Int) (ks : List Int) (hw : ws.length ≤ 9223372036854775807) (hl : ls.length ≤ 9223372036854775807) (hb : big ls) (hkl : ks.length ≤ 24) :
    workE ws ls w0 day pl ph = 0 → evL FN 15 [landD ws ls, I w0, I day, .node [I pl, I ph], ints ks] = some (walkR ls pl ph ks w0 day) := by
  intro he
  have h89 := e76 ws ls w0 day pl ph hw hl hb
  rw [if_pos he, he] at h89
  have hkl' : ¬ (24 : Int) < ks.length := by omega
  have hA : askE ws ls pl ph = 0 := by unfold workE at he; split at he; · assumption
                                       · exact he
  obtain ⟨q1, q2⟩ := askE_zero.1 hA
  have hr : inR w0 0 (ws.length - 1) = true ∧ inR day 0 100000 = true := by
    unfold workE at he
    rw [if_pos hA] at he
    cases h1 : inR w0 0 (ws.length - 1) <;> cases h2 : inR day 0 100000 <;> rw [h1, h2] at he <;> simp at he
    exact ⟨rfl, rfl⟩
  obtain ⟨⟨w1, w2⟩, d1, d2⟩ := And.imp inR_iff.1 inR_iff.1 hr
  have h90 := e77 ws ls pl ph w0 day day ks hl hkl
  unfold brkD at h90
  cases hbk : firstN (okW ls w0 ks) ks.length 0 with
  | some i =>
    rw [hbk] at h90
    unfold walkR
    rw [hbk]
    refine evL_of (F := F15) rfl ?_
    simp only [landD, wls, lgs, carD, ints, I] at h89 h90 ⊢
    simp [F15, Fn.denV, fits, T.denV, denL, E.den, D.cells, D.den1, binD, h89, h90, sps, hkl']
  | none =>
    rw [hbk] at h90
    have hk : ∀ i, i < ks.length → okW ls w0 ks i = true := fun i hi => firstN_none.1 hbk i (by omega) (by omega)
    have hst := wst_ok q1 q2 (ks := ks) ⟨d1, d2⟩ ⟨w1, by omega⟩ hk
    have hloop : ∃ d, Fn.denV (evL FN) F15 [landD ws ls, I w0, I day, .node [I pl, I ph], ints ks] = some d ∧ d = (match firstN (wok ls pl ph ks w0 day) ks.length 0 with
        | some i => .node [sps [], I i, I 34]
        | none => .node [sps (wst ls pl ph ks w0 day ks.length).ss, I 0, I 0]) := by
      refine ⟨_, ?_, rfl⟩
      have e1 : ∀ (d0 d1 d2 d3 d4 d5 : D) (l : List D), True := fun _ _ _ _ _ _ _ => trivial
      simp only [landD, wls, lgs, carD, ints, I] at h89 h90 ⊢
      simp [F15, Fn.denV, fits, T.denV, denL, E.den, D.cells, D.den1, binD, h89, h90, hkl']
      rw [iter_nat ks.length (wok ls pl ph ks w0 day) (fun i => [I i, sps (wst ls pl ph ks w0 day i).ss, wls ws, lgs ls, I pl, I ph, I (wst ls pl ph ks w0 day i).w, I (wst ls pl ph ks w0 day i).a, I (wst ls pl ph ks w0 day i).b]) 0 1 (fun i => [I i]) [sps (wst ls pl ph ks w0 day ks.length).ss] (by simp [wst, sps, wls, lgs])]
      · cases firstN (wok ls pl ph ks w0 day) ks.length 0 <;> simp [denVK, T.denV, E.den, denL, sps]
      · intro i hi _
        obtain ⟨i1, i2, i3, i4, i5, i6⟩ := hst i (by omega)
        obtain ⟨j, j1, j2, j3⟩ := okW_some hi (hk i hi)
        have hn : nxt ls pl ph ks i (wst ls pl ph ks w0 day i) = stop ls[j] j (wst ls pl ph ks w0 day i).w (wst ls pl ph ks w0 day i).a (wst ls pl ph ks w0 day i).b pl ph := by
          simp [nxt, List.getD, List.getElem?_eq_getElem hi, j1, List.getElem?_eq_getElem j2]
        have h91 := e78 ws ls pl ph (wst ls pl ph ks w0 day i).w (wst ls pl ph ks w0 day i).a (wst ls pl ph ks w0 day i).b j j2 _ (land_leg q1 j2) q2 i3 i4
        have hs : wst ls pl ph ks w0 day (i + 1) = ⟨(wst ls pl ph ks w0 day i).ss ++ [nxt ls pl ph ks i (wst ls pl ph ks w0 day i)], (nxt ls pl ph ks i (wst ls pl ph ks w0 day i)).well, (nxt ls pl ph ks i (wst ls pl ph ks w0 day i)).al, (nxt ls pl ph ks i (wst ls pl ph ks w0 day i)).ah⟩ := rfl
        have h92 := e79 (wst ls pl ph ks w0 day i).ss (nxt ls pl ph ks i (wst ls pl ph ks w0 day i)) (by omega)
        have h93 := e80 ws ls pl ph (wst ls pl ph ks w0 day i).w (wst ls pl ph ks w0 day i).a (wst ls pl ph ks w0 day i).b (nxt ls pl ph ks i (wst ls pl ph ks w0 day i))
        have hwok : wok ls pl ph ks w0 day i = leB (nxt ls pl ph ks i (wst ls pl ph ks w0 day i)).ah := rfl
        rw [hs, hwok]
        rw [← hn] at h91
        generalize nxt ls pl ph ks i (wst ls pl ph ks w0 day i) = s at *
        generalize wst ls pl ph ks w0 day i = t at *
        have hsh : (sps (t.ss ++ [s])).shal 1 = true := by
          simp [sps, D.shal, D.shal1, D.shal0, Sp.d, shal_int]
        simp only [carD, wls, lgs, Sp.d, I] at h91 h92 h93 hsh ⊢
        cases hlb : leB s.ah <;> rw [hlb] at h91
        · simp [hi, idx_nat hi, partD, j1, h91, unD, binD, D.den1, E.den, denL, T.denV, D.cells, outOf]
        · simp [hi, idx_nat hi, partD, j1, h91, h92, h93, unD, binD, D.den1, E.den, denL, T.denV, D.cells, outOf, hsh, wrapN (show i < 9223372036854775807 by omega)]
      · intro _
        simp [D.den1, binD, outOf, denL, E.den]
    obtain ⟨d, g1, g2⟩ := hloop
    unfold walkR
    rw [hbk]
    simp only
    rw [← g2]
    exact evL_of (F := F15) rfl g1

theorem wst_get {ls : List Lg} {pl ph : Int} {ks : List Int} {w0 day : Int} (hlen : ∀ n, (wst ls pl ph ks w0 day n).ss.length = n) {i : Nat} : ∀ {n}, i < n → (wst ls pl ph ks w0 day n).ss[i]? = some (nxt ls pl ph ks i (wst ls pl ph ks w0 day i))
  | 0, h => by omega
  | n + 1, h => by
    simp only [wst]
    by_cases e : i = n
    · subst e
      rw [List.getElem?_append_right (by rw [hlen]; exact Nat.le_refl _), hlen, Nat.sub_self]; rfl
    · rw [List.getElem?_append_left (by rw [hlen]; omega)]
      exact wst_get hlen (by omega)
theorem wst_slen {ls : List Lg} {pl ph : Int} {ks : List Int} {w0 day : Int} : ∀ n, (wst ls pl ph ks w0 day n).ss.length = n
  | 0 => rfl
  | n + 1 => by simp [wst, wst_slen n]
/-- The first day on which one may leave is no later than by any gate. -/
theorem firstM_min {gs : List Gt} (h : gok gs = true) {day d : Int} (hd : 0 ≤ day ∧ day ≤ 100001) : ∀ n, n ≤ gs.length → ∀ j (hj : j < n) (hl : j < gs.length), condM day d gs[j] = true → firstG (condM day d) (valM day) gs n ≤ valM day gs[j]
  | 0, _, j, hj, _, _ => by omega
  | n + 1, hn, j, hj, hl, hc => by
    rw [firstM_succ h hd n (by omega)]
    by_cases e : j = n
    · subst e; rw [if_pos hc]; omega
    · have := firstM_min h hd n (by omega) j (by omega) hl hc
      split <;> omega
theorem gate_true {gs : List Gt} (h : gok gs = true) {by' : List Wd} {k : Nat} {a now b dlo d dhi : Int} (ha : 0 ≤ a ∧ a ≤ now ∧ now ≤ b ∧ b ≤ 100001) (hd : 1 ≤ dlo ∧ dlo ≤ d ∧ d ≤ dhi ∧ dhi ≤ 10000000)
    (hC : firstG (condC b dhi) (valC b) gs gs.length ≤ 100000) :
    firstG (condM a dlo) (valM a) gs gs.length ≤ fstG now d (trL by' k gs gs.length) (trL by' k gs gs.length).length ∧ fstG now d (trL by' k gs gs.length) (trL by' k gs gs.length).length ≤ firstG (condC b dhi) (valC b) gs gs.length := by
  have hmem : ∀ q ∈ trL by' k gs gs.length, ∃ j, ∃ hj : j < gs.length, (gs[j].ol ≤ q.ol ∧ q.ol ≤ gs[j].oh) ∧ (gs[j].sl ≤ q.sl ∧ q.sl ≤ gs[j].sh) ∧ q.ol ≤ q.sl := fun q hq => by
    obtain ⟨j, g, h1, h2, h3, rfl⟩ := trL_mem.1 hq
    obtain ⟨hj, rfl⟩ := List.getElem?_eq_some_iff.1 h2
    have gj := (gok_at h hj).1
    exact ⟨j, hj, pick_in _ gj.b, pick_in _ gj.e, h3⟩
  constructor
  · have hM := firstG_bd (cond := condM a dlo) (n := gs.length) (gs_val h (day := a) (by omega)).1
    refine fstG_ge hM.2 fun q hq hc => ?_
    obtain ⟨j, hj, ⟨o1, o2⟩, ⟨s1, s2⟩, hos⟩ := hmem q hq
    have gj := (gok_at h hj).1
    have a1 := gj.a; have a2 := gj.b; have a3 := gj.c; have a4 := gj.e; have a5 := gj.f; have a6 := gj.d
    have hcm : condM a dlo gs[j] = true := by
      simp only [condM, decide_eq_true_eq]
      rw [wI (x := max a gs[j].ol + dlo) (by omega), wI (x := max a gs[j].ol + dlo - 1) (by omega)]
      omega
    have := firstM_min h (d := dlo) ⟨ha.1, by omega⟩ gs.length (Nat.le_refl _) j hj hj hcm
    unfold valM at this ⊢
    omega
  · have hC0 := hC
    unfold firstG gate at hC ⊢
    cases hc : firstN (fun i => !(gs[i]?).any (condC b dhi)) gs.length 0 with
    | none => rw [hc] at hC; simp at hC
    | some j =>
      obtain ⟨-, j2, j3, -⟩ := firstN_some hc
      have hj : j < gs.length := by omega
      simp only [List.getElem?_eq_getElem hj, Option.any_some, Bool.not_eq_false'] at j3
      simp only [List.getElem?_eq_getElem hj, Option.elim_some]
      have gj := (gok_at h hj).1
      have a1 := gj.a; have a2 := gj.b; have a3 := gj.c; have a4 := gj.e; have a5 := gj.f; have a6 := gj.d
      simp only [condC, decide_eq_true_eq] at j3
      rw [wI (x := max b gs[j].oh + dhi) (by omega), wI (x := max b gs[j].oh + dhi - 1) (by omega)] at j3
      have p1 := pick_in (atS by' (2 * k + 3 * j)) gj.b
      have p2 := pick_in (atS by' (2 * k + 3 * j + 1)) gj.e
      have hin : (trG by' k j gs[j]).g ∈ trL by' k gs gs.length := trL_mem.2 ⟨j, gs[j], hj, List.getElem?_eq_getElem hj, by simp only [trG]; omega, rfl⟩
      obtain ⟨m, hm, hm2⟩ := List.getElem_of_mem hin
      have := fstG_le (now := now) (d := d) (gs := trL by' k gs gs.length) (g := (trG by' k j gs[j]).g) (k := (trL by' k gs gs.length).length) hm (by rw [List.getElem?_eq_getElem hm, hm2]) (by simp only [trG, Gs.g]; omega)
      simp only [trG, Gs.g] at this
      unfold valC
      omega
theorem dvd_mid {lo hi n pl ph p : Int} (h1 : 1 ≤ lo) (h2 : lo ≤ n) (h3 : n ≤ hi) (h4 : hi ≤ 1000000) (h5 : 1 ≤ pl) (h6 : pl ≤ p) (h7 : p ≤ ph) (h8 : ph ≤ 100000) : dvd' lo ph ≤ dvd' n p ∧ dvd' n p ≤ dvd' hi pl :=
  ⟨dvd_le h1 h2 (by omega) (by omega) h7 h8, dvd_le (by omega) h3 h4 h5 h6 (by omega)⟩
/-- Where one is in truth behind so many legs. -/
def tday (by' : List Wd) (ls : List Lg) (pl ph : Int) (ks : List Int) (i : Nat) : Int := dvd' (pickS ((ls[(ks.getD i 0).toNat]?).getD ⟨0, 0, 0, 0, []⟩).lo ((ls[(ks.getD i 0).toNat]?).getD ⟨0, 0, 0, 0, []⟩).hi (atS by' (5 * i + 1))) (pickS pl ph (atS by' (5 * i)))
def tnow (by' : List Wd) (ls : List Lg) (pl ph : Int) (ks : List Int) (day : Int) : Nat → Int
  | 0 => day
  | i + 1 => goneS (tnow by' ls pl ph ks day i) (tday by' ls pl ph ks i) (trLeg by' (ks.getD i 0).toNat ((ls[(ks.getD i 0).toNat]?).getD ⟨0, 0, 0, 0, []⟩)).gs
structure StepT (l : Lg) (j : Nat) (by' : List Wd) (i : Nat) (pl ph now : Int) (s : Sp) (d on : Int) : Prop where
  db : 1 ≤ d ∧ d ≤ 1100000
  c0 : on ≤ 100000
  c1 : s.al ≤ on
  c2 : on ≤ s.ah
  c3 : s.ll ≤ on - d
  c4 : on - d ≤ s.lh
  ob : 0 ≤ on
theorem stop_true {l : Lg} {n k w a b pl ph now : Int} (hl : l.ok n = true) (hp : inS pl ph 1 100000 = true) (ha : 0 ≤ a ∧ a ≤ now ∧ now ≤ b ∧ b ≤ 100001) (by' : List Wd) (i j : Nat) (hah : (stop l k w a b pl ph).ah ≤ 100000) :
    StepT l j by' i pl ph now (stop l k w a b pl ph) (dvd' (pickS l.lo l.hi (atS by' (5 * i + 1))) (pickS pl ph (atS by' (5 * i)))) (goneS now (dvd' (pickS l.lo l.hi (atS by' (5 * i + 1))) (pickS pl ph (atS by' (5 * i)))) (trLeg by' j l).gs) := by
  obtain ⟨p1, p2, p3⟩ := pace_pos hp
  obtain ⟨l1, l2, l3, l4, -⟩ := lg_ok hl
  have b0 := pick_in (atS by' (5 * i)) p2
  have b1 := pick_in (atS by' (5 * i + 1)) l3
  generalize pickS pl ph (atS by' (5 * i)) = p at *
  generalize pickS l.lo l.hi (atS by' (5 * i + 1)) = m at *
  obtain ⟨d1, d2⟩ := dvd_mid (lo := l.lo) (hi := l.hi) (n := m) (pl := pl) (ph := ph) (p := p) l2 b1.1 b1.2 l4 p1 b0.1 b0.2 p3
  have d3 := dvd_bd (n := l.lo) (k := ph) (by omega) (by omega)
  have d4 := dvd_bd (n := l.hi) (k := pl) (by omega) (by omega)
  generalize hdd : dvd' m p = d at *
  have v1 := firstG_bd (cond := condM a (dvd' l.lo ph)) (n := l.gs.length) (gs_val l1 (day := a) (by omega)).1
  have v2 := firstG_bd (cond := condC b (dvd' l.hi pl)) (n := l.gs.length) (gs_val l1 (day := b) (by omega)).2
  simp only [stop, arr] at hah ⊢
  have hC : firstG (condC b (dvd' l.hi pl)) (valC b) l.gs l.gs.length ≤ 100000 := by
    rw [wI (x := firstG (condC b (dvd' l.hi pl)) (valC b) l.gs l.gs.length + dvd' l.hi pl) (by omega)] at hah
    omega
  obtain ⟨g1, g2⟩ := gate_true l1 (by' := by') (k := j) ha ⟨by omega, d1, d2, by omega⟩ hC
  simp only [trLeg, goneS]
  generalize firstG (condM a (dvd' l.lo ph)) (valM a) l.gs l.gs.length = x at *
  generalize firstG (condC b (dvd' l.hi pl)) (valC b) l.gs l.gs.length = y at *
  generalize fstG now d (trL by' j l.gs l.gs.length) (trL by' j l.gs l.gs.length).length = z at *
  rw [wI (x := y + dvd' l.hi pl) (by omega)] at hah
  constructor <;> (try dsimp only) <;> first | omega | (rw [wI (x := x + dvd' l.lo ph) (by omega)]; omega) | (rw [wI (x := y + dvd' l.hi pl) (by omega)]; omega)
end Go.Q
