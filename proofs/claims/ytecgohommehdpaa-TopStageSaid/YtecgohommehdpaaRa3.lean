/- Walk (TopStage). -/
import Derived.Test.YtecgohommehdpaaRa2
set_option linter.unusedVariables false
set_option linter.unusedSimpArgs false
set_option maxRecDepth 100000
namespace Go.Q
open Go.V
/-- The other end of a leg. -/
def acr (l : Lg) (w : Int) : Option Int := if w = l.a then some l.b else if w = l.b then some l.a else none
def acrD : Option Int → D
  | some o => .node [I o, .bool true]
  | none => .node [I 0, .bool false]
theorem e122 (l : Lg) (w : Int) : evL FN 122 [.node l.d, I w] = some (acrD (acr l w)) := by
  refine evL_of (F := F122) rfl ?_
  unfold acr
  by_cases h1 : w = l.a
  · simp [F122, Fn.denV, fits, T.denV, denL, E.den, D.cells, Lg.d, gts, D.den1, binD, h1, outOf, denVK, acrD]
  by_cases h2 : w = l.b
  · subst h2
    simp [F122, Fn.denV, fits, T.denV, denL, E.den, D.cells, Lg.d, gts, D.den1, binD, h1, outOf, denVK, acrD]
  · simp [F122, Fn.denV, fits, T.denV, denL, E.den, D.cells, Lg.d, gts, D.den1, binD, h1, h2, outOf, denVK, acrD]
/-- Where one is behind a leg, if one can take it. -/
def stepW (ls : List Lg) (w k : Int) : Option Int := if inR k 0 (ls.length - 1) then (ls[k.toNat]?).bind (acr · w) else none
def wAt (ls : List Lg) (w0 : Int) (ks : List Int) : Nat → Int
  | 0 => w0
  | n + 1 => ((ks[n]?).bind (stepW ls (wAt ls w0 ks n))).getD 0
def okW (ls : List Lg) (w0 : Int) (ks : List Int) (i : Nat) : Bool := ((ks[i]?).bind (stepW ls (wAt ls w0 ks i))).isSome
def brkD (ls : List Lg) (w0 : Int) (ks : List Int) : D := match firstN (okW ls w0 ks) ks.length 0 with
  | some i => .node [I i, .bool true]
  | none => .node [I 0, .bool false]
def ints (ks : List Int) : D := .list (ks.map fun n => [I n])
theorem e90 (ws : List Wl) (ls : List Lg) (pl ph w a b : Int) (ks : List Int) (hl : ls.length ≤ 9223372036854775807) (hk : ks.length ≤ 24) :
    evL FN 90 [.node (carD ws ls pl ph w a b), ints ks] = some (brkD ls w ks) := by
  refine evL_of (F := F90) rfl ?_
  simp [F90, Fn.denV, fits, T.denV, denL, E.den, D.cells, carD, ints, wls, lgs, D.den1]
  rw [iter_nat ks.length (okW ls w ks) (fun i => [I (wAt ls w ks i), I i]) 0 1 (fun i => [I i]) [] (by simp [wAt])]
  · unfold brkD
    cases firstN (okW ls w ks) ks.length 0 <;> simp [denVK, T.denV, E.den, denL, I]
  · intro i hi _
    have h66 := e66 ks[i] ls hl
    have hs : wAt ls w ks (i + 1) = (stepW ls (wAt ls w ks i) ks[i]).getD 0 := by simp [wAt, List.getElem?_eq_getElem hi]
    have ho : okW ls w ks i = (stepW ls (wAt ls w ks i) ks[i]).isSome := by simp [okW, List.getElem?_eq_getElem hi]
    simp only [lgs, I] at h66
    rw [ho, hs]
    generalize wAt ls w ks i = x
    cases hr : inR ks[i] 0 (ls.length - 1) <;> rw [hr] at h66
    · simp [hi, idx_nat hi, partD, h66, unD, outOf, denL, E.den, binD, denVK, T.denV, D.den1, stepW, hr]
    · obtain ⟨r1, r2⟩ := inR_iff.1 hr
      obtain ⟨k, hk'⟩ := Int.eq_ofNat_of_zero_le r1
      have hkl : k < ls.length := by omega
      have h122 := e122 ls[k] x
      have hst : stepW ls x ks[i] = acr ls[k] x := by rw [hk'] at hr ⊢; simp [stepW, hr, List.getElem?_eq_getElem hkl]
      rw [hst]
      rw [hk'] at h66
      simp only [Lg.d, gts, I] at h122
      simp [hi, idx_nat hi, partD, hk', h66, unD, binD, D.den1, hkl, idx_nat hkl, Lg.d, gts, E.den, denL, T.denV, D.cells, h122, I]
      cases acr ls[k] x <;> simp [acrD, D.cells, outOf, denL, E.den, denVK, T.denV, D.den1, binD, wrapN (show i < 9223372036854775807 by omega), I]
  · intro _
    simp [binD, outOf, denL]
theorem e116o (a : Int) : evL FN 116 [.list [[I a]]] = some (I (min 100001 a)) := by
  refine evL_of (F := F116) rfl ?_
  have w1 : IntKind.i64.wrap 1 = 1 := by decide
  simp [F116, Fn.denV, fits, T.denV, denL, E.den, D.den1]
  rw [iterL_eq]
  simp [D.den1, binD, D.idx, partD, mxLD, mxD, minC, outOf, denL, E.den, w1]
  rw [iterL_eq]
  simp [D.den1, binD, D.idx, partD, mxLD, mxD, minC, outOf, denL, E.den, denVK, T.denV, w1]
def arr (x d : Int) : Int := min 100001 (IntKind.i64.wrap (x + d))
theorem e123 (ws : List Wl) (ls : List Lg) (pl ph w a b : Int) (k : Nat) (hk : k < ls.length) (h1 : pl ≠ 0) (h2 : ph ≠ 0) (x y : Int) :
    evL FN 123 [.node (carD ws ls pl ph w a b), I k, .node [I x, I y]] = some (.node [I (arr x (dvd' ls[k].lo ph)), I (arr y (dvd' ls[k].hi pl))]) := by
  refine evL_of (F := F123) rfl ?_
  have h67 := e67 ws ls pl ph w a b k hk h1 h2
  have ha := e116o (IntKind.i64.wrap (x + dvd' ls[k].lo ph))
  have hb := e116o (IntKind.i64.wrap (y + dvd' ls[k].hi pl))
  simp only [carD, wls, lgs, I] at h67 ha hb ⊢
  simp [F123, Fn.denV, fits, T.denV, denL, E.den, D.cells, h67, D.den1, binD, fillD, ha, hb, arr, D.flat, D.flat0]
/-- The stop of a leg. -/
def stop (l : Lg) (k w a b pl ph : Int) : Sp where
  leg := k
  well := (acr l w).getD 0
  ll := firstG (condM a (dvd' l.lo ph)) (valM a) l.gs l.gs.length
  lh := firstG (condC b (dvd' l.hi pl)) (valC b) l.gs l.gs.length
  al := arr (firstG (condM a (dvd' l.lo ph)) (valM a) l.gs l.gs.length) (dvd' l.lo ph)
  ah := arr (firstG (condC b (dvd' l.hi pl)) (valC b) l.gs l.gs.length) (dvd' l.hi pl)
def leB (x : Int) : Bool := decide (x ≤ 100000)
theorem acrD_0 (o : Option Int) : (acrD o) = .node [I (o.getD 0), .bool o.isSome] := by cases o <;> rfl
theorem e91 (ws : List Wl) (ls : List Lg) (pl ph w a b : Int) (k : Nat) (hk : k < ls.length) (n : Int) (hlg : ls[k].ok n = true) (hp : inS pl ph 1 100000 = true) (ha : 0 ≤ a ∧ a ≤ 100001) (hb : 0 ≤ b ∧ b ≤ 100001) :
    evL FN 91 [.node (carD ws ls pl ph w a b), I k] = some (.node [.node (stop ls[k] k w a b pl ph).d, .bool (leB (stop ls[k] k w a b pl ph).ah)]) := by
  refine evL_of (F := F91) rfl ?_
  obtain ⟨p1, p2, p3⟩ := pace_pos hp
  have h122 := e122 ls[k] w
  rw [acrD_0] at h122
  have h73 := e73 ws ls pl ph w a b a b k hk n hlg hp ha hb
  unfold leaveE at h73
  simp only [List.getElem?_eq_getElem hk] at h73
  have h123 := e123 ws ls pl ph w a b k hk (by omega) (by omega) (stop ls[k] k w a b pl ph).ll (stop ls[k] k w a b pl ph).lh
  have h68 := e68
  simp only [stop] at h123 ⊢
  generalize firstG (condM a (dvd' ls[k].lo ph)) (valM a) ls[k].gs ls[k].gs.length = x1 at *
  generalize firstG (condC b (dvd' ls[k].hi pl)) (valC b) ls[k].gs ls[k].gs.length = x2 at *
  generalize arr x1 (dvd' ls[k].lo ph) = y1 at *
  generalize arr x2 (dvd' ls[k].hi pl) = y2 at *
  simp only [carD, wls, lgs, Lg.d, gts, I] at h122 h73 h123 h68 ⊢
  simp [F91, Fn.denV, fits, T.denV, denL, E.den, D.cells, D.den1, binD, D.idx, hk, Lg.d, gts, partD, h122, h73, h123, h68, Sp.d, leB]
theorem e93 (ws : List Wl) (ls : List Lg) (pl ph w a b : Int) (s : Sp) : evL FN 93 [.node (carD ws ls pl ph w a b), .node s.d] = some (.node (carD ws ls pl ph s.well s.al s.ah)) := by
  refine evL_of (F := F93) rfl ?_
  simp [F93, Fn.denV, fits, T.denV, denL, E.den, D.cells, carD, Sp.d, wls, lgs]
def workE (ws : List Wl) (ls : List Lg) (w day pl ph : Int) : Int := if askE ws ls pl ph = 0 then (if inR w 0 (ws.length - 1) && inR day 0 100000 then 0 else 2) else askE ws ls pl ph
theorem e89 (ws : List Wl) (ls : List Lg) (w day pl ph : Int) (hw : ws.length ≤ 9223372036854775807) (hl : ls.length ≤ 9223372036854775807) (hb : big ls) :
    evL FN 89 [landD ws ls, I w, I day, .node [I pl, I ph]] = some (.node [.node (if workE ws ls w day pl ph = 0 then carD ws ls pl ph w day day else carD [] [] 0 0 0 0 0), I (workE ws ls w day pl ph)]) := by
  refine evL_of (F := F89) rfl ?_
  have h65 := e65 ws ls pl ph hw hl hb
  have h94 := e94 w ws hw
  have h72 := e72 day
  have h74 := e74 day
  unfold workE
  by_cases he : askE ws ls pl ph = 0
  · rw [if_pos he] at h65 ⊢
    rw [he] at h65
    cases hr : inR w 0 (ws.length - 1) <;> rw [hr] at h94
    · simp only [landD, wls, lgs, carD, I] at h65 h94 ⊢
      simp [F89, Fn.denV, fits, T.denV, denL, E.den, D.cells, D.den1, binD, unD, h65, h94, outOf, denVK, wls, lgs]
    cases hr2 : inR day 0 100000 <;> rw [hr2] at h72 <;>
    · simp only [landD, wls, lgs, carD, I] at h65 h94 h72 h74 ⊢
      simp [F89, Fn.denV, fits, T.denV, denL, E.den, D.cells, D.den1, binD, unD, h65, h94, h72, h74, outOf, denVK, wls, lgs]
  · rw [if_neg he] at h65 ⊢
    simp only [landD, wls, lgs, carD, I] at h65 ⊢
    simp [F89, Fn.denV, fits, T.denV, denL, E.den, D.cells, D.den1, binD, unD, h65, he, carD, wls, lgs]
structure Wst where
  ss : List Sp
  w : Int
  a : Int
  b : Int
def nxt (ls : List Lg) (pl ph : Int) (ks : List Int) (i : Nat) (s : Wst) : Sp := stop ((ls[(ks.getD i 0).toNat]?).getD ⟨0, 0, 0, 0, []⟩) (ks.getD i 0) s.w s.a s.b pl ph
def wst (ls : List Lg) (pl ph : Int) (ks : List Int) (w0 day : Int) : Nat → Wst
  | 0 => ⟨[], w0, day, day⟩
  | n + 1 => ⟨(wst ls pl ph ks w0 day n).ss ++ [nxt ls pl ph ks n (wst ls pl ph ks w0 day n)], (nxt ls pl ph ks n (wst ls pl ph ks w0 day n)).well, (nxt ls pl ph ks n (wst ls pl ph ks w0 day n)).al, (nxt ls pl ph ks n (wst ls pl ph ks w0 day n)).ah⟩
def wok (ls : List Lg) (pl ph : Int) (ks : List Int) (w0 day : Int) (i : Nat) : Bool := leB (nxt ls pl ph ks i (wst ls pl ph ks w0 day i)).ah
theorem firstG_bd {cond : Gt → Bool} {val : Gt → Int} {gs : List Gt} {n : Nat} (h : ∀ g ∈ gs, 0 ≤ val g ∧ val g ≤ 100001) : 0 ≤ firstG cond val gs n ∧ firstG cond val gs n ≤ 100001 := by
  unfold firstG
  split
  · rename_i i _
    cases hg : gs[i]? with
    | none => simp
    | some g => exact h g (List.mem_of_getElem? hg)
  · omega
theorem gs_val {gs : List Gt} (h : gok gs = true) {day : Int} (hd : 0 ≤ day ∧ day ≤ 100001) : (∀ g ∈ gs, 0 ≤ valM day g ∧ valM day g ≤ 100001) ∧ (∀ g ∈ gs, 0 ≤ valC day g ∧ valC day g ≤ 100001) := by
  refine ⟨fun g hg => ?_, fun g hg => ?_⟩ <;>
  · obtain ⟨j, hj, rfl⟩ := List.getElem_of_mem hg
    have := (gok_at h hj).1
    have a1 := this.a; have a2 := this.b; have a3 := this.c
    simp only [valM, valC]; omega
theorem arr_bd {x d : Int} (hx : 0 ≤ x ∧ x ≤ 100001) (hd : 1 ≤ d ∧ d ≤ 1100000) : 0 ≤ arr x d ∧ arr x d ≤ 100001 := by
  unfold arr
  rw [wI (by omega)]
  omega
theorem stop_bd {l : Lg} {n k w a b pl ph : Int} (hl : l.ok n = true) (hp : inS pl ph 1 100000 = true) (ha : 0 ≤ a ∧ a ≤ 100001) (hb : 0 ≤ b ∧ b ≤ 100001) :
    (0 ≤ (stop l k w a b pl ph).al ∧ (stop l k w a b pl ph).al ≤ 100001) ∧ (0 ≤ (stop l k w a b pl ph).ah ∧ (stop l k w a b pl ph).ah ≤ 100001) := by
  obtain ⟨p1, p2, p3⟩ := pace_pos hp
  obtain ⟨l1, l2, l3, l4, -⟩ := lg_ok hl
  have v1 := (gs_val l1 ha).1
  have v2 := (gs_val l1 hb).2
  exact ⟨arr_bd (firstG_bd v1) (dvd_bd (by omega) (by omega)), arr_bd (firstG_bd v2) (dvd_bd (by omega) (by omega))⟩
theorem dvd_le {lo hi pl ph : Int} (h1 : 1 ≤ lo) (h2 : lo ≤ hi) (h3 : hi ≤ 1000000) (h4 : 1 ≤ pl) (h5 : pl ≤ ph) (h6 : ph ≤ 100000) : dvd' lo ph ≤ dvd' hi pl := by
  rw [dvd_eq (by omega) (by omega), dvd_eq (by omega) (by omega)]
  have a1 := Int.lt_ediv_add_one_mul_self (hi + pl - 1) (show 0 < pl by omega)
  have q0 : 0 ≤ (hi + pl - 1) / pl := Int.ediv_nonneg (by omega) (by omega)
  generalize (hi + pl - 1) / pl = q at *
  have a2 : q * pl ≤ q * ph := Int.mul_le_mul_of_nonneg_left h5 q0
  have a3 : (q + 1) * pl = q * pl + pl := by rw [Int.add_mul, Int.one_mul]
  have a4 : (q + 1) * ph = q * ph + ph := by rw [Int.add_mul, Int.one_mul]
  have a5 : (lo + ph - 1) / ph < q + 1 := Int.ediv_lt_of_lt_mul (by omega) (by omega)
  omega
theorem firstG_le {gs : List Gt} (h : gok gs = true) {a b d d' : Int} (ha : 0 ≤ a ∧ a ≤ b ∧ b ≤ 100001) (hd : 1 ≤ d ∧ d ≤ d' ∧ d' ≤ 10000000) :
    firstG (condM a d) (valM a) gs gs.length ≤ firstG (condC b d') (valC b) gs gs.length := by
  have hM := firstG_bd (cond := condM a d) (n := gs.length) (gs_val h (day := a) (by omega)).1
  unfold firstG gate at hM ⊢
  cases hc : firstN (fun i => !(gs[i]?).any (condC b d')) gs.length 0 with
  | none => exact hM.2
  | some j =>
    obtain ⟨-, j2, j3, -⟩ := firstN_some hc
    have hj : j < gs.length := by omega
    simp only [List.getElem?_eq_getElem hj, Option.any_some, Bool.not_eq_false'] at j3
    have gj := (gok_at h hj).1
    have a1 := gj.a; have a2 := gj.b; have a3 := gj.c; have a4 := gj.e; have a5 := gj.f; have a6 := gj.d; have a7 := gj.g
    have hcm : condM a d gs[j] = true := by
      simp only [condC, decide_eq_true_eq] at j3
      rw [wI (x := max b gs[j].oh + d') (by omega), wI (x := max b gs[j].oh + d' - 1) (by omega)] at j3
      simp only [condM, decide_eq_true_eq]
      rw [wI (x := max a gs[j].ol + d) (by omega), wI (x := max a gs[j].ol + d - 1) (by omega)]
      omega
    cases hm : firstN (fun i => !(gs[i]?).any (condM a d)) gs.length 0 with
    | none =>
      have := firstN_none.1 hm j (by omega) (by omega)
      simp only [List.getElem?_eq_getElem hj, Option.any_some, hcm] at this
      cases this
    | some i =>
      obtain ⟨-, i2, i3, i4⟩ := firstN_some hm
      have hi : i < gs.length := by omega
      have hij : i ≤ j := by
        by_cases hlt : j < i
        · have := i4 j (by omega) hlt
          simp only [List.getElem?_eq_getElem hj, Option.any_some, hcm] at this
          cases this
        · omega
      simp only [List.getElem?_eq_getElem hj, List.getElem?_eq_getElem hi, Option.elim_some, valM, valC]
      by_cases e : i = j
      · subst e; omega
      · have := gok_lt h hi j (by omega) hj
        have := (gok_at h hi).1.g
        omega
theorem arr_le {x y d d' : Int} (hx : 0 ≤ x) (hxy : x ≤ y) (hy : y ≤ 100001) (hd : 1 ≤ d) (hdd : d ≤ d') (hd' : d' ≤ 1100000) : arr x d ≤ arr y d' := by
  unfold arr
  rw [wI (x := x + d) (by omega), wI (x := y + d') (by omega)]
  omega
theorem stop_le {l : Lg} {n k w a b pl ph : Int} (hl : l.ok n = true) (hp : inS pl ph 1 100000 = true) (ha : 0 ≤ a) (hab : a ≤ b) (hb : b ≤ 100001) : (stop l k w a b pl ph).al ≤ (stop l k w a b pl ph).ah := by
  obtain ⟨p1, p2, p3⟩ := pace_pos hp
  obtain ⟨l1, l2, l3, l4, -⟩ := lg_ok hl
  have d1 := dvd_bd (n := l.lo) (k := ph) (by omega) (by omega)
  have d2 := dvd_bd (n := l.hi) (k := pl) (by omega) (by omega)
  have d3 := dvd_le l2 l3 l4 p1 p2 p3
  have v1 := firstG_bd (cond := condM a (dvd' l.lo ph)) (n := l.gs.length) (gs_val l1 (day := a) (by omega)).1
  have v2 := firstG_bd (cond := condC b (dvd' l.hi pl)) (n := l.gs.length) (gs_val l1 (day := b) (by omega)).2
  have v3 := firstG_le l1 (d := dvd' l.lo ph) (d' := dvd' l.hi pl) ⟨ha, hab, hb⟩ (by omega)
  exact arr_le v1.1 v3 v2.2 d1.1 d3 d2.2
theorem stepW_some {ls : List Lg} {w k o : Int} (h : stepW ls w k = some o) : ∃ j : Nat, k = j ∧ ∃ hj : j < ls.length, acr ls[j] w = some o := by
  unfold stepW at h
  split at h
  · rename_i hr
    obtain ⟨r1, r2⟩ := inR_iff.1 hr
    obtain ⟨j, rfl⟩ := Int.eq_ofNat_of_zero_le r1
    have hj : j < ls.length := by omega
    refine ⟨j, rfl, hj, ?_⟩
    simpa [List.getElem?_eq_getElem hj] using h
  · cases h
theorem okW_some {ls : List Lg} {w0 : Int} {ks : List Int} {i : Nat} (hi : i < ks.length) (h : okW ls w0 ks i = true) :
    ∃ j : Nat, ks[i] = j ∧ ∃ hj : j < ls.length, acr ls[j] (wAt ls w0 ks i) = some (wAt ls w0 ks (i + 1)) := by
  simp only [okW, List.getElem?_eq_getElem hi, Option.bind_some] at h
  obtain ⟨o, ho⟩ := Option.isSome_iff_exists.1 h
  obtain ⟨j, h1, h2, h3⟩ := stepW_some ho
  refine ⟨j, h1, h2, ?_⟩
  rw [h3, wAt, List.getElem?_eq_getElem hi, Option.bind_some, ho]; rfl
theorem acr_in {l : Lg} {n w o : Int} (hl : l.ok n = true) (h : acr l w = some o) : 0 ≤ o ∧ o < n := by
  obtain ⟨-, -, -, -, -, a1, a2, a3, a4⟩ := lg_ok hl
  unfold acr at h
  split at h
  · cases h; exact ⟨a3, a4⟩
  · split at h
    · cases h; exact ⟨a1, a2⟩
    · cases h
theorem wst_ok {ws : List Wl} {ls : List Lg} {pl ph : Int} {ks : List Int} {w0 day : Int} (hL : landOK ws ls = true) (hp : inS pl ph 1 100000 = true) (hd : 0 ≤ day ∧ day ≤ 100000) (hw : 0 ≤ w0 ∧ w0 < ws.length) (hk : ∀ i, i < ks.length → okW ls w0 ks i = true) :
    ∀ i, i ≤ ks.length → (wst ls pl ph ks w0 day i).w = wAt ls w0 ks i ∧ (wst ls pl ph ks w0 day i).ss.length = i ∧ (0 ≤ (wst ls pl ph ks w0 day i).a ∧ (wst ls pl ph ks w0 day i).a ≤ 100001) ∧ (0 ≤ (wst ls pl ph ks w0 day i).b ∧ (wst ls pl ph ks w0 day i).b ≤ 100001) ∧ (∀ s ∈ (wst ls pl ph ks w0 day i).ss, 0 ≤ s.well ∧ s.well < ws.length ∧ 0 ≤ s.al ∧ s.al ≤ s.ah) ∧ (wst ls pl ph ks w0 day i).a ≤ (wst ls pl ph ks w0 day i).b
  | 0, _ => ⟨rfl, rfl, ⟨hd.1, show day ≤ 100001 by omega⟩, ⟨hd.1, show day ≤ 100001 by omega⟩, (fun s hs => by cases hs), Int.le_refl day⟩
  | n + 1, h => by
    obtain ⟨i1, i2, i3, i4, i5, i6⟩ := wst_ok hL hp hd hw hk n (by omega)
    obtain ⟨j, h1, h2, h3⟩ := okW_some (show n < ks.length by omega) (hk n (by omega))
    have hn : nxt ls pl ph ks n (wst ls pl ph ks w0 day n) = stop ls[j] j (wst ls pl ph ks w0 day n).w (wst ls pl ph ks w0 day n).a (wst ls pl ph ks w0 day n).b pl ph := by
      simp [nxt, List.getD, List.getElem?_eq_getElem (show n < ks.length by omega), h1, List.getElem?_eq_getElem h2]
    have hwl : (nxt ls pl ph ks n (wst ls pl ph ks w0 day n)).well = wAt ls w0 ks (n + 1) := by
      rw [hn]; simp only [stop]; rw [i1, h3]; rfl
    have hlg := land_leg hL h2
    have hin := acr_in hlg h3
    obtain ⟨b1, b2⟩ := stop_bd (k := j) (w := (wst ls pl ph ks w0 day n).w) hlg hp i3 i4
    have b3 := stop_le (k := j) (w := (wst ls pl ph ks w0 day n).w) hlg hp i3.1 i6 i4.2
    rw [← hn] at b1 b2 b3
    refine ⟨hwl, by simp [wst, i2], b1, b2, fun s hs => ?_, b3⟩
    simp only [wst, List.mem_append, List.mem_singleton] at hs
    rcases hs with hs | rfl
    · exact i5 s hs
    · rw [hwl]; exact ⟨hin.1, hin.2, b1.1, b3⟩
theorem wst_ah {ls : List Lg} {pl ph : Int} {ks : List Int} {w0 day : Int} : ∀ n, (∀ i, i < n → wok ls pl ph ks w0 day i = true) → ∀ s ∈ (wst ls pl ph ks w0 day n).ss, s.ah ≤ 100000
  | 0, _, s, hs => by cases hs
  | n + 1, h, s, hs => by
    simp only [wst, List.mem_append, List.mem_singleton] at hs
    rcases hs with hs | rfl
    · exact wst_ah n (fun i hi => h i (by omega)) s hs
    · have := h n (by omega)
      simpa [wok, leB] using this
theorem carD_is (ws : List Wl) (ls : List Lg) (pl ph w a b : Int) : carD ws ls pl ph w a b = [wls ws, lgs ls, I pl, I ph, I w, I a, I b] := rfl
/-- What Walk says, as far as it is wanted. -/
structure WalkD (ws : List Wl) (ls : List Lg) (n : Nat) (d : D) : Prop where
  is : ∃ (ss : List Sp) (at' e : Int), d = .node [sps ss, I at', I e] ∧ (e = 0 → landOK ws ls = true ∧ ∀ s ∈ ss, 0 ≤ s.well ∧ s.well < ws.length ∧ 0 ≤ s.al ∧ s.al ≤ s.ah ∧ s.ah ≤ 100000) ∧ ss.length ≤ 24
theorem sps_nil : D.list [] = sps [] := rfl
theorem e28 (ws : List Wl) (ls : List Lg) (w0 day pl ph : Int) (ks : List Int) (hw : ws.length ≤ 9223372036854775807) (hl : ls.length ≤ 9223372036854775807) (hb : big ls) (hkl : ks.length ≤ 24) :
    ∃ d, evL FN 28 [landD ws ls, I w0, I day, .node [I pl, I ph], ints ks] = some d ∧ WalkD ws ls ks.length d := by
  have h89 := e89 ws ls w0 day pl ph hw hl hb
  by_cases he : workE ws ls w0 day pl ph = 0
  rotate_left
  · rw [if_neg he] at h89
    refine ⟨_, evL_of (F := F28) rfl ?_, ⟨[], 0, workE ws ls w0 day pl ph, rfl, fun h => absurd h he, by simp⟩⟩
    simp only [landD, wls, lgs, carD, I] at h89 ⊢
    simp [F28, Fn.denV, fits, T.denV, denL, E.den, D.cells, D.den1, binD, h89, he, sps, ints]
  rw [if_pos he, he] at h89
  have hkl' : ¬ (24 : Int) < ks.length := by omega
  have hA : askE ws ls pl ph = 0 := by unfold workE at he; split at he; · assumption
                                       · exact he
  obtain ⟨q1, q2⟩ := askE_zero.1 hA
  have hr : inR w0 0 (ws.length - 1) = true ∧ inR day 0 100000 = true := by
    unfold workE at he
    rw [if_pos hA] at he
    cases h1 : inR w0 0 (ws.length - 1) <;> cases h2 : inR day 0 100000 <;> rw [h1, h2] at he <;> simp at he
    exact ⟨rfl, rfl⟩
  obtain ⟨⟨w1, w2⟩, d1, d2⟩ := And.imp inR_iff.1 inR_iff.1 hr
  have h90 := e90 ws ls pl ph w0 day day ks hl hkl
  unfold brkD at h90
  cases hbk : firstN (okW ls w0 ks) ks.length 0 with
  | some i =>
    rw [hbk] at h90
    refine ⟨_, evL_of (F := F28) rfl ?_, ⟨[], i, 8, rfl, fun h => by omega, by simp⟩⟩
    simp only [landD, wls, lgs, carD, ints, I] at h89 h90 ⊢
    simp [F28, Fn.denV, fits, T.denV, denL, E.den, D.cells, D.den1, binD, h89, h90, sps, hkl']
  | none =>
    rw [hbk] at h90
    have hk : ∀ i, i < ks.length → okW ls w0 ks i = true := fun i hi => firstN_none.1 hbk i (by omega) (by omega)
    have hst := wst_ok q1 q2 (ks := ks) ⟨d1, d2⟩ ⟨w1, by omega⟩ hk
    have hloop : ∃ d, Fn.denV (evL FN) F28 [landD ws ls, I w0, I day, .node [I pl, I ph], ints ks] = some d ∧ d = (match firstN (wok ls pl ph ks w0 day) ks.length 0 with
        | some i => .node [sps [], I i, I 34]
        | none => .node [sps (wst ls pl ph ks w0 day ks.length).ss, I 0, I 0]) := by
      refine ⟨_, ?_, rfl⟩
      have e1 : ∀ (d0 d1 d2 d3 d4 d5 : D) (l : List D), True := fun _ _ _ _ _ _ _ => trivial
      simp only [landD, wls, lgs, carD, ints, I] at h89 h90 ⊢
      simp [F28, Fn.denV, fits, T.denV, denL, E.den, D.cells, D.den1, binD, h89, h90, hkl']
      rw [iter_nat ks.length (wok ls pl ph ks w0 day) (fun i => [I i, sps (wst ls pl ph ks w0 day i).ss, wls ws, lgs ls, I pl, I ph, I (wst ls pl ph ks w0 day i).w, I (wst ls pl ph ks w0 day i).a, I (wst ls pl ph ks w0 day i).b]) 0 1 (fun i => [I i]) [sps (wst ls pl ph ks w0 day ks.length).ss] (by simp [wst, sps, wls, lgs])]
      · cases firstN (wok ls pl ph ks w0 day) ks.length 0 <;> simp [denVK, T.denV, E.den, denL, sps]
      · intro i hi _
        obtain ⟨i1, i2, i3, i4, i5, i6⟩ := hst i (by omega)
        obtain ⟨j, j1, j2, j3⟩ := okW_some hi (hk i hi)
        have hn : nxt ls pl ph ks i (wst ls pl ph ks w0 day i) = stop ls[j] j (wst ls pl ph ks w0 day i).w (wst ls pl ph ks w0 day i).a (wst ls pl ph ks w0 day i).b pl ph := by
          simp [nxt, List.getD, List.getElem?_eq_getElem hi, j1, List.getElem?_eq_getElem j2]
        have h91 := e91 ws ls pl ph (wst ls pl ph ks w0 day i).w (wst ls pl ph ks w0 day i).a (wst ls pl ph ks w0 day i).b j j2 _ (land_leg q1 j2) q2 i3 i4
        have hs : wst ls pl ph ks w0 day (i + 1) = ⟨(wst ls pl ph ks w0 day i).ss ++ [nxt ls pl ph ks i (wst ls pl ph ks w0 day i)], (nxt ls pl ph ks i (wst ls pl ph ks w0 day i)).well, (nxt ls pl ph ks i (wst ls pl ph ks w0 day i)).al, (nxt ls pl ph ks i (wst ls pl ph ks w0 day i)).ah⟩ := rfl
        have h92 := e92 (wst ls pl ph ks w0 day i).ss (nxt ls pl ph ks i (wst ls pl ph ks w0 day i)) (by omega)
        have h93 := e93 ws ls pl ph (wst ls pl ph ks w0 day i).w (wst ls pl ph ks w0 day i).a (wst ls pl ph ks w0 day i).b (nxt ls pl ph ks i (wst ls pl ph ks w0 day i))
        have hwok : wok ls pl ph ks w0 day i = leB (nxt ls pl ph ks i (wst ls pl ph ks w0 day i)).ah := rfl
        rw [hs, hwok]
        rw [← hn] at h91
        generalize nxt ls pl ph ks i (wst ls pl ph ks w0 day i) = s at *
        generalize wst ls pl ph ks w0 day i = t at *
        have hsh : (sps (t.ss ++ [s])).shal 1 = true := by
          simp [sps, D.shal, D.shal1, D.shal0, Sp.d, shal_int]
        simp only [carD, wls, lgs, Sp.d, I] at h91 h92 h93 hsh ⊢
        cases hlb : leB s.ah <;> rw [hlb] at h91
        · simp [hi, idx_nat hi, partD, j1, h91, unD, binD, D.den1, E.den, denL, T.denV, D.cells, outOf]
        · simp [hi, idx_nat hi, partD, j1, h91, h92, h93, unD, binD, D.den1, E.den, denL, T.denV, D.cells, outOf, hsh, wrapN (show i < 9223372036854775807 by omega)]
      · intro _
        simp [D.den1, binD, outOf, denL, E.den]
    obtain ⟨d, g1, g2⟩ := hloop
    refine ⟨d, evL_of (F := F28) rfl g1, ?_⟩
    rw [g2]
    obtain ⟨i1, i2, i3, i4, i5, i6⟩ := hst ks.length (Nat.le_refl _)
    cases hwk : firstN (wok ls pl ph ks w0 day) ks.length 0 with
    | some i => exact ⟨[], i, 34, rfl, fun h => by omega, by simp⟩
    | none =>
      have hah := wst_ah (ls := ls) (pl := pl) (ph := ph) (ks := ks) (w0 := w0) (day := day) ks.length fun i hi => firstN_none.1 hwk i (by omega) (by omega)
      exact ⟨_, 0, 0, rfl, fun _ => ⟨q1, fun s hs => by
        obtain ⟨a1, a2, a3, a4⟩ := i5 s hs
        exact ⟨a1, a2, a3, a4, hah s hs⟩⟩, by omega⟩
end Go.Q
