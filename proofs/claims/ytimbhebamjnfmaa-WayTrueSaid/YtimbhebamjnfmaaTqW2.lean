/- WayTrue: the rounds of its loops. -/
import Derived.Test.YtimbhebamjnfmaaTqW1
set_option linter.unusedVariables false
set_option linter.unusedSimpArgs false
set_option maxRecDepth 100000
namespace Go.Q
open Go.V
def trLeg (ws : List Wd) (i : Nat) (l : Lg) : Lg := { l with gs := trL ws i l.gs l.gs.length }
/-- A land's legs, the gates of the first ones as they are in truth. -/
def tls (ws : List Wd) (ls : List Lg) : Nat → List Lg
  | 0 => ls
  | i + 1 => match ls[i]? with
    | some l => (tls ws ls i).set i (trLeg ws i l)
    | none => tls ws ls i
theorem tls_len {ws : List Wd} {ls : List Lg} : ∀ n, (tls ws ls n).length = ls.length
  | 0 => rfl
  | n + 1 => by
    simp only [tls]
    split
    · rw [List.length_set, tls_len n]
    · exact tls_len n
theorem tls_get {ws : List Wd} {ls : List Lg} {j : Nat} (hj : j < ls.length) : ∀ n, (tls ws ls n)[j]? = some (if j < n then trLeg ws j ls[j] else ls[j])
  | 0 => by simp [tls, hj]
  | n + 1 => by
    have ih := tls_get (ws := ws) hj n
    simp only [tls]
    split
    · rename_i l e
      obtain ⟨hn, rfl⟩ := List.getElem?_eq_some_iff.1 e
      rw [List.getElem?_set, tls_len n]
      by_cases h : n = j
      · subst h; simp [hj]
      · rw [if_neg h, ih]
        by_cases h2 : j < n
        · rw [if_pos h2, if_pos (by omega)]
        · rw [if_neg h2, if_neg (by omega)]
    · rename_i e
      have : ls.length ≤ n := by simpa using e
      rw [ih, if_pos (by omega), if_pos (by omega)]
theorem w1 (ls : List Lg) (i : Nat) (hi : i < ls.length) (hg : ls[i].gs.length ≤ 20) (hl : ls.length ≤ 40) (d0 d1 d2 d3 d4 d5 d6 d7 d8 d9 d10 d11 : D) :
    outOf o1 (T.denV (evL FN) [d0, d1, d2, d3, d4, d5, d6, d7, d8, d9, d10, d11, I i, lgs ls] tW1) = some (none, [I ((i + 1 : Nat) : Int), lgs ls]) := by
  have hset : (ls.map Lg.d).set i (ls[i].d) = ls.map Lg.d := by rw [← List.map_set, List.set_getElem_self]
  have a3 := app_new (g := Gt.d) (sz := 4) (bytes := 32) ls[i].gs (fun _ => rfl) (by omega)
  simp only [Lg.d, gts] at hset
  simp only [D.den1] at a3
  simp [tW1, T.denV, lgs, D.den1, binD, hi, idx_nat hi, partD, Lg.d, gts, E.den, denL, outOf]
  rw [if_pos ⟨.inr (by omega), fun g _ => rfl⟩]
  simp [putD, hset, E.den, denL, T.denV, D.den1, binD, wrapN (show i < 9223372036854775807 by omega)]
theorem w3 (by' : List Wd) (ls : List Lg) (i : Nat) (hi : i < ls.length) (hl : ls.length ≤ 40) (hg : ls[i].gs.length ≤ 20) (hok : gok ls[i].gs = true) (d0 d1 d2 d3 d4 d6 d7 d8 d9 d10 d11 d12 : D) :
    outOf o3 (T.denV (evL FN) [d0, d1, d2, d3, d4, wds by', d6, d7, d8, d9, d10, d11, d12, I ls.length, I i, lgs (tls by' ls i)] tW3) = some (none, [I ((i + 1 : Nat) : Int), lgs (tls by' ls (i + 1))]) := by
  have hlen := tls_len (ws := by') (ls := ls) i
  have hgi : (tls by' ls i)[i]? = some ls[i] := by rw [tls_get hi i, if_neg (by omega)]
  have hi' : i < (tls by' ls i).length := by omega
  have hT : tls by' ls (i + 1) = (tls by' ls i).set i (trLeg by' i ls[i]) := by simp only [tls, List.getElem?_eq_getElem hi]
  have hidx := idx_nat hi'
  have hnx := fun k hk dd d16 d17 => w2 by' ls[i].gs i k (by omega) hk hg (gok_at hok hk).1 d0 d1 d2 d3 d4 d6 d7 d8 d9 d10 d11 d12 (I ls.length) dd d16 d17
  rw [hT]
  generalize tls by' ls i = L at *
  have hset : (L.map Lg.d).set i (trLeg by' i ls[i]).d = (L.set i (trLeg by' i ls[i])).map Lg.d := by rw [List.map_set]
  have hget : (L.map Lg.d)[i]? = some ls[i].d := by rw [List.getElem?_map, hgi]; rfl
  have hLi : L[i] = ls[i] := by rw [List.getElem?_eq_getElem hi'] at hgi; exact Option.some.inj hgi
  rw [hlen] at hidx
  simp [tW3, T.denV, lgs, D.den1, binD, hi, hlen, hidx, hLi, partD, Lg.d, gts, E.den, denL, I]
  rw [iter_nat ls[i].gs.length (fun _ => true) (fun k => [I k, gts (trL by' i ls[i].gs k)]) 1 0 (fun _ => []) [gts (trL by' i ls[i].gs ls[i].gs.length)] (by simp [trL, gts])]
  · have : firstN (fun _ => true) ls[i].gs.length 0 = none := firstN_none.2 fun _ _ _ => rfl
    rw [this]

    simp [denVK, T.denV, E.den, denL, D.den1, binD, hi, hlen, hidx, hLi, partD, putD, Lg.d, gts, trLeg, List.map_set, outOf, wrapN (show i < 9223372036854775807 by omega)]
  · intro k hk _
    have := hnx k hk (lgs L) (.bool true) D.unit
    simp only [lgs, gts, I] at this
    simp [Lg.d, gts, I] at this ⊢
    exact this
  · intro _
    simp [tW2, T.denV, D.den1, binD, outOf, denL, E.den]
end Go.Q
