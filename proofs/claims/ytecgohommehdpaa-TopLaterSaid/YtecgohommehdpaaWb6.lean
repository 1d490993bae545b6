/- Way: legs and gates are the specification's. -/
import Derived.Test.YtecgohommehdpaaWb5
set_option linter.unusedVariables false
set_option linter.unusedSimpArgs false
namespace Go.Q
open Go.V
theorem app_new {α : Type} {g : α → List D} {sz bytes : Nat} (xs : List α) (hg : ∀ x, (g x).length = sz) (hc : (xs.length + 1) * (bytes + 1) ≤ 1099511627776) : D.den1 (.app sz bytes) [.list [], .list (xs.map g)] = some (.list (xs.map g)) := by
  simp only [D.den1]
  rw [if_pos ⟨.inr (by simpa using hc), by simp [hg]⟩]
  rfl
theorem shal_int (n : Nat) (x : Int) : D.shal1 n (I x) = true := by cases n <;> rfl
theorem shal_gts (n : Nat) (gs : List Gt) : D.shal1 (n + 1) (gts gs) = true := by
  simp [gts, D.shal1, D.shal0, Gt.d, shal_int]
theorem shal_land (ws : List Wl) (ls : List Lg) : (landD ws ls).shal 4 = true := by
  simp [landD, wls, lgs, D.shal, D.shal1, D.shal0, Wl.d, Lg.d, gts, Gt.d]
theorem daysR_is (ws : List Wl) (ls : List Lg) (leg pl ph : Int) : ∃ a b e, daysR ws ls leg pl ph = .node [.node [I a, I b], I e] := by
  unfold daysR
  split
  · split <;> exact ⟨_, _, _, rfl⟩
  · exact ⟨_, _, _, rfl⟩
theorem leaveR_is (ws : List Wl) (ls : List Lg) (leg day pl ph : Int) : ∃ a b e, leaveR ws ls leg day pl ph = .node [.node [I a, I b], I e] := by
  unfold leaveR
  split
  · split
    · rename_i h
      obtain ⟨h1, h2⟩ := inR_iff.1 h.1
      unfold leaveE
      rw [List.getElem?_eq_getElem (show leg.toNat < ls.length by omega)]
      exact ⟨_, _, _, rfl⟩
    · exact ⟨_, _, _, rfl⟩
  · exact ⟨_, _, _, rfl⟩
theorem lg_len (l : Lg) : l.d.length = 5 := rfl
theorem e4 (ws : List Wl) (ls : List Lg) (leg day pl ph : Int) (hl : ls.length ≤ 9223372036854775807) : evL FN 4 [landD ws ls, I leg, I day, .node [I pl, I ph]] = some (.bool true) := by
  refine evL_of (F := F4) rfl ?_
  have h15 := e15 ws ls hl
  cases hG : greatL ws ls <;> rw [hG] at h15
  rotate_left
  · simp only [landD, wls, lgs, I] at h15 ⊢
    simp [F4, Fn.denV, fits, T.denV, denL, E.den, D.cells, h15]
  simp only [greatL, Bool.or_eq_false_iff, decide_eq_false_iff_not, Bool.not_eq_false'] at hG
  obtain ⟨⟨g1, g2⟩, g3⟩ := hG
  have hw : ws.length ≤ 9223372036854775807 := by omega
  have hgs : ∀ l ∈ ls, l.gs.length ≤ 20 := fun l hm => by simpa using List.all_eq_true.1 g3 l hm
  have hb : big ls := fun l hm => by have := hgs l hm; omega
  have a1 := app_new (g := Wl.d) (sz := 9) (bytes := 72) ws (fun _ => rfl) (by omega)
  have a2 := app_new (g := Lg.d) (sz := 5) (bytes := 56) ls (fun _ => rfl) (by omega)
  have h17 := e17 ws ls leg pl ph hw hl hb
  have h18 := e18 ws ls leg pl ph hw hl hb
  have h19 := e19 ws ls leg day pl ph hw hl hb
  have h20 := e20 ws ls leg day pl ph hw hl hb
  have h21 := e21 ws ls hw hl hb
  have h22 := e22 ws ls hw hl hb
  have h23 := e23 ws ls hw hl hb
  have hsh := shal_land ws ls
  obtain ⟨x1, x2, x3, hx⟩ := daysR_is ws ls leg pl ph
  obtain ⟨y1, y2, y3, hy⟩ := leaveR_is ws ls leg day pl ph
  rw [hx] at h17 h18
  rw [hy] at h19 h20
  generalize (if landOK ws ls then (0 : Int) else 30) = z at h21 h22
  simp only [landD, wls, lgs, I] at h15 h17 h18 h19 h20 h21 h22 h23 hsh ⊢
  simp [F4, Fn.denV, fits, T.denV, denL, E.den, D.cells, h15, a1, a2]
  rw [iter_allN ls.length (fun _ => true) (fun i => [I i, lgs ls]) 1 0 [] [lgs ls] (by simp [lgs])]
  · have : allN (fun _ => true) ls.length = true := allN_iff.2 fun _ _ => rfl
    simp only [this, if_true, lgs]
    simp [denVK, T.denV, E.den, denL, D.cells, hsh, h17, h18, h19, h20, h21, h22, h23, D.flat, D.flat0, D.den1, binD, eqDL, eqD1, outOf]
  · intro i hi _
    have hset : (ls.map Lg.d).set i (ls[i].d) = ls.map Lg.d := by rw [← List.map_set, List.set_getElem_self]
    have hgi := hgs _ (List.getElem_mem hi)
    have a3 := app_new (g := Gt.d) (sz := 4) (bytes := 32) ls[i].gs (fun _ => rfl) (by omega)
    simp only [Lg.d, gts] at hset
    simp [lgs, D.den1, binD, hi, idx_nat hi, partD, Lg.d, gts, E.den, denL, outOf] 
    rw [if_pos ⟨.inr (by omega), fun g _ => rfl⟩]
    simp [putD, hset, E.den, denL, wrapN (show i < 9223372036854775807 by omega)]
  · intro _
    simp [lgs, D.den1, binD, outOf, denL, E.den]
end Go.Q
