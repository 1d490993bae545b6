/- WayTrue: plain facts of gates; what is so. -/
import Derived.Test.YtimbhebamjnfmaaMa7
set_option linter.unusedVariables false
set_option linter.unusedSimpArgs false
set_option maxRecDepth 100000
namespace Go.Q
open Go.V
theorem ye03 : evL FN 13 [] = some (.bool true) := by
  refine evL_of (F := F13) rfl ?_
  simp [F13, Fn.denV, fits, T.denV, E.den]
theorem e14 (ws : List Wl) (ls : List Lg) (pl ph : Int) (hl : ls.length ≤ 9223372036854775807) :
    evL FN 14 [landD ws ls, .node [I pl, I ph]] = some (.bool (!greatL ws ls && landOK ws ls && inS pl ph 1 100000)) := by
  refine evL_of (F := F14) rfl ?_
  have h73 := e73 ws ls hl
  cases hG : greatL ws ls with
  | true =>
    rw [hG] at h73
    simp only [landD, wls, lgs, I] at h73 ⊢
    simp [F14, Fn.denV, fits, T.denV, denL, E.den, D.cells, D.den1, unD, binD, h73, outOf, denVK]
  | false =>
    rw [hG] at h73
    have hG' := hG
    simp only [greatL, Bool.or_eq_false_iff, decide_eq_false_iff_not, Bool.not_eq_false'] at hG'
    obtain ⟨⟨g1, g2⟩, g3⟩ := hG'
    have hgs : ∀ l ∈ ls, l.gs.length ≤ 20 := fun l hm => by simpa using List.all_eq_true.1 g3 l hm
    have h74 := e74 ws ls (by omega) hl (fun l hm => by have := hgs l hm; omega)
    have h75 := e75 pl ph
    cases hL : landOK ws ls <;> rw [hL] at h74 <;> simp only [landD, wls, lgs, I] at h73 h74 h75 ⊢ <;>
      simp [F14, Fn.denV, fits, T.denV, denL, E.den, D.cells, D.den1, unD, binD, h73, h74, h75, outOf, denVK]
/-- The other end of a leg. -/
def othS (l : Lg) (w : Int) : Int := (acr l w).getD (-1)
theorem e17 (l : Lg) (w : Int) : evL FN 17 [.node l.d, I w] = some (I (othS l w)) := by
  refine evL_of (F := F17) rfl ?_
  unfold othS acr
  by_cases h1 : w = l.a
  · simp [F17, Fn.denV, fits, T.denV, denL, E.den, D.cells, Lg.d, gts, D.den1, binD, h1, outOf, denVK]
  · by_cases h2 : w = l.b
    · have h3 : ¬ l.b = l.a := fun e => h1 (h2.trans e)
      simp [F17, Fn.denV, fits, T.denV, denL, E.den, D.cells, Lg.d, gts, D.den1, binD, h2, h3, outOf, denVK]
    · simp [F17, Fn.denV, fits, T.denV, denL, E.den, D.cells, Lg.d, gts, D.den1, binD, h1, h2, outOf, denVK]
/-- Gates that are told by what is so. -/
structure Gs where
  o : Int
  s : Int
def Gs.g (g : Gs) : Gt := ⟨g.o, g.o, g.s, g.s⟩
def trG (ws : List Wd) (i k : Nat) (g : Gt) : Gs := ⟨pickS g.ol g.oh (atS ws (2 * i + 3 * k)), pickS g.sl g.sh (atS ws (2 * i + 3 * k + 1))⟩
/-- The true gates of a leg, the first so many. -/
def trL (ws : List Wd) (i : Nat) (gs : List Gt) : Nat → List Gt
  | 0 => []
  | k + 1 => trL ws i gs k ++ (match gs[k]? with
    | some g => if (trG ws i k g).o ≤ (trG ws i k g).s then [(trG ws i k g).g] else []
    | none => [])
theorem trL_len {ws : List Wd} {i : Nat} {gs : List Gt} : ∀ k, (trL ws i gs k).length ≤ k
  | 0 => Nat.le_refl _
  | k + 1 => by
    have := trL_len (ws := ws) (i := i) (gs := gs) k
    simp only [trL, List.length_append]
    split
    · split <;> simp <;> omega
    · simp; omega
theorem trL_mem {ws : List Wd} {i : Nat} {gs : List Gt} {q : Gt} : ∀ {k}, q ∈ trL ws i gs k ↔ ∃ j g, j < k ∧ gs[j]? = some g ∧ (trG ws i j g).o ≤ (trG ws i j g).s ∧ q = (trG ws i j g).g
  | 0 => by simp [trL]
  | k + 1 => by
    simp only [trL, List.mem_append, trL_mem (k := k)]
    constructor
    · rintro (⟨j, g, h1, h2⟩ | h)
      · exact ⟨j, g, by omega, h2⟩
      · split at h
        · rename_i g e
          split at h
          · rename_i hle
            simp only [List.mem_singleton] at h
            exact ⟨k, g, by omega, e, hle, h⟩
          · cases h
        · cases h
    · rintro ⟨j, g, h1, h2, h3, h4⟩
      by_cases e : j = k
      · subst e; right; simp [h2, h3, h4]
      · exact .inl ⟨j, g, by omega, h2, h3, h4⟩
/-- When one leaves by some of the gates. -/
def fstG (now d : Int) (gs : List Gt) : Nat → Int
  | 0 => 100001
  | k + 1 => match gs[k]? with
    | some g => if max now g.ol + d - 1 ≤ g.sl then min (fstG now d gs k) (max now g.ol) else fstG now d gs k
    | none => fstG now d gs k
theorem fstG_le {now d : Int} {gs : List Gt} {g : Gt} : ∀ {k j : Nat}, j < k → gs[j]? = some g → max now g.ol + d - 1 ≤ g.sl → fstG now d gs k ≤ max now g.ol
  | 0, j, h, _, _ => by omega
  | k + 1, j, h, hg, hc => by
    simp only [fstG]
    by_cases e : j = k
    · subst e; rw [hg]; simp only [hc, if_true]; omega
    · have := fstG_le (k := k) (j := j) (by omega) hg hc
      split
      · split <;> omega
      · exact this
theorem fstG_ge {now d m : Int} {gs : List Gt} : ∀ {k : Nat}, m ≤ 100001 → (∀ g ∈ gs, max now g.ol + d - 1 ≤ g.sl → m ≤ max now g.ol) → m ≤ fstG now d gs k
  | 0, h, _ => h
  | k + 1, h, hg => by
    have := fstG_ge (k := k) h hg
    simp only [fstG]
    split
    · rename_i g e
      split
      · rename_i hc
        have := hg g (List.mem_of_getElem? e) hc
        omega
      · exact this
    · exact this
/-- When one is at the other end, in truth. -/
def goneS (now d : Int) (gs : List Gt) : Int := min 100001 (fstG now d gs gs.length + d)
theorem e20 (l : Lg) (now d : Int) (hn : 0 ≤ now ∧ now ≤ 100001) (hd : 0 ≤ d ∧ d ≤ 10000000) (hl : l.gs.length ≤ 20) (hg : ∀ g ∈ l.gs, 0 ≤ g.ol ∧ g.ol ≤ 100001) :
    evL FN 20 [.node l.d, I now, I d] = some (I (goneS now d l.gs)) := by
  refine evL_of (F := F20) rfl ?_
  have hb : ∀ k, 0 ≤ fstG now d l.gs k ∧ fstG now d l.gs k ≤ 100001 := fun k => by
    induction k with
    | zero => exact ⟨by simp [fstG], by simp [fstG]⟩
    | succ k ih =>
      simp only [fstG]
      split
      · rename_i g e
        have := hg g (List.mem_of_getElem? e)
        split <;> omega
      · exact ih
  simp [F20, Fn.denV, fits, T.denV, denL, E.den, D.cells, Lg.d, gts, D.den1, binD]
  rw [iter_nat l.gs.length (fun _ => true) (fun k => [I (fstG now d l.gs k), I k]) 1 0 (fun _ => []) [I (fstG now d l.gs l.gs.length)] (by simp [fstG])]
  · have : firstN (fun _ => true) l.gs.length 0 = none := firstN_none.2 fun _ _ _ => rfl
    have h1 := hb l.gs.length
    have v1 := wI (x := fstG now d l.gs l.gs.length + d) (by omega)
    rw [this]
    simp [denVK, T.denV, E.den, denL, D.den1, binD, mxLD, mxD, v1, minC, goneS]
  · intro k hk _
    have hgk := List.getElem?_eq_getElem hk
    have g1 := hg _ (List.getElem_mem hk)
    have h1 := hb k
    have v1 := wI (x := max now l.gs[k].ol + d) (by omega)
    have v2 := wI (x := max now l.gs[k].ol + d - 1) (by omega)
    have hs : fstG now d l.gs (k + 1) = if max now l.gs[k].ol + d - 1 ≤ l.gs[k].sl then min (fstG now d l.gs k) (max now l.gs[k].ol) else fstG now d l.gs k := by simp only [fstG, hgk]
    rw [hs]
    by_cases hc : max now l.gs[k].ol + d - 1 ≤ l.gs[k].sl <;>
      simp [hk, idx_nat hk, hgk, Gt.d, partD, D.den1, binD, mxLD, mxD, maxC, maxC', minC, v1, v2, hc, outOf, denL, E.den, D.cells, T.denV, denVK, wrapN (show k < 9223372036854775807 by omega)]
  · intro _
    simp [D.den1, binD, outOf, denL, E.den]
end Go.Q
