/- The days of an animal, plain: what it is like in the morning of each, what a day yields. -/
import Derived.Test.YtafdcbdbllpcnaaSpec5
namespace Go.Proofs.Ytafdcbdbllpcnaa

def zm : Mr := ⟨0, 0, (0, 0), (0, 0), (0, 0)⟩
def zb : Br := ⟨0, 0, (0, 0), (0, 0), (0, 0), (0, 0), (0, 0), (0, 0), 0, (0, 0)⟩
def mdS (ms : List Mr) (k : Nat) : Mr := ms[k]?.getD zm
/-- An animal in the morning of day k, had it lived till then. -/
def mornC (b : Br) (c : Cm) (ms : List Mr) : Nat → Cm
  | 0 => c
  | k + 1 => eveC b (mornC b c ms k) (mdS ms k)
def dieK (b : Br) (c : Cm) (ms : List Mr) (k : Nat) : Bool := diesS b (mornC b c ms k) (mdS ms k)
def opnK (b : Br) (c : Cm) (ms : List Mr) (k : Nat) : Bool := openS b (mornC b c ms k) (mdS ms k)
def fatK (b : Br) (c : Cm) (ms : List Mr) (k : Nat) : Int := fateS b (mornC b c ms k) (mdS ms k)
/-- In the evening: nothing, if it died. -/
def eB (b : Br) (c : Cm) (m : Mr) : Br := if diesS b c m = true then zb else b
def eC (b : Br) (c : Cm) (m : Mr) : Cm := if diesS b c m = true then zc false else eveC b c m
/-- The worst fate of the first n days. -/
def fatN (b : Br) (c : Cm) (ms : List Mr) (n : Nat) : Int := if (List.range n).any (opnK b c ms) = true then 1 else 0

theorem mdS_ok {ms : List Mr} (h : ms.all okM = true) {k : Nat} (hk : k < ms.length) : okM (mdS ms k) = true := by
  rw [List.all_eq_true] at h
  simp only [mdS, List.getElem?_eq_getElem hk, Option.getD_some]
  exact h _ (List.getElem_mem hk)
theorem mdS_get {ms : List Mr} {k : Nat} (hk : k < ms.length) : ms[k] = mdS ms k := by simp [mdS, hk]
theorem mornC_bd {b : Br} {c : Cm} {ms : List Mr} (hb : BdB b) (hc : BdC b c) (h : ms.all okM = true) : ∀ k, k ≤ ms.length → BdC b (mornC b c ms k)
  | 0, _ => hc
  | k + 1, hk => eve_bd hb (mornC_bd hb hc h k (by omega)) (okM_bd (mdS_ok h (by omega)))
theorem fatK_dies {b : Br} {c : Cm} {ms : List Mr} {k : Nat} (h : dieK b c ms k = true) : fatK b c ms k = 2 := by
  unfold dieK at h; simp [fatK, fateS, h]
theorem fatK_lives {b : Br} {c : Cm} {ms : List Mr} {k : Nat} (h : dieK b c ms k = false) : fatK b c ms k = if opnK b c ms k = true then 1 else 0 := by
  unfold dieK at h; unfold fatK fateS opnK; rw [if_neg (by simp [h])]
theorem fatN_succ {b : Br} {c : Cm} {ms : List Mr} {k : Nat} (h : dieK b c ms k = false) : mx (fatN b c ms k) (fatK b c ms k) = fatN b c ms (k + 1) := by
  rw [fatK_lives h]
  unfold fatN
  rw [List.range_succ, List.any_append]
  simp only [List.any_cons, List.any_nil, Bool.or_false, Bool.or_eq_true]
  cases h1 : (List.range k).any (opnK b c ms) <;> cases h2 : opnK b c ms k <;> simp [mx]
theorem fatN_01 (b : Br) (c : Cm) (ms : List Mr) (k : Nat) : fatN b c ms k = 0 ∨ fatN b c ms k = 1 := by unfold fatN; split <;> simp

theorem fate2 {b : Br} {c : Cm} {m : Mr} : fateS b c m = 2 ↔ diesS b c m = true := by
  unfold fateS
  constructor
  · intro h
    cases hd : diesS b c m with
    | true => rfl
    | false => rw [hd, if_neg (by simp)] at h; split at h <;> omega
  · intro h; rw [if_pos h]
/-- So many days were yielded, and there were no more; so many, and the caller wanted no more. -/
def SDay (b : Br) (c : Cm) (ms : List Mr) (k : Nat) : Prop := k ≤ ms.length ∧ (∀ j, j + 1 < k → dieK b c ms j = false) ∧ (k = ms.length ∨ (0 < k ∧ dieK b c ms (k - 1) = true))
def SpDay (b : Br) (c : Cm) (ms : List Mr) (k : Nat) : Prop := k ≤ ms.length ∧ (∀ j, j + 1 < k → dieK b c ms j = false)
end Go.Proofs.Ytafdcbdbllpcnaa
