/- How many days like one an animal lasts, day by day. -/
import Derived.Test.YtafdcbdbllpcnaaDaysS
namespace Go.Proofs.Ytafdcbdbllpcnaa

/-- The ends of the span behind the first k days. -/
def loK (b : Br) (c : Cm) (ms : List Mr) : Nat → Int
  | 0 => 60
  | k + 1 => if fatK b c ms k = 0 then loK b c ms k else mn (loK b c ms k) k
def hiK (b : Br) (c : Cm) (ms : List Mr) : Nat → Int
  | 0 => 60
  | k + 1 => if fatK b c ms k = 2 then (k : Int) else hiK b c ms k

theorem loK_zero {b : Br} {c : Cm} {ms : List Mr} {k : Nat} (h : fatK b c ms k = 0) : loK b c ms (k + 1) = loK b c ms k := by rw [loK, if_pos h]
theorem loK_more {b : Br} {c : Cm} {ms : List Mr} {k : Nat} (h : fatK b c ms k ≠ 0) : loK b c ms (k + 1) = mn (loK b c ms k) k := by rw [loK, if_neg h]
theorem hiK_two {b : Br} {c : Cm} {ms : List Mr} {k : Nat} (h : fatK b c ms k = 2) : hiK b c ms (k + 1) = (k : Int) := by rw [hiK, if_pos h]
theorem hiK_less {b : Br} {c : Cm} {ms : List Mr} {k : Nat} (h : fatK b c ms k ≠ 2) : hiK b c ms (k + 1) = hiK b c ms k := by rw [hiK, if_neg h]
theorem fat012 (b : Br) (c : Cm) (ms : List Mr) (k : Nat) : fatK b c ms k = 0 ∨ fatK b c ms k = 1 ∨ fatK b c ms k = 2 := by
  unfold fatK fateS
  split
  · exact .inr (.inr rfl)
  · split
    · exact .inr (.inl rfl)
    · exact .inl rfl
theorem hiK_alive {b : Br} {c : Cm} {ms : List Mr} : ∀ k, (∀ j, j < k → dieK b c ms j = false) → hiK b c ms k = 60
  | 0, _ => rfl
  | k + 1, h => by
    have h1 := h k (by omega)
    unfold hiK
    rw [if_neg, hiK_alive k (fun j hj => h j (by omega))]
    intro h2
    have := fate2.1 h2
    unfold dieK at h1
    rw [h1] at this; cases this

theorem lasts_from (b : Br) (c : Cm) (m : Mr) (ms : List Mr) (hlen : ms.length = 60) (hget : ∀ k, k < 60 → mdS ms k = m) : ∀ (n k : Nat), k + n = 60 → (∀ j, j < k → dieK b c ms j = false) → ∀ K, SDay b c ms K → k ≤ K →
    lastsGo b m n (k : Int) (mornC b c ms k) (loK b c ms k) = (loK b c ms K, hiK b c ms K)
  | 0, k, hk, hal, K, ⟨hK, hd, he⟩, hkK => by
    obtain rfl : K = k := by omega
    rw [hiK_alive K hal]
    rfl
  | n + 1, k, hk, hal, K, hS, hkK => by
    obtain ⟨hK, hd, he⟩ := hS
    have hm := hget k (by omega)
    cases hdk : dieK b c ms k with
    | true =>
      have hKk : K = k + 1 := by
        rcases Nat.lt_trichotomy K (k + 1) with h | h | h
        · exfalso
          obtain rfl : K = k := by omega
          rcases he with he | ⟨he1, he2⟩
          · omega
          · rw [hal (K - 1) (by omega)] at he2; cases he2
        · exact h
        · rw [hd k h] at hdk; cases hdk
      subst hKk
      have hf := fatK_dies hdk
      have hdie : diesS b (mornC b c ms k) m = true := by unfold dieK at hdk; rw [hm] at hdk; exact hdk
      rw [lastsGo_dies hdie]
      rw [loK_more (by omega), hiK_two hf]
    | false =>
      have hf := fatK_lives hdk
      have hdie : diesS b (mornC b c ms k) m = false := by unfold dieK at hdk; rw [hm] at hdk; exact hdk
      have hlt : k + 1 ≤ K := by
        rcases Nat.lt_or_ge k K with h | h
        · exact h
        · exfalso
          obtain rfl : K = k := by omega
          rcases he with he | ⟨he1, he2⟩
          · omega
          · rw [hal (K - 1) (by omega)] at he2; cases he2
      have ih := lasts_from b c m ms hlen hget n (k + 1) (by omega) (fun j hj => by
        rcases Nat.lt_or_ge j k with h | h
        · exact hal j h
        · obtain rfl : j = k := by omega
          exact hdk) K ⟨hK, hd, he⟩ hlt
      have em : mornC b c ms (k + 1) = eveC b (mornC b c ms k) m := by rw [mornC, hm]
      have ek : ((k + 1 : Nat) : Int) = (k : Int) + 1 := by omega
      rw [em, ek] at ih
      cases ho : openS b (mornC b c ms k) m with
      | true =>
        have h1 : fatK b c ms k = 1 := by rw [hf]; unfold opnK; rw [hm, ho]; rfl
        have h2 : loK b c ms (k + 1) = mn (loK b c ms k) k := loK_more (by omega)
        rw [h2] at ih
        rw [lastsGo_open hdie ho]
        exact ih
      | false =>
        have h1 : fatK b c ms k = 0 := by rw [hf]; unfold opnK; rw [hm, ho]; rfl
        have h2 : loK b c ms (k + 1) = loK b c ms k := loK_zero h1
        rw [h2] at ih
        rw [lastsGo_lives hdie ho]
        exact ih
theorem lasts_eq {b : Br} {c : Cm} {m : Mr} {ms : List Mr} (hlen : ms.length = 60) (hget : ∀ k, k < 60 → mdS ms k = m) {K : Nat} (h : SDay b c ms K) : lastsGo b m 60 0 c 60 = (loK b c ms K, hiK b c ms K) :=
  lasts_from b c m ms hlen hget 60 0 rfl (fun j hj => by omega) K h (by omega)
end Go.Proofs.Ytafdcbdbllpcnaa
