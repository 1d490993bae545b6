/- Contract of package camel's Days where an error is returned at once. -/
import Derived.Test.YtafdcbdbllpcnaaLeafQ
import Derived.Test.YtafdcbdbllpcnaaRefA
set_option linter.unusedVariables false
set_option linter.unusedSimpArgs false
namespace Go.Proofs.Ytafdcbdbllpcnaa
open Go.RowKit
open Go.Proofs

attribute [local go_sem ↓] exec36l exec112l exec36s exec112s exec31s run_min2 run_max2
attribute [local go_sem] load36 load112 store36 store112 store31 build112 rowOf_alloc rowOf_drew setRow_alloc one_int one_bool run_min4
attribute [local go_sem ↓] exec39s
attribute [local go_sem] store39 rowOf_setCell_if Option.map_some

set_option maxRecDepth 100000 in
set_option maxHeartbeats 2000000 in
theorem Days_bad (b : Br) (c : Cm) (a : Option Addr) (cap : Nat) (ms : List Mr) (x : Int) (w : World) (h : DaysIn w a cap ms) (hl : ms.length ≤ 100000) (hx : chkT b c ms = x) (h0 : x ≠ 0) :
    Calls Try.prog 26 #[.agg #[.int .i64 b.full, .int .i64 b.fed, .int .i64 b.rest.1, .int .i64 b.rest.2, .int .i64 b.heat.1, .int .i64 b.heat.2, .int .i64 b.toil.1, .int .i64 b.toil.2, .int .i64 b.burn.1, .int .i64 b.burn.2, .int .i64 b.rub.1, .int .i64 b.rub.2, .int .i64 b.milk.1, .int .i64 b.milk.2, .int .i64 b.heal, .int .i64 b.strong.1, .int .i64 b.strong.2], .agg #[.int .i64 c.water.1, .int .i64 c.water.2, .int .i64 c.fat.1, .int .i64 c.fat.2, .int .i64 c.sore.1, .int .i64 c.sore.2, .bool c.milks], .slice a ms.length cap] w fun e w' => e = .returned (.tuple #[.slice none 0 0, .int .u8 0, .int .i64 0, .int .i64 x]) ∧ Below w.heap.size w w' := by
  have HX := Lib.hid hx
  have HD := Lib.hid h
  have hne : (x == 0) = false := by simpa using h0
  clear hx h
  go_enter Try.func26, Try.ntmps26
  go_wp2_with fail
  refine (chkT_x b c a cap ms x HX.out _ (HD.out.below (B := w.heap.size) (by go_grown) (Nat.le_refl _) (by simp; omega)) hl).mono ?_
  rintro e W1 ⟨rfl, hB⟩
  have hW1 : Below w.heap.size w W1 := Below.trans (by go_grown) (hB.mono (by simp; try omega))
  have zW1 := hW1.size
  obtain ⟨rrW1, crW1, grW1, zrW1⟩ := keep_row hB (g := w.heap.size + 1 + 1) (by repeat (first | with_reducible assumption | with_reducible apply row_here0 | with_reducible apply row_here1 | with_reducible apply row_here2 | with_reducible apply row_here3 | with_reducible apply row_here4 | with_reducible apply row_here5 | with_reducible apply row_here6 | with_reducible apply rowSkip))
  obtain ⟨rfW1, cfW1, gfW1, zfW1⟩ := keep_row hB (g := w.heap.size + 1 + 1 + 1) (by repeat (first | with_reducible assumption | with_reducible apply row_here0 | with_reducible apply row_here1 | with_reducible apply row_here2 | with_reducible apply row_here3 | with_reducible apply row_here4 | with_reducible apply row_here5 | with_reducible apply row_here6 | with_reducible apply rowSkip))
  obtain ⟨riW1, ciW1, giW1, ziW1⟩ := keep_row hB (g := w.heap.size + 1 + 1 + 1 + 1) (by repeat (first | with_reducible assumption | with_reducible apply row_here0 | with_reducible apply row_here1 | with_reducible apply row_here2 | with_reducible apply row_here3 | with_reducible apply row_here4 | with_reducible apply row_here5 | with_reducible apply row_here6 | with_reducible apply rowSkip))
  obtain ⟨reW1, ceW1, geW1, zeW1⟩ := keep_row hB (g := w.heap.size + 1 + 1 + 1 + 1 + 1) (by repeat (first | with_reducible assumption | with_reducible apply row_here0 | with_reducible apply row_here1 | with_reducible apply row_here2 | with_reducible apply row_here3 | with_reducible apply row_here4 | with_reducible apply row_here5 | with_reducible apply row_here6 | with_reducible apply rowSkip))
  clear hB
  go_wp2
  have s1 := stored_cell rrW1 (.slice none 0 0)
  have s2 := stored_cell (s1.keeps (g := w.heap.size + 1 + 1 + 1) (by omega) rfW1) (.int .u8 0)
  have s3 := stored_cell (s2.keeps (g := w.heap.size + 1 + 1 + 1 + 1) (by omega) (s1.keeps (by omega) riW1)) (.int .i64 0)
  have s4 := stored_cell (s3.keeps (g := w.heap.size + 1 + 1 + 1 + 1 + 1) (by omega) (s2.keeps (by omega) (s1.keeps (by omega) reW1))) (.int .i64 x)
  exact bodyPost_ret (results_cells4 Try.results26 rfl (s4.keeps (by omega) (s3.keeps (by omega) (s2.keeps (by omega) s1.row))) rfl (s4.keeps (by omega) (s3.keeps (by omega) s2.row)) rfl (s4.keeps (by omega) s3.row) rfl s4.row) rfl
    ⟨rfl, (((hW1.trans (s1.below _ (by omega))).trans (s2.below _ (by omega))).trans (s3.below _ (by omega))).trans (s4.below _ (by omega))⟩
end Go.Proofs.Ytafdcbdbllpcnaa
/- How many days like one an animal lasts, day by day. -/
namespace Go.Proofs.Ytafdcbdbllpcnaa

/-- The ends of the span behind the first k days. -/
def loK (b : Br) (c : Cm) (ms : List Mr) : Nat → Int
  | 0 => 60
  | k + 1 => if fatK b c ms k = 0 then loK b c ms k else mn (loK b c ms k) k
def hiK (b : Br) (c : Cm) (ms : List Mr) : Nat → Int
  | 0 => 60
  | k + 1 => if fatK b c ms k = 2 then (k : Int) else hiK b c ms k

theorem loK_zero {b : Br} {c : Cm} {ms : List Mr} {k : Nat} (h : fatK b c ms k = 0) : loK b c ms (k + 1) = loK b c ms k := by rw [loK, if_pos h]
theorem loK_more {b : Br} {c : Cm} {ms : List Mr} {k : Nat} (h : fatK b c ms k ≠ 0) : loK b c ms (k + 1) = mn (loK b c ms k) k := by rw [loK, if_neg h]
theorem hiK_two {b : Br} {c : Cm} {ms : List Mr} {k : Nat} (h : fatK b c ms k = 2) : hiK b c ms (k + 1) = (k : Int) := by rw [hiK, if_pos h]
theorem hiK_less {b : Br} {c : Cm} {ms : List Mr} {k : Nat} (h : fatK b c ms k ≠ 2) : hiK b c ms (k + 1) = hiK b c ms k := by rw [hiK, if_neg h]
theorem fat012 (b : Br) (c : Cm) (ms : List Mr) (k : Nat) : fatK b c ms k = 0 ∨ fatK b c ms k = 1 ∨ fatK b c ms k = 2 := by
  unfold fatK fateS
  split
  · exact .inr (.inr rfl)
  · split
    · exact .inr (.inl rfl)
    · exact .inl rfl
theorem hiK_alive {b : Br} {c : Cm} {ms : List Mr} : ∀ k, (∀ j, j < k → dieK b c ms j = false) → hiK b c ms k = 60
  | 0, _ => rfl
  | k + 1, h => by
    have h1 := h k (by omega)
    unfold hiK
    rw [if_neg, hiK_alive k (fun j hj => h j (by omega))]
    intro h2
    have := fate2.1 h2
    unfold dieK at h1
    rw [h1] at this; cases this

theorem lasts_from (b : Br) (c : Cm) (m : Mr) (ms : List Mr) (hlen : ms.length = 60) (hget : ∀ k, k < 60 → mdS ms k = m) : ∀ (n k : Nat), k + n = 60 → (∀ j, j < k → dieK b c ms j = false) → ∀ K, SDay b c ms K → k ≤ K →
    lastsGo b m n (k : Int) (mornC b c ms k) (loK b c ms k) = (loK b c ms K, hiK b c ms K)
  | 0, k, hk, hal, K, ⟨hK, hd, he⟩, hkK => by
    obtain rfl : K = k := by omega
    rw [hiK_alive K hal]
    rfl
  | n + 1, k, hk, hal, K, hS, hkK => by
    obtain ⟨hK, hd, he⟩ := hS
    have hm := hget k (by omega)
    cases hdk : dieK b c ms k with
    | true =>
      have hKk : K = k + 1 := by
        rcases Nat.lt_trichotomy K (k + 1) with h | h | h
        · exfalso
          obtain rfl : K = k := by omega
          rcases he with he | ⟨he1, he2⟩
          · omega
          · rw [hal (K - 1) (by omega)] at he2; cases he2
        · exact h
        · rw [hd k h] at hdk; cases hdk
      subst hKk
      have hf := fatK_dies hdk
      have hdie : diesS b (mornC b c ms k) m = true := by unfold dieK at hdk; rw [hm] at hdk; exact hdk
      rw [lastsGo_dies hdie]
      rw [loK_more (by omega), hiK_two hf]
    | false =>
      have hf := fatK_lives hdk
      have hdie : diesS b (mornC b c ms k) m = false := by unfold dieK at hdk; rw [hm] at hdk; exact hdk
      have hlt : k + 1 ≤ K := by
        rcases Nat.lt_or_ge k K with h | h
        · exact h
        · exfalso
          obtain rfl : K = k := by omega
          rcases he with he | ⟨he1, he2⟩
          · omega
          · rw [hal (K - 1) (by omega)] at he2; cases he2
      have ih := lasts_from b c m ms hlen hget n (k + 1) (by omega) (fun j hj => by
        rcases Nat.lt_or_ge j k with h | h
        · exact hal j h
        · obtain rfl : j = k := by omega
          exact hdk) K ⟨hK, hd, he⟩ hlt
      have em : mornC b c ms (k + 1) = eveC b (mornC b c ms k) m := by rw [mornC, hm]
      have ek : ((k + 1 : Nat) : Int) = (k : Int) + 1 := by omega
      rw [em, ek] at ih
      cases ho : openS b (mornC b c ms k) m with
      | true =>
        have h1 : fatK b c ms k = 1 := by rw [hf]; unfold opnK; rw [hm, ho]; rfl
        have h2 : loK b c ms (k + 1) = mn (loK b c ms k) k := loK_more (by omega)
        rw [h2] at ih
        rw [lastsGo_open hdie ho]
        exact ih
      | false =>
        have h1 : fatK b c ms k = 0 := by rw [hf]; unfold opnK; rw [hm, ho]; rfl
        have h2 : loK b c ms (k + 1) = loK b c ms k := loK_zero h1
        rw [h2] at ih
        rw [lastsGo_lives hdie ho]
        exact ih
theorem lasts_eq {b : Br} {c : Cm} {m : Mr} {ms : List Mr} (hlen : ms.length = 60) (hget : ∀ k, k < 60 → mdS ms k = m) {K : Nat} (h : SDay b c ms K) : lastsGo b m 60 0 c 60 = (loK b c ms K, hiK b c ms K) :=
  lasts_from b c m ms hlen hget 60 0 rfl (fun j hj => by omega) K h (by omega)
end Go.Proofs.Ytafdcbdbllpcnaa
