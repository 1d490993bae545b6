/- Lists of numbers and of meetings in memory. -/
import Derived.Test.YtafdcbdbllpcnaaMangS
import Derived.Test.YtafdcbdbllpcnaaDayT
import Derived.Test.YtafdcbdbllpcnaaRefJ
namespace Go.Proofs.Ytafdcbdbllpcnaa
open Go.RowKit
open Go.Proofs

def IntsAt (w : World) (b off : Nat) (xs : List Int) : Prop := ∀ k (h : k < xs.length), w.cell? ⟨b, off + k, none⟩ = some (.int .i64 xs[k])
def IntsIn (w : World) (a : Option Addr) (cap : Nat) (xs : List Int) : Prop := (a = none ∧ cap = 0 ∧ xs = []) ∨ ∃ g off, a = some ⟨g, off, none⟩ ∧ IntsAt w g off xs ∧ g < w.heap.size
def MeetAt (w : World) (b o : Nat) (x : Mt) : Prop :=
  w.cell? ⟨b, o, none⟩ = some (.int .i64 x.a) ∧ w.cell? ⟨b, o + 1, none⟩ = some (.int .i64 x.b) ∧ w.cell? ⟨b, o + 2, none⟩ = some (.int .i64 x.day) ∧ w.cell? ⟨b, o + 3, none⟩ = some (.bool x.close)
def MeetsAt (w : World) (b off : Nat) (ms : List Mt) : Prop := ∀ k (h : k < ms.length), MeetAt w b (off + k * 4) ms[k]
def MeetsIn (w : World) (a : Option Addr) (cap : Nat) (ms : List Mt) : Prop := (a = none ∧ cap = 0 ∧ ms = []) ∨ ∃ g off, a = some ⟨g, off, none⟩ ∧ MeetsAt w g off ms ∧ g < w.heap.size
theorem MeetAt.below {B : Nat} {w w' : World} {b o : Nat} {x : Mt} (hB : Below B w w') (hb : b < B) (h : MeetAt w b o x) : MeetAt w' b o x := by
  obtain ⟨c0, c1, c2, c3⟩ := h
  exact ⟨at_belowb hB hb c0, at_belowb hB hb c1, at_belowb hB hb c2, at_belowb hB hb c3⟩
theorem IntsIn.below {B : Nat} {W W' : World} {a : Option Addr} {cap : Nat} {xs : List Int} (h : IntsIn W a cap xs) (hE : Below B W W') (hs : W.heap.size ≤ B) : IntsIn W' a cap xs := by
  rcases h with h | ⟨g, off, h1, h2, h3⟩
  · exact .inl h
  · exact .inr ⟨g, off, h1, fun k hk => at_belowb hE (by omega) (h2 k hk), Nat.lt_of_lt_of_le h3 hE.size⟩
theorem MeetsIn.below {B : Nat} {W W' : World} {a : Option Addr} {cap : Nat} {xs : List Mt} (h : MeetsIn W a cap xs) (hE : Below B W W') (hs : W.heap.size ≤ B) : MeetsIn W' a cap xs := by
  rcases h with h | ⟨g, off, h1, h2, h3⟩
  · exact .inl h
  · exact .inr ⟨g, off, h1, fun k hk => (h2 k hk).below hE (by omega), Nat.lt_of_lt_of_le h3 hE.size⟩
theorem IntsIn.ext {W W' : World} {a : Option Addr} {cap : Nat} {xs : List Int} (h : IntsIn W a cap xs) (hE : Ext W W') : IntsIn W' a cap xs := h.below hE (Nat.le_refl _)
theorem MeetsIn.ext {W W' : World} {a : Option Addr} {cap : Nat} {xs : List Mt} (h : MeetsIn W a cap xs) (hE : Ext W W') : MeetsIn W' a cap xs := h.below hE (Nat.le_refl _)
theorem IntsIn.get {W : World} {a : Option Addr} {cap : Nat} {xs : List Int} (h : IntsIn W a cap xs) {k : Nat} (hk : k < xs.length) : ∃ g off, a = some ⟨g, off, none⟩ ∧ W.cell? ⟨g, off + k, none⟩ = some (.int .i64 (xs.getD k 0)) ∧ g < W.heap.size := by
  rcases h with ⟨-, -, h⟩ | ⟨g, off, h1, h2, h3⟩
  · subst h; simp at hk
  · exact ⟨g, off, h1, by rw [h2 k hk]; simp [hk], h3⟩
def mt0 : Mt := ⟨0, 0, 0, false⟩
def mtS (ms : List Mt) (k : Nat) : Mt := ms.getD k mt0
theorem mtS_get {ms : List Mt} {k : Nat} (hk : k < ms.length) : ms[k] = mtS ms k := by simp [mtS, hk]
theorem mtS_mem {ms : List Mt} {k : Nat} (hk : k < ms.length) : mtS ms k ∈ ms := by rw [← mtS_get hk]; exact List.getElem_mem hk
theorem MeetsIn.get {W : World} {a : Option Addr} {cap : Nat} {ms : List Mt} (h : MeetsIn W a cap ms) {k : Nat} (hk : k < ms.length) : ∃ g off, a = some ⟨g, off, none⟩ ∧ MeetAt W g (off + k * 4) (mtS ms k) ∧ g < W.heap.size := by
  rcases h with ⟨-, -, h⟩ | ⟨g, off, h1, h2, h3⟩
  · subst h; simp at hk
  · exact ⟨g, off, h1, by rw [← mtS_get hk]; exact h2 k hk, h3⟩

/-- What is asked of a first one, of a meeting; the error. -/
def inR (n i : Int) : Bool := decide (0 ≤ i) && decide (i < n)
def okX (n : Int) (x : Mt) : Bool := inR n x.a && inR n x.b && decide (x.a ≠ x.b) && decide (0 ≤ x.day) && decide (x.day ≤ 100000)
def okA (n : Int) (wt : Int × Int) (day : Int) : Bool := decide (1 ≤ n) && decide (n ≤ 30) && decide (1 ≤ wt.1) && okSpan 60 wt && decide (0 ≤ day) && decide (day ≤ 100000)
def chkG (n : Int) (first : List Int) (ms : List Mt) (wt : Int × Int) (day : Int) : Int :=
  if okA n wt day = true then (if first.length ≤ 30 ∧ ms.length ≤ 200 then (if first.all (inR n) = true then (if ms.all (okX n) = true then 0 else 14) else 14) else 4) else 2
theorem okX_iff {n : Int} {x : Mt} : okX n x = true ↔ okMt n x := by
  simp only [okX, inR, okMt, Bool.and_eq_true, decide_eq_true_eq]
  constructor
  · rintro ⟨⟨⟨⟨⟨h1, h2⟩, h3, h4⟩, h5⟩, h6⟩, h7⟩; exact ⟨h1, h2, h3, h4, h5, h6, h7⟩
  · rintro ⟨h1, h2, h3, h4, h5, h6, h7⟩; exact ⟨⟨⟨⟨⟨h1, h2⟩, h3, h4⟩, h5⟩, h6⟩, h7⟩
theorem allI_step {α : Type} {p : α → Bool} {xs : List α} {k : Nat} (h : k < xs.length) (ha : (xs.take k).all p = true) (d : α) (hp : p (xs.getD k d) = true) : (xs.take (k + 1)).all p = true := by
  rw [List.take_succ_eq_append_getElem h, List.all_append, ha]
  simp [h] at hp
  simp [hp]
theorem allI_no {α : Type} {p : α → Bool} {xs : List α} {k : Nat} (h : k < xs.length) (d : α) (hp : p (xs.getD k d) = false) : ¬ xs.all p = true := by
  rw [Bool.not_eq_true, List.all_eq_false]
  simp [h] at hp
  exact ⟨xs[k], List.getElem_mem h, by rw [hp]; simp⟩
theorem chkG_fine {n : Int} {first : List Int} {ms : List Mt} {wt : Int × Int} {day : Int} (h : chkG n first ms wt day = 0) :
    (1 ≤ n ∧ n ≤ 30) ∧ (1 ≤ wt.1 ∧ wt.1 ≤ wt.2 ∧ wt.2 ≤ 60) ∧ (0 ≤ day ∧ day ≤ 100000) ∧ (first.length ≤ 30 ∧ ms.length ≤ 200) ∧ (∀ i ∈ first, 0 ≤ i ∧ i < n) ∧ ∀ x ∈ ms, okMt n x := by
  unfold chkG at h
  by_cases h1 : okA n wt day = true
  · rw [if_pos h1] at h
    by_cases h2 : first.length ≤ 30 ∧ ms.length ≤ 200
    · rw [if_pos h2] at h
      by_cases h3 : first.all (inR n) = true
      · rw [if_pos h3] at h
        by_cases h4 : ms.all (okX n) = true
        · simp only [okA, okSpan, Bool.and_eq_true, decide_eq_true_eq] at h1
          obtain ⟨⟨⟨⟨⟨a1, a2⟩, a3⟩, ⟨-, a4⟩, a5⟩, a6⟩, a7⟩ := h1
          rw [List.all_eq_true] at h3 h4
          refine ⟨⟨a1, a2⟩, ⟨a3, a4, a5⟩, ⟨a6, a7⟩, h2, fun i hi => ?_, fun x hx => okX_iff.1 (h4 x hx)⟩
          have := h3 i hi
          simpa [inR] using this
        · rw [if_neg h4] at h; omega
      · rw [if_neg h3] at h; omega
    · rw [if_neg h2] at h; omega
  · rw [if_neg h1] at h; omega
end Go.Proofs.Ytafdcbdbllpcnaa
