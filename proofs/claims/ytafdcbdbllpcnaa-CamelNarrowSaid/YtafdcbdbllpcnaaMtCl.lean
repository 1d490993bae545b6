/- A copy of a list of meetings, and its cells as a row of a sort's. -/
import Derived.Test.YtafdcbdbllpcnaaLate2
import Derived.Test.YtafdcbdbllpcnaaLate
import Derived.Test.YtafdcbdbllpcnaaDayT
import Derived.Lib.SliceRun
import Derived.Shelf.GgSortFunc.RowK
namespace Go.Proofs.Ytafdcbdbllpcnaa
open Go.RowKit Go.Sort
open Go.Proofs

instance : Inhabited Mt := ⟨⟨0, 0, 0, false⟩⟩
def mtCells (x : Mt) : List Value := [.int .i64 x.a, .int .i64 x.b, .int .i64 x.day, .bool x.close]
theorem mt_len (x : Mt) : (mtCells x).length = 4 := rfl
theorem mt_one1 (x : Mt) : ∀ u ∈ mtCells x, u.oneCell' = true := by
  intro u hu
  simp only [mtCells, List.mem_cons, List.not_mem_nil, or_false] at hu
  rcases hu with rfl | rfl | rfl | rfl <;> rfl
theorem mt_one {ms : List Mt} : ∀ u ∈ ms.flatMap mtCells, u.oneCell' = true := by
  intro u hu
  obtain ⟨m, _, hu⟩ := List.mem_flatMap.1 hu
  exact mt_one1 m u hu
theorem meet_cell {w : World} {g o : Nat} {x : Mt} (h : MeetAt w g o x) : ∀ i u, (mtCells x)[i]? = some u → w.cell? ⟨g, o + i, none⟩ = some u := by
  obtain ⟨c0, c1, c2, c3⟩ := h
  intro i u hu
  match i with
  | 0 => simp [mtCells] at hu; subst hu; exact c0
  | 1 => simp [mtCells] at hu; subst hu; exact c1
  | 2 => simp [mtCells] at hu; subst hu; exact c2
  | 3 => simp [mtCells] at hu; subst hu; exact c3
  | n + 4 => simp [mtCells] at hu
theorem meets_src {w : World} {a : Option Addr} {cap n : Nat} {ms : List Mt} (hn : n = ms.length) (h : MeetsIn w a cap ms) : (a = none ∧ n = 0 ∧ cap = 0) ∨ ∃ ad, a = some ad ∧ ∀ j u, (ms.flatMap mtCells)[j]? = some u → w.cell? (ad.add j) = some u := by
  rcases h with ⟨h1, h2, h3⟩ | ⟨b, off, h1, h2, h3⟩
  · exact .inl ⟨h1, by rw [hn, h3]; rfl, h2⟩
  · refine .inr ⟨_, h1, ?_⟩
    refine flat_all mtCells 4 mt_len (by omega) (fun j u => w.cell? ((⟨b, off, none⟩ : Addr).add j) = some u) ms ?_
    intro k hk i u hu
    rw [add_none, ← Nat.add_assoc]
    exact meet_cell (h2 k hk) i u hu
theorem meets_own {w : World} {base g n cap : Nat} {ms : List Mt} (hn : n = ms.length) (h : w.ownsRow base 79 4 (.slice (some ⟨g, 0, none⟩) n cap) n (ms.flatMap mtCells)) : MeetsIn w (some ⟨g, 0, none⟩) cap ms ∧ base ≤ g ∧ g < w.heap.size ∧ HoldsK mtCells 4 w g 0 ms.toArray := by
  subst hn
  have hb : base ≤ g ∧ g < w.heap.size := h.lt g rfl
  have key : ∀ k (hk : k < ms.length) i u, (mtCells ms[k])[i]? = some u → w.cell? ⟨g, 0 + k * 4 + i, none⟩ = some u := by
    intro k hk i u hu
    have hi : i < 4 := (List.getElem?_eq_some_iff.1 hu).1
    have h2 := h.cellAt (0 + k * 4 + i) (by have : (k + 1) * 4 ≤ ms.length * 4 := Nat.mul_le_mul_right 4 hk; omega)
    rw [h2, Nat.zero_add, flat_at mtCells 4 mt_len ms k i hk hi]
    exact hu
  refine ⟨.inr ⟨g, 0, rfl, fun k hk => ⟨key k hk 0 _ rfl, key k hk 1 _ rfl, key k hk 2 _ rfl, key k hk 3 _ rfl⟩, hb.2⟩, hb.1, hb.2, ?_⟩
  intro j hj
  have hj' : j < ms.length * 4 := by simpa using hj
  refine ⟨?_, h.frozenAt _⟩
  rw [h.cellAt (0 + j) (by omega), Nat.zero_add]
  have hk : j / 4 < ms.length := by omega
  have h1 := flat_at mtCells 4 mt_len ms (j / 4) (j % 4) hk (by omega)
  rw [show j / 4 * 4 + j % 4 = j by omega] at h1
  rw [h1]
  rw [get_flatK mtCells 4 ms.toArray j (by simpa using hj')]
  have e1 : (ms.toArray)[j / 4]! = ms[j / 4] := by simp [hk]
  rw [e1]
  have hl : j % 4 < (mtCells ms[j / 4]).length := by rw [mt_len]; omega
  rw [List.getElem?_eq_getElem hl]
  simp [hl]
/-- What inOrder hands back. -/
def InOrder (ms : List Mt) (ys : List Mt) : Prop := ys.length = ms.length ∧ (∀ x, x ∈ ys ↔ x ∈ ms) ∧ ys.Pairwise (fun x y => x.day ≤ y.day)
/-- A row of a sort's, read again. -/
theorem holds_meets {w : World} {g : Nat} {d : Array Mt} (h : HoldsK mtCells 4 w g 0 d) (hg : g < w.heap.size) (cap : Nat) : MeetsIn w (some ⟨g, 0, none⟩) cap d.toList := by
  refine .inr ⟨g, 0, rfl, fun k hk => ?_, hg⟩
  have hk' : k < d.size := by simpa using hk
  have e : d[k]! = d.toList[k] := by simp [hk']
  have key : ∀ c, c < 4 → w.cell? ⟨g, 0 + k * 4 + c, none⟩ = some (mtCells d.toList[k])[c]! := fun c hc => by
    have := (h.cell hk' hc).1; rw [e] at this; exact this
  exact ⟨key 0 (by omega), key 1 (by omega), key 2 (by omega), key 3 (by omega)⟩

theorem info79y : (Try.prog.info? 79).map (fun i => (i.zero, i.size, i.bytes)) = some (some (.agg #[.int .i64 0, .int .i64 0, .int .i64 0, .bool false]), 4, 32) := by kernel_rfl
theorem owns_new79 {w : World} {g base e size : Nat} (hg : w.heap.size = g) (hb : base ≤ g) : (w.alloc (.cells #[] e)).ownsRow base e size (.slice (some ⟨g, 0, none⟩) 0 0) 0 [] := by
  subst hg; exact World.ownsRow_made _ #[] 0 hb (by decide) (by simp)

set_option maxRecDepth 100000 in
set_option maxHeartbeats 2000000 in
theorem Clone_ms (a : Option Addr) (cap n : Nat) (ms : List Mt) (w : World) (hn : n = ms.length) (h : MeetsIn w a cap ms) (h250 : n ≤ 250) :
    Calls Try.prog 92 #[.slice a n cap] w fun e w' => (∃ a' cap', e = .returned (.slice a' n cap') ∧ ((a' = none ∧ n = 0 ∧ cap' = 0) ∨ ∃ g, a' = some ⟨g, 0, none⟩ ∧ w.heap.size ≤ g ∧ g < w'.heap.size ∧ HoldsK mtCells 4 w' g 0 ms.toArray)) ∧ Below w.heap.size w w' := by
  have HN := Lib.hid hn
  have HM := Lib.hid h
  have hn250 : (n : Int) ≤ 250 := by omega
  obtain ⟨i0, hi0, hz0, hz1, hz2⟩ := info_parts info79y
  have hcase : (a = none ∧ n = 0 ∧ cap = 0) ∨ ∃ ad, a = some ad := by
    rcases meets_src hn h with h | ⟨ad, h, -⟩
    · exact .inl h
    · exact .inr ⟨ad, h⟩
  clear hn h
  rcases hcase with ⟨rfl, h0, rfl⟩ | ⟨ad, rfl⟩
  · subst h0
    clear hi0 hz0 hz1 hz2
    have hq := Lib.run_eql_slice_nil (P := Try.prog) w 28 79 none 0 0 0 0 Try.underlying28
    go_enter Try.func92, Try.ntmps92
    go_wp2
    go_returns
    exact ⟨⟨none, 0, rfl, by simp⟩, Below.refl _ _⟩
  · have hq := Lib.run_eql_slice_nil (P := Try.prog) w 28 79 (some ad) n cap 0 0 Try.underlying28
    go_enter Try.func92, Try.ntmps92
    go_wp2_with (first
      | (at_builtin; refine wpList_clone rfl _ _ 28 rfl w.heap.size 79 i0 (.agg #[.int .i64 0, .int .i64 0, .int .i64 0, .bool false]) 4 32 Try.underlying28 hi0 hz0 hz1 hz2 rfl (by decide) w.heap.size 0 rfl ?own (some ad) n cap (ms.flatMap mtCells) rfl ?len ?src mt_one (by unfold maxLen; omega) (by omega) (by simp) ?_)
      | fail)
    case own => exact owns_new79 rfl (Nat.le_refl _)
    case len => rw [flat_len mtCells 4 mt_len, HN.out]
    case src => exact meets_src HN.out (HM.out.ext (ext_alloc _ _))
    intro g cp w1 hown1 hgrow1
    have hWA : Below w.heap.size w w1 := Below.grown (by go_grown) hgrow1 (by simp) (fun i e => by cases e; exact Nat.le_refl _)
    obtain ⟨-, hO2, hO3, hO4⟩ := meets_own HN.out hown1
    have HO := Lib.hid hO4
    clear hown1 hgrow1 hO4 hi0 hz0 hz1 hz2
    go_wp2
    go_returns
    exact ⟨⟨some ⟨g, 0, none⟩, cp, rfl, .inr ⟨g, rfl, hO2, hO3, HO.out⟩⟩, hWA⟩
end Go.Proofs.Ytafdcbdbllpcnaa
