/- Days, and the reference's Days, in one form; lists of animals that are the same; Lasts. -/
import Derived.Test.YtafdcbdbllpcnaaRefM
import Derived.Test.YtafdcbdbllpcnaaLeafR
import Derived.Test.YtafdcbdbllpcnaaLeafS
import Derived.Test.YtafdcbdbllpcnaaRefJ
namespace Go.Proofs.Ytafdcbdbllpcnaa
open Go.RowKit
open Go.Proofs

/-- The first day on which it dies for sure; the worst fate, the day, the error, the animals of Days. -/
def firstDie (b : Br) (c : Cm) (ms : List Mr) : Option Nat := (List.range ms.length).find? (dieK b c ms)
def outF (b : Br) (c : Cm) (ms : List Mr) : Int := if chkT b c ms = 0 then (match firstDie b c ms with | none => fatN b c ms ms.length | some _ => 2) else 0
def outA (b : Br) (c : Cm) (ms : List Mr) : Int := if chkT b c ms = 0 then (match firstDie b c ms with | none => 0 | some k => (k : Int)) else 0
def outE (b : Br) (c : Cm) (ms : List Mr) : Int := if chkT b c ms = 0 then (match firstDie b c ms with | none => 0 | some _ => 13) else chkT b c ms
def outL (b : Br) (c : Cm) (ms : List Mr) : List Cm := if chkT b c ms = 0 then (match firstDie b c ms with | none => (List.range ms.length).map fun k => mornC b c ms (k + 1) | some _ => []) else []

theorem firstDie_none {b : Br} {c : Cm} {ms : List Mr} (h : ∀ j, j < ms.length → dieK b c ms j = false) : firstDie b c ms = none := by
  unfold firstDie
  rw [List.find?_eq_none]
  intro j hj
  rw [h j (List.mem_range.1 hj)]
  simp
theorem firstDie_some {b : Br} {c : Cm} {ms : List Mr} {k : Nat} (hk : k < ms.length) (hd : dieK b c ms k = true) (h : ∀ j, j < k → dieK b c ms j = false) : firstDie b c ms = some k := by
  unfold firstDie
  rw [List.find?_range_eq_some]
  exact ⟨hd, List.mem_range.2 hk, fun j hj => by rw [h j hj]; rfl⟩

/-- v is a list of animals: nil, or so many that lie one behind the other. -/
def CamList (W : World) (v : Value) (cs : List Cm) : Prop :=
  (v = .slice none 0 0 ∧ cs = []) ∨ ∃ g cap, v = .slice (some ⟨g, 0, none⟩) cs.length cap ∧ CamelsAt W g 0 cs ∧ g < W.heap.size ∧ cs ≠ []
theorem CamList.ext {W W' : World} {v : Value} {cs : List Cm} (h : CamList W v cs) (hE : Ext W W') : CamList W' v cs := by
  rcases h with h | ⟨g, cap, h1, h2, h3, h4⟩
  · exact .inl h
  · exact .inr ⟨g, cap, h1, fun k hk => camel_below hE h3 (h2 k hk), Nat.lt_of_lt_of_le h3 hE.size, h4⟩

theorem flat_get {cs : List Cm} : ∀ {k i : Nat} (hk : k < cs.length), i < 7 → (cs.flatMap camCells)[k * 7 + i]? = (camCells cs[k])[i]? := by
  induction cs with
  | nil => intro k i hk; simp at hk
  | cons c cs ih =>
    intro k i hk hi
    rw [List.flatMap_cons]
    cases k with
    | zero =>
      rw [List.getElem?_append_left (by simp [camCells]; omega)]
      simp
    | succ k =>
      rw [List.getElem?_append_right (by simp [camCells]; omega)]
      have : (k + 1) * 7 + i - (camCells c).length = k * 7 + i := by simp [camCells]; omega
      rw [this, ih (by simpa using hk) hi]
      rfl
theorem camels_of_owns {W : World} {base n : Nat} {v : Value} {cs : List Cm} (hn : cs.length = n) (h : W.ownsRow base 39 7 v n (cs.flatMap camCells)) (hnil : v = .slice none 0 0 ↔ n = 0) : CamList W v cs := by
  obtain ⟨h1, h2 | ⟨g, cap, cur, q1, q2, q3, q4, q5, q6, q7⟩⟩ := h
  · exact .inl ⟨h2.1, List.eq_nil_of_length_eq_zero (by omega)⟩
  · refine .inr ⟨g, cap, by rw [hn]; exact q1, ?_, (Array.getElem?_eq_some_iff.1 q3).1, fun h => by rw [h] at hn; have h0 : n = 0 := hn.symm; rw [hnil.2 h0] at q1; cases q1⟩
    intro k hk
    have key : ∀ i u, (camCells cs[k])[i]? = some u → W.cell? ⟨g, 0 + k * 7 + i, none⟩ = some u := by
      intro i u hu
      have hi : i < 7 := (List.getElem?_eq_some_iff.1 hu).1
      rw [cell_of_row W g _ cur 39 _ q3]
      have e := flat_get (cs := cs) hk hi
      rw [hu, ← q7, List.getElem?_take] at e
      split at e
      · rw [← e, Array.getElem?_toList, Nat.zero_add]
      · cases e
    exact ⟨key 0 _ rfl, key 1 _ rfl, key 2 _ rfl, key 3 _ rfl, key 4 _ rfl, key 5 _ rfl, key 6 _ rfl⟩
theorem evs_flat (b : Br) (c : Cm) (ms : List Mr) (n : Nat) : evs b c ms n = ((List.range n).map fun k => mornC b c ms (k + 1)).flatMap camCells := by
  unfold evs
  rw [List.flatMap_map]

theorem Days_any (b : Br) (c : Cm) (a : Option Addr) (cap : Nat) (ms : List Mr) (w : World) (h : DaysIn w a cap ms) (hl : ms.length ≤ 100000) :
    Calls Try.prog 26 #[.agg #[.int .i64 b.full, .int .i64 b.fed, .int .i64 b.rest.1, .int .i64 b.rest.2, .int .i64 b.heat.1, .int .i64 b.heat.2, .int .i64 b.toil.1, .int .i64 b.toil.2, .int .i64 b.burn.1, .int .i64 b.burn.2, .int .i64 b.rub.1, .int .i64 b.rub.2, .int .i64 b.milk.1, .int .i64 b.milk.2, .int .i64 b.heal, .int .i64 b.strong.1, .int .i64 b.strong.2], .agg #[.int .i64 c.water.1, .int .i64 c.water.2, .int .i64 c.fat.1, .int .i64 c.fat.2, .int .i64 c.sore.1, .int .i64 c.sore.2, .bool c.milks], .slice a ms.length cap] w fun e w' => (∃ v, e = .returned (.tuple #[v, .int .u8 (outF b c ms), .int .i64 (outA b c ms), .int .i64 (outE b c ms)]) ∧ CamList w' v (outL b c ms)) ∧ Below w.heap.size w w' := by
  by_cases h0 : chkT b c ms = 0
  · refine (Days_ok b c a cap ms w h hl h0).mono fun e w' ⟨h1, hB⟩ => ⟨?_, hB⟩
    rcases h1 with ⟨hal, v, he, hown, hnil⟩ | ⟨k, hk, hd, hal, he⟩
    · have hf := firstDie_none hal
      refine ⟨v, ?_, ?_⟩
      · simp only [outF, outA, outE, h0, hf, if_true]; exact he
      · simp only [outL, h0, hf, if_true]
        rw [evs_flat] at hown
        exact camels_of_owns (by simp) hown hnil
    · have hf := firstDie_some hk hd hal
      refine ⟨_, ?_, .inl ⟨rfl, ?_⟩⟩
      · simp only [outF, outA, outE, h0, hf, if_true]; exact he
      · simp only [outL, h0, hf, if_true]
  · refine (Days_bad b c a cap ms _ w h hl rfl h0).mono fun e w' ⟨he, hB⟩ => ⟨⟨_, ?_, .inl ⟨rfl, ?_⟩⟩, hB⟩
    · simp only [outF, outA, outE, h0, if_false]; exact he
    · simp only [outL, h0, if_false]
theorem rDays_any (b : Br) (c : Cm) (a : Option Addr) (cap : Nat) (ms : List Mr) (w : World) (h : DaysIn w a cap ms) (hl : ms.length ≤ 100000) :
    Calls Try.prog 36 #[.agg #[.int .i64 b.full, .int .i64 b.fed, .int .i64 b.rest.1, .int .i64 b.rest.2, .int .i64 b.heat.1, .int .i64 b.heat.2, .int .i64 b.toil.1, .int .i64 b.toil.2, .int .i64 b.burn.1, .int .i64 b.burn.2, .int .i64 b.rub.1, .int .i64 b.rub.2, .int .i64 b.milk.1, .int .i64 b.milk.2, .int .i64 b.heal, .int .i64 b.strong.1, .int .i64 b.strong.2], .agg #[.int .i64 c.water.1, .int .i64 c.water.2, .int .i64 c.fat.1, .int .i64 c.fat.2, .int .i64 c.sore.1, .int .i64 c.sore.2, .bool c.milks], .slice a ms.length cap] w fun e w' => (∃ v, e = .returned (.tuple #[v, .int .i64 (outF b c ms), .int .i64 (outA b c ms), .int .i64 (outE b c ms)]) ∧ CamList w' v (outL b c ms)) ∧ Below w.heap.size w w' := by
  by_cases h0 : chkT b c ms = 0
  · refine (rDays_ok b c a cap ms w h hl h0).mono fun e w' ⟨h1, hB⟩ => ⟨?_, hB⟩
    rcases h1 with ⟨hal, v, he, hown, hnil⟩ | ⟨k, hk, hd, hal, he⟩
    · have hf := firstDie_none hal
      refine ⟨v, ?_, ?_⟩
      · simp only [outF, outA, outE, h0, hf, if_true]; exact he
      · simp only [outL, h0, hf, if_true]
        rw [evs_flat] at hown
        exact camels_of_owns (by simp) hown hnil
    · have hf := firstDie_some hk hd hal
      refine ⟨_, ?_, .inl ⟨rfl, ?_⟩⟩
      · simp only [outF, outA, outE, h0, hf, if_true]; exact he
      · simp only [outL, h0, hf, if_true]
  · refine (rDays_bad b c a cap ms _ w h hl rfl h0).mono fun e w' ⟨he, hB⟩ => ⟨⟨_, ?_, .inl ⟨rfl, ?_⟩⟩, hB⟩
    · simp only [outF, outA, outE, h0, if_false]; exact he
    · simp only [outL, h0, if_false]
theorem outF_bd (b : Br) (c : Cm) (ms : List Mr) : 0 ≤ outF b c ms ∧ outF b c ms ≤ 2 := by
  unfold outF
  split
  · split
    · have := fatN_01 b c ms ms.length; omega
    · omega
  · omega

theorem Lasts_any (b : Br) (c : Cm) (m : Mr) (w : World) :
    Calls Try.prog 37 #[.agg #[.int .i64 b.full, .int .i64 b.fed, .int .i64 b.rest.1, .int .i64 b.rest.2, .int .i64 b.heat.1, .int .i64 b.heat.2, .int .i64 b.toil.1, .int .i64 b.toil.2, .int .i64 b.burn.1, .int .i64 b.burn.2, .int .i64 b.rub.1, .int .i64 b.rub.2, .int .i64 b.milk.1, .int .i64 b.milk.2, .int .i64 b.heal, .int .i64 b.strong.1, .int .i64 b.strong.2], .agg #[.int .i64 c.water.1, .int .i64 c.water.2, .int .i64 c.fat.1, .int .i64 c.fat.2, .int .i64 c.sore.1, .int .i64 c.sore.2, .bool c.milks], .agg #[.int .i64 m.hours, .int .i64 m.load, .int .i64 m.heat.1, .int .i64 m.heat.2, .int .i64 m.grass.1, .int .i64 m.grass.2, .int .i64 m.drinks.1, .int .i64 m.drinks.2]] w fun e w' => e = .returned (.tuple #[.agg #[.int .i64 (lasR b c m).1, .int .i64 (lasR b c m).2], .int .i64 (chkT b c [m])]) ∧ Below w.heap.size w w' := by
  by_cases h : chkT b c [m] = 0
  · have h1 : lasR b c m = lastsGo b m 60 0 c 60 := by rw [lasR, if_pos h]
    rw [h, h1]
    exact Lasts_ok b c m w h
  · have h1 : lasR b c m = (0, 0) := by rw [lasR, if_neg h]
    rw [h1]
    exact Lasts_bad b c m _ w rfl h

theorem sameCamels_nil (w : World) :
    Calls Try.prog 39 #[.slice none 0 0, .slice none 0 0] w fun e w' => e = .returned (.bool true) ∧ Below w.heap.size w w' := by
  go_enter Try.func39, Try.ntmps39
  go_wp2
  go_rounds 1
  all_goals go_returns
  all_goals exact ⟨rfl, Below.refl _ _⟩
theorem same_any {w : World} {v1 v2 : Value} {cs : List Cm} (h1 : CamList w v1 cs) (h2 : CamList w v2 cs) (hl : cs.length ≤ 100000) :
    Calls Try.prog 39 #[v1, v2] w fun e w' => e = .returned (.bool true) ∧ Below w.heap.size w w' := by
  rcases h1 with ⟨rfl, h1⟩ | ⟨g1, p1, rfl, q1, l1, n1⟩
  · rcases h2 with ⟨rfl, h2⟩ | ⟨g2, p2, rfl, q2, l2, n2⟩
    · exact sameCamels_nil w
    · exact absurd h1 n2
  · rcases h2 with ⟨rfl, h2⟩ | ⟨g2, p2, rfl, q2, l2, n2⟩
    · exact absurd h2 n1
    · exact sameCamels_some g1 0 p1 g2 0 p2 cs w q1 q2 l1 l2 hl
theorem outL_len (b : Br) (c : Cm) (ms : List Mr) : (outL b c ms).length ≤ ms.length := by
  unfold outL
  split
  · split <;> simp
  · simp
end Go.Proofs.Ytafdcbdbllpcnaa
