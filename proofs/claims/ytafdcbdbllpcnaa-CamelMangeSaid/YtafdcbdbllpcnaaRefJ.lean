/- Contract of the reference's SameCamels: two lists of the same animals are the same. -/
import Derived.Test.YtafdcbdbllpcnaaLeafA
import Derived.Test.YtafdcbdbllpcnaaLeafE
import Derived.Deep.QuietTactic
import Derived.BigQuiet
namespace Go.Proofs.Ytafdcbdbllpcnaa
open Go.RowKit
open Go.Proofs

/-- Animals lie one behind the other in a block; a list of animals that was handed over. -/
def CamelAt (w : World) (b o : Nat) (c : Cm) : Prop :=
  w.cell? ⟨b, o, none⟩ = some (.int .i64 c.water.1) ∧ w.cell? ⟨b, o + 1, none⟩ = some (.int .i64 c.water.2) ∧ w.cell? ⟨b, o + 2, none⟩ = some (.int .i64 c.fat.1) ∧ w.cell? ⟨b, o + 3, none⟩ = some (.int .i64 c.fat.2) ∧
  w.cell? ⟨b, o + 4, none⟩ = some (.int .i64 c.sore.1) ∧ w.cell? ⟨b, o + 5, none⟩ = some (.int .i64 c.sore.2) ∧ w.cell? ⟨b, o + 6, none⟩ = some (.bool c.milks)
def CamelsAt (w : World) (b off : Nat) (cs : List Cm) : Prop := ∀ k (h : k < cs.length), CamelAt w b (off + k * 7) cs[k]
theorem camel_below {B : Nat} {w w' : World} {b o : Nat} {c : Cm} (hB : Below B w w') (hb : b < B) (h : CamelAt w b o c) : CamelAt w' b o c := by
  obtain ⟨c0, c1, c2, c3, c4, c5, c6⟩ := h
  exact ⟨at_belowb hB hb c0, at_belowb hB hb c1, at_belowb hB hb c2, at_belowb hB hb c3, at_belowb hB hb c4, at_belowb hB hb c5, at_belowb hB hb c6⟩

set_option maxHeartbeats 1000000 in
theorem sameCamels_some (b1 o1 p1 b2 o2 p2 : Nat) (cs : List Cm) (w : World) (h1 : CamelsAt w b1 o1 cs) (h2 : CamelsAt w b2 o2 cs) (l1 : b1 < w.heap.size) (l2 : b2 < w.heap.size) (hl : cs.length ≤ 100000) :
    Calls Try.prog 39 #[.slice (some ⟨b1, o1, none⟩) cs.length p1, .slice (some ⟨b2, o2, none⟩) cs.length p2] w fun e w' => e = .returned (.bool true) ∧ Below w.heap.size w w' := by
  have H1 := Lib.hid h1
  have H2 := Lib.hid h2
  clear h1 h2
  go_enter Try.func39, Try.ntmps39
  go_wp2_with fail
  go_loopw [5] (fun i wr => ∃ k : Nat, k ≤ cs.length ∧ i = .int .i64 k ∧ Below w.heap.size w wr) (fun i _ => cs.length - (intOf i).toNat)
  case atStart => exact ⟨0, Nat.zero_le _, rfl, Below.refl _ _⟩
  case round =>
    obtain ⟨k, hk, rfl, hB0⟩ := hrel
    by_cases hlt : k < cs.length
    · obtain ⟨c0, c1, c2, c3, c4, c5, c6⟩ := camel_below hB0 l1 (H1.out k hlt)
      obtain ⟨d0, d1, d2, d3, d4, d5, d6⟩ := camel_below hB0 l2 (H2.out k hlt)
      generalize cs[k] = c at *
      have hlt' : (k : Int) < (cs.length : Int) := by omega
      go_wp2_with fail
      go_quiet (fail)
      go_wp2
      exact ⟨⟨k + 1, by omega, by go_num, below_drewN hB0 _⟩, by simp [intOf]; omega⟩
    · obtain rfl : k = cs.length := by omega
      go_wp2
      go_returns
      exact ⟨rfl, hB0⟩
end Go.Proofs.Ytafdcbdbllpcnaa
