/-
  No cell of these rows narrows 'for every input' (looked for: loops, veiled, ifaces, maps, wideKeys, modest, calm, conditions, laid).
  DERIVED. THE GIVEN ROWS OF THIS SEAT. 8 by the template 'for every input the law returns true; each argument reads behind the call as it read before'; 0 by the template 'total and deterministic' (their statements: YtecgohommehdpaaTotals.lean).
  GIVEN WITH THE SEED: the statements are not yours to turn. If you find one false, say at which input.
  Laid BY PROGRAM, IN A SANDBOX (cutbox-rows.mjs): the forced cells as the released guide's own fill.sh prints them over the translation 961656c8e197160e… (all of the seat's roots in one cut). By AI agents, Wed Nov 11 2026. No macro, syntax, notation, axiom, sorry.
-/
import Derived.Test.YtecgohommehdpaaChecked
import GoSem.Claim
import GoSem.ClaimJoined
import GoSem.ClaimMapViews
import Derived.JoinedTies
import Derived.KernelRfl
namespace Go.Proofs.Ytecgohommehdpaa
/- THE CELL 'sum', in the pinned program and in every row, IS THE sha256 OF THE DUMP (.gsa) THAT YtecgohommehdpaaProg.lean LOADS. Nothing in Lean hashes anything: it is a label: what it is worth is what the hold of that sum in a sandbox is worth. -/
noncomputable def Try.pinned : Pinned := { name := "ytecgohommehdpaa", sum := "961656c8e197160e16b8431d37be99afa0b0b60d202ebc273134db58aaeae140", checked := Try.checked }
namespace Rows
def none {H : Type} : Left H := { results := [], args := [] }

/-- 'azalailaw02.BrandTallies': WHATEVER THE INPUT: true; the input reads as it did. -/
def brandTalliesSpec : ChangeSpec := { name := "brandTallies", fn := fun _ => fun
  | [d1, d2] => { results := [.lit (.bool true)], args := [d1, d2] }
  | _ => none }
def brandTalliesRow : OpenClaim := { program := "ytecgohommehdpaa", sum := "961656c8e197160e16b8431d37be99afa0b0b60d202ebc273134db58aaeae140", func := "azalai/azalailaw02.BrandTallies", spec := "brandTallies", unfollowed := true, recurses := true, apart := false }
def BrandTalliesSaid : Prop := brandTalliesRow.holds Try.pinned (OpenSpec.ofChange brandTalliesSpec)

/-- ITS FALSE NEIGHBOUR: 'it returns false'. Refute it at one input. -/
def brandTalliesWrong : ChangeSpec := { name := "brandTallies", fn := fun _ => fun
  | [d1, d2] => { results := [.lit (.bool false)], args := [d1, d2] }
  | _ => none }
def BrandTalliesWrongFalsely : Prop := brandTalliesRow.holds Try.pinned (OpenSpec.ofChange brandTalliesWrong)

/-- 'azalailaw03.WayLegs': WHATEVER THE INPUT: true; the input reads as it did. -/
def wayLegsSpec : ChangeSpec := { name := "wayLegs", fn := fun _ => fun
  | [d1, d2, d3, d4] => { results := [.lit (.bool true)], args := [d1, d2, d3, d4] }
  | _ => none }
def wayLegsRow : OpenClaim := { program := "ytecgohommehdpaa", sum := "961656c8e197160e16b8431d37be99afa0b0b60d202ebc273134db58aaeae140", func := "azalai/azalailaw03.WayLegs", spec := "wayLegs", apart := false }
def WayLegsSaid : Prop := wayLegsRow.holds Try.pinned (OpenSpec.ofChange wayLegsSpec)

/-- ITS FALSE NEIGHBOUR: 'it returns false'. Refute it at one input. -/
def wayLegsWrong : ChangeSpec := { name := "wayLegs", fn := fun _ => fun
  | [d1, d2, d3, d4] => { results := [.lit (.bool false)], args := [d1, d2, d3, d4] }
  | _ => none }
def WayLegsWrongFalsely : Prop := wayLegsRow.holds Try.pinned (OpenSpec.ofChange wayLegsWrong)

/-- 'azalailaw03.WayGate': WHATEVER THE INPUT: true; the input reads as it did. -/
def wayGateSpec : ChangeSpec := { name := "wayGate", fn := fun _ => fun
  | [d1, d2, d3, d4, d5] => { results := [.lit (.bool true)], args := [d1, d2, d3, d4, d5] }
  | _ => none }
def wayGateRow : OpenClaim := { program := "ytecgohommehdpaa", sum := "961656c8e197160e16b8431d37be99afa0b0b60d202ebc273134db58aaeae140", func := "azalai/azalailaw03.WayGate", spec := "wayGate", unfollowed := true, recurses := true, apart := false }
def WayGateSaid : Prop := wayGateRow.holds Try.pinned (OpenSpec.ofChange wayGateSpec)

/-- ITS FALSE NEIGHBOUR: 'it returns false'. Refute it at one input. -/
def wayGateWrong : ChangeSpec := { name := "wayGate", fn := fun _ => fun
  | [d1, d2, d3, d4, d5] => { results := [.lit (.bool false)], args := [d1, d2, d3, d4, d5] }
  | _ => none }
def WayGateWrongFalsely : Prop := wayGateRow.holds Try.pinned (OpenSpec.ofChange wayGateWrong)

/-- 'azalailaw03.WayTrue': WHATEVER THE INPUT: true; the input reads as it did. -/
def wayTrueSpec : ChangeSpec := { name := "wayTrue", fn := fun _ => fun
  | [d1, d2, d3, d4, d5, d6] => { results := [.lit (.bool true)], args := [d1, d2, d3, d4, d5, d6] }
  | _ => none }
def wayTrueRow : OpenClaim := { program := "ytecgohommehdpaa", sum := "961656c8e197160e16b8431d37be99afa0b0b60d202ebc273134db58aaeae140", func := "azalai/azalailaw03.WayTrue", spec := "wayTrue", unfollowed := true, recurses := true, apart := false }
def WayTrueSaid : Prop := wayTrueRow.holds Try.pinned (OpenSpec.ofChange wayTrueSpec)

/-- ITS FALSE NEIGHBOUR: 'it returns false'. Refute it at one input. -/
def wayTrueWrong : ChangeSpec := { name := "wayTrue", fn := fun _ => fun
  | [d1, d2, d3, d4, d5, d6] => { results := [.lit (.bool false)], args := [d1, d2, d3, d4, d5, d6] }
  | _ => none }
def WayTrueWrongFalsely : Prop := wayTrueRow.holds Try.pinned (OpenSpec.ofChange wayTrueWrong)

/-- 'azalailaw03.WayWater': WHATEVER THE INPUT: true; the input reads as it did. -/
def wayWaterSpec : ChangeSpec := { name := "wayWater", fn := fun _ => fun
  | [d1, d2, d3, d4, d5] => { results := [.lit (.bool true)], args := [d1, d2, d3, d4, d5] }
  | _ => none }
def wayWaterRow : OpenClaim := { program := "ytecgohommehdpaa", sum := "961656c8e197160e16b8431d37be99afa0b0b60d202ebc273134db58aaeae140", func := "azalai/azalailaw03.WayWater", spec := "wayWater", unfollowed := true, recurses := true, apart := false }
def WayWaterSaid : Prop := wayWaterRow.holds Try.pinned (OpenSpec.ofChange wayWaterSpec)

/-- ITS FALSE NEIGHBOUR: 'it returns false'. Refute it at one input. -/
def wayWaterWrong : ChangeSpec := { name := "wayWater", fn := fun _ => fun
  | [d1, d2, d3, d4, d5] => { results := [.lit (.bool false)], args := [d1, d2, d3, d4, d5] }
  | _ => none }
def WayWaterWrongFalsely : Prop := wayWaterRow.holds Try.pinned (OpenSpec.ofChange wayWaterWrong)

/-- 'azalailaw03.WayDrawn': WHATEVER THE INPUT: true; the input reads as it did. -/
def wayDrawnSpec : ChangeSpec := { name := "wayDrawn", fn := fun _ => fun
  | [d1, d2, d3, d4, d5, d6, d7, d8] => { results := [.lit (.bool true)], args := [d1, d2, d3, d4, d5, d6, d7, d8] }
  | _ => none }
def wayDrawnRow : OpenClaim := { program := "ytecgohommehdpaa", sum := "961656c8e197160e16b8431d37be99afa0b0b60d202ebc273134db58aaeae140", func := "azalai/azalailaw03.WayDrawn", spec := "wayDrawn", unfollowed := true, recurses := true, apart := false }
def WayDrawnSaid : Prop := wayDrawnRow.holds Try.pinned (OpenSpec.ofChange wayDrawnSpec)

/-- ITS FALSE NEIGHBOUR: 'it returns false'. Refute it at one input. -/
def wayDrawnWrong : ChangeSpec := { name := "wayDrawn", fn := fun _ => fun
  | [d1, d2, d3, d4, d5, d6, d7, d8] => { results := [.lit (.bool false)], args := [d1, d2, d3, d4, d5, d6, d7, d8] }
  | _ => none }
def WayDrawnWrongFalsely : Prop := wayDrawnRow.holds Try.pinned (OpenSpec.ofChange wayDrawnWrong)

/-- 'azalaitop.TopStage': WHATEVER THE INPUT: true; the input reads as it did. -/
def topStageSpec : ChangeSpec := { name := "topStage", fn := fun _ => fun
  | [d1, d2, d3, d4, d5, d6, d7, d8] => { results := [.lit (.bool true)], args := [d1, d2, d3, d4, d5, d6, d7, d8] }
  | _ => none }
def topStageRow : OpenClaim := { program := "ytecgohommehdpaa", sum := "961656c8e197160e16b8431d37be99afa0b0b60d202ebc273134db58aaeae140", func := "azalai/azalaitop.TopStage", spec := "topStage", unfollowed := true, recurses := true, apart := false }
def TopStageSaid : Prop := topStageRow.holds Try.pinned (OpenSpec.ofChange topStageSpec)

/-- ITS FALSE NEIGHBOUR: 'it returns false'. Refute it at one input. -/
def topStageWrong : ChangeSpec := { name := "topStage", fn := fun _ => fun
  | [d1, d2, d3, d4, d5, d6, d7, d8] => { results := [.lit (.bool false)], args := [d1, d2, d3, d4, d5, d6, d7, d8] }
  | _ => none }
def TopStageWrongFalsely : Prop := topStageRow.holds Try.pinned (OpenSpec.ofChange topStageWrong)

/-- 'azalaitop.TopLater': WHATEVER THE INPUT: true; the input reads as it did. -/
def topLaterSpec : ChangeSpec := { name := "topLater", fn := fun _ => fun
  | [d1, d2, d3, d4, d5, d6, d7, d8] => { results := [.lit (.bool true)], args := [d1, d2, d3, d4, d5, d6, d7, d8] }
  | _ => none }
def topLaterRow : OpenClaim := { program := "ytecgohommehdpaa", sum := "961656c8e197160e16b8431d37be99afa0b0b60d202ebc273134db58aaeae140", func := "azalai/azalaitop.TopLater", spec := "topLater", unfollowed := true, recurses := true, apart := false }
def TopLaterSaid : Prop := topLaterRow.holds Try.pinned (OpenSpec.ofChange topLaterSpec)

/-- ITS FALSE NEIGHBOUR: 'it returns false'. Refute it at one input. -/
def topLaterWrong : ChangeSpec := { name := "topLater", fn := fun _ => fun
  | [d1, d2, d3, d4, d5, d6, d7, d8] => { results := [.lit (.bool false)], args := [d1, d2, d3, d4, d5, d6, d7, d8] }
  | _ => none }
def TopLaterWrongFalsely : Prop := topLaterRow.holds Try.pinned (OpenSpec.ofChange topLaterWrong)

/- THE SECOND FORM. 'bulk': how many values and letters a reading holds, each counted each time it is reached (what is shared counts as often as it is met; a slice's spare places count too). A statement '..UptoSaid' is the law's where the arguments, and the package variables that the reading takes, are together of bulk at most 1048576: NARROWER than '..Said'. Prove '..Said' where nothing that the law and all that it calls make is longer than what came in: it says more and counts as full. Else prove '..UptoSaid'. A law counts once. -/
mutual
def uptoBulk {H : Type} : DataW H → Nat
  | .lit (.string bytes) => bytes.length + 1
  | .lit _ => 1
  | .nil => 1
  | .ptr d => uptoBulk d + 1
  | .slice elems spare => uptoBulkAll elems + uptoBulkAll spare + 1
  | .agg parts => uptoBulkAll parts + 1
  | .iface _ d => uptoBulk d + 1
  | .map entries => uptoBulkEntries entries + 1
  | .held _ => 1
def uptoBulkAll {H : Type} : List (DataW H) → Nat
  | [] => 0
  | d :: r => uptoBulk d + uptoBulkAll r
def uptoBulkEntries {H : Type} : List (Lit × DataW H) → Nat
  | [] => 0
  | x :: r => uptoBulkEntry x + uptoBulkEntries r
def uptoBulkEntry {H : Type} : Lit × DataW H → Nat
  | (.string bytes, d) => bytes.length + uptoBulk d + 1
  | (_, d) => uptoBulk d + 1
 end
def uptoSmall : (H : Type) → List (DataW H) → Bool := fun _ ds => decide (uptoBulkAll ds ≤ 1048576)
def OpenSpec.upto (s : _root_.Go.ChangeSpec) : _root_.Go.OpenSpec := { _root_.Go.OpenSpec.ofChange s with cond := some uptoSmall }

/-- 'azalailaw02.BrandTallies', WHERE WHAT IT READS IS OF BULK AT MOST 1048576: true; the input reads as it did. -/
def brandTalliesUptoRow : OpenClaim := { program := "ytecgohommehdpaa", sum := "961656c8e197160e16b8431d37be99afa0b0b60d202ebc273134db58aaeae140", func := "azalai/azalailaw02.BrandTallies", spec := "brandTallies", unfollowed := true, recurses := true, apart := false, narrowed := true }
def BrandTalliesUptoSaid : Prop := brandTalliesUptoRow.holds Try.pinned (OpenSpec.upto brandTalliesSpec)

/-- 'azalailaw03.WayLegs', WHERE WHAT IT READS IS OF BULK AT MOST 1048576: true; the input reads as it did. -/
def wayLegsUptoRow : OpenClaim := { program := "ytecgohommehdpaa", sum := "961656c8e197160e16b8431d37be99afa0b0b60d202ebc273134db58aaeae140", func := "azalai/azalailaw03.WayLegs", spec := "wayLegs", apart := false, narrowed := true }
def WayLegsUptoSaid : Prop := wayLegsUptoRow.holds Try.pinned (OpenSpec.upto wayLegsSpec)

/-- 'azalailaw03.WayGate', WHERE WHAT IT READS IS OF BULK AT MOST 1048576: true; the input reads as it did. -/
def wayGateUptoRow : OpenClaim := { program := "ytecgohommehdpaa", sum := "961656c8e197160e16b8431d37be99afa0b0b60d202ebc273134db58aaeae140", func := "azalai/azalailaw03.WayGate", spec := "wayGate", unfollowed := true, recurses := true, apart := false, narrowed := true }
def WayGateUptoSaid : Prop := wayGateUptoRow.holds Try.pinned (OpenSpec.upto wayGateSpec)

/-- 'azalailaw03.WayTrue', WHERE WHAT IT READS IS OF BULK AT MOST 1048576: true; the input reads as it did. -/
def wayTrueUptoRow : OpenClaim := { program := "ytecgohommehdpaa", sum := "961656c8e197160e16b8431d37be99afa0b0b60d202ebc273134db58aaeae140", func := "azalai/azalailaw03.WayTrue", spec := "wayTrue", unfollowed := true, recurses := true, apart := false, narrowed := true }
def WayTrueUptoSaid : Prop := wayTrueUptoRow.holds Try.pinned (OpenSpec.upto wayTrueSpec)

/-- 'azalailaw03.WayWater', WHERE WHAT IT READS IS OF BULK AT MOST 1048576: true; the input reads as it did. -/
def wayWaterUptoRow : OpenClaim := { program := "ytecgohommehdpaa", sum := "961656c8e197160e16b8431d37be99afa0b0b60d202ebc273134db58aaeae140", func := "azalai/azalailaw03.WayWater", spec := "wayWater", unfollowed := true, recurses := true, apart := false, narrowed := true }
def WayWaterUptoSaid : Prop := wayWaterUptoRow.holds Try.pinned (OpenSpec.upto wayWaterSpec)

/-- 'azalailaw03.WayDrawn', WHERE WHAT IT READS IS OF BULK AT MOST 1048576: true; the input reads as it did. -/
def wayDrawnUptoRow : OpenClaim := { program := "ytecgohommehdpaa", sum := "961656c8e197160e16b8431d37be99afa0b0b60d202ebc273134db58aaeae140", func := "azalai/azalailaw03.WayDrawn", spec := "wayDrawn", unfollowed := true, recurses := true, apart := false, narrowed := true }
def WayDrawnUptoSaid : Prop := wayDrawnUptoRow.holds Try.pinned (OpenSpec.upto wayDrawnSpec)

/-- 'azalaitop.TopStage', WHERE WHAT IT READS IS OF BULK AT MOST 1048576: true; the input reads as it did. -/
def topStageUptoRow : OpenClaim := { program := "ytecgohommehdpaa", sum := "961656c8e197160e16b8431d37be99afa0b0b60d202ebc273134db58aaeae140", func := "azalai/azalaitop.TopStage", spec := "topStage", unfollowed := true, recurses := true, apart := false, narrowed := true }
def TopStageUptoSaid : Prop := topStageUptoRow.holds Try.pinned (OpenSpec.upto topStageSpec)

/-- 'azalaitop.TopLater', WHERE WHAT IT READS IS OF BULK AT MOST 1048576: true; the input reads as it did. -/
def topLaterUptoRow : OpenClaim := { program := "ytecgohommehdpaa", sum := "961656c8e197160e16b8431d37be99afa0b0b60d202ebc273134db58aaeae140", func := "azalai/azalaitop.TopLater", spec := "topLater", unfollowed := true, recurses := true, apart := false, narrowed := true }
def TopLaterUptoSaid : Prop := topLaterUptoRow.holds Try.pinned (OpenSpec.upto topLaterSpec)

end Rows
end Go.Proofs.Ytecgohommehdpaa
