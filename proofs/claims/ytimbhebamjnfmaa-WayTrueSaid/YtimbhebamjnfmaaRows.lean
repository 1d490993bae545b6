/-
  No cell of these rows narrows 'for every input' (looked for: loops, veiled, ifaces, maps, wideKeys, modest, calm, conditions, laid).
  DERIVED. THE GIVEN ROWS OF THIS SEAT. 6 by the template 'for every input the law returns true; each argument reads behind the call as it read before'; 0 by the template 'total and deterministic' (their statements: YtimbhebamjnfmaaTotals.lean).
  GIVEN WITH THE SEED: the statements are not yours to turn. If you find one false, say at which input.
  Laid BY PROGRAM, IN A SANDBOX (cutbox-rows.mjs): the forced cells as the released guide's own fill.sh prints them over the translation 7eb0075814915738… (all of the seat's roots in one cut). By AI agents, Wed Nov 11 2026. No macro, syntax, notation, axiom, sorry.
-/
import Derived.Test.YtimbhebamjnfmaaChecked
import GoSem.Claim
import GoSem.ClaimJoined
import GoSem.ClaimMapViews
import Derived.JoinedTies
import Derived.KernelRfl
namespace Go.Proofs.Ytimbhebamjnfmaa
/- THE CELL 'sum', in the pinned program and in every row, IS THE sha256 OF THE DUMP (.gsa) THAT YtimbhebamjnfmaaProg.lean LOADS. Nothing in Lean hashes anything: it is a label: what it is worth is what the hold of that sum in a sandbox is worth. -/
noncomputable def Try.pinned : Pinned := { name := "ytimbhebamjnfmaa", sum := "7eb0075814915738e345c65a215197d83fa5a10149cdd9372c04fb1fffae518e", checked := Try.checked }
namespace Rows
def none {H : Type} : Left H := { results := [], args := [] }

/-- 'azalailaw02.BrandTallies': WHATEVER THE INPUT: true; the input reads as it did. -/
def brandTalliesSpec : ChangeSpec := { name := "brandTallies", fn := fun _ => fun
  | [d1, d2] => { results := [.lit (.bool true)], args := [d1, d2] }
  | _ => none }
def brandTalliesRow : OpenClaim := { program := "ytimbhebamjnfmaa", sum := "7eb0075814915738e345c65a215197d83fa5a10149cdd9372c04fb1fffae518e", func := "azalai/azalailaw02.BrandTallies", spec := "brandTallies", unfollowed := true, recurses := true, apart := false }
def BrandTalliesSaid : Prop := brandTalliesRow.holds Try.pinned (OpenSpec.ofChange brandTalliesSpec)

/-- ITS FALSE NEIGHBOUR: 'it returns false'. Refute it at one input. -/
def brandTalliesWrong : ChangeSpec := { name := "brandTallies", fn := fun _ => fun
  | [d1, d2] => { results := [.lit (.bool false)], args := [d1, d2] }
  | _ => none }
def BrandTalliesWrongFalsely : Prop := brandTalliesRow.holds Try.pinned (OpenSpec.ofChange brandTalliesWrong)

/-- 'azalailaw03.WayTrue': WHATEVER THE INPUT: true; the input reads as it did. -/
def wayTrueSpec : ChangeSpec := { name := "wayTrue", fn := fun _ => fun
  | [d1, d2, d3, d4, d5, d6] => { results := [.lit (.bool true)], args := [d1, d2, d3, d4, d5, d6] }
  | _ => none }
def wayTrueRow : OpenClaim := { program := "ytimbhebamjnfmaa", sum := "7eb0075814915738e345c65a215197d83fa5a10149cdd9372c04fb1fffae518e", func := "azalai/azalailaw03.WayTrue", spec := "wayTrue", unfollowed := true, recurses := true, apart := false }
def WayTrueSaid : Prop := wayTrueRow.holds Try.pinned (OpenSpec.ofChange wayTrueSpec)

/-- ITS FALSE NEIGHBOUR: 'it returns false'. Refute it at one input. -/
def wayTrueWrong : ChangeSpec := { name := "wayTrue", fn := fun _ => fun
  | [d1, d2, d3, d4, d5, d6] => { results := [.lit (.bool false)], args := [d1, d2, d3, d4, d5, d6] }
  | _ => none }
def WayTrueWrongFalsely : Prop := wayTrueRow.holds Try.pinned (OpenSpec.ofChange wayTrueWrong)

/-- 'azalailaw03.WayGate': WHATEVER THE INPUT: true; the input reads as it did. -/
def wayGateSpec : ChangeSpec := { name := "wayGate", fn := fun _ => fun
  | [d1, d2, d3, d4, d5] => { results := [.lit (.bool true)], args := [d1, d2, d3, d4, d5] }
  | _ => none }
def wayGateRow : OpenClaim := { program := "ytimbhebamjnfmaa", sum := "7eb0075814915738e345c65a215197d83fa5a10149cdd9372c04fb1fffae518e", func := "azalai/azalailaw03.WayGate", spec := "wayGate", unfollowed := true, recurses := true, apart := false }
def WayGateSaid : Prop := wayGateRow.holds Try.pinned (OpenSpec.ofChange wayGateSpec)

/-- ITS FALSE NEIGHBOUR: 'it returns false'. Refute it at one input. -/
def wayGateWrong : ChangeSpec := { name := "wayGate", fn := fun _ => fun
  | [d1, d2, d3, d4, d5] => { results := [.lit (.bool false)], args := [d1, d2, d3, d4, d5] }
  | _ => none }
def WayGateWrongFalsely : Prop := wayGateRow.holds Try.pinned (OpenSpec.ofChange wayGateWrong)

/-- 'azalailaw04.GuideClash': WHATEVER THE INPUT: true; the input reads as it did. -/
def guideClashSpec : ChangeSpec := { name := "guideClash", fn := fun _ => fun
  | [d1, d2, d3] => { results := [.lit (.bool true)], args := [d1, d2, d3] }
  | _ => none }
def guideClashRow : OpenClaim := { program := "ytimbhebamjnfmaa", sum := "7eb0075814915738e345c65a215197d83fa5a10149cdd9372c04fb1fffae518e", func := "azalai/azalailaw04.GuideClash", spec := "guideClash", unfollowed := true, recurses := true, apart := false }
def GuideClashSaid : Prop := guideClashRow.holds Try.pinned (OpenSpec.ofChange guideClashSpec)

/-- ITS FALSE NEIGHBOUR: 'it returns false'. Refute it at one input. -/
def guideClashWrong : ChangeSpec := { name := "guideClash", fn := fun _ => fun
  | [d1, d2, d3] => { results := [.lit (.bool false)], args := [d1, d2, d3] }
  | _ => none }
def GuideClashWrongFalsely : Prop := guideClashRow.holds Try.pinned (OpenSpec.ofChange guideClashWrong)

/-- 'azalaitop.TopHome': WHATEVER THE INPUT: true; the input reads as it did. -/
def topHomeSpec : ChangeSpec := { name := "topHome", fn := fun _ => fun
  | [d1, d2, d3, d4, d5, d6, d7, d8, d9, d10, d11] => { results := [.lit (.bool true)], args := [d1, d2, d3, d4, d5, d6, d7, d8, d9, d10, d11] }
  | _ => none }
def topHomeRow : OpenClaim := { program := "ytimbhebamjnfmaa", sum := "7eb0075814915738e345c65a215197d83fa5a10149cdd9372c04fb1fffae518e", func := "azalai/azalaitop.TopHome", spec := "topHome", unfollowed := true, recurses := true, apart := false }
def TopHomeSaid : Prop := topHomeRow.holds Try.pinned (OpenSpec.ofChange topHomeSpec)

/-- ITS FALSE NEIGHBOUR: 'it returns false'. Refute it at one input. -/
def topHomeWrong : ChangeSpec := { name := "topHome", fn := fun _ => fun
  | [d1, d2, d3, d4, d5, d6, d7, d8, d9, d10, d11] => { results := [.lit (.bool false)], args := [d1, d2, d3, d4, d5, d6, d7, d8, d9, d10, d11] }
  | _ => none }
def TopHomeWrongFalsely : Prop := topHomeRow.holds Try.pinned (OpenSpec.ofChange topHomeWrong)

/-- 'azalaitop.TopThirsty': WHATEVER THE INPUT: true; the input reads as it did. -/
def topThirstySpec : ChangeSpec := { name := "topThirsty", fn := fun _ => fun
  | [d1, d2, d3, d4, d5, d6, d7, d8, d9] => { results := [.lit (.bool true)], args := [d1, d2, d3, d4, d5, d6, d7, d8, d9] }
  | _ => none }
def topThirstyRow : OpenClaim := { program := "ytimbhebamjnfmaa", sum := "7eb0075814915738e345c65a215197d83fa5a10149cdd9372c04fb1fffae518e", func := "azalai/azalaitop.TopThirsty", spec := "topThirsty", unfollowed := true, recurses := true, apart := false }
def TopThirstySaid : Prop := topThirstyRow.holds Try.pinned (OpenSpec.ofChange topThirstySpec)

/-- ITS FALSE NEIGHBOUR: 'it returns false'. Refute it at one input. -/
def topThirstyWrong : ChangeSpec := { name := "topThirsty", fn := fun _ => fun
  | [d1, d2, d3, d4, d5, d6, d7, d8, d9] => { results := [.lit (.bool false)], args := [d1, d2, d3, d4, d5, d6, d7, d8, d9] }
  | _ => none }
def TopThirstyWrongFalsely : Prop := topThirstyRow.holds Try.pinned (OpenSpec.ofChange topThirstyWrong)

/- THE SECOND FORM. 'bulk': how many values and letters a reading holds, each counted each time it is reached (what is shared counts as often as it is met; a slice's spare places count too). A statement '..UptoSaid' is the law's where the arguments, and the package variables that the reading takes, are together of bulk at most 1048576: NARROWER than '..Said'. Prove '..Said' where nothing that the law and all that it calls make is longer than what came in: it says more and counts as full. Else prove '..UptoSaid'. A law counts once. -/
mutual
def uptoBulk {H : Type} : DataW H → Nat
  | .lit (.string bytes) => bytes.length + 1
  | .lit _ => 1
  | .nil => 1
  | .ptr d => uptoBulk d + 1
  | .slice elems spare => uptoBulkAll elems + uptoBulkAll spare + 1
  | .agg parts => uptoBulkAll parts + 1
  | .iface _ d => uptoBulk d + 1
  | .map entries => uptoBulkEntries entries + 1
  | .held _ => 1
def uptoBulkAll {H : Type} : List (DataW H) → Nat
  | [] => 0
  | d :: r => uptoBulk d + uptoBulkAll r
def uptoBulkEntries {H : Type} : List (Lit × DataW H) → Nat
  | [] => 0
  | x :: r => uptoBulkEntry x + uptoBulkEntries r
def uptoBulkEntry {H : Type} : Lit × DataW H → Nat
  | (.string bytes, d) => bytes.length + uptoBulk d + 1
  | (_, d) => uptoBulk d + 1
 end
def uptoSmall : (H : Type) → List (DataW H) → Bool := fun _ ds => decide (uptoBulkAll ds ≤ 1048576)
def OpenSpec.upto (s : _root_.Go.ChangeSpec) : _root_.Go.OpenSpec := { _root_.Go.OpenSpec.ofChange s with cond := some uptoSmall }

/-- 'azalailaw02.BrandTallies', WHERE WHAT IT READS IS OF BULK AT MOST 1048576: true; the input reads as it did. -/
def brandTalliesUptoRow : OpenClaim := { program := "ytimbhebamjnfmaa", sum := "7eb0075814915738e345c65a215197d83fa5a10149cdd9372c04fb1fffae518e", func := "azalai/azalailaw02.BrandTallies", spec := "brandTallies", unfollowed := true, recurses := true, apart := false, narrowed := true }
def BrandTalliesUptoSaid : Prop := brandTalliesUptoRow.holds Try.pinned (OpenSpec.upto brandTalliesSpec)

/-- 'azalailaw03.WayTrue', WHERE WHAT IT READS IS OF BULK AT MOST 1048576: true; the input reads as it did. -/
def wayTrueUptoRow : OpenClaim := { program := "ytimbhebamjnfmaa", sum := "7eb0075814915738e345c65a215197d83fa5a10149cdd9372c04fb1fffae518e", func := "azalai/azalailaw03.WayTrue", spec := "wayTrue", unfollowed := true, recurses := true, apart := false, narrowed := true }
def WayTrueUptoSaid : Prop := wayTrueUptoRow.holds Try.pinned (OpenSpec.upto wayTrueSpec)

/-- 'azalailaw03.WayGate', WHERE WHAT IT READS IS OF BULK AT MOST 1048576: true; the input reads as it did. -/
def wayGateUptoRow : OpenClaim := { program := "ytimbhebamjnfmaa", sum := "7eb0075814915738e345c65a215197d83fa5a10149cdd9372c04fb1fffae518e", func := "azalai/azalailaw03.WayGate", spec := "wayGate", unfollowed := true, recurses := true, apart := false, narrowed := true }
def WayGateUptoSaid : Prop := wayGateUptoRow.holds Try.pinned (OpenSpec.upto wayGateSpec)

/-- 'azalailaw04.GuideClash', WHERE WHAT IT READS IS OF BULK AT MOST 1048576: true; the input reads as it did. -/
def guideClashUptoRow : OpenClaim := { program := "ytimbhebamjnfmaa", sum := "7eb0075814915738e345c65a215197d83fa5a10149cdd9372c04fb1fffae518e", func := "azalai/azalailaw04.GuideClash", spec := "guideClash", unfollowed := true, recurses := true, apart := false, narrowed := true }
def GuideClashUptoSaid : Prop := guideClashUptoRow.holds Try.pinned (OpenSpec.upto guideClashSpec)

/-- 'azalaitop.TopHome', WHERE WHAT IT READS IS OF BULK AT MOST 1048576: true; the input reads as it did. -/
def topHomeUptoRow : OpenClaim := { program := "ytimbhebamjnfmaa", sum := "7eb0075814915738e345c65a215197d83fa5a10149cdd9372c04fb1fffae518e", func := "azalai/azalaitop.TopHome", spec := "topHome", unfollowed := true, recurses := true, apart := false, narrowed := true }
def TopHomeUptoSaid : Prop := topHomeUptoRow.holds Try.pinned (OpenSpec.upto topHomeSpec)

/-- 'azalaitop.TopThirsty', WHERE WHAT IT READS IS OF BULK AT MOST 1048576: true; the input reads as it did. -/
def topThirstyUptoRow : OpenClaim := { program := "ytimbhebamjnfmaa", sum := "7eb0075814915738e345c65a215197d83fa5a10149cdd9372c04fb1fffae518e", func := "azalai/azalaitop.TopThirsty", spec := "topThirsty", unfollowed := true, recurses := true, apart := false, narrowed := true }
def TopThirstyUptoSaid : Prop := topThirstyUptoRow.holds Try.pinned (OpenSpec.upto topThirstySpec)

end Rows
end Go.Proofs.Ytimbhebamjnfmaa
