/-
  No cell of these rows narrows 'for every input' (looked for: loops, veiled, ifaces, maps, wideKeys, modest, calm, conditions, laid).
  DERIVED. THE GIVEN ROWS OF THIS SEAT. 6 by the template 'for every input the law returns true; each argument reads behind the call as it read before'; 0 by the template 'total and deterministic' (their statements: YtiailejekbnkgaaGreatTotals.lean).
  GIVEN WITH THE SEED: the statements are not yours to turn. If you find one false, say at which input.
  Laid BY PROGRAM, IN A SANDBOX (cutbox-rows.mjs): the forced cells as the released guide's own fill.sh prints them over the translation bcad21e5ffb8a54b… (all of the seat's roots in one cut). By AI agents, Wed Nov 11 2026. No macro, syntax, notation, axiom, sorry.
-/
import Derived.Test.YtiailejekbnkgaaGreatChecked
import GoSem.Claim
import GoSem.ClaimJoined
import GoSem.ClaimMapViews
import Derived.JoinedTies
import Derived.KernelRfl
namespace Go.Proofs.YtiailejekbnkgaaGreat
/- THE CELL 'sum', in the pinned program and in every row, IS THE sha256 OF THE DUMP (.gsa) THAT YtiailejekbnkgaaGreatProg.lean LOADS. Nothing in Lean hashes anything: it is a label: what it is worth is what the hold of that sum in a sandbox is worth. -/
noncomputable def Tryz.pinned : Pinned := { name := "ytiailejekbnkgaagreat", sum := "bcad21e5ffb8a54b60c50f274c607d438f3152390eee7a6451dc458ddb266254", checked := Tryz.checked }
namespace Rows
def none {H : Type} : Left H := { results := [], args := [] }

/-- 'azalailaw05.LoadTrue': WHATEVER THE INPUT: true; the input reads as it did. -/
def loadTrueSpec : ChangeSpec := { name := "loadTrue", fn := fun _ => fun
  | [d1, d2] => { results := [.lit (.bool true)], args := [d1, d2] }
  | _ => none }
def loadTrueRow : OpenClaim := { program := "ytiailejekbnkgaagreat", sum := "bcad21e5ffb8a54b60c50f274c607d438f3152390eee7a6451dc458ddb266254", func := "azalai/azalailaw05.LoadTrue", spec := "loadTrue", unfollowed := true, recurses := true, apart := false }
def LoadTrueSaid : Prop := loadTrueRow.holds Tryz.pinned (OpenSpec.ofChange loadTrueSpec)

/-- ITS FALSE NEIGHBOUR: 'it returns false'. Refute it at one input. -/
def loadTrueWrong : ChangeSpec := { name := "loadTrue", fn := fun _ => fun
  | [d1, d2] => { results := [.lit (.bool false)], args := [d1, d2] }
  | _ => none }
def LoadTrueWrongFalsely : Prop := loadTrueRow.holds Tryz.pinned (OpenSpec.ofChange loadTrueWrong)

/-- 'azalailaw05.LoadLess': WHATEVER THE INPUT: true; the input reads as it did. -/
def loadLessSpec : ChangeSpec := { name := "loadLess", fn := fun _ => fun
  | [d1, d2, d3, d4, d5, d6] => { results := [.lit (.bool true)], args := [d1, d2, d3, d4, d5, d6] }
  | _ => none }
def loadLessRow : OpenClaim := { program := "ytiailejekbnkgaagreat", sum := "bcad21e5ffb8a54b60c50f274c607d438f3152390eee7a6451dc458ddb266254", func := "azalai/azalailaw05.LoadLess", spec := "loadLess", unfollowed := true, recurses := true, apart := false }
def LoadLessSaid : Prop := loadLessRow.holds Tryz.pinned (OpenSpec.ofChange loadLessSpec)

/-- ITS FALSE NEIGHBOUR: 'it returns false'. Refute it at one input. -/
def loadLessWrong : ChangeSpec := { name := "loadLess", fn := fun _ => fun
  | [d1, d2, d3, d4, d5, d6] => { results := [.lit (.bool false)], args := [d1, d2, d3, d4, d5, d6] }
  | _ => none }
def LoadLessWrongFalsely : Prop := loadLessRow.holds Tryz.pinned (OpenSpec.ofChange loadLessWrong)

/-- 'azalailaw05.LoadLevel': WHATEVER THE INPUT: true; the input reads as it did. -/
def loadLevelSpec : ChangeSpec := { name := "loadLevel", fn := fun _ => fun
  | [d1, d2, d3, d4] => { results := [.lit (.bool true)], args := [d1, d2, d3, d4] }
  | _ => none }
def loadLevelRow : OpenClaim := { program := "ytiailejekbnkgaagreat", sum := "bcad21e5ffb8a54b60c50f274c607d438f3152390eee7a6451dc458ddb266254", func := "azalai/azalailaw05.LoadLevel", spec := "loadLevel", unfollowed := true, recurses := true, apart := false }
def LoadLevelSaid : Prop := loadLevelRow.holds Tryz.pinned (OpenSpec.ofChange loadLevelSpec)

/-- ITS FALSE NEIGHBOUR: 'it returns false'. Refute it at one input. -/
def loadLevelWrong : ChangeSpec := { name := "loadLevel", fn := fun _ => fun
  | [d1, d2, d3, d4] => { results := [.lit (.bool false)], args := [d1, d2, d3, d4] }
  | _ => none }
def LoadLevelWrongFalsely : Prop := loadLevelRow.holds Tryz.pinned (OpenSpec.ofChange loadLevelWrong)

/-- 'azalailaw05.LoadBears': WHATEVER THE INPUT: true; the input reads as it did. -/
def loadBearsSpec : ChangeSpec := { name := "loadBears", fn := fun _ => fun
  | [d1, d2, d3, d4, d5, d6] => { results := [.lit (.bool true)], args := [d1, d2, d3, d4, d5, d6] }
  | _ => none }
def loadBearsRow : OpenClaim := { program := "ytiailejekbnkgaagreat", sum := "bcad21e5ffb8a54b60c50f274c607d438f3152390eee7a6451dc458ddb266254", func := "azalai/azalailaw05.LoadBears", spec := "loadBears", unfollowed := true, recurses := true, apart := false }
def LoadBearsSaid : Prop := loadBearsRow.holds Tryz.pinned (OpenSpec.ofChange loadBearsSpec)

/-- ITS FALSE NEIGHBOUR: 'it returns false'. Refute it at one input. -/
def loadBearsWrong : ChangeSpec := { name := "loadBears", fn := fun _ => fun
  | [d1, d2, d3, d4, d5, d6] => { results := [.lit (.bool false)], args := [d1, d2, d3, d4, d5, d6] }
  | _ => none }
def LoadBearsWrongFalsely : Prop := loadBearsRow.holds Tryz.pinned (OpenSpec.ofChange loadBearsWrong)

/-- 'azalaitop.TopBears': WHATEVER THE INPUT: true; the input reads as it did. -/
def topBearsSpec : ChangeSpec := { name := "topBears", fn := fun _ => fun
  | [d1, d2, d3, d4, d5, d6] => { results := [.lit (.bool true)], args := [d1, d2, d3, d4, d5, d6] }
  | _ => none }
def topBearsRow : OpenClaim := { program := "ytiailejekbnkgaagreat", sum := "bcad21e5ffb8a54b60c50f274c607d438f3152390eee7a6451dc458ddb266254", func := "azalai/azalaitop.TopBears", spec := "topBears", unfollowed := true, recurses := true, apart := false }
def TopBearsSaid : Prop := topBearsRow.holds Tryz.pinned (OpenSpec.ofChange topBearsSpec)

/-- ITS FALSE NEIGHBOUR: 'it returns false'. Refute it at one input. -/
def topBearsWrong : ChangeSpec := { name := "topBears", fn := fun _ => fun
  | [d1, d2, d3, d4, d5, d6] => { results := [.lit (.bool false)], args := [d1, d2, d3, d4, d5, d6] }
  | _ => none }
def TopBearsWrongFalsely : Prop := topBearsRow.holds Tryz.pinned (OpenSpec.ofChange topBearsWrong)

/-- 'azalaitop.TopLeaks': WHATEVER THE INPUT: true; the input reads as it did. -/
def topLeaksSpec : ChangeSpec := { name := "topLeaks", fn := fun _ => fun
  | [d1, d2, d3, d4, d5, d6, d7] => { results := [.lit (.bool true)], args := [d1, d2, d3, d4, d5, d6, d7] }
  | _ => none }
def topLeaksRow : OpenClaim := { program := "ytiailejekbnkgaagreat", sum := "bcad21e5ffb8a54b60c50f274c607d438f3152390eee7a6451dc458ddb266254", func := "azalai/azalaitop.TopLeaks", spec := "topLeaks", unfollowed := true, recurses := true, apart := false }
def TopLeaksSaid : Prop := topLeaksRow.holds Tryz.pinned (OpenSpec.ofChange topLeaksSpec)

/-- ITS FALSE NEIGHBOUR: 'it returns false'. Refute it at one input. -/
def topLeaksWrong : ChangeSpec := { name := "topLeaks", fn := fun _ => fun
  | [d1, d2, d3, d4, d5, d6, d7] => { results := [.lit (.bool false)], args := [d1, d2, d3, d4, d5, d6, d7] }
  | _ => none }
def TopLeaksWrongFalsely : Prop := topLeaksRow.holds Tryz.pinned (OpenSpec.ofChange topLeaksWrong)

/- THE SECOND FORM. 'bulk': how many values and letters a reading holds, each counted each time it is reached (what is shared counts as often as it is met; a slice's spare places count too). A statement '..UptoSaid' is the law's where the arguments, and the package variables that the reading takes, are together of bulk at most 1048576: NARROWER than '..Said'. Prove '..Said' where nothing that the law and all that it calls make is longer than what came in: it says more and counts as full. Else prove '..UptoSaid'. A law counts once. -/
mutual
def uptoBulk {H : Type} : DataW H → Nat
  | .lit (.string bytes) => bytes.length + 1
  | .lit _ => 1
  | .nil => 1
  | .ptr d => uptoBulk d + 1
  | .slice elems spare => uptoBulkAll elems + uptoBulkAll spare + 1
  | .agg parts => uptoBulkAll parts + 1
  | .iface _ d => uptoBulk d + 1
  | .map entries => uptoBulkEntries entries + 1
  | .held _ => 1
def uptoBulkAll {H : Type} : List (DataW H) → Nat
  | [] => 0
  | d :: r => uptoBulk d + uptoBulkAll r
def uptoBulkEntries {H : Type} : List (Lit × DataW H) → Nat
  | [] => 0
  | x :: r => uptoBulkEntry x + uptoBulkEntries r
def uptoBulkEntry {H : Type} : Lit × DataW H → Nat
  | (.string bytes, d) => bytes.length + uptoBulk d + 1
  | (_, d) => uptoBulk d + 1
 end
def uptoSmall : (H : Type) → List (DataW H) → Bool := fun _ ds => decide (uptoBulkAll ds ≤ 1048576)
def OpenSpec.upto (s : _root_.Go.ChangeSpec) : _root_.Go.OpenSpec := { _root_.Go.OpenSpec.ofChange s with cond := some uptoSmall }

/-- 'azalailaw05.LoadTrue', WHERE WHAT IT READS IS OF BULK AT MOST 1048576: true; the input reads as it did. -/
def loadTrueUptoRow : OpenClaim := { program := "ytiailejekbnkgaagreat", sum := "bcad21e5ffb8a54b60c50f274c607d438f3152390eee7a6451dc458ddb266254", func := "azalai/azalailaw05.LoadTrue", spec := "loadTrue", unfollowed := true, recurses := true, apart := false, narrowed := true }
def LoadTrueUptoSaid : Prop := loadTrueUptoRow.holds Tryz.pinned (OpenSpec.upto loadTrueSpec)

/-- 'azalailaw05.LoadLess', WHERE WHAT IT READS IS OF BULK AT MOST 1048576: true; the input reads as it did. -/
def loadLessUptoRow : OpenClaim := { program := "ytiailejekbnkgaagreat", sum := "bcad21e5ffb8a54b60c50f274c607d438f3152390eee7a6451dc458ddb266254", func := "azalai/azalailaw05.LoadLess", spec := "loadLess", unfollowed := true, recurses := true, apart := false, narrowed := true }
def LoadLessUptoSaid : Prop := loadLessUptoRow.holds Tryz.pinned (OpenSpec.upto loadLessSpec)

/-- 'azalailaw05.LoadLevel', WHERE WHAT IT READS IS OF BULK AT MOST 1048576: true; the input reads as it did. -/
def loadLevelUptoRow : OpenClaim := { program := "ytiailejekbnkgaagreat", sum := "bcad21e5ffb8a54b60c50f274c607d438f3152390eee7a6451dc458ddb266254", func := "azalai/azalailaw05.LoadLevel", spec := "loadLevel", unfollowed := true, recurses := true, apart := false, narrowed := true }
def LoadLevelUptoSaid : Prop := loadLevelUptoRow.holds Tryz.pinned (OpenSpec.upto loadLevelSpec)

/-- 'azalailaw05.LoadBears', WHERE WHAT IT READS IS OF BULK AT MOST 1048576: true; the input reads as it did. -/
def loadBearsUptoRow : OpenClaim := { program := "ytiailejekbnkgaagreat", sum := "bcad21e5ffb8a54b60c50f274c607d438f3152390eee7a6451dc458ddb266254", func := "azalai/azalailaw05.LoadBears", spec := "loadBears", unfollowed := true, recurses := true, apart := false, narrowed := true }
def LoadBearsUptoSaid : Prop := loadBearsUptoRow.holds Tryz.pinned (OpenSpec.upto loadBearsSpec)

/-- 'azalaitop.TopBears', WHERE WHAT IT READS IS OF BULK AT MOST 1048576: true; the input reads as it did. -/
def topBearsUptoRow : OpenClaim := { program := "ytiailejekbnkgaagreat", sum := "bcad21e5ffb8a54b60c50f274c607d438f3152390eee7a6451dc458ddb266254", func := "azalai/azalaitop.TopBears", spec := "topBears", unfollowed := true, recurses := true, apart := false, narrowed := true }
def TopBearsUptoSaid : Prop := topBearsUptoRow.holds Tryz.pinned (OpenSpec.upto topBearsSpec)

/-- 'azalaitop.TopLeaks', WHERE WHAT IT READS IS OF BULK AT MOST 1048576: true; the input reads as it did. -/
def topLeaksUptoRow : OpenClaim := { program := "ytiailejekbnkgaagreat", sum := "bcad21e5ffb8a54b60c50f274c607d438f3152390eee7a6451dc458ddb266254", func := "azalai/azalaitop.TopLeaks", spec := "topLeaks", unfollowed := true, recurses := true, apart := false, narrowed := true }
def TopLeaksUptoSaid : Prop := topLeaksUptoRow.holds Tryz.pinned (OpenSpec.upto topLeaksSpec)

end Rows
end Go.Proofs.YtiailejekbnkgaaGreat
