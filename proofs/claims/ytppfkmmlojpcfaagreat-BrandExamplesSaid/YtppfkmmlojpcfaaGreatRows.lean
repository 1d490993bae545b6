/-
  No cell of these rows narrows 'for every input' (looked for: loops, veiled, ifaces, maps, wideKeys, modest, calm, conditions, laid).
  DERIVED. THE GIVEN ROWS OF THIS SEAT. 3 by the template 'for every input the law returns true; each argument reads behind the call as it read before'; 0 by the template 'total and deterministic' (their statements: YtppfkmmlojpcfaaGreatTotals.lean).
  GIVEN WITH THE SEED: the statements are not yours to turn. If you find one false, say at which input.
  Laid BY PROGRAM, IN A SANDBOX (cutbox-rows.mjs): the forced cells as the released guide's own fill.sh prints them over the translation 594fcec4ad399af1… (all of the seat's roots in one cut). By AI agents, Wed Nov 11 2026. No macro, syntax, notation, axiom, sorry.
-/
import Derived.Test.YtppfkmmlojpcfaaGreatChecked
import GoSem.Claim
import GoSem.ClaimJoined
import GoSem.ClaimMapViews
import Derived.JoinedTies
import Derived.KernelRfl
namespace Go.Proofs.YtppfkmmlojpcfaaGreat
/- THE CELL 'sum', in the pinned program and in every row, IS THE sha256 OF THE DUMP (.gsa) THAT YtppfkmmlojpcfaaGreatProg.lean LOADS. Nothing in Lean hashes anything: it is a label: what it is worth is what the hold of that sum in a sandbox is worth. -/
noncomputable def Tryz.pinned : Pinned := { name := "ytppfkmmlojpcfaagreat", sum := "594fcec4ad399af1d490b02f09d8f00350c48c1e9fda98f25d3a8f7e58c3e210", checked := Tryz.checked }
namespace Rows
def none {H : Type} : Left H := { results := [], args := [] }

/-- 'azalailaw02.BrandExamples': WHATEVER THE INPUT: true; the input reads as it did. -/
def brandExamplesSpec : ChangeSpec := { name := "brandExamples", fn := fun _ => fun
  | [] => { results := [.lit (.bool true)], args := [] }
  | _ => none }
def brandExamplesRow : OpenClaim := { program := "ytppfkmmlojpcfaagreat", sum := "594fcec4ad399af1d490b02f09d8f00350c48c1e9fda98f25d3a8f7e58c3e210", func := "azalai/azalailaw02.BrandExamples", spec := "brandExamples", unfollowed := true, recurses := true, apart := false }
def BrandExamplesSaid : Prop := brandExamplesRow.holds Tryz.pinned (OpenSpec.ofChange brandExamplesSpec)

/-- ITS FALSE NEIGHBOUR: 'it returns false'. Refute it at one input. -/
def brandExamplesWrong : ChangeSpec := { name := "brandExamples", fn := fun _ => fun
  | [] => { results := [.lit (.bool false)], args := [] }
  | _ => none }
def BrandExamplesWrongFalsely : Prop := brandExamplesRow.holds Tryz.pinned (OpenSpec.ofChange brandExamplesWrong)

/-- 'azalailaw05.LoadExamples': WHATEVER THE INPUT: true; the input reads as it did. -/
def loadExamplesSpec : ChangeSpec := { name := "loadExamples", fn := fun _ => fun
  | [] => { results := [.lit (.bool true)], args := [] }
  | _ => none }
def loadExamplesRow : OpenClaim := { program := "ytppfkmmlojpcfaagreat", sum := "594fcec4ad399af1d490b02f09d8f00350c48c1e9fda98f25d3a8f7e58c3e210", func := "azalai/azalailaw05.LoadExamples", spec := "loadExamples", unfollowed := true, recurses := true, apart := false }
def LoadExamplesSaid : Prop := loadExamplesRow.holds Tryz.pinned (OpenSpec.ofChange loadExamplesSpec)

/-- ITS FALSE NEIGHBOUR: 'it returns false'. Refute it at one input. -/
def loadExamplesWrong : ChangeSpec := { name := "loadExamples", fn := fun _ => fun
  | [] => { results := [.lit (.bool false)], args := [] }
  | _ => none }
def LoadExamplesWrongFalsely : Prop := loadExamplesRow.holds Tryz.pinned (OpenSpec.ofChange loadExamplesWrong)

/-- 'azalailaw07.TollExamples': WHATEVER THE INPUT: true; the input reads as it did. -/
def tollExamplesSpec : ChangeSpec := { name := "tollExamples", fn := fun _ => fun
  | [] => { results := [.lit (.bool true)], args := [] }
  | _ => none }
def tollExamplesRow : OpenClaim := { program := "ytppfkmmlojpcfaagreat", sum := "594fcec4ad399af1d490b02f09d8f00350c48c1e9fda98f25d3a8f7e58c3e210", func := "azalai/azalailaw07.TollExamples", spec := "tollExamples", unfollowed := true, recurses := true, apart := false }
def TollExamplesSaid : Prop := tollExamplesRow.holds Tryz.pinned (OpenSpec.ofChange tollExamplesSpec)

/-- ITS FALSE NEIGHBOUR: 'it returns false'. Refute it at one input. -/
def tollExamplesWrong : ChangeSpec := { name := "tollExamples", fn := fun _ => fun
  | [] => { results := [.lit (.bool false)], args := [] }
  | _ => none }
def TollExamplesWrongFalsely : Prop := tollExamplesRow.holds Tryz.pinned (OpenSpec.ofChange tollExamplesWrong)

/- THE SECOND FORM. 'bulk': how many values and letters a reading holds, each counted each time it is reached (what is shared counts as often as it is met; a slice's spare places count too). A statement '..UptoSaid' is the law's where the arguments, and the package variables that the reading takes, are together of bulk at most 1048576: NARROWER than '..Said'. Prove '..Said' where nothing that the law and all that it calls make is longer than what came in: it says more and counts as full. Else prove '..UptoSaid'. A law counts once. -/
mutual
def uptoBulk {H : Type} : DataW H → Nat
  | .lit (.string bytes) => bytes.length + 1
  | .lit _ => 1
  | .nil => 1
  | .ptr d => uptoBulk d + 1
  | .slice elems spare => uptoBulkAll elems + uptoBulkAll spare + 1
  | .agg parts => uptoBulkAll parts + 1
  | .iface _ d => uptoBulk d + 1
  | .map entries => uptoBulkEntries entries + 1
  | .held _ => 1
def uptoBulkAll {H : Type} : List (DataW H) → Nat
  | [] => 0
  | d :: r => uptoBulk d + uptoBulkAll r
def uptoBulkEntries {H : Type} : List (Lit × DataW H) → Nat
  | [] => 0
  | x :: r => uptoBulkEntry x + uptoBulkEntries r
def uptoBulkEntry {H : Type} : Lit × DataW H → Nat
  | (.string bytes, d) => bytes.length + uptoBulk d + 1
  | (_, d) => uptoBulk d + 1
 end
def uptoSmall : (H : Type) → List (DataW H) → Bool := fun _ ds => decide (uptoBulkAll ds ≤ 1048576)
def OpenSpec.upto (s : _root_.Go.ChangeSpec) : _root_.Go.OpenSpec := { _root_.Go.OpenSpec.ofChange s with cond := some uptoSmall }

/-- 'azalailaw02.BrandExamples', WHERE WHAT IT READS IS OF BULK AT MOST 1048576: true; the input reads as it did. -/
def brandExamplesUptoRow : OpenClaim := { program := "ytppfkmmlojpcfaagreat", sum := "594fcec4ad399af1d490b02f09d8f00350c48c1e9fda98f25d3a8f7e58c3e210", func := "azalai/azalailaw02.BrandExamples", spec := "brandExamples", unfollowed := true, recurses := true, apart := false, narrowed := true }
def BrandExamplesUptoSaid : Prop := brandExamplesUptoRow.holds Tryz.pinned (OpenSpec.upto brandExamplesSpec)

/-- 'azalailaw05.LoadExamples', WHERE WHAT IT READS IS OF BULK AT MOST 1048576: true; the input reads as it did. -/
def loadExamplesUptoRow : OpenClaim := { program := "ytppfkmmlojpcfaagreat", sum := "594fcec4ad399af1d490b02f09d8f00350c48c1e9fda98f25d3a8f7e58c3e210", func := "azalai/azalailaw05.LoadExamples", spec := "loadExamples", unfollowed := true, recurses := true, apart := false, narrowed := true }
def LoadExamplesUptoSaid : Prop := loadExamplesUptoRow.holds Tryz.pinned (OpenSpec.upto loadExamplesSpec)

/-- 'azalailaw07.TollExamples', WHERE WHAT IT READS IS OF BULK AT MOST 1048576: true; the input reads as it did. -/
def tollExamplesUptoRow : OpenClaim := { program := "ytppfkmmlojpcfaagreat", sum := "594fcec4ad399af1d490b02f09d8f00350c48c1e9fda98f25d3a8f7e58c3e210", func := "azalai/azalailaw07.TollExamples", spec := "tollExamples", unfollowed := true, recurses := true, apart := false, narrowed := true }
def TollExamplesUptoSaid : Prop := tollExamplesUptoRow.holds Tryz.pinned (OpenSpec.upto tollExamplesSpec)

end Rows
end Go.Proofs.YtppfkmmlojpcfaaGreat
