/-
  No cell of these rows narrows 'for every input' (looked for: loops, veiled, ifaces, maps, wideKeys, modest, calm, conditions, laid).
  DERIVED. THE GIVEN ROWS OF THIS SEAT. 3 by the template 'for every input the law returns true; each argument reads behind the call as it read before'; 0 by the template 'total and deterministic' (their statements: YtecgohommehdpaaGreatTotals.lean).
  GIVEN WITH THE SEED: the statements are not yours to turn. If you find one false, say at which input.
  Laid BY PROGRAM, IN A SANDBOX (cutbox-rows.mjs): the forced cells as the released guide's own fill.sh prints them over the translation 4b9a09f47495f0fe… (all of the seat's roots in one cut). By AI agents, Wed Nov 11 2026. No macro, syntax, notation, axiom, sorry.
-/
import Derived.Test.YtecgohommehdpaaGreatChecked
import GoSem.Claim
import GoSem.ClaimJoined
import GoSem.ClaimMapViews
import Derived.JoinedTies
import Derived.KernelRfl
namespace Go.Proofs.YtecgohommehdpaaGreat
/- THE CELL 'sum', in the pinned program and in every row, IS THE sha256 OF THE DUMP (.gsa) THAT YtecgohommehdpaaGreatProg.lean LOADS. Nothing in Lean hashes anything: it is a label: what it is worth is what the hold of that sum in a sandbox is worth. -/
noncomputable def Tryz.pinned : Pinned := { name := "ytecgohommehdpaagreat", sum := "4b9a09f47495f0fee18621ed98d8462d4ac7e8baf3773ef66255f6ff4991481e", checked := Tryz.checked }
namespace Rows
def none {H : Type} : Left H := { results := [], args := [] }

/-- 'azalailaw02.BrandCounted': WHATEVER THE INPUT: true; the input reads as it did. -/
def brandCountedSpec : ChangeSpec := { name := "brandCounted", fn := fun _ => fun
  | [d1, d2, d3] => { results := [.lit (.bool true)], args := [d1, d2, d3] }
  | _ => none }
def brandCountedRow : OpenClaim := { program := "ytecgohommehdpaagreat", sum := "4b9a09f47495f0fee18621ed98d8462d4ac7e8baf3773ef66255f6ff4991481e", func := "azalai/azalailaw02.BrandCounted", spec := "brandCounted", unfollowed := true, recurses := true, apart := false }
def BrandCountedSaid : Prop := brandCountedRow.holds Tryz.pinned (OpenSpec.ofChange brandCountedSpec)

/-- ITS FALSE NEIGHBOUR: 'it returns false'. Refute it at one input. -/
def brandCountedWrong : ChangeSpec := { name := "brandCounted", fn := fun _ => fun
  | [d1, d2, d3] => { results := [.lit (.bool false)], args := [d1, d2, d3] }
  | _ => none }
def BrandCountedWrongFalsely : Prop := brandCountedRow.holds Tryz.pinned (OpenSpec.ofChange brandCountedWrong)

/-- 'azalailaw02.BrandReached': WHATEVER THE INPUT: true; the input reads as it did. -/
def brandReachedSpec : ChangeSpec := { name := "brandReached", fn := fun _ => fun
  | [d1, d2, d3, d4] => { results := [.lit (.bool true)], args := [d1, d2, d3, d4] }
  | _ => none }
def brandReachedRow : OpenClaim := { program := "ytecgohommehdpaagreat", sum := "4b9a09f47495f0fee18621ed98d8462d4ac7e8baf3773ef66255f6ff4991481e", func := "azalai/azalailaw02.BrandReached", spec := "brandReached", unfollowed := true, recurses := true, apart := false }
def BrandReachedSaid : Prop := brandReachedRow.holds Tryz.pinned (OpenSpec.ofChange brandReachedSpec)

/-- ITS FALSE NEIGHBOUR: 'it returns false'. Refute it at one input. -/
def brandReachedWrong : ChangeSpec := { name := "brandReached", fn := fun _ => fun
  | [d1, d2, d3, d4] => { results := [.lit (.bool false)], args := [d1, d2, d3, d4] }
  | _ => none }
def BrandReachedWrongFalsely : Prop := brandReachedRow.holds Tryz.pinned (OpenSpec.ofChange brandReachedWrong)

/-- 'azalaitop.TopWatered': WHATEVER THE INPUT: true; the input reads as it did. -/
def topWateredSpec : ChangeSpec := { name := "topWatered", fn := fun _ => fun
  | [d1, d2, d3, d4, d5, d6, d7] => { results := [.lit (.bool true)], args := [d1, d2, d3, d4, d5, d6, d7] }
  | _ => none }
def topWateredRow : OpenClaim := { program := "ytecgohommehdpaagreat", sum := "4b9a09f47495f0fee18621ed98d8462d4ac7e8baf3773ef66255f6ff4991481e", func := "azalai/azalaitop.TopWatered", spec := "topWatered", unfollowed := true, recurses := true, apart := false }
def TopWateredSaid : Prop := topWateredRow.holds Tryz.pinned (OpenSpec.ofChange topWateredSpec)

/-- ITS FALSE NEIGHBOUR: 'it returns false'. Refute it at one input. -/
def topWateredWrong : ChangeSpec := { name := "topWatered", fn := fun _ => fun
  | [d1, d2, d3, d4, d5, d6, d7] => { results := [.lit (.bool false)], args := [d1, d2, d3, d4, d5, d6, d7] }
  | _ => none }
def TopWateredWrongFalsely : Prop := topWateredRow.holds Tryz.pinned (OpenSpec.ofChange topWateredWrong)

/- THE SECOND FORM. 'bulk': how many values and letters a reading holds, each counted each time it is reached (what is shared counts as often as it is met; a slice's spare places count too). A statement '..UptoSaid' is the law's where the arguments, and the package variables that the reading takes, are together of bulk at most 1048576: NARROWER than '..Said'. Prove '..Said' where nothing that the law and all that it calls make is longer than what came in: it says more and counts as full. Else prove '..UptoSaid'. A law counts once. -/
mutual
def uptoBulk {H : Type} : DataW H → Nat
  | .lit (.string bytes) => bytes.length + 1
  | .lit _ => 1
  | .nil => 1
  | .ptr d => uptoBulk d + 1
  | .slice elems spare => uptoBulkAll elems + uptoBulkAll spare + 1
  | .agg parts => uptoBulkAll parts + 1
  | .iface _ d => uptoBulk d + 1
  | .map entries => uptoBulkEntries entries + 1
  | .held _ => 1
def uptoBulkAll {H : Type} : List (DataW H) → Nat
  | [] => 0
  | d :: r => uptoBulk d + uptoBulkAll r
def uptoBulkEntries {H : Type} : List (Lit × DataW H) → Nat
  | [] => 0
  | x :: r => uptoBulkEntry x + uptoBulkEntries r
def uptoBulkEntry {H : Type} : Lit × DataW H → Nat
  | (.string bytes, d) => bytes.length + uptoBulk d + 1
  | (_, d) => uptoBulk d + 1
 end
def uptoSmall : (H : Type) → List (DataW H) → Bool := fun _ ds => decide (uptoBulkAll ds ≤ 1048576)
def OpenSpec.upto (s : _root_.Go.ChangeSpec) : _root_.Go.OpenSpec := { _root_.Go.OpenSpec.ofChange s with cond := some uptoSmall }

/-- 'azalailaw02.BrandCounted', WHERE WHAT IT READS IS OF BULK AT MOST 1048576: true; the input reads as it did. -/
def brandCountedUptoRow : OpenClaim := { program := "ytecgohommehdpaagreat", sum := "4b9a09f47495f0fee18621ed98d8462d4ac7e8baf3773ef66255f6ff4991481e", func := "azalai/azalailaw02.BrandCounted", spec := "brandCounted", unfollowed := true, recurses := true, apart := false, narrowed := true }
def BrandCountedUptoSaid : Prop := brandCountedUptoRow.holds Tryz.pinned (OpenSpec.upto brandCountedSpec)

/-- 'azalailaw02.BrandReached', WHERE WHAT IT READS IS OF BULK AT MOST 1048576: true; the input reads as it did. -/
def brandReachedUptoRow : OpenClaim := { program := "ytecgohommehdpaagreat", sum := "4b9a09f47495f0fee18621ed98d8462d4ac7e8baf3773ef66255f6ff4991481e", func := "azalai/azalailaw02.BrandReached", spec := "brandReached", unfollowed := true, recurses := true, apart := false, narrowed := true }
def BrandReachedUptoSaid : Prop := brandReachedUptoRow.holds Tryz.pinned (OpenSpec.upto brandReachedSpec)

/-- 'azalaitop.TopWatered', WHERE WHAT IT READS IS OF BULK AT MOST 1048576: true; the input reads as it did. -/
def topWateredUptoRow : OpenClaim := { program := "ytecgohommehdpaagreat", sum := "4b9a09f47495f0fee18621ed98d8462d4ac7e8baf3773ef66255f6ff4991481e", func := "azalai/azalaitop.TopWatered", spec := "topWatered", unfollowed := true, recurses := true, apart := false, narrowed := true }
def TopWateredUptoSaid : Prop := topWateredUptoRow.holds Tryz.pinned (OpenSpec.upto topWateredSpec)

end Rows
end Go.Proofs.YtecgohommehdpaaGreat
