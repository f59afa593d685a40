/-
  No cell of these rows narrows 'for every input' (looked for: loops, veiled, ifaces, maps, wideKeys, modest, calm, conditions, laid).
  DERIVED. THE GIVEN ROWS OF THIS SEAT. 5 by the template 'for every input the law returns true; each argument reads behind the call as it read before'; 0 by the template 'total and deterministic' (their statements: YtgmnnpecihcdhabTotals.lean).
  GIVEN WITH THE SEED: the statements are not yours to turn. If you find one false, say at which input.
  Laid BY PROGRAM, IN A SANDBOX (cutbox-rows.mjs): the forced cells as the released guide's own fill.sh prints them over the translation 600dc68667eda252… (all of the seat's roots in one cut). By AI agents, Wed Nov 11 2026. No macro, syntax, notation, axiom, sorry.
-/
import Derived.Test.YtgmnnpecihcdhabChecked
import GoSem.Claim
import GoSem.ClaimJoined
import GoSem.ClaimMapViews
import Derived.JoinedTies
import Derived.KernelRfl
namespace Go.Proofs.Ytgmnnpecihcdhab
/- THE CELL 'sum', in the pinned program and in every row, IS THE sha256 OF THE DUMP (.gsa) THAT YtgmnnpecihcdhabProg.lean LOADS. Nothing in Lean hashes anything: it is a label: what it is worth is what the hold of that sum in a sandbox is worth. -/
noncomputable def Try.pinned : Pinned := { name := "ytgmnnpecihcdhab", sum := "600dc68667eda252cddce47c9c26987ce79ad092febc041585ac5a0abbf28c05", checked := Try.checked }
namespace Rows
def none {H : Type} : Left H := { results := [], args := [] }

/-- 'cuboidlaw08.BagTells': WHATEVER THE INPUT: true; the input reads as it did. -/
def bagTellsSpec : ChangeSpec := { name := "bagTells", fn := fun _ => fun
  | [d1, d2, d3] => { results := [.lit (.bool true)], args := [d1, d2, d3] }
  | _ => none }
def bagTellsRow : OpenClaim := { program := "ytgmnnpecihcdhab", sum := "600dc68667eda252cddce47c9c26987ce79ad092febc041585ac5a0abbf28c05", func := "cuboid/cuboidlaw08.BagTells", spec := "bagTells", inPlace := ["math/bits.Sub64"], unfollowed := true, recurses := true, apart := false }
def BagTellsSaid : Prop := bagTellsRow.holds Try.pinned (OpenSpec.ofChange bagTellsSpec)

/-- ITS FALSE NEIGHBOUR: 'it returns false'. Refute it at one input. -/
def bagTellsWrong : ChangeSpec := { name := "bagTells", fn := fun _ => fun
  | [d1, d2, d3] => { results := [.lit (.bool false)], args := [d1, d2, d3] }
  | _ => none }
def BagTellsWrongFalsely : Prop := bagTellsRow.holds Try.pinned (OpenSpec.ofChange bagTellsWrong)

/-- 'cuboidlaw08.BagOf': WHATEVER THE INPUT: true; the input reads as it did. -/
def bagOfSpec : ChangeSpec := { name := "bagOf", fn := fun _ => fun
  | [d1, d2] => { results := [.lit (.bool true)], args := [d1, d2] }
  | _ => none }
def bagOfRow : OpenClaim := { program := "ytgmnnpecihcdhab", sum := "600dc68667eda252cddce47c9c26987ce79ad092febc041585ac5a0abbf28c05", func := "cuboid/cuboidlaw08.BagOf", spec := "bagOf", inPlace := ["math/bits.Sub64", "math/bits.Add64"], unfollowed := true, recurses := true, apart := false }
def BagOfSaid : Prop := bagOfRow.holds Try.pinned (OpenSpec.ofChange bagOfSpec)

/-- ITS FALSE NEIGHBOUR: 'it returns false'. Refute it at one input. -/
def bagOfWrong : ChangeSpec := { name := "bagOf", fn := fun _ => fun
  | [d1, d2] => { results := [.lit (.bool false)], args := [d1, d2] }
  | _ => none }
def BagOfWrongFalsely : Prop := bagOfRow.holds Try.pinned (OpenSpec.ofChange bagOfWrong)

/-- 'cuboidlaw08.BagBack': WHATEVER THE INPUT: true; the input reads as it did. -/
def bagBackSpec : ChangeSpec := { name := "bagBack", fn := fun _ => fun
  | [d1, d2] => { results := [.lit (.bool true)], args := [d1, d2] }
  | _ => none }
def bagBackRow : OpenClaim := { program := "ytgmnnpecihcdhab", sum := "600dc68667eda252cddce47c9c26987ce79ad092febc041585ac5a0abbf28c05", func := "cuboid/cuboidlaw08.BagBack", spec := "bagBack", inPlace := ["math/bits.Sub64"], unfollowed := true, recurses := true, apart := false }
def BagBackSaid : Prop := bagBackRow.holds Try.pinned (OpenSpec.ofChange bagBackSpec)

/-- ITS FALSE NEIGHBOUR: 'it returns false'. Refute it at one input. -/
def bagBackWrong : ChangeSpec := { name := "bagBack", fn := fun _ => fun
  | [d1, d2] => { results := [.lit (.bool false)], args := [d1, d2] }
  | _ => none }
def BagBackWrongFalsely : Prop := bagBackRow.holds Try.pinned (OpenSpec.ofChange bagBackWrong)

/-- 'cuboidlaw08.BagEnds': WHATEVER THE INPUT: true; the input reads as it did. -/
def bagEndsSpec : ChangeSpec := { name := "bagEnds", fn := fun _ => fun
  | [d] => { results := [.lit (.bool true)], args := [d] }
  | _ => none }
def bagEndsRow : OpenClaim := { program := "ytgmnnpecihcdhab", sum := "600dc68667eda252cddce47c9c26987ce79ad092febc041585ac5a0abbf28c05", func := "cuboid/cuboidlaw08.BagEnds", spec := "bagEnds", inPlace := ["math/bits.Sub64"], unfollowed := true, recurses := true, apart := false }
def BagEndsSaid : Prop := bagEndsRow.holds Try.pinned (OpenSpec.ofChange bagEndsSpec)

/-- ITS FALSE NEIGHBOUR: 'it returns false'. Refute it at one input. -/
def bagEndsWrong : ChangeSpec := { name := "bagEnds", fn := fun _ => fun
  | [d] => { results := [.lit (.bool false)], args := [d] }
  | _ => none }
def BagEndsWrongFalsely : Prop := bagEndsRow.holds Try.pinned (OpenSpec.ofChange bagEndsWrong)

/-- 'cuboidlaw08.BagMany': WHATEVER THE INPUT: true; the input reads as it did. -/
def bagManySpec : ChangeSpec := { name := "bagMany", fn := fun _ => fun
  | [d1, d2, d3] => { results := [.lit (.bool true)], args := [d1, d2, d3] }
  | _ => none }
def bagManyRow : OpenClaim := { program := "ytgmnnpecihcdhab", sum := "600dc68667eda252cddce47c9c26987ce79ad092febc041585ac5a0abbf28c05", func := "cuboid/cuboidlaw08.BagMany", spec := "bagMany", inPlace := ["math/bits.Sub64"], unfollowed := true, recurses := true, apart := false }
def BagManySaid : Prop := bagManyRow.holds Try.pinned (OpenSpec.ofChange bagManySpec)

/-- ITS FALSE NEIGHBOUR: 'it returns false'. Refute it at one input. -/
def bagManyWrong : ChangeSpec := { name := "bagMany", fn := fun _ => fun
  | [d1, d2, d3] => { results := [.lit (.bool false)], args := [d1, d2, d3] }
  | _ => none }
def BagManyWrongFalsely : Prop := bagManyRow.holds Try.pinned (OpenSpec.ofChange bagManyWrong)

/- THE SECOND FORM. 'bulk': how many values and letters a reading holds, each counted each time it is reached (what is shared counts as often as it is met; a slice's spare places count too). A statement '..UptoSaid' is the law's where the arguments, and the package variables that the reading takes, are together of bulk at most 1048576: NARROWER than '..Said'. Prove '..Said' where nothing that the law and all that it calls make is longer than what came in: it says more and counts as full. Else prove '..UptoSaid'. A law counts once. -/
mutual
def uptoBulk {H : Type} : DataW H → Nat
  | .lit (.string bytes) => bytes.length + 1
  | .lit _ => 1
  | .nil => 1
  | .ptr d => uptoBulk d + 1
  | .slice elems spare => uptoBulkAll elems + uptoBulkAll spare + 1
  | .agg parts => uptoBulkAll parts + 1
  | .iface _ d => uptoBulk d + 1
  | .map entries => uptoBulkEntries entries + 1
  | .held _ => 1
def uptoBulkAll {H : Type} : List (DataW H) → Nat
  | [] => 0
  | d :: r => uptoBulk d + uptoBulkAll r
def uptoBulkEntries {H : Type} : List (Lit × DataW H) → Nat
  | [] => 0
  | x :: r => uptoBulkEntry x + uptoBulkEntries r
def uptoBulkEntry {H : Type} : Lit × DataW H → Nat
  | (.string bytes, d) => bytes.length + uptoBulk d + 1
  | (_, d) => uptoBulk d + 1
 end
def uptoSmall : (H : Type) → List (DataW H) → Bool := fun _ ds => decide (uptoBulkAll ds ≤ 1048576)
def OpenSpec.upto (s : _root_.Go.ChangeSpec) : _root_.Go.OpenSpec := { _root_.Go.OpenSpec.ofChange s with cond := some uptoSmall }

/-- 'cuboidlaw08.BagTells', WHERE WHAT IT READS IS OF BULK AT MOST 1048576: true; the input reads as it did. -/
def bagTellsUptoRow : OpenClaim := { program := "ytgmnnpecihcdhab", sum := "600dc68667eda252cddce47c9c26987ce79ad092febc041585ac5a0abbf28c05", func := "cuboid/cuboidlaw08.BagTells", spec := "bagTells", inPlace := ["math/bits.Sub64"], unfollowed := true, recurses := true, apart := false, narrowed := true }
def BagTellsUptoSaid : Prop := bagTellsUptoRow.holds Try.pinned (OpenSpec.upto bagTellsSpec)

/-- 'cuboidlaw08.BagOf', WHERE WHAT IT READS IS OF BULK AT MOST 1048576: true; the input reads as it did. -/
def bagOfUptoRow : OpenClaim := { program := "ytgmnnpecihcdhab", sum := "600dc68667eda252cddce47c9c26987ce79ad092febc041585ac5a0abbf28c05", func := "cuboid/cuboidlaw08.BagOf", spec := "bagOf", inPlace := ["math/bits.Sub64", "math/bits.Add64"], unfollowed := true, recurses := true, apart := false, narrowed := true }
def BagOfUptoSaid : Prop := bagOfUptoRow.holds Try.pinned (OpenSpec.upto bagOfSpec)

/-- 'cuboidlaw08.BagBack', WHERE WHAT IT READS IS OF BULK AT MOST 1048576: true; the input reads as it did. -/
def bagBackUptoRow : OpenClaim := { program := "ytgmnnpecihcdhab", sum := "600dc68667eda252cddce47c9c26987ce79ad092febc041585ac5a0abbf28c05", func := "cuboid/cuboidlaw08.BagBack", spec := "bagBack", inPlace := ["math/bits.Sub64"], unfollowed := true, recurses := true, apart := false, narrowed := true }
def BagBackUptoSaid : Prop := bagBackUptoRow.holds Try.pinned (OpenSpec.upto bagBackSpec)

/-- 'cuboidlaw08.BagEnds', WHERE WHAT IT READS IS OF BULK AT MOST 1048576: true; the input reads as it did. -/
def bagEndsUptoRow : OpenClaim := { program := "ytgmnnpecihcdhab", sum := "600dc68667eda252cddce47c9c26987ce79ad092febc041585ac5a0abbf28c05", func := "cuboid/cuboidlaw08.BagEnds", spec := "bagEnds", inPlace := ["math/bits.Sub64"], unfollowed := true, recurses := true, apart := false, narrowed := true }
def BagEndsUptoSaid : Prop := bagEndsUptoRow.holds Try.pinned (OpenSpec.upto bagEndsSpec)

/-- 'cuboidlaw08.BagMany', WHERE WHAT IT READS IS OF BULK AT MOST 1048576: true; the input reads as it did. -/
def bagManyUptoRow : OpenClaim := { program := "ytgmnnpecihcdhab", sum := "600dc68667eda252cddce47c9c26987ce79ad092febc041585ac5a0abbf28c05", func := "cuboid/cuboidlaw08.BagMany", spec := "bagMany", inPlace := ["math/bits.Sub64"], unfollowed := true, recurses := true, apart := false, narrowed := true }
def BagManyUptoSaid : Prop := bagManyUptoRow.holds Try.pinned (OpenSpec.upto bagManySpec)

end Rows
end Go.Proofs.Ytgmnnpecihcdhab
