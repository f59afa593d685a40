/-
  No cell of these rows narrows 'for every input' (looked for: loops, veiled, ifaces, maps, wideKeys, modest, calm, conditions, laid).
  DERIVED. THE GIVEN ROWS OF THIS SEAT. 6 by the template 'for every input the law returns true; each argument reads behind the call as it read before'; 0 by the template 'total and deterministic' (their statements: YtpjagedoddmpbaaTotals.lean).
  GIVEN WITH THE SEED: the statements are not yours to turn. If you find one false, say at which input.
  Laid BY PROGRAM, IN A SANDBOX (cutbox-rows.mjs): the forced cells as the released guide's own fill.sh prints them over the translation d540babeabd5480e… (all of the seat's roots in one cut). By AI agents, Wed Nov 11 2026. No macro, syntax, notation, axiom, sorry.
-/
import Derived.Test.YtpjagedoddmpbaaChecked
import GoSem.Claim
import GoSem.ClaimJoined
import GoSem.ClaimMapViews
import Derived.JoinedTies
import Derived.KernelRfl
namespace Go.Proofs.Ytpjagedoddmpbaa
/- THE CELL 'sum', in the pinned program and in every row, IS THE sha256 OF THE DUMP (.gsa) THAT YtpjagedoddmpbaaProg.lean LOADS. Nothing in Lean hashes anything: it is a label: what it is worth is what the hold of that sum in a sandbox is worth. -/
noncomputable def Try.pinned : Pinned := { name := "ytpjagedoddmpbaa", sum := "d540babeabd5480e79a09cb6c5b34fc187b2ec0558136c3cd966d66a1756be17", checked := Try.checked }
namespace Rows
def none {H : Type} : Left H := { results := [], args := [] }

/-- 'cuboidlaw09.CellTells': WHATEVER THE INPUT: true; the input reads as it did. -/
def cellTellsSpec : ChangeSpec := { name := "cellTells", fn := fun _ => fun
  | [d1, d2] => { results := [.lit (.bool true)], args := [d1, d2] }
  | _ => none }
def cellTellsRow : OpenClaim := { program := "ytpjagedoddmpbaa", sum := "d540babeabd5480e79a09cb6c5b34fc187b2ec0558136c3cd966d66a1756be17", func := "cuboid/cuboidlaw09.CellTells", spec := "cellTells", inPlace := ["math/bits.Add64", "math/bits.Sub64"], recurses := true, apart := false }
def CellTellsSaid : Prop := cellTellsRow.holds Try.pinned (OpenSpec.ofChange cellTellsSpec)

/-- ITS FALSE NEIGHBOUR: 'it returns false'. Refute it at one input. -/
def cellTellsWrong : ChangeSpec := { name := "cellTells", fn := fun _ => fun
  | [d1, d2] => { results := [.lit (.bool false)], args := [d1, d2] }
  | _ => none }
def CellTellsWrongFalsely : Prop := cellTellsRow.holds Try.pinned (OpenSpec.ofChange cellTellsWrong)

/-- 'cuboidlaw09.CellJoins': WHATEVER THE INPUT: true; the input reads as it did. -/
def cellJoinsSpec : ChangeSpec := { name := "cellJoins", fn := fun _ => fun
  | [d1, d2, d3] => { results := [.lit (.bool true)], args := [d1, d2, d3] }
  | _ => none }
def cellJoinsRow : OpenClaim := { program := "ytpjagedoddmpbaa", sum := "d540babeabd5480e79a09cb6c5b34fc187b2ec0558136c3cd966d66a1756be17", func := "cuboid/cuboidlaw09.CellJoins", spec := "cellJoins", inPlace := ["math/bits.Add64", "math/bits.Sub64"], recurses := true, apart := false }
def CellJoinsSaid : Prop := cellJoinsRow.holds Try.pinned (OpenSpec.ofChange cellJoinsSpec)

/-- ITS FALSE NEIGHBOUR: 'it returns false'. Refute it at one input. -/
def cellJoinsWrong : ChangeSpec := { name := "cellJoins", fn := fun _ => fun
  | [d1, d2, d3] => { results := [.lit (.bool false)], args := [d1, d2, d3] }
  | _ => none }
def CellJoinsWrongFalsely : Prop := cellJoinsRow.holds Try.pinned (OpenSpec.ofChange cellJoinsWrong)

/-- 'cuboidlaw09.CellLines': WHATEVER THE INPUT: true; the input reads as it did. -/
def cellLinesSpec : ChangeSpec := { name := "cellLines", fn := fun _ => fun
  | [d1, d2, d3] => { results := [.lit (.bool true)], args := [d1, d2, d3] }
  | _ => none }
def cellLinesRow : OpenClaim := { program := "ytpjagedoddmpbaa", sum := "d540babeabd5480e79a09cb6c5b34fc187b2ec0558136c3cd966d66a1756be17", func := "cuboid/cuboidlaw09.CellLines", spec := "cellLines", inPlace := ["math/bits.Add64", "math/bits.Sub64"], recurses := true, apart := false }
def CellLinesSaid : Prop := cellLinesRow.holds Try.pinned (OpenSpec.ofChange cellLinesSpec)

/-- ITS FALSE NEIGHBOUR: 'it returns false'. Refute it at one input. -/
def cellLinesWrong : ChangeSpec := { name := "cellLines", fn := fun _ => fun
  | [d1, d2, d3] => { results := [.lit (.bool false)], args := [d1, d2, d3] }
  | _ => none }
def CellLinesWrongFalsely : Prop := cellLinesRow.holds Try.pinned (OpenSpec.ofChange cellLinesWrong)

/-- 'cuboidlaw09.CellOrder': WHATEVER THE INPUT: true; the input reads as it did. -/
def cellOrderSpec : ChangeSpec := { name := "cellOrder", fn := fun _ => fun
  | [d1, d2, d3] => { results := [.lit (.bool true)], args := [d1, d2, d3] }
  | _ => none }
def cellOrderRow : OpenClaim := { program := "ytpjagedoddmpbaa", sum := "d540babeabd5480e79a09cb6c5b34fc187b2ec0558136c3cd966d66a1756be17", func := "cuboid/cuboidlaw09.CellOrder", spec := "cellOrder", inPlace := ["math/bits.Sub64", "math/bits.Add64"], recurses := true, apart := false }
def CellOrderSaid : Prop := cellOrderRow.holds Try.pinned (OpenSpec.ofChange cellOrderSpec)

/-- ITS FALSE NEIGHBOUR: 'it returns false'. Refute it at one input. -/
def cellOrderWrong : ChangeSpec := { name := "cellOrder", fn := fun _ => fun
  | [d1, d2, d3] => { results := [.lit (.bool false)], args := [d1, d2, d3] }
  | _ => none }
def CellOrderWrongFalsely : Prop := cellOrderRow.holds Try.pinned (OpenSpec.ofChange cellOrderWrong)

/-- 'cuboidlaw09.CellMean': WHATEVER THE INPUT: true; the input reads as it did. -/
def cellMeanSpec : ChangeSpec := { name := "cellMean", fn := fun _ => fun
  | [d1, d2, d3] => { results := [.lit (.bool true)], args := [d1, d2, d3] }
  | _ => none }
def cellMeanRow : OpenClaim := { program := "ytpjagedoddmpbaa", sum := "d540babeabd5480e79a09cb6c5b34fc187b2ec0558136c3cd966d66a1756be17", func := "cuboid/cuboidlaw09.CellMean", spec := "cellMean", inPlace := ["math/bits.Sub64", "math/bits.Add64"], recurses := true, apart := false }
def CellMeanSaid : Prop := cellMeanRow.holds Try.pinned (OpenSpec.ofChange cellMeanSpec)

/-- ITS FALSE NEIGHBOUR: 'it returns false'. Refute it at one input. -/
def cellMeanWrong : ChangeSpec := { name := "cellMean", fn := fun _ => fun
  | [d1, d2, d3] => { results := [.lit (.bool false)], args := [d1, d2, d3] }
  | _ => none }
def CellMeanWrongFalsely : Prop := cellMeanRow.holds Try.pinned (OpenSpec.ofChange cellMeanWrong)

/-- 'cuboidlaw09.CellSpoilt': WHATEVER THE INPUT: true; the input reads as it did. -/
def cellSpoiltSpec : ChangeSpec := { name := "cellSpoilt", fn := fun _ => fun
  | [d1, d2, d3] => { results := [.lit (.bool true)], args := [d1, d2, d3] }
  | _ => none }
def cellSpoiltRow : OpenClaim := { program := "ytpjagedoddmpbaa", sum := "d540babeabd5480e79a09cb6c5b34fc187b2ec0558136c3cd966d66a1756be17", func := "cuboid/cuboidlaw09.CellSpoilt", spec := "cellSpoilt", inPlace := ["math/bits.Add64", "math/bits.Sub64"], recurses := true, apart := false }
def CellSpoiltSaid : Prop := cellSpoiltRow.holds Try.pinned (OpenSpec.ofChange cellSpoiltSpec)

/-- ITS FALSE NEIGHBOUR: 'it returns false'. Refute it at one input. -/
def cellSpoiltWrong : ChangeSpec := { name := "cellSpoilt", fn := fun _ => fun
  | [d1, d2, d3] => { results := [.lit (.bool false)], args := [d1, d2, d3] }
  | _ => none }
def CellSpoiltWrongFalsely : Prop := cellSpoiltRow.holds Try.pinned (OpenSpec.ofChange cellSpoiltWrong)

/- THE SECOND FORM. 'bulk': how many values and letters a reading holds, each counted each time it is reached (what is shared counts as often as it is met; a slice's spare places count too). A statement '..UptoSaid' is the law's where the arguments, and the package variables that the reading takes, are together of bulk at most 1048576: NARROWER than '..Said'. Prove '..Said' where nothing that the law and all that it calls make is longer than what came in: it says more and counts as full. Else prove '..UptoSaid'. A law counts once. -/
mutual
def uptoBulk {H : Type} : DataW H → Nat
  | .lit (.string bytes) => bytes.length + 1
  | .lit _ => 1
  | .nil => 1
  | .ptr d => uptoBulk d + 1
  | .slice elems spare => uptoBulkAll elems + uptoBulkAll spare + 1
  | .agg parts => uptoBulkAll parts + 1
  | .iface _ d => uptoBulk d + 1
  | .map entries => uptoBulkEntries entries + 1
  | .held _ => 1
def uptoBulkAll {H : Type} : List (DataW H) → Nat
  | [] => 0
  | d :: r => uptoBulk d + uptoBulkAll r
def uptoBulkEntries {H : Type} : List (Lit × DataW H) → Nat
  | [] => 0
  | x :: r => uptoBulkEntry x + uptoBulkEntries r
def uptoBulkEntry {H : Type} : Lit × DataW H → Nat
  | (.string bytes, d) => bytes.length + uptoBulk d + 1
  | (_, d) => uptoBulk d + 1
 end
def uptoSmall : (H : Type) → List (DataW H) → Bool := fun _ ds => decide (uptoBulkAll ds ≤ 1048576)
def OpenSpec.upto (s : _root_.Go.ChangeSpec) : _root_.Go.OpenSpec := { _root_.Go.OpenSpec.ofChange s with cond := some uptoSmall }

/-- 'cuboidlaw09.CellTells', WHERE WHAT IT READS IS OF BULK AT MOST 1048576: true; the input reads as it did. -/
def cellTellsUptoRow : OpenClaim := { program := "ytpjagedoddmpbaa", sum := "d540babeabd5480e79a09cb6c5b34fc187b2ec0558136c3cd966d66a1756be17", func := "cuboid/cuboidlaw09.CellTells", spec := "cellTells", inPlace := ["math/bits.Add64", "math/bits.Sub64"], recurses := true, apart := false, narrowed := true }
def CellTellsUptoSaid : Prop := cellTellsUptoRow.holds Try.pinned (OpenSpec.upto cellTellsSpec)

/-- 'cuboidlaw09.CellJoins', WHERE WHAT IT READS IS OF BULK AT MOST 1048576: true; the input reads as it did. -/
def cellJoinsUptoRow : OpenClaim := { program := "ytpjagedoddmpbaa", sum := "d540babeabd5480e79a09cb6c5b34fc187b2ec0558136c3cd966d66a1756be17", func := "cuboid/cuboidlaw09.CellJoins", spec := "cellJoins", inPlace := ["math/bits.Add64", "math/bits.Sub64"], recurses := true, apart := false, narrowed := true }
def CellJoinsUptoSaid : Prop := cellJoinsUptoRow.holds Try.pinned (OpenSpec.upto cellJoinsSpec)

/-- 'cuboidlaw09.CellLines', WHERE WHAT IT READS IS OF BULK AT MOST 1048576: true; the input reads as it did. -/
def cellLinesUptoRow : OpenClaim := { program := "ytpjagedoddmpbaa", sum := "d540babeabd5480e79a09cb6c5b34fc187b2ec0558136c3cd966d66a1756be17", func := "cuboid/cuboidlaw09.CellLines", spec := "cellLines", inPlace := ["math/bits.Add64", "math/bits.Sub64"], recurses := true, apart := false, narrowed := true }
def CellLinesUptoSaid : Prop := cellLinesUptoRow.holds Try.pinned (OpenSpec.upto cellLinesSpec)

/-- 'cuboidlaw09.CellOrder', WHERE WHAT IT READS IS OF BULK AT MOST 1048576: true; the input reads as it did. -/
def cellOrderUptoRow : OpenClaim := { program := "ytpjagedoddmpbaa", sum := "d540babeabd5480e79a09cb6c5b34fc187b2ec0558136c3cd966d66a1756be17", func := "cuboid/cuboidlaw09.CellOrder", spec := "cellOrder", inPlace := ["math/bits.Sub64", "math/bits.Add64"], recurses := true, apart := false, narrowed := true }
def CellOrderUptoSaid : Prop := cellOrderUptoRow.holds Try.pinned (OpenSpec.upto cellOrderSpec)

/-- 'cuboidlaw09.CellMean', WHERE WHAT IT READS IS OF BULK AT MOST 1048576: true; the input reads as it did. -/
def cellMeanUptoRow : OpenClaim := { program := "ytpjagedoddmpbaa", sum := "d540babeabd5480e79a09cb6c5b34fc187b2ec0558136c3cd966d66a1756be17", func := "cuboid/cuboidlaw09.CellMean", spec := "cellMean", inPlace := ["math/bits.Sub64", "math/bits.Add64"], recurses := true, apart := false, narrowed := true }
def CellMeanUptoSaid : Prop := cellMeanUptoRow.holds Try.pinned (OpenSpec.upto cellMeanSpec)

/-- 'cuboidlaw09.CellSpoilt', WHERE WHAT IT READS IS OF BULK AT MOST 1048576: true; the input reads as it did. -/
def cellSpoiltUptoRow : OpenClaim := { program := "ytpjagedoddmpbaa", sum := "d540babeabd5480e79a09cb6c5b34fc187b2ec0558136c3cd966d66a1756be17", func := "cuboid/cuboidlaw09.CellSpoilt", spec := "cellSpoilt", inPlace := ["math/bits.Add64", "math/bits.Sub64"], recurses := true, apart := false, narrowed := true }
def CellSpoiltUptoSaid : Prop := cellSpoiltUptoRow.holds Try.pinned (OpenSpec.upto cellSpoiltSpec)

end Rows
end Go.Proofs.Ytpjagedoddmpbaa
