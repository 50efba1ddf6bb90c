/-
  No cell of these rows narrows 'for every input' (looked for: loops, veiled, ifaces, maps, wideKeys, modest, calm, conditions, laid).
  DERIVED. THE GIVEN ROWS OF THIS SEAT. 11 by the template 'for every input the law returns true; each argument reads behind the call as it read before'; 0 by the template 'total and deterministic' (their statements: YtobddfpdijmgiaaTotals.lean).
  GIVEN WITH THE SEED: the statements are not yours to turn. If you find one false, say at which input.
  Laid BY PROGRAM, IN A SANDBOX (cutbox-rows.mjs): the forced cells as the released guide's own fill.sh prints them over the translation 19f8f5437bcc58a5… (all of the seat's roots in one cut). By AI agents, Wed Nov 11 2026. No macro, syntax, notation, axiom, sorry.
-/
import Derived.Test.YtobddfpdijmgiaaChecked
import GoSem.Claim
import GoSem.ClaimJoined
import GoSem.ClaimMapViews
import Derived.JoinedTies
import Derived.KernelRfl
namespace Go.Proofs.Ytobddfpdijmgiaa
/- THE CELL 'sum', in the pinned program and in every row, IS THE sha256 OF THE DUMP (.gsa) THAT YtobddfpdijmgiaaProg.lean LOADS. Nothing in Lean hashes anything: it is a label: what it is worth is what the hold of that sum in a sandbox is worth. -/
noncomputable def Try.pinned : Pinned := { name := "ytobddfpdijmgiaa", sum := "19f8f5437bcc58a54754ed1b75991cd40799ed0f60f57058c7063ddf5cf9cba8", checked := Try.checked }
namespace Rows
def none {H : Type} : Left H := { results := [], args := [] }

/-- 'ambrylaw14.SpaceLoads': WHATEVER THE INPUT: true; the input reads as it did. -/
def spaceLoadsSpec : ChangeSpec := { name := "spaceLoads", fn := fun _ => fun
  | [d1, d2, d3, d4, d5] => { results := [.lit (.bool true)], args := [d1, d2, d3, d4, d5] }
  | _ => none }
def spaceLoadsRow : OpenClaim := { program := "ytobddfpdijmgiaa", sum := "19f8f5437bcc58a54754ed1b75991cd40799ed0f60f57058c7063ddf5cf9cba8", func := "ambry/ambrylaw14.SpaceLoads", spec := "spaceLoads", inPlace := ["slices.overlaps[string]"], unfollowed := true, recurses := true, apart := false }
def SpaceLoadsSaid : Prop := spaceLoadsRow.holds Try.pinned (OpenSpec.ofChange spaceLoadsSpec)

/-- ITS FALSE NEIGHBOUR: 'it returns false'. Refute it at one input. -/
def spaceLoadsWrong : ChangeSpec := { name := "spaceLoads", fn := fun _ => fun
  | [d1, d2, d3, d4, d5] => { results := [.lit (.bool false)], args := [d1, d2, d3, d4, d5] }
  | _ => none }
def SpaceLoadsWrongFalsely : Prop := spaceLoadsRow.holds Try.pinned (OpenSpec.ofChange spaceLoadsWrong)

/-- 'ambrylaw14.SpaceStays': WHATEVER THE INPUT: true; the input reads as it did. -/
def spaceStaysSpec : ChangeSpec := { name := "spaceStays", fn := fun _ => fun
  | [d1, d2, d3, d4, d5] => { results := [.lit (.bool true)], args := [d1, d2, d3, d4, d5] }
  | _ => none }
def spaceStaysRow : OpenClaim := { program := "ytobddfpdijmgiaa", sum := "19f8f5437bcc58a54754ed1b75991cd40799ed0f60f57058c7063ddf5cf9cba8", func := "ambry/ambrylaw14.SpaceStays", spec := "spaceStays", inPlace := ["slices.overlaps[string]"], unfollowed := true, recurses := true, apart := false }
def SpaceStaysSaid : Prop := spaceStaysRow.holds Try.pinned (OpenSpec.ofChange spaceStaysSpec)

/-- ITS FALSE NEIGHBOUR: 'it returns false'. Refute it at one input. -/
def spaceStaysWrong : ChangeSpec := { name := "spaceStays", fn := fun _ => fun
  | [d1, d2, d3, d4, d5] => { results := [.lit (.bool false)], args := [d1, d2, d3, d4, d5] }
  | _ => none }
def SpaceStaysWrongFalsely : Prop := spaceStaysRow.holds Try.pinned (OpenSpec.ofChange spaceStaysWrong)

/-- 'ambrylaw14.SpaceBatches': WHATEVER THE INPUT: true; the input reads as it did. -/
def spaceBatchesSpec : ChangeSpec := { name := "spaceBatches", fn := fun _ => fun
  | [d1, d2] => { results := [.lit (.bool true)], args := [d1, d2] }
  | _ => none }
def spaceBatchesRow : OpenClaim := { program := "ytobddfpdijmgiaa", sum := "19f8f5437bcc58a54754ed1b75991cd40799ed0f60f57058c7063ddf5cf9cba8", func := "ambry/ambrylaw14.SpaceBatches", spec := "spaceBatches", inPlace := ["slices.overlaps[string]"], unfollowed := true, recurses := true, apart := false }
def SpaceBatchesSaid : Prop := spaceBatchesRow.holds Try.pinned (OpenSpec.ofChange spaceBatchesSpec)

/-- ITS FALSE NEIGHBOUR: 'it returns false'. Refute it at one input. -/
def spaceBatchesWrong : ChangeSpec := { name := "spaceBatches", fn := fun _ => fun
  | [d1, d2] => { results := [.lit (.bool false)], args := [d1, d2] }
  | _ => none }
def SpaceBatchesWrongFalsely : Prop := spaceBatchesRow.holds Try.pinned (OpenSpec.ofChange spaceBatchesWrong)

/-- 'ambrylaw14.SpaceScan': WHATEVER THE INPUT: true; the input reads as it did. -/
def spaceScanSpec : ChangeSpec := { name := "spaceScan", fn := fun _ => fun
  | [d1, d2, d3, d4, d5] => { results := [.lit (.bool true)], args := [d1, d2, d3, d4, d5] }
  | _ => none }
def spaceScanRow : OpenClaim := { program := "ytobddfpdijmgiaa", sum := "19f8f5437bcc58a54754ed1b75991cd40799ed0f60f57058c7063ddf5cf9cba8", func := "ambry/ambrylaw14.SpaceScan", spec := "spaceScan", inPlace := ["slices.overlaps[string]"], unfollowed := true, recurses := true, apart := false }
def SpaceScanSaid : Prop := spaceScanRow.holds Try.pinned (OpenSpec.ofChange spaceScanSpec)

/-- ITS FALSE NEIGHBOUR: 'it returns false'. Refute it at one input. -/
def spaceScanWrong : ChangeSpec := { name := "spaceScan", fn := fun _ => fun
  | [d1, d2, d3, d4, d5] => { results := [.lit (.bool false)], args := [d1, d2, d3, d4, d5] }
  | _ => none }
def SpaceScanWrongFalsely : Prop := spaceScanRow.holds Try.pinned (OpenSpec.ofChange spaceScanWrong)

/-- 'ambrylaw15.BatchWrites': WHATEVER THE INPUT: true; the input reads as it did. -/
def batchWritesSpec : ChangeSpec := { name := "batchWrites", fn := fun _ => fun
  | [d1, d2] => { results := [.lit (.bool true)], args := [d1, d2] }
  | _ => none }
def batchWritesRow : OpenClaim := { program := "ytobddfpdijmgiaa", sum := "19f8f5437bcc58a54754ed1b75991cd40799ed0f60f57058c7063ddf5cf9cba8", func := "ambry/ambrylaw15.BatchWrites", spec := "batchWrites", unfollowed := true, recurses := true, apart := false }
def BatchWritesSaid : Prop := batchWritesRow.holds Try.pinned (OpenSpec.ofChange batchWritesSpec)

/-- ITS FALSE NEIGHBOUR: 'it returns false'. Refute it at one input. -/
def batchWritesWrong : ChangeSpec := { name := "batchWrites", fn := fun _ => fun
  | [d1, d2] => { results := [.lit (.bool false)], args := [d1, d2] }
  | _ => none }
def BatchWritesWrongFalsely : Prop := batchWritesRow.holds Try.pinned (OpenSpec.ofChange batchWritesWrong)

/-- 'ambrylaw15.BatchReads': WHATEVER THE INPUT: true; the input reads as it did. -/
def batchReadsSpec : ChangeSpec := { name := "batchReads", fn := fun _ => fun
  | [d] => { results := [.lit (.bool true)], args := [d] }
  | _ => none }
def batchReadsRow : OpenClaim := { program := "ytobddfpdijmgiaa", sum := "19f8f5437bcc58a54754ed1b75991cd40799ed0f60f57058c7063ddf5cf9cba8", func := "ambry/ambrylaw15.BatchReads", spec := "batchReads", unfollowed := true, recurses := true, apart := false }
def BatchReadsSaid : Prop := batchReadsRow.holds Try.pinned (OpenSpec.ofChange batchReadsSpec)

/-- ITS FALSE NEIGHBOUR: 'it returns false'. Refute it at one input. -/
def batchReadsWrong : ChangeSpec := { name := "batchReads", fn := fun _ => fun
  | [d] => { results := [.lit (.bool false)], args := [d] }
  | _ => none }
def BatchReadsWrongFalsely : Prop := batchReadsRow.holds Try.pinned (OpenSpec.ofChange batchReadsWrong)

/-- 'ambrylaw15.BatchPairs': WHATEVER THE INPUT: true; the input reads as it did. -/
def batchPairsSpec : ChangeSpec := { name := "batchPairs", fn := fun _ => fun
  | [d1, d2] => { results := [.lit (.bool true)], args := [d1, d2] }
  | _ => none }
def batchPairsRow : OpenClaim := { program := "ytobddfpdijmgiaa", sum := "19f8f5437bcc58a54754ed1b75991cd40799ed0f60f57058c7063ddf5cf9cba8", func := "ambry/ambrylaw15.BatchPairs", spec := "batchPairs", unfollowed := true, recurses := true, apart := false }
def BatchPairsSaid : Prop := batchPairsRow.holds Try.pinned (OpenSpec.ofChange batchPairsSpec)

/-- ITS FALSE NEIGHBOUR: 'it returns false'. Refute it at one input. -/
def batchPairsWrong : ChangeSpec := { name := "batchPairs", fn := fun _ => fun
  | [d1, d2] => { results := [.lit (.bool false)], args := [d1, d2] }
  | _ => none }
def BatchPairsWrongFalsely : Prop := batchPairsRow.holds Try.pinned (OpenSpec.ofChange batchPairsWrong)

/-- 'ambrylaw15.BatchDiffers': WHATEVER THE INPUT: true; the input reads as it did. -/
def batchDiffersSpec : ChangeSpec := { name := "batchDiffers", fn := fun _ => fun
  | [d1, d2] => { results := [.lit (.bool true)], args := [d1, d2] }
  | _ => none }
def batchDiffersRow : OpenClaim := { program := "ytobddfpdijmgiaa", sum := "19f8f5437bcc58a54754ed1b75991cd40799ed0f60f57058c7063ddf5cf9cba8", func := "ambry/ambrylaw15.BatchDiffers", spec := "batchDiffers", unfollowed := true, recurses := true, apart := false }
def BatchDiffersSaid : Prop := batchDiffersRow.holds Try.pinned (OpenSpec.ofChange batchDiffersSpec)

/-- ITS FALSE NEIGHBOUR: 'it returns false'. Refute it at one input. -/
def batchDiffersWrong : ChangeSpec := { name := "batchDiffers", fn := fun _ => fun
  | [d1, d2] => { results := [.lit (.bool false)], args := [d1, d2] }
  | _ => none }
def BatchDiffersWrongFalsely : Prop := batchDiffersRow.holds Try.pinned (OpenSpec.ofChange batchDiffersWrong)

/-- 'ambrylaw15.BatchBack': WHATEVER THE INPUT: true; the input reads as it did. -/
def batchBackSpec : ChangeSpec := { name := "batchBack", fn := fun _ => fun
  | [d1, d2, d3] => { results := [.lit (.bool true)], args := [d1, d2, d3] }
  | _ => none }
def batchBackRow : OpenClaim := { program := "ytobddfpdijmgiaa", sum := "19f8f5437bcc58a54754ed1b75991cd40799ed0f60f57058c7063ddf5cf9cba8", func := "ambry/ambrylaw15.BatchBack", spec := "batchBack", unfollowed := true, recurses := true, apart := false }
def BatchBackSaid : Prop := batchBackRow.holds Try.pinned (OpenSpec.ofChange batchBackSpec)

/-- ITS FALSE NEIGHBOUR: 'it returns false'. Refute it at one input. -/
def batchBackWrong : ChangeSpec := { name := "batchBack", fn := fun _ => fun
  | [d1, d2, d3] => { results := [.lit (.bool false)], args := [d1, d2, d3] }
  | _ => none }
def BatchBackWrongFalsely : Prop := batchBackRow.holds Try.pinned (OpenSpec.ofChange batchBackWrong)

/-- 'ambrylaw15.BatchItems': WHATEVER THE INPUT: true; the input reads as it did. -/
def batchItemsSpec : ChangeSpec := { name := "batchItems", fn := fun _ => fun
  | [d] => { results := [.lit (.bool true)], args := [d] }
  | _ => none }
def batchItemsRow : OpenClaim := { program := "ytobddfpdijmgiaa", sum := "19f8f5437bcc58a54754ed1b75991cd40799ed0f60f57058c7063ddf5cf9cba8", func := "ambry/ambrylaw15.BatchItems", spec := "batchItems", unfollowed := true, recurses := true, apart := false }
def BatchItemsSaid : Prop := batchItemsRow.holds Try.pinned (OpenSpec.ofChange batchItemsSpec)

/-- ITS FALSE NEIGHBOUR: 'it returns false'. Refute it at one input. -/
def batchItemsWrong : ChangeSpec := { name := "batchItems", fn := fun _ => fun
  | [d] => { results := [.lit (.bool false)], args := [d] }
  | _ => none }
def BatchItemsWrongFalsely : Prop := batchItemsRow.holds Try.pinned (OpenSpec.ofChange batchItemsWrong)

/-- 'ambrylaw15.BatchMakes': WHATEVER THE INPUT: true; the input reads as it did. -/
def batchMakesSpec : ChangeSpec := { name := "batchMakes", fn := fun _ => fun
  | [d1, d2] => { results := [.lit (.bool true)], args := [d1, d2] }
  | _ => none }
def batchMakesRow : OpenClaim := { program := "ytobddfpdijmgiaa", sum := "19f8f5437bcc58a54754ed1b75991cd40799ed0f60f57058c7063ddf5cf9cba8", func := "ambry/ambrylaw15.BatchMakes", spec := "batchMakes", unfollowed := true, recurses := true, apart := false }
def BatchMakesSaid : Prop := batchMakesRow.holds Try.pinned (OpenSpec.ofChange batchMakesSpec)

/-- ITS FALSE NEIGHBOUR: 'it returns false'. Refute it at one input. -/
def batchMakesWrong : ChangeSpec := { name := "batchMakes", fn := fun _ => fun
  | [d1, d2] => { results := [.lit (.bool false)], args := [d1, d2] }
  | _ => none }
def BatchMakesWrongFalsely : Prop := batchMakesRow.holds Try.pinned (OpenSpec.ofChange batchMakesWrong)

/- THE SECOND FORM. 'bulk': how many values and letters a reading holds, each counted each time it is reached (what is shared counts as often as it is met; a slice's spare places count too). A statement '..UptoSaid' is the law's where the arguments, and the package variables that the reading takes, are together of bulk at most 1048576: NARROWER than '..Said'. Prove '..Said' where nothing that the law and all that it calls make is longer than what came in: it says more and counts as full. Else prove '..UptoSaid'. A law counts once. -/
mutual
def uptoBulk {H : Type} : DataW H → Nat
  | .lit (.string bytes) => bytes.length + 1
  | .lit _ => 1
  | .nil => 1
  | .ptr d => uptoBulk d + 1
  | .slice elems spare => uptoBulkAll elems + uptoBulkAll spare + 1
  | .agg parts => uptoBulkAll parts + 1
  | .iface _ d => uptoBulk d + 1
  | .map entries => uptoBulkEntries entries + 1
  | .held _ => 1
def uptoBulkAll {H : Type} : List (DataW H) → Nat
  | [] => 0
  | d :: r => uptoBulk d + uptoBulkAll r
def uptoBulkEntries {H : Type} : List (Lit × DataW H) → Nat
  | [] => 0
  | x :: r => uptoBulkEntry x + uptoBulkEntries r
def uptoBulkEntry {H : Type} : Lit × DataW H → Nat
  | (.string bytes, d) => bytes.length + uptoBulk d + 1
  | (_, d) => uptoBulk d + 1
 end
def uptoSmall : (H : Type) → List (DataW H) → Bool := fun _ ds => decide (uptoBulkAll ds ≤ 1048576)
def OpenSpec.upto (s : _root_.Go.ChangeSpec) : _root_.Go.OpenSpec := { _root_.Go.OpenSpec.ofChange s with cond := some uptoSmall }

/-- 'ambrylaw14.SpaceLoads', WHERE WHAT IT READS IS OF BULK AT MOST 1048576: true; the input reads as it did. -/
def spaceLoadsUptoRow : OpenClaim := { program := "ytobddfpdijmgiaa", sum := "19f8f5437bcc58a54754ed1b75991cd40799ed0f60f57058c7063ddf5cf9cba8", func := "ambry/ambrylaw14.SpaceLoads", spec := "spaceLoads", inPlace := ["slices.overlaps[string]"], unfollowed := true, recurses := true, apart := false, narrowed := true }
def SpaceLoadsUptoSaid : Prop := spaceLoadsUptoRow.holds Try.pinned (OpenSpec.upto spaceLoadsSpec)

/-- 'ambrylaw14.SpaceStays', WHERE WHAT IT READS IS OF BULK AT MOST 1048576: true; the input reads as it did. -/
def spaceStaysUptoRow : OpenClaim := { program := "ytobddfpdijmgiaa", sum := "19f8f5437bcc58a54754ed1b75991cd40799ed0f60f57058c7063ddf5cf9cba8", func := "ambry/ambrylaw14.SpaceStays", spec := "spaceStays", inPlace := ["slices.overlaps[string]"], unfollowed := true, recurses := true, apart := false, narrowed := true }
def SpaceStaysUptoSaid : Prop := spaceStaysUptoRow.holds Try.pinned (OpenSpec.upto spaceStaysSpec)

/-- 'ambrylaw14.SpaceBatches', WHERE WHAT IT READS IS OF BULK AT MOST 1048576: true; the input reads as it did. -/
def spaceBatchesUptoRow : OpenClaim := { program := "ytobddfpdijmgiaa", sum := "19f8f5437bcc58a54754ed1b75991cd40799ed0f60f57058c7063ddf5cf9cba8", func := "ambry/ambrylaw14.SpaceBatches", spec := "spaceBatches", inPlace := ["slices.overlaps[string]"], unfollowed := true, recurses := true, apart := false, narrowed := true }
def SpaceBatchesUptoSaid : Prop := spaceBatchesUptoRow.holds Try.pinned (OpenSpec.upto spaceBatchesSpec)

/-- 'ambrylaw14.SpaceScan', WHERE WHAT IT READS IS OF BULK AT MOST 1048576: true; the input reads as it did. -/
def spaceScanUptoRow : OpenClaim := { program := "ytobddfpdijmgiaa", sum := "19f8f5437bcc58a54754ed1b75991cd40799ed0f60f57058c7063ddf5cf9cba8", func := "ambry/ambrylaw14.SpaceScan", spec := "spaceScan", inPlace := ["slices.overlaps[string]"], unfollowed := true, recurses := true, apart := false, narrowed := true }
def SpaceScanUptoSaid : Prop := spaceScanUptoRow.holds Try.pinned (OpenSpec.upto spaceScanSpec)

/-- 'ambrylaw15.BatchWrites', WHERE WHAT IT READS IS OF BULK AT MOST 1048576: true; the input reads as it did. -/
def batchWritesUptoRow : OpenClaim := { program := "ytobddfpdijmgiaa", sum := "19f8f5437bcc58a54754ed1b75991cd40799ed0f60f57058c7063ddf5cf9cba8", func := "ambry/ambrylaw15.BatchWrites", spec := "batchWrites", unfollowed := true, recurses := true, apart := false, narrowed := true }
def BatchWritesUptoSaid : Prop := batchWritesUptoRow.holds Try.pinned (OpenSpec.upto batchWritesSpec)

/-- 'ambrylaw15.BatchReads', WHERE WHAT IT READS IS OF BULK AT MOST 1048576: true; the input reads as it did. -/
def batchReadsUptoRow : OpenClaim := { program := "ytobddfpdijmgiaa", sum := "19f8f5437bcc58a54754ed1b75991cd40799ed0f60f57058c7063ddf5cf9cba8", func := "ambry/ambrylaw15.BatchReads", spec := "batchReads", unfollowed := true, recurses := true, apart := false, narrowed := true }
def BatchReadsUptoSaid : Prop := batchReadsUptoRow.holds Try.pinned (OpenSpec.upto batchReadsSpec)

/-- 'ambrylaw15.BatchPairs', WHERE WHAT IT READS IS OF BULK AT MOST 1048576: true; the input reads as it did. -/
def batchPairsUptoRow : OpenClaim := { program := "ytobddfpdijmgiaa", sum := "19f8f5437bcc58a54754ed1b75991cd40799ed0f60f57058c7063ddf5cf9cba8", func := "ambry/ambrylaw15.BatchPairs", spec := "batchPairs", unfollowed := true, recurses := true, apart := false, narrowed := true }
def BatchPairsUptoSaid : Prop := batchPairsUptoRow.holds Try.pinned (OpenSpec.upto batchPairsSpec)

/-- 'ambrylaw15.BatchDiffers', WHERE WHAT IT READS IS OF BULK AT MOST 1048576: true; the input reads as it did. -/
def batchDiffersUptoRow : OpenClaim := { program := "ytobddfpdijmgiaa", sum := "19f8f5437bcc58a54754ed1b75991cd40799ed0f60f57058c7063ddf5cf9cba8", func := "ambry/ambrylaw15.BatchDiffers", spec := "batchDiffers", unfollowed := true, recurses := true, apart := false, narrowed := true }
def BatchDiffersUptoSaid : Prop := batchDiffersUptoRow.holds Try.pinned (OpenSpec.upto batchDiffersSpec)

/-- 'ambrylaw15.BatchBack', WHERE WHAT IT READS IS OF BULK AT MOST 1048576: true; the input reads as it did. -/
def batchBackUptoRow : OpenClaim := { program := "ytobddfpdijmgiaa", sum := "19f8f5437bcc58a54754ed1b75991cd40799ed0f60f57058c7063ddf5cf9cba8", func := "ambry/ambrylaw15.BatchBack", spec := "batchBack", unfollowed := true, recurses := true, apart := false, narrowed := true }
def BatchBackUptoSaid : Prop := batchBackUptoRow.holds Try.pinned (OpenSpec.upto batchBackSpec)

/-- 'ambrylaw15.BatchItems', WHERE WHAT IT READS IS OF BULK AT MOST 1048576: true; the input reads as it did. -/
def batchItemsUptoRow : OpenClaim := { program := "ytobddfpdijmgiaa", sum := "19f8f5437bcc58a54754ed1b75991cd40799ed0f60f57058c7063ddf5cf9cba8", func := "ambry/ambrylaw15.BatchItems", spec := "batchItems", unfollowed := true, recurses := true, apart := false, narrowed := true }
def BatchItemsUptoSaid : Prop := batchItemsUptoRow.holds Try.pinned (OpenSpec.upto batchItemsSpec)

/-- 'ambrylaw15.BatchMakes', WHERE WHAT IT READS IS OF BULK AT MOST 1048576: true; the input reads as it did. -/
def batchMakesUptoRow : OpenClaim := { program := "ytobddfpdijmgiaa", sum := "19f8f5437bcc58a54754ed1b75991cd40799ed0f60f57058c7063ddf5cf9cba8", func := "ambry/ambrylaw15.BatchMakes", spec := "batchMakes", unfollowed := true, recurses := true, apart := false, narrowed := true }
def BatchMakesUptoSaid : Prop := batchMakesUptoRow.holds Try.pinned (OpenSpec.upto batchMakesSpec)

end Rows
end Go.Proofs.Ytobddfpdijmgiaa
