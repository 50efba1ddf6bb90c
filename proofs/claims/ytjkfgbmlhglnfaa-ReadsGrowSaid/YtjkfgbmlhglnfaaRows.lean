/-
  No cell of these rows narrows 'for every input' (looked for: loops, veiled, ifaces, maps, wideKeys, modest, calm, conditions, laid).
  DERIVED. THE GIVEN ROWS OF THIS SEAT. 5 by the template 'for every input the law returns true; each argument reads behind the call as it read before'; 0 by the template 'total and deterministic' (their statements: YtjkfgbmlhglnfaaTotals.lean).
  GIVEN WITH THE SEED: the statements are not yours to turn. If you find one false, say at which input.
  Laid BY PROGRAM, IN A SANDBOX (cutbox-rows.mjs): the forced cells as the released guide's own fill.sh prints them over the translation 904a13066906a019… (all of the seat's roots in one cut). By AI agents, Wed Nov 11 2026. No macro, syntax, notation, axiom, sorry.
-/
import Derived.Test.YtjkfgbmlhglnfaaChecked
import GoSem.Claim
import GoSem.ClaimJoined
import GoSem.ClaimMapViews
import Derived.JoinedTies
import Derived.KernelRfl
namespace Go.Proofs.Ytjkfgbmlhglnfaa
/- THE CELL 'sum', in the pinned program and in every row, IS THE sha256 OF THE DUMP (.gsa) THAT YtjkfgbmlhglnfaaProg.lean LOADS. Nothing in Lean hashes anything: it is a label: what it is worth is what the hold of that sum in a sandbox is worth. -/
noncomputable def Try.pinned : Pinned := { name := "ytjkfgbmlhglnfaa", sum := "904a13066906a0199d06ed72bad2eab46b672b6120c0f4a4e1cc11bf63f12291", checked := Try.checked }
namespace Rows
def none {H : Type} : Left H := { results := [], args := [] }

/-- 'ambrylaw15.BatchPairs': WHATEVER THE INPUT: true; the input reads as it did. -/
def batchPairsSpec : ChangeSpec := { name := "batchPairs", fn := fun _ => fun
  | [d1, d2] => { results := [.lit (.bool true)], args := [d1, d2] }
  | _ => none }
def batchPairsRow : OpenClaim := { program := "ytjkfgbmlhglnfaa", sum := "904a13066906a0199d06ed72bad2eab46b672b6120c0f4a4e1cc11bf63f12291", func := "ambry/ambrylaw15.BatchPairs", spec := "batchPairs", unfollowed := true, recurses := true, apart := false }
def BatchPairsSaid : Prop := batchPairsRow.holds Try.pinned (OpenSpec.ofChange batchPairsSpec)

/-- ITS FALSE NEIGHBOUR: 'it returns false'. Refute it at one input. -/
def batchPairsWrong : ChangeSpec := { name := "batchPairs", fn := fun _ => fun
  | [d1, d2] => { results := [.lit (.bool false)], args := [d1, d2] }
  | _ => none }
def BatchPairsWrongFalsely : Prop := batchPairsRow.holds Try.pinned (OpenSpec.ofChange batchPairsWrong)

/-- 'ambrylaw15.BatchItems': WHATEVER THE INPUT: true; the input reads as it did. -/
def batchItemsSpec : ChangeSpec := { name := "batchItems", fn := fun _ => fun
  | [d] => { results := [.lit (.bool true)], args := [d] }
  | _ => none }
def batchItemsRow : OpenClaim := { program := "ytjkfgbmlhglnfaa", sum := "904a13066906a0199d06ed72bad2eab46b672b6120c0f4a4e1cc11bf63f12291", func := "ambry/ambrylaw15.BatchItems", spec := "batchItems", unfollowed := true, recurses := true, apart := false }
def BatchItemsSaid : Prop := batchItemsRow.holds Try.pinned (OpenSpec.ofChange batchItemsSpec)

/-- ITS FALSE NEIGHBOUR: 'it returns false'. Refute it at one input. -/
def batchItemsWrong : ChangeSpec := { name := "batchItems", fn := fun _ => fun
  | [d] => { results := [.lit (.bool false)], args := [d] }
  | _ => none }
def BatchItemsWrongFalsely : Prop := batchItemsRow.holds Try.pinned (OpenSpec.ofChange batchItemsWrong)

/-- 'ambrylaw16.ReadsGrow': WHATEVER THE INPUT: true; the input reads as it did. -/
def readsGrowSpec : ChangeSpec := { name := "readsGrow", fn := fun _ => fun
  | [d1, d2, d3] => { results := [.lit (.bool true)], args := [d1, d2, d3] }
  | _ => none }
def readsGrowRow : OpenClaim := { program := "ytjkfgbmlhglnfaa", sum := "904a13066906a0199d06ed72bad2eab46b672b6120c0f4a4e1cc11bf63f12291", func := "ambry/ambrylaw16.ReadsGrow", spec := "readsGrow", inPlace := ["slices.overlaps[string]"], unfollowed := true, recurses := true, apart := false }
def ReadsGrowSaid : Prop := readsGrowRow.holds Try.pinned (OpenSpec.ofChange readsGrowSpec)

/-- ITS FALSE NEIGHBOUR: 'it returns false'. Refute it at one input. -/
def readsGrowWrong : ChangeSpec := { name := "readsGrow", fn := fun _ => fun
  | [d1, d2, d3] => { results := [.lit (.bool false)], args := [d1, d2, d3] }
  | _ => none }
def ReadsGrowWrongFalsely : Prop := readsGrowRow.holds Try.pinned (OpenSpec.ofChange readsGrowWrong)

/-- 'ambrylaw16.ReadsMeet': WHATEVER THE INPUT: true; the input reads as it did. -/
def readsMeetSpec : ChangeSpec := { name := "readsMeet", fn := fun _ => fun
  | [d1, d2, d3, d4, d5] => { results := [.lit (.bool true)], args := [d1, d2, d3, d4, d5] }
  | _ => none }
def readsMeetRow : OpenClaim := { program := "ytjkfgbmlhglnfaa", sum := "904a13066906a0199d06ed72bad2eab46b672b6120c0f4a4e1cc11bf63f12291", func := "ambry/ambrylaw16.ReadsMeet", spec := "readsMeet", inPlace := ["slices.overlaps[string]"], unfollowed := true, recurses := true, apart := false }
def ReadsMeetSaid : Prop := readsMeetRow.holds Try.pinned (OpenSpec.ofChange readsMeetSpec)

/-- ITS FALSE NEIGHBOUR: 'it returns false'. Refute it at one input. -/
def readsMeetWrong : ChangeSpec := { name := "readsMeet", fn := fun _ => fun
  | [d1, d2, d3, d4, d5] => { results := [.lit (.bool false)], args := [d1, d2, d3, d4, d5] }
  | _ => none }
def ReadsMeetWrongFalsely : Prop := readsMeetRow.holds Try.pinned (OpenSpec.ofChange readsMeetWrong)

/-- 'ambrylaw16.ReadsMet': WHATEVER THE INPUT: true; the input reads as it did. -/
def readsMetSpec : ChangeSpec := { name := "readsMet", fn := fun _ => fun
  | [d1, d2, d3, d4, d5] => { results := [.lit (.bool true)], args := [d1, d2, d3, d4, d5] }
  | _ => none }
def readsMetRow : OpenClaim := { program := "ytjkfgbmlhglnfaa", sum := "904a13066906a0199d06ed72bad2eab46b672b6120c0f4a4e1cc11bf63f12291", func := "ambry/ambrylaw16.ReadsMet", spec := "readsMet", inPlace := ["slices.overlaps[string]"], unfollowed := true, recurses := true, apart := false }
def ReadsMetSaid : Prop := readsMetRow.holds Try.pinned (OpenSpec.ofChange readsMetSpec)

/-- ITS FALSE NEIGHBOUR: 'it returns false'. Refute it at one input. -/
def readsMetWrong : ChangeSpec := { name := "readsMet", fn := fun _ => fun
  | [d1, d2, d3, d4, d5] => { results := [.lit (.bool false)], args := [d1, d2, d3, d4, d5] }
  | _ => none }
def ReadsMetWrongFalsely : Prop := readsMetRow.holds Try.pinned (OpenSpec.ofChange readsMetWrong)

/- THE SECOND FORM. 'bulk': how many values and letters a reading holds, each counted each time it is reached (what is shared counts as often as it is met; a slice's spare places count too). A statement '..UptoSaid' is the law's where the arguments, and the package variables that the reading takes, are together of bulk at most 1048576: NARROWER than '..Said'. Prove '..Said' where nothing that the law and all that it calls make is longer than what came in: it says more and counts as full. Else prove '..UptoSaid'. A law counts once. -/
mutual
def uptoBulk {H : Type} : DataW H → Nat
  | .lit (.string bytes) => bytes.length + 1
  | .lit _ => 1
  | .nil => 1
  | .ptr d => uptoBulk d + 1
  | .slice elems spare => uptoBulkAll elems + uptoBulkAll spare + 1
  | .agg parts => uptoBulkAll parts + 1
  | .iface _ d => uptoBulk d + 1
  | .map entries => uptoBulkEntries entries + 1
  | .held _ => 1
def uptoBulkAll {H : Type} : List (DataW H) → Nat
  | [] => 0
  | d :: r => uptoBulk d + uptoBulkAll r
def uptoBulkEntries {H : Type} : List (Lit × DataW H) → Nat
  | [] => 0
  | x :: r => uptoBulkEntry x + uptoBulkEntries r
def uptoBulkEntry {H : Type} : Lit × DataW H → Nat
  | (.string bytes, d) => bytes.length + uptoBulk d + 1
  | (_, d) => uptoBulk d + 1
 end
def uptoSmall : (H : Type) → List (DataW H) → Bool := fun _ ds => decide (uptoBulkAll ds ≤ 1048576)
def OpenSpec.upto (s : _root_.Go.ChangeSpec) : _root_.Go.OpenSpec := { _root_.Go.OpenSpec.ofChange s with cond := some uptoSmall }

/-- 'ambrylaw15.BatchPairs', WHERE WHAT IT READS IS OF BULK AT MOST 1048576: true; the input reads as it did. -/
def batchPairsUptoRow : OpenClaim := { program := "ytjkfgbmlhglnfaa", sum := "904a13066906a0199d06ed72bad2eab46b672b6120c0f4a4e1cc11bf63f12291", func := "ambry/ambrylaw15.BatchPairs", spec := "batchPairs", unfollowed := true, recurses := true, apart := false, narrowed := true }
def BatchPairsUptoSaid : Prop := batchPairsUptoRow.holds Try.pinned (OpenSpec.upto batchPairsSpec)

/-- 'ambrylaw15.BatchItems', WHERE WHAT IT READS IS OF BULK AT MOST 1048576: true; the input reads as it did. -/
def batchItemsUptoRow : OpenClaim := { program := "ytjkfgbmlhglnfaa", sum := "904a13066906a0199d06ed72bad2eab46b672b6120c0f4a4e1cc11bf63f12291", func := "ambry/ambrylaw15.BatchItems", spec := "batchItems", unfollowed := true, recurses := true, apart := false, narrowed := true }
def BatchItemsUptoSaid : Prop := batchItemsUptoRow.holds Try.pinned (OpenSpec.upto batchItemsSpec)

/-- 'ambrylaw16.ReadsGrow', WHERE WHAT IT READS IS OF BULK AT MOST 1048576: true; the input reads as it did. -/
def readsGrowUptoRow : OpenClaim := { program := "ytjkfgbmlhglnfaa", sum := "904a13066906a0199d06ed72bad2eab46b672b6120c0f4a4e1cc11bf63f12291", func := "ambry/ambrylaw16.ReadsGrow", spec := "readsGrow", inPlace := ["slices.overlaps[string]"], unfollowed := true, recurses := true, apart := false, narrowed := true }
def ReadsGrowUptoSaid : Prop := readsGrowUptoRow.holds Try.pinned (OpenSpec.upto readsGrowSpec)

/-- 'ambrylaw16.ReadsMeet', WHERE WHAT IT READS IS OF BULK AT MOST 1048576: true; the input reads as it did. -/
def readsMeetUptoRow : OpenClaim := { program := "ytjkfgbmlhglnfaa", sum := "904a13066906a0199d06ed72bad2eab46b672b6120c0f4a4e1cc11bf63f12291", func := "ambry/ambrylaw16.ReadsMeet", spec := "readsMeet", inPlace := ["slices.overlaps[string]"], unfollowed := true, recurses := true, apart := false, narrowed := true }
def ReadsMeetUptoSaid : Prop := readsMeetUptoRow.holds Try.pinned (OpenSpec.upto readsMeetSpec)

/-- 'ambrylaw16.ReadsMet', WHERE WHAT IT READS IS OF BULK AT MOST 1048576: true; the input reads as it did. -/
def readsMetUptoRow : OpenClaim := { program := "ytjkfgbmlhglnfaa", sum := "904a13066906a0199d06ed72bad2eab46b672b6120c0f4a4e1cc11bf63f12291", func := "ambry/ambrylaw16.ReadsMet", spec := "readsMet", inPlace := ["slices.overlaps[string]"], unfollowed := true, recurses := true, apart := false, narrowed := true }
def ReadsMetUptoSaid : Prop := readsMetUptoRow.holds Try.pinned (OpenSpec.upto readsMetSpec)

end Rows
end Go.Proofs.Ytjkfgbmlhglnfaa
