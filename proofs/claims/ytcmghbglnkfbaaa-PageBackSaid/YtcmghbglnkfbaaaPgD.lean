/- Layer 8: the document's Find. -/
import Derived.Test.YtcmghbglnkfbaaaPgC
import Derived.BigQuiet
namespace Go.Proofs.Ytcmghbglnkfbaaa
open Go.RowKit
set_option linter.unusedVariables false
set_option maxRecDepth 100000

/-- A key that stands ahead of the place that is looked for. -/
def goes8 (leaf : Bool) (key s : ByteArray) : Bool := Op.bytesLess s.data.toList key.data.toList || (!leaf && (s.toList == key.toList))
def pos8 (leaf : Bool) (key : ByteArray) : List ByteArray → Nat
  | [] => 0
  | s :: l => if goes8 leaf key s then pos8 leaf key l + 1 else 0
theorem pos8_is {leaf : Bool} {key : ByteArray} {K : List ByteArray} : ∀ {j : Nat}, j ≤ K.length → (∀ i, i < j → goes8 leaf key (key8 K i) = true) → (j < K.length → goes8 leaf key (key8 K j) = false) → pos8 leaf key K = j := by
  induction K with
  | nil => intro j h _ _; simp at h; subst h; rfl
  | cons s l ih =>
    intro j h1 h2 h3
    cases j with
    | zero =>
      have h4 := h3 (by simp)
      rw [show key8 (s :: l) 0 = s from rfl] at h4
      rw [pos8, h4]; rfl
    | succ j =>
      have h4 := h2 0 (by omega)
      rw [show key8 (s :: l) 0 = s from rfl] at h4
      rw [pos8, h4, if_pos rfl, ih (j := j) (by simp at h1; omega) (fun i hi => h2 (i + 1) (by omega)) (fun hj => h3 (by simp; omega))]
theorem pos8_le (leaf : Bool) (key : ByteArray) : ∀ K : List ByteArray, pos8 leaf key K ≤ K.length
  | [] => Nat.le_refl _
  | s :: l => by
    have := pos8_le leaf key l
    rw [pos8, List.length_cons]
    split <;> omega
/-- Where a key is, or would be; and whether it is there. -/
def at8 (n : Nd) (key : ByteArray) : Bool := n.leaf && (decide (pos8 n.leaf key n.keys < n.keys.length) && ((key8 n.keys (pos8 n.leaf key n.keys)).toList == key.toList))
noncomputable def find8 (n : Nd) (key : ByteArray) : Nat × Bool := if st8 n then (pos8 n.leaf key n.keys, at8 n key) else (0, false)
end Go.Proofs.Ytcmghbglnkfbaaa
