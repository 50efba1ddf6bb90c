/- append of bytes to an empty slice without room ('append([]byte{}, b...)'): a new row, or nothing: as a law for a region that draws its order. -/
import Derived.Test.YtcebhoilokmhdaaLaw01
namespace Go.Proofs.Ytcebhoilokmhdaa
open Go.RowKit
set_option linter.unusedVariables false
theorem refText_v (s : ByteArray) (hs : s.size ≤ 140737488351232) (P : ByteArray) (hP : P = ⟨(txt s.data.toList).toArray⟩) (w : World) :
    Calls Try.prog 19 #[.string s] w fun e w' => ∃ v, e = .returned v ∧ v = .string P ∧ Below w.heap.size w w' := by
  subst hP
  exact (refText_any s w hs).mono fun e w' h => ⟨_, h.1, rfl, h.2⟩
theorem lives_v (w : World) : Calls Try.prog 20 #[] w fun e w' => ∃ v, e = .returned v ∧ v = .bool true ∧ Below w.heap.size w w' :=
  (lives_any w).mono fun e w' h => ⟨_, h.1, rfl, h.2⟩

/-- put, of a slice as a value. -/
theorem lput_sl (B : Nat) (v : Value) (l : List UInt8) (k : Nat) (hk : k < 4) (x : Int) (hx : x = k) (n : Int) (w : World) (hA : Sl w B v l) (hB : B ≤ w.heap.size) (hl : l.length ≤ 140737488354000) :
    Calls Try.prog 16 #[v, .int .i64 x, .int .i64 n] w fun e w' => ∃ v, e = .returned v ∧
      w'.ownsRow w.heap.size 5 1 v (l ++ fld (2 ^ k) n).length (bv (l ++ fld (2 ^ k) n)) ∧ Below w.heap.size w w' := by
  obtain ⟨A, cap, rfl, hr, _⟩ := hA
  exact lput_any B A cap l k hk x hx n w hr hB hl
theorem putText_sl (B : Nat) (v : Value) (l : List UInt8) (s : ByteArray) (w : World) (hA : Sl w B v l) (hB : B ≤ w.heap.size) (hl : l.length + s.size ≤ 140737488354000) (hs : s.size < 4294967296) :
    Calls Try.prog 18 #[v, .string s] w fun e w' => ∃ v, e = .returned v ∧
      w'.ownsRow w.heap.size 5 1 v (l ++ txt s.data.toList).length (bv (l ++ txt s.data.toList)) ∧ Below w.heap.size w w' := by
  obtain ⟨A, cap, rfl, hr, _⟩ := hA
  exact putText_any B A cap l s w hr hB hl hs
theorem refField_v (n : Int) (k : Nat) (hk : k ≤ 8) (P : ByteArray) (hP : P = ⟨(fld k n).toArray⟩) (x : Int) (hx : x = k) (w : World) :
    Calls Try.prog 17 #[.int .i64 n, .int .i64 x] w fun e w' => ∃ v, e = .returned v ∧ v = .string P ∧ Below w.heap.size w w' := by
  subst hP hx
  exact (refField_any n k hk w).mono fun e w' h => ⟨_, h.1, rfl, h.2⟩
end Go.Proofs.Ytcebhoilokmhdaa
