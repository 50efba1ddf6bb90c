/- append of bytes to an empty slice without room ('append([]byte{}, b...)'): a new row, or nothing: as a law for a region that draws its order. -/
import Derived.Test.YtcjoinahelmmpaaLaw01
namespace Go.Proofs.Ytcjoinahelmmpaa
open Go.RowKit
set_option linter.unusedVariables false
theorem refField_v (n : Int) (k : Nat) (hk : k ≤ 8) (P : ByteArray) (hP : P = ⟨(fld k n).toArray⟩) (x : Int) (hx : x = k) (w : World) :
    Calls Try.prog 59 #[.int .i64 n, .int .i64 x] w fun e w' => ∃ v, e = .returned v ∧ v = .string P ∧ Below w.heap.size w w' := by
  subst hP hx
  exact (refField_any n k hk w).mono fun e w' h => ⟨_, h.1, rfl, h.2⟩
end Go.Proofs.Ytcjoinahelmmpaa
