/- How a tag that came in by value is opened and shut. -/
import Derived.Test.YtcpnmbklkjdjlaaFrame
import Derived.Test.YtcpnmbklkjdjlaaTagC
import Derived.Lib.SmallJoins
namespace Go.Proofs.Ytcpnmbklkjdjlaa
open Go.ChangeShapes Go.WideShapes Go.ChangeAt Go.RowKit
set_option linter.unusedVariables false

section
variable {H : Type} {enc : TypeId × Value → H} {w : World} {base : Nat} {spare : Nat → Bool} {held : Bool}
/-- A tag as data. -/
def tdat (t : Int × Int) : DataW H := .agg [.lit (.int .i64 t.1), .lit (.int .i64 t.2)]
theorem open_tag {r : Reach} {b0 : Nat} {v : Value} {d : DataW H} {p : List MemPlace} (hv : Value.okWide Try.prog w r b0 28 v) (h : DataW.Trod enc Try.prog w base spare held 28 v d p) :
    ∃ t : Int × Int, v = tv t ∧ d = tdat t ∧ p = [] ∧ (Lit.int .i64 t.1).wf = true ∧ (Lit.int .i64 t.2).wf = true := by
  obtain ⟨v0, v1, y0, y1, n, rfl, rfl, rfl, h0, h1⟩ := Go.Joins.open_agg2 Try.underlying28 (by kernel_rfl) (by kernel_rfl) hv h
  obtain ⟨n0, e0, hx0, hw0⟩ := DataW.trod_int Try.underlying3 h0
  obtain ⟨n1, e1, hx1, hw1⟩ := DataW.trod_int Try.underlying3 h1
  simp at e0 e1
  subst e0 e1 hx0 hx1
  exact ⟨(n0, n1), rfl, rfl, rfl, hw0, hw1⟩
theorem shut_tag (t : Int × Int) (h0 : (Lit.int .i64 t.1).wf = true) (h1 : (Lit.int .i64 t.2).wf = true) : DataW.Trod enc Try.prog w base spare held 28 (tv t) (tdat t) [] := by
  have k0 : DataW.Trod enc Try.prog w base spare held 3 (.int .i64 t.1) (.lit (.int .i64 t.1)) [] := shut_int Try.underlying3 h0
  have k1 : DataW.Trod enc Try.prog w base spare held 3 (.int .i64 t.2) (.lit (.int .i64 t.2)) [] := shut_int Try.underlying3 h1
  obtain ⟨n0, k0⟩ := k0
  obtain ⟨n1, k1⟩ := k1
  exact Go.Joins.shut_agg2 (y0 := (.lit (.int .i64 t.1), [])) (y1 := (.lit (.int .i64 t.2), [])) Try.underlying28 (by kernel_rfl) (by kernel_rfl) ⟨n0, by simpa [Value.cells] using k0⟩ ⟨n1, by simpa [Value.cells] using k1⟩
end
theorem wf_i64 {n : Int} (h : (Lit.int .i64 n).wf = true) : -9223372036854775808 ≤ n ∧ n ≤ 9223372036854775807 := by
  simpa [Lit.wf, IntKind.min, IntKind.max, IntKind.signed, IntKind.bits] using h
theorem wf_u32 {n : Int} (h : (Lit.int .u32 n).wf = true) : 0 ≤ n ∧ n ≤ 4294967295 := by
  simpa [Lit.wf, IntKind.min, IntKind.max, IntKind.signed, IntKind.bits] using h
end Go.Proofs.Ytcpnmbklkjdjlaa
