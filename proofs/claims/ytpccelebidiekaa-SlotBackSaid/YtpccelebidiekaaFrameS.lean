/- How a slot that came in by value is opened and shut. -/
import Derived.Test.YtpccelebidiekaaFrame
import Derived.Test.YtpccelebidiekaaSltA
import Derived.Lib.SmallJoins
import Derived.ShutString
namespace Go.Proofs.Ytpccelebidiekaa
open Go.ChangeShapes Go.WideShapes Go.ChangeAt Go.RowKit
set_option linter.unusedVariables false
set_option maxRecDepth 100000

section
variable {H : Type} {enc : TypeId × Value → H} {w : World} {base : Nat} {spare : Nat → Bool} {held : Bool}
theorem row_of_five {α : Type} {cs : Array α} (h : cs.size = 5) : ∃ c0 c1 c2 c3 c4, cs = #[c0, c1, c2, c3, c4] := by
  obtain ⟨l⟩ := cs
  match l, h with
  | [c0, c1, c2, c3, c4], _ => exact ⟨c0, c1, c2, c3, c4, rfl⟩
theorem list_of_five {α : Type} {cs : List α} (h : cs.length = 5) : ∃ c0 c1 c2 c3 c4, cs = [c0, c1, c2, c3, c4] := by
  match cs, h with
  | [c0, c1, c2, c3, c4], _ => exact ⟨c0, c1, c2, c3, c4, rfl⟩
/-- A slot as data. -/
def sdat5 (s : St) : DataW H := .agg [.lit (.int .i64 s.e), .lit (.int .i64 s.q), .lit (.bool s.f), .lit (.bool s.z), .lit (.string s.d.data.toList)]
theorem open_slot {r : Reach} {b0 : Nat} {v : Value} {d : DataW H} {p : List MemPlace} (hv : Value.okWide Try.prog w r b0 23 v) (h : DataW.Trod enc Try.prog w base spare held 23 v d p) :
    ∃ s : St, v = stv s ∧ d = sdat5 s ∧ p = [] ∧ (Lit.int .i64 s.e).wf = true ∧ (Lit.int .i64 s.q).wf = true ∧ s.d.size ≤ maxLen := by
  obtain ⟨cs, rfl, hsz⟩ := okWide_struct Try.underlying23 hv
  obtain ⟨c0, c1, c2, c3, c4, rfl⟩ := row_of_five (hsz.trans (by kernel_rfl))
  obtain ⟨fuel, hf⟩ := h
  obtain ⟨xs, n, hx0, hx, hl, hlen, hg⟩ := DataW.trod_struct Try.underlying23 hf
  obtain ⟨y0, y1, y2, y3, y4, rfl⟩ := list_of_five hlen
  have k3 : Try.prog.cellsOf 3 = 1 := by kernel_rfl
  have k4 : Try.prog.cellsOf 4 = 1 := by kernel_rfl
  have k9 : Try.prog.cellsOf 9 = 1 := by kernel_rfl
  have g0 : DataW.trod enc Try.prog w base spare held n 3 [c0] = some y0 := by have := hg 0 _ rfl; simpa [Value.cells, k3] using this
  have g1 : DataW.trod enc Try.prog w base spare held n 3 [c1] = some y1 := by have := hg 1 _ rfl; simpa [Value.cells, k3] using this
  have g2 : DataW.trod enc Try.prog w base spare held n 4 [c2] = some y2 := by have := hg 2 _ rfl; simpa [Value.cells, k4] using this
  have g3 : DataW.trod enc Try.prog w base spare held n 4 [c3] = some y3 := by have := hg 3 _ rfl; simpa [Value.cells, k4] using this
  have g4 : DataW.trod enc Try.prog w base spare held n 9 [c4] = some y4 := by have := hg 4 _ rfl; simpa [Value.cells, k9] using this
  obtain ⟨n0, e0, x0, w0⟩ := DataW.trod_int Try.underlying3 g0
  obtain ⟨n1, e1, x1, w1⟩ := DataW.trod_int Try.underlying3 g1
  obtain ⟨n2, e2, x2⟩ := DataW.trod_bool Try.underlying4 g2
  obtain ⟨n3, e3, x3⟩ := DataW.trod_bool Try.underlying4 g3
  obtain ⟨n4, e4, x4, w4⟩ := DataW.trod_string Try.underlying9 g4
  simp at e0 e1 e2 e3 e4
  subst e0 e1 e2 e3 e4 x0 x1 x2 x3 x4
  simp only [Prod.mk.injEq] at hx
  exact ⟨⟨n0, n1, n2, n3, n4⟩, rfl, hx.1, hx.2, w0, w1, w4⟩
theorem shut_slot (s : St) (h0 : (Lit.int .i64 s.e).wf = true) (h1 : (Lit.int .i64 s.q).wf = true) (h4 : s.d.size ≤ maxLen) : DataW.Trod enc Try.prog w base spare held 23 (stv s) (sdat5 s) [] := by
  have k3 : Try.prog.cellsOf 3 = 1 := by kernel_rfl
  have k4 : Try.prog.cellsOf 4 = 1 := by kernel_rfl
  have k9 : Try.prog.cellsOf 9 = 1 := by kernel_rfl
  have hi : ∀ z : Int, (Lit.int .i64 z).wf = true → DataW.trod enc Try.prog w base spare held 1 3 [.int .i64 z] = some (.lit (.int .i64 z), []) := fun z hz => by simp [DataW.trod, Try.underlying3, hz]
  have hb : ∀ z : Bool, DataW.trod enc Try.prog w base spare held 1 4 [.bool z] = some (.lit (.bool z), []) := fun z => by simp [DataW.trod, Try.underlying4]
  have hs : DataW.trod enc Try.prog w base spare held 1 9 [.string s.d] = some (.lit (.string s.d.data.toList), []) := by simp [DataW.trod, Try.underlying9, h4]
  refine ⟨2, ?_⟩
  have := trod_struct_mk (enc := enc) (w := w) (base := base) (spare := spare) (held := held) (n := 1) (cs := [.int .i64 s.e, .int .i64 s.q, .bool s.f, .bool s.z, .string s.d])
    (xs := [(.lit (.int .i64 s.e), []), (.lit (.int .i64 s.q), []), (.lit (.bool s.f), []), (.lit (.bool s.z), []), (.lit (.string s.d.data.toList), [])]) Try.underlying23 (by kernel_rfl) (by simp [k3, k4, k9, hi _ h0, hi _ h1, hb, hs])
  simpa [Value.cells, stv, sdat5] using this
end
end Go.Proofs.Ytpccelebidiekaa
