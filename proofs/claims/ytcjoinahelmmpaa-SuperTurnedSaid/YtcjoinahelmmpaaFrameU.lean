/- How a super that came in by value is opened and shut. -/
import Derived.Test.YtcjoinahelmmpaaFrame
import Derived.Test.YtcjoinahelmmpaaSuA
import Derived.Lib.SmallJoins
namespace Go.Proofs.Ytcjoinahelmmpaa
open Go.ChangeShapes Go.WideShapes Go.ChangeAt Go.RowKit
set_option linter.unusedVariables false
set_option maxRecDepth 100000

section
variable {H : Type} {enc : TypeId × Value → H} {w : World} {base : Nat} {spare : Nat → Bool} {held : Bool}
theorem row_of_six {α : Type} {cs : Array α} (h : cs.size = 6) : ∃ c0 c1 c2 c3 c4 c5, cs = #[c0, c1, c2, c3, c4, c5] := by
  obtain ⟨l⟩ := cs
  match l, h with
  | [c0, c1, c2, c3, c4, c5], _ => exact ⟨c0, c1, c2, c3, c4, c5, rfl⟩
theorem list_of_six {α : Type} {cs : List α} (h : cs.length = 6) : ∃ c0 c1 c2 c3 c4 c5, cs = [c0, c1, c2, c3, c4, c5] := by
  match cs, h with
  | [c0, c1, c2, c3, c4, c5], _ => exact ⟨c0, c1, c2, c3, c4, c5, rfl⟩
/-- What whole numbers a super has. -/
def Sup.wf (s : Sup) : Prop := (Lit.int .i64 s.g).wf = true ∧ (Lit.int .i64 s.r).wf = true ∧ (Lit.int .i64 s.t).wf = true ∧ (Lit.int .i64 s.e).wf = true ∧ (Lit.int .i64 s.l).wf = true ∧ (Lit.int .i64 s.m).wf = true
/-- A super as data. -/
def udat (s : Sup) : DataW H := .agg [.lit (.int .i64 s.g), .lit (.int .i64 s.r), .lit (.int .i64 s.t), .lit (.int .i64 s.e), .lit (.int .i64 s.l), .lit (.int .i64 s.m)]
theorem super_cells {fuel : Nat} {xs : List Value} {y : DataW H × List MemPlace} (h : DataW.trod enc Try.prog w base spare held fuel 23 xs = some y) (hx : xs.length = 6) :
    ∃ s : Sup, xs = [.int .i64 s.g, .int .i64 s.r, .int .i64 s.t, .int .i64 s.e, .int .i64 s.l, .int .i64 s.m] ∧ y.1 = udat s ∧ y.2 = [] ∧ s.wf := by
  obtain ⟨c0, c1, c2, c3, c4, c5, rfl⟩ := list_of_six hx
  obtain ⟨ys, n, hx0, hx, hl, hlen, hg⟩ := DataW.trod_struct Try.underlying23 h
  obtain ⟨y0, y1, y2, y3, y4, y5, rfl⟩ := list_of_six hlen
  have k3 : Try.prog.cellsOf 3 = 1 := by kernel_rfl
  have g0 : DataW.trod enc Try.prog w base spare held n 3 [c0] = some y0 := by have := hg 0 _ rfl; simpa [Value.cells, k3] using this
  have g1 : DataW.trod enc Try.prog w base spare held n 3 [c1] = some y1 := by have := hg 1 _ rfl; simpa [Value.cells, k3] using this
  have g2 : DataW.trod enc Try.prog w base spare held n 3 [c2] = some y2 := by have := hg 2 _ rfl; simpa [Value.cells, k3] using this
  have g3 : DataW.trod enc Try.prog w base spare held n 3 [c3] = some y3 := by have := hg 3 _ rfl; simpa [Value.cells, k3] using this
  have g4 : DataW.trod enc Try.prog w base spare held n 3 [c4] = some y4 := by have := hg 4 _ rfl; simpa [Value.cells, k3] using this
  have g5 : DataW.trod enc Try.prog w base spare held n 3 [c5] = some y5 := by have := hg 5 _ rfl; simpa [Value.cells, k3] using this
  obtain ⟨n0, e0, x0, w0⟩ := DataW.trod_int Try.underlying3 g0
  obtain ⟨n1, e1, x1, w1⟩ := DataW.trod_int Try.underlying3 g1
  obtain ⟨n2, e2, x2, w2⟩ := DataW.trod_int Try.underlying3 g2
  obtain ⟨n3, e3, x3, w3⟩ := DataW.trod_int Try.underlying3 g3
  obtain ⟨n4, e4, x4, w4⟩ := DataW.trod_int Try.underlying3 g4
  obtain ⟨n5, e5, x5, w5⟩ := DataW.trod_int Try.underlying3 g5
  simp at e0 e1 e2 e3 e4 e5
  subst e0 e1 e2 e3 e4 e5 x0 x1 x2 x3 x4 x5
  exact ⟨⟨n0, n1, n2, n3, n4, n5⟩, rfl, by rw [hx]; rfl, by rw [hx]; rfl, w0, w1, w2, w3, w4, w5⟩
theorem open_super {r : Reach} {b0 : Nat} {v : Value} {d : DataW H} {p : List MemPlace} (hv : Value.okWide Try.prog w r b0 23 v) (h : DataW.Trod enc Try.prog w base spare held 23 v d p) :
    ∃ s : Sup, v = uv s ∧ d = udat s ∧ p = [] ∧ s.wf := by
  obtain ⟨cs, rfl, hsz⟩ := okWide_struct Try.underlying23 hv
  obtain ⟨fuel, hf⟩ := h
  obtain ⟨s, h1, h2, h3, h4⟩ := super_cells (xs := cs.toList) (by simpa [Value.cells] using hf) (by rw [Array.length_toList]; exact hsz.trans (by kernel_rfl))
  refine ⟨s, ?_, h2, h3, h4⟩
  unfold uv
  congr 1
  apply Array.ext'
  exact h1
theorem shut_super (s : Sup) (h : s.wf) : DataW.Trod enc Try.prog w base spare held 23 (uv s) (udat s) [] := by
  obtain ⟨h0, h1, h2, h3, h4, h5⟩ := h
  have k3 : Try.prog.cellsOf 3 = 1 := by kernel_rfl
  have hi : ∀ z : Int, (Lit.int .i64 z).wf = true → DataW.trod enc Try.prog w base spare held 1 3 [.int .i64 z] = some (.lit (.int .i64 z), []) := fun z hz => by simp [DataW.trod, Try.underlying3, hz]
  refine ⟨2, ?_⟩
  have := trod_struct_mk (enc := enc) (w := w) (base := base) (spare := spare) (held := held) (n := 1) (cs := [.int .i64 s.g, .int .i64 s.r, .int .i64 s.t, .int .i64 s.e, .int .i64 s.l, .int .i64 s.m])
    (xs := [(.lit (.int .i64 s.g), []), (.lit (.int .i64 s.r), []), (.lit (.int .i64 s.t), []), (.lit (.int .i64 s.e), []), (.lit (.int .i64 s.l), []), (.lit (.int .i64 s.m), [])]) Try.underlying23 (by kernel_rfl) (by simp [k3, hi _ h0, hi _ h1, hi _ h2, hi _ h3, hi _ h4, hi _ h5])
  simpa [Value.cells, uv, udat] using this
end
end Go.Proofs.Ytcjoinahelmmpaa
