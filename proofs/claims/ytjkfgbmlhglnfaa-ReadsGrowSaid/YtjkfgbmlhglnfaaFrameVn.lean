/- How versions that came in are opened and shut: a slice of them, and one by value. -/
import Derived.Test.YtjkfgbmlhglnfaaFields
import Derived.Test.YtjkfgbmlhglnfaaVcD
import Derived.Lib.SmallJoins
import Derived.ShutString
namespace Go.Proofs.Ytjkfgbmlhglnfaa
open Go.ChangeShapes Go.WideShapes Go.ChangeAt Go.RowKit
set_option linter.unusedVariables false
set_option maxRecDepth 100000

def vdat {H : Type} (x : Vn) : DataW H := .agg [.lit (.int .i64 x.t), .lit (.string x.s.data.toList), .lit (.bool x.d)]
theorem open_vers {H : Type} {enc : TypeId × Value → H} {w : World} {base fuel : Nat} {A : Option Addr} {len cap : Nat} {d : DataW H} {p : List MemPlace}
    (h : DataW.trod enc Try.prog w base (fun _ => true) true fuel 38 [.slice A len cap] = some (d, p)) :
    ∃ L, Vr w (.slice A len cap) L ∧ (∀ x ∈ L, (Lit.int .i64 x.t).wf = true) ∧ (d = .nil ∧ L = [] ∨ ∃ rest, d = .slice (L.map vdat) rest) := by
  rcases open_rows Try.underlying38 Try.underlying83 (by kernel_rfl) (by kernel_rfl) h with ⟨rfl, rfl, rfl, rfl⟩ | ⟨a, D, rest, rfl, hl, hm, rfl, hi⟩
  · exact ⟨[], ⟨none, 0, rfl, by simp, fun h => by simp at h⟩, by simp, .inl ⟨rfl, rfl⟩⟩
  · have key : ∀ i, ∃ q : Vn, i < len → D i = vdat q ∧ w.cell? (a.add (i * 3)) = some (.int .i64 q.t) ∧ w.cell? (a.add (i * 3 + 1)) = some (.string q.s) ∧ w.cell? (a.add (i * 3 + 2)) = some (.bool q.d) ∧ (Lit.int .i64 q.t).wf = true := by
      intro i
      by_cases hil : i < len
      · obtain ⟨ys, n, hD, hyl, hf⟩ := hi i hil
        obtain ⟨v0, y0, hc0, hy0, ht0⟩ := hf 0 _ rfl
        obtain ⟨v1, y1, hc1, hy1, ht1⟩ := hf 1 _ rfl
        obtain ⟨v2, y2, hc2, hy2, ht2⟩ := hf 2 _ rfl
        obtain ⟨k, e0, x0, wf0⟩ := DataW.trod_int Try.underlying3 ht0
        obtain ⟨s, e1, x1, _⟩ := DataW.trod_string Try.underlying9 ht1
        obtain ⟨m, e2, x2⟩ := DataW.trod_bool Try.underlying4 ht2
        simp only [List.cons.injEq, and_true] at e0 e1 e2
        subst e0 e1 e2 x0 x1 x2
        refine ⟨⟨k, s, m⟩, fun _ => ⟨?_, hc0, hc1, hc2, wf0⟩⟩
        match ys, hyl, hy0, hy1, hy2 with
        | [a0, a1, a2], _, hy0, hy1, hy2 =>
          simp at hy0 hy1 hy2
          subst hy0 hy1 hy2
          exact hD
      · exact ⟨⟨0, ⟨#[]⟩, false⟩, fun h => absurd h hil⟩
    obtain ⟨f, hf⟩ := Classical.axiomOfChoice key
    refine ⟨(List.range len).map f, ⟨some a, cap, by rw [range_map_len], by rw [range_map_len]; exact Nat.le_trans hl (Nat.le_trans hm (by unfold maxLen; omega)), fun hp => ?_⟩, fun q hq => ?_, .inr ⟨rest, congrArg (fun l => DataW.slice l rest) (range_map_set len f vdat D fun i hi => (hf i hi).1)⟩⟩
    · rw [range_map_len] at hp
      have h0 := (hf 0 hp).2.1
      have hsp : a.spot = none := by
        have := World.cell?_spot h0
        rwa [show a.add (0 * 3) = a from by simp [Addr.add]] at this
      obtain ⟨ab, ao, asp⟩ := a
      simp only at hsp
      subst hsp
      refine ⟨ab, ao, rfl, ?_, fun j q hj => ?_⟩
      · have := cell_lt h0
        rwa [block_add] at this
      · obtain ⟨hjl, rfl⟩ := range_map_get hj
        obtain ⟨_, h1, h2, h3, _⟩ := hf j hjl
        rw [add_none rfl] at h1 h2 h3
        exact ⟨h1, h2, h3⟩
    · obtain ⟨i, hi', rfl⟩ := List.mem_map.1 hq
      exact (hf i (List.mem_range.1 hi')).2.2.2.2
theorem vers_cap {H : Type} {enc : TypeId × Value → H} {w : World} {base fuel : Nat} {A : Option Addr} {len cap : Nat} {d : DataW H} {p : List MemPlace}
    (h : DataW.trod enc Try.prog w base (fun _ => true) true fuel 38 [.slice A len cap] = some (d, p)) : len ≤ cap := by
  rcases open_rows Try.underlying38 Try.underlying83 (by kernel_rfl) (by kernel_rfl) h with ⟨rfl, rfl, rfl, rfl⟩ | ⟨a, D, rest, rfl, hl, hm, rfl, hi⟩
  · exact Nat.le_refl _
  · exact hl
theorem row_of_3 {α : Type} {cs : Array α} (h : cs.size = 3) : ∃ c0 c1 c2, cs = #[c0, c1, c2] := by
  obtain ⟨l⟩ := cs
  match l, h with
  | [c0, c1, c2], _ => exact ⟨c0, c1, c2, rfl⟩
theorem list_of_3 {α : Type} {cs : List α} (h : cs.length = 3) : ∃ c0 c1 c2, cs = [c0, c1, c2] := by
  match cs, h with
  | [c0, c1, c2], _ => exact ⟨c0, c1, c2, rfl⟩
section
variable {H : Type} {enc : TypeId × Value → H} {w : World} {base : Nat} {spare : Nat → Bool} {held : Bool}
theorem open_ver {r : Reach} {b0 : Nat} {v : Value} {d : DataW H} {p : List MemPlace} (hv : Value.okWide Try.prog w r b0 83 v) (h : DataW.Trod enc Try.prog w base spare held 83 v d p) :
    ∃ s : Vn, v = vg s ∧ d = vdat s ∧ p = [] ∧ (Lit.int .i64 s.t).wf = true ∧ s.s.size ≤ maxLen := by
  obtain ⟨cs, rfl, hsz⟩ := okWide_struct Try.underlying83 hv
  obtain ⟨c0, c1, c2, rfl⟩ := row_of_3 (hsz.trans (by kernel_rfl))
  obtain ⟨fuel, hf⟩ := h
  obtain ⟨xs, n, hx0, hx, hl, hlen, hg⟩ := DataW.trod_struct Try.underlying83 hf
  obtain ⟨y0, y1, y2, rfl⟩ := list_of_3 hlen
  have k3 : Try.prog.cellsOf 3 = 1 := by kernel_rfl
  have k4 : Try.prog.cellsOf 4 = 1 := by kernel_rfl
  have k9 : Try.prog.cellsOf 9 = 1 := by kernel_rfl
  have g0 : DataW.trod enc Try.prog w base spare held n 3 [c0] = some y0 := by have := hg 0 _ rfl; simpa [Value.cells, k3] using this
  have g1 : DataW.trod enc Try.prog w base spare held n 9 [c1] = some y1 := by have := hg 1 _ rfl; simpa [Value.cells, k3, k9] using this
  have g2 : DataW.trod enc Try.prog w base spare held n 4 [c2] = some y2 := by have := hg 2 _ rfl; simpa [Value.cells, k3, k4, k9] using this
  obtain ⟨n0, e0, x0, w0⟩ := DataW.trod_int Try.underlying3 g0
  obtain ⟨n1, e1, x1, w1⟩ := DataW.trod_string Try.underlying9 g1
  obtain ⟨n2, e2, x2⟩ := DataW.trod_bool Try.underlying4 g2
  simp at e0 e1 e2
  subst e0 e1 e2 x0 x1 x2
  simp only [Prod.mk.injEq] at hx
  exact ⟨⟨n0, n1, n2⟩, rfl, hx.1, hx.2, w0, w1⟩
theorem shut_ver (s : Vn) (h0 : (Lit.int .i64 s.t).wf = true) (h4 : s.s.size ≤ maxLen) : DataW.Trod enc Try.prog w base spare held 83 (vg s) (vdat s) [] := by
  have k3 : Try.prog.cellsOf 3 = 1 := by kernel_rfl
  have k4 : Try.prog.cellsOf 4 = 1 := by kernel_rfl
  have k9 : Try.prog.cellsOf 9 = 1 := by kernel_rfl
  have hi : ∀ z : Int, (Lit.int .i64 z).wf = true → DataW.trod enc Try.prog w base spare held 1 3 [.int .i64 z] = some (.lit (.int .i64 z), []) := fun z hz => by simp [DataW.trod, Try.underlying3, hz]
  have hb : ∀ z : Bool, DataW.trod enc Try.prog w base spare held 1 4 [.bool z] = some (.lit (.bool z), []) := fun z => by simp [DataW.trod, Try.underlying4]
  have hs : DataW.trod enc Try.prog w base spare held 1 9 [.string s.s] = some (.lit (.string s.s.data.toList), []) := by simp [DataW.trod, Try.underlying9, h4]
  refine ⟨2, ?_⟩
  have := trod_struct_mk (enc := enc) (w := w) (base := base) (spare := spare) (held := held) (n := 1) (cs := [.int .i64 s.t, .string s.s, .bool s.d])
    (xs := [(.lit (.int .i64 s.t), []), (.lit (.string s.s.data.toList), []), (.lit (.bool s.d), [])]) Try.underlying83 (by kernel_rfl) (by simp [k3, k4, k9, hi _ h0, hb, hs])
  simpa [Value.cells, vg, vdat] using this
end
end Go.Proofs.Ytjkfgbmlhglnfaa
