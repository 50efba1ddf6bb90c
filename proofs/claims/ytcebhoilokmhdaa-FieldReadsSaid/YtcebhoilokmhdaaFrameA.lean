/- How an argument that is a slice of asks is opened. -/
import Derived.Test.YtcebhoilokmhdaaFields
import Derived.Test.YtcebhoilokmhdaaFieldReadsW
namespace Go.Proofs.Ytcebhoilokmhdaa
open Go.ChangeShapes Go.WideShapes Go.ChangeAt Go.RowKit
set_option linter.unusedVariables false

def adat {H : Type} (p : Int × Int) : DataW H := .agg [.lit (.int .i64 p.1), .lit (.int .i64 p.2)]
theorem open_asks {H : Type} {enc : TypeId × Value → H} {w : World} {base fuel : Nat} {A : Option Addr} {len cap : Nat} {d : DataW H} {p : List MemPlace}
    (h : DataW.trod enc Try.prog w base (fun _ => true) true fuel 30 [.slice A len cap] = some (d, p)) :
    ∃ ps, Asks w w.heap.size (.slice A len cap) ps ∧ (d = .nil ∧ ps = [] ∨ ∃ rest, d = .slice (ps.map adat) rest) := by
  rcases open_rows Try.underlying30 Try.underlying36 (by kernel_rfl) (by kernel_rfl) h with ⟨rfl, rfl, rfl, rfl⟩ | ⟨a, D, rest, rfl, hl, hm, rfl, hi⟩
  · exact ⟨[], ⟨none, 0, rfl, (fun h => by simp at h)⟩, .inl ⟨rfl, rfl⟩⟩
  · have key : ∀ i, ∃ q : Int × Int, i < len → D i = adat q ∧ w.cell? (a.add (i * 2)) = some (.int .i64 q.1) ∧ w.cell? (a.add (i * 2 + 1)) = some (.int .i64 q.2) := by
      intro i
      by_cases hil : i < len
      · obtain ⟨ys, n, hD, hyl, hf⟩ := hi i hil
        obtain ⟨v0, y0, hc0, hy0, ht0⟩ := hf 0 _ rfl
        obtain ⟨v1, y1, hc1, hy1, ht1⟩ := hf 1 _ rfl
        obtain ⟨k, e0, x0, wf0⟩ := DataW.trod_int Try.underlying3 ht0
        obtain ⟨m, e1, x1, wf1⟩ := DataW.trod_int Try.underlying3 ht1
        simp only [List.cons.injEq, and_true] at e0 e1
        subst e0 e1 x0 x1
        refine ⟨(k, m), fun _ => ⟨?_, hc0, hc1⟩⟩
        match ys, hyl, hy0, hy1 with
        | [a0, a1], _, hy0, hy1 =>
          simp at hy0 hy1
          subst hy0 hy1
          exact hD
      · exact ⟨(0, 0), fun h => absurd h hil⟩
    obtain ⟨f, hf⟩ := Classical.axiomOfChoice key
    refine ⟨(List.range len).map f, ⟨some a, cap, by rw [range_map_len], fun hp => ?_⟩, .inr ⟨rest, congrArg (fun l => DataW.slice l rest) (range_map_set len f adat D fun i hi => (hf i hi).1)⟩⟩
    rw [range_map_len] at hp
    have h0 := (hf 0 hp).2.1
    have hsp : a.spot = none := by
      have := World.cell?_spot h0
      rwa [show a.add (0 * 2) = a from by simp [Addr.add]] at this
    refine ⟨a, rfl, hsp, ?_, fun j k m hj => ?_⟩
    · have := cell_lt h0
      rwa [block_add] at this
    · obtain ⟨hjl, e⟩ := range_map_get hj
      obtain ⟨_, h1, h2⟩ := hf j hjl
      rw [← e] at h1 h2
      rw [add_none hsp] at h1 h2
      exact ⟨h1, h2⟩
end Go.Proofs.Ytcebhoilokmhdaa
