/- How an argument that is a slice of parts is opened. -/
import Derived.Test.YtcebhoilokmhdaaFields
import Derived.Test.YtcebhoilokmhdaaTupF
namespace Go.Proofs.Ytcebhoilokmhdaa
open Go.ChangeShapes Go.WideShapes Go.ChangeAt Go.RowKit
set_option linter.unusedVariables false

def pdat {H : Type} (p : Pt) : DataW H := .agg [.lit (.int .i64 p.k), .lit (.int .i64 p.n), .lit (.string p.s.data.toList)]
/-- What a slice of parts is told, but for sizes. -/
def PartsC (w : World) (v : Value) (ps : List Pt) : Prop := ∃ A cap, v = .slice A ps.length cap ∧
  (0 < ps.length → ∃ ad : Addr, A = some ad ∧ ad.spot = none ∧ ad.block < w.heap.size ∧ ∀ j p, ps[j]? = some p →
    w.cell? ⟨ad.block, ad.off + j * 3, none⟩ = some (.int .i64 p.k) ∧ w.cell? ⟨ad.block, ad.off + j * 3 + 1, none⟩ = some (.int .i64 p.n) ∧ w.cell? ⟨ad.block, ad.off + j * 3 + 2, none⟩ = some (.string p.s)) ∧
  (∀ p ∈ ps, (Lit.int .i64 p.k).wf = true ∧ -9223372036854775808 ≤ p.n ∧ p.n ≤ 9223372036854775807) ∧ ps.length ≤ cap
theorem wf_i64 {n : Int} (h : (Lit.int .i64 n).wf = true) : -9223372036854775808 ≤ n ∧ n ≤ 9223372036854775807 := by
  simpa [Lit.wf, IntKind.min, IntKind.max, IntKind.signed, IntKind.bits] using h

theorem open_parts {H : Type} {enc : TypeId × Value → H} {w : World} {base fuel : Nat} {A : Option Addr} {len cap : Nat} {d : DataW H} {p : List MemPlace}
    (h : DataW.trod enc Try.prog w base (fun _ => true) true fuel 54 [.slice A len cap] = some (d, p)) :
    ∃ ps, PartsC w (.slice A len cap) ps ∧ (d = .nil ∧ ps = [] ∨ ∃ rest, d = .slice (ps.map pdat) rest) := by
  rcases open_rows Try.underlying54 Try.underlying88 (by kernel_rfl) (by kernel_rfl) h with ⟨rfl, rfl, rfl, rfl⟩ | ⟨a, D, rest, rfl, hl, hm, rfl, hi⟩
  · exact ⟨[], ⟨none, 0, rfl, (fun h => by simp at h), by simp, by simp⟩, .inl ⟨rfl, rfl⟩⟩
  · have key : ∀ i, ∃ q : Pt, i < len → D i = pdat q ∧ w.cell? (a.add (i * 3)) = some (.int .i64 q.k) ∧ w.cell? (a.add (i * 3 + 1)) = some (.int .i64 q.n) ∧ w.cell? (a.add (i * 3 + 2)) = some (.string q.s) ∧ (Lit.int .i64 q.k).wf = true ∧ (Lit.int .i64 q.n).wf = true := by
      intro i
      by_cases hil : i < len
      · obtain ⟨ys, n, hD, hyl, hf⟩ := hi i hil
        obtain ⟨v0, y0, hc0, hy0, ht0⟩ := hf 0 _ rfl
        obtain ⟨v1, y1, hc1, hy1, ht1⟩ := hf 1 _ rfl
        obtain ⟨v2, y2, hc2, hy2, ht2⟩ := hf 2 _ rfl
        obtain ⟨k, e0, x0, wf0⟩ := DataW.trod_int Try.underlying86 ht0
        obtain ⟨m, e1, x1, wf1⟩ := DataW.trod_int Try.underlying3 ht1
        obtain ⟨s, e2, x2, _⟩ := DataW.trod_string Try.underlying9 ht2
        simp only [List.cons.injEq, and_true] at e0 e1 e2
        subst e0 e1 e2 x0 x1 x2
        refine ⟨⟨k, m, s⟩, fun _ => ⟨?_, hc0, hc1, hc2, wf0, wf1⟩⟩
        match ys, hyl, hy0, hy1, hy2 with
        | [a0, a1, a2], _, hy0, hy1, hy2 =>
          simp at hy0 hy1 hy2
          subst hy0 hy1 hy2
          exact hD
      · exact ⟨⟨0, 0, ⟨#[]⟩⟩, fun h => absurd h hil⟩
    obtain ⟨f, hf⟩ := Classical.axiomOfChoice key
    refine ⟨(List.range len).map f, ⟨some a, cap, by rw [range_map_len], fun hp => ?_, fun q hq => ?_, by rw [range_map_len]; exact hl⟩, .inr ⟨rest, congrArg (fun l => DataW.slice l rest) (range_map_set len f pdat D fun i hi => (hf i hi).1)⟩⟩
    · rw [range_map_len] at hp
      have h0 := (hf 0 hp).2.1
      have hsp : a.spot = none := by
        have := World.cell?_spot h0
        rwa [show a.add (0 * 3) = a from by simp [Addr.add]] at this
      refine ⟨a, rfl, hsp, ?_, fun j q hj => ?_⟩
      · have := cell_lt h0
        rwa [block_add] at this
      · obtain ⟨hjl, rfl⟩ := range_map_get hj
        obtain ⟨_, h1, h2, h3, _⟩ := hf j hjl
        rw [add_none hsp] at h1 h2 h3
        exact ⟨h1, h2, h3⟩
    · obtain ⟨i, hi', rfl⟩ := List.mem_map.1 hq
      obtain ⟨_, _, _, _, w0, w1⟩ := hf i (List.mem_range.1 hi')
      exact ⟨w0, wf_i64 w1⟩
/-- .. with the sizes that the form's own reach gives. -/
theorem parts_reach {H : Type} {w : World} {v : Value} {ps : List Pt} {d : DataW H} {ts : List TypeId} {ds : List (DataW H)} (h : PartsC w v ps) (hd : d = .nil ∧ ps = [] ∨ ∃ rest, d = .slice (ps.map pdat) rest)
    (hz : (DataW.weightsEach Try.prog ts ds).all (· ≤ reachBytes) = true) {j : Nat} (ht : ts[j]? = some 54) (hj : ds[j]? = some d) : Parts w w.heap.size v ps := by
  obtain ⟨A, cap, rfl, hr, hm, hcap⟩ := h
  rcases hd with ⟨rfl, rfl⟩ | ⟨rest, rfl⟩
  · exact ⟨A, cap, rfl, hr, by simp, by simp, by simp⟩
  · refine ⟨A, cap, rfl, hr, fun p hp => ⟨?_, (hm p hp).2⟩, ?_, hcap⟩
    · refine reach_elem (n := p.s.size) hz ht hj Try.underlying54 (List.mem_map.2 ⟨p, hp, rfl⟩) ?_
      exact weights_part Try.underlying88 (j := 2) (t := 9) rfl rfl (by simp [DataW.weights])
    · have := sized_slice hz ht hj Try.underlying54
      simp only [reachBytes, List.length_map] at this
      have hb : Try.prog.bytesOf 88 = 32 := by kernel_rfl
      rw [hb] at this
      omega
end Go.Proofs.Ytcebhoilokmhdaa
