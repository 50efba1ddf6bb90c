/- How an argument that is a row of calls is opened. -/
import Derived.Test.YtmedljnbcpdoeaaDoorFields
import Derived.Test.YtmedljnbcpdoeaaDoorBlkM
namespace Go.Proofs.YtmedljnbcpdoeaaDoor
open Go.ChangeShapes Go.WideShapes Go.ChangeAt Go.RowKit
set_option linter.unusedVariables false

/-- A slice of whole numbers, qs a field has it. -/
theorem open_ivB9 {H : Type} {enc : TypeId × Value → H} {w : World} {base fuel : Nat} {v : Value} {y : DataW H × List MemPlace}
    (h : DataW.trod enc Tryd.prog w base (fun _ => true) true fuel 38 [v] = some y) : ∃ zs, IvB w.heap.size w v zs := by
  rcases open_ints Tryd.underlying38 Tryd.underlying3 (by kernel_rfl) h with ⟨hcs, hx⟩ | ⟨x, l, c, zs, hcs, _, hl, hm, hz, hx, hcell, hwz⟩
  · simp only [List.cons.injEq, and_true] at hcs
    exact ⟨[], none, 0, hcs, by simp, fun h => by simp at h⟩
  · simp only [List.cons.injEq, and_true] at hcs
    have hz' : zs.length = c := by simpa using hz
    have hlen : (zs.take l).length = l := by simp; omega
    refine ⟨zs.take l, some x, c, by rw [hlen]; exact hcs, by rw [hlen]; unfold maxLen at hm; omega, fun hp => ?_⟩
    have h0 := hcell 0 (by omega)
    have hsp : x.spot = none := by
      have := World.cell?_spot h0
      rwa [show x.add 0 = x from by simp [Addr.add]] at this
    have hb := cell_lt h0
    rw [block_add] at hb
    obtain ⟨b, o, sp⟩ := x
    simp at hsp; subst hsp
    refine ⟨b, o, rfl, hb, fun j z hj => ?_⟩
    rw [List.getElem?_take] at hj
    split at hj
    · have hjl : j < zs.length := by omega
      have hc := hcell j hjl
      rw [add_none rfl] at hc
      rw [hc]
      rw [List.getElem?_eq_getElem hjl] at hj
      cases hj
      simp [List.getElem?_eq_getElem hjl]
    · cases hj
theorem open_acts9 {H : Type} {enc : TypeId × Value → H} {w : World} {base fuel : Nat} {A : Option Addr} {len cap : Nat} {d : DataW H} {p : List MemPlace}
    (h : DataW.trod enc Tryd.prog w base (fun _ => true) true fuel 22 [.slice A len cap] = some (d, p)) :
    ∃ qs, Acts w.heap.size w (.slice A len cap) qs := by
  rcases open_rows Tryd.underlying22 Tryd.underlying44 (by kernel_rfl) (by kernel_rfl) h with ⟨rfl, rfl, rfl, rfl⟩ | ⟨a, D, rest, rfl, hl, hm, rfl, hi⟩
  · exact ⟨[], none, 0, rfl, by simp, fun h => by simp at h⟩
  · have key : ∀ i, ∃ q : Acv, i < len → (w.cell? (a.add (i * 4)) = some (.int .i64 q.k) ∧ w.cell? (a.add (i * 4 + 1)) = some (.int .i64 q.i) ∧ w.cell? (a.add (i * 4 + 2)) = some (.string q.s) ∧ w.cell? (a.add (i * 4 + 3)) = some q.v) ∧ IvB w.heap.size w q.v q.zs ∧ -9223372036854775808 ≤ q.i ∧ q.i ≤ 9223372036854775807 := by
      intro i
      by_cases hil : i < len
      · obtain ⟨ys, n, hD, hyl, hf⟩ := hi i hil
        obtain ⟨v0, y0, hc0, hy0, ht0⟩ := hf 0 _ rfl
        obtain ⟨v1, y1, hc1, hy1, ht1⟩ := hf 1 _ rfl
        obtain ⟨v2, y2, hc2, hy2, ht2⟩ := hf 2 _ rfl
        obtain ⟨v3, y3, hc3, hy3, ht3⟩ := hf 3 _ rfl
        obtain ⟨k, e0, x0, wf0⟩ := DataW.trod_int Tryd.underlying3 ht0
        obtain ⟨m, e1, x1, wf1⟩ := DataW.trod_int Tryd.underlying3 ht1
        obtain ⟨s, e2, x2, _⟩ := DataW.trod_string Tryd.underlying9 ht2
        obtain ⟨zs, hz⟩ := open_ivB9 ht3
        simp only [List.cons.injEq, and_true] at e0 e1 e2
        subst e0 e1 e2
        exact ⟨⟨k, m, s, v3, zs⟩, fun _ => ⟨⟨hc0, hc1, hc2, hc3⟩, hz, wf_i64 wf1⟩⟩
      · exact ⟨⟨0, 0, ⟨#[]⟩, .slice none 0 0, []⟩, fun h => absurd h hil⟩
    obtain ⟨f, hf⟩ := Classical.axiomOfChoice key
    refine ⟨(List.range len).map f, some a, cap, by rw [range_map_len], by rw [range_map_len]; unfold maxLen at hm; omega, fun hp => ?_⟩
    rw [range_map_len] at hp
    have h0 := (hf 0 hp).1.1
    have hsp : a.spot = none := by
      have := World.cell?_spot h0
      rwa [show a.add (0 * 4) = a from by simp [Addr.add]] at this
    have hb := cell_lt h0
    rw [block_add] at hb
    obtain ⟨b, o, sp⟩ := a
    simp at hsp; subst hsp
    refine ⟨b, o, rfl, hb, fun j q hj => ?_⟩
    obtain ⟨hjl, rfl⟩ := range_map_get hj
    obtain ⟨⟨h1, h2, h3, h4⟩, h5⟩ := hf j hjl
    rw [add_none rfl] at h1 h2 h3 h4
    exact ⟨⟨h1, h2, h3, h4⟩, h5⟩
end Go.Proofs.YtmedljnbcpdoeaaDoor
