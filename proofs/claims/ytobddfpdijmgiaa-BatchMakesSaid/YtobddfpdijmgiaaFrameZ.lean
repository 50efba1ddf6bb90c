/- Pairs that came in. -/
import Derived.Test.YtobddfpdijmgiaaFrameX
import Derived.Test.YtobddfpdijmgiaaBtI
namespace Go.Proofs.Ytobddfpdijmgiaa
open Go.RowKit
set_option linter.unusedVariables false
set_option linter.unusedSimpArgs false

theorem open_pairs15 {H : Type} {enc : TypeId × Value → H} {w : World} {base fuel : Nat} {A : Option Addr} {len cap : Nat} {d : DataW H} {p : List MemPlace}
    (h : DataW.trod enc Try.prog w base (fun _ => true) true fuel 46 [.slice A len cap] = some (d, p)) : ∃ L, Pc w (.slice A len cap) L := by
  rcases open_rows Try.underlying46 Try.underlying61 (by kernel_rfl) (by kernel_rfl) h with ⟨rfl, rfl, rfl, rfl⟩ | ⟨a, D, rest, rfl, hl, hm, rfl, hi⟩
  · exact ⟨[], ⟨none, 0, rfl, by simp, fun h => by simp at h⟩, fun A n c e => by injection e with _ h2 h3; omega⟩
  · have key : ∀ i, ∃ q : Pq2, i < len → w.cell? (a.add (i * 2)) = some (.string q.k) ∧ w.cell? (a.add (i * 2 + 1)) = some (.string q.v) := by
      intro i
      by_cases hil : i < len
      · obtain ⟨ys, n, hD, hyl, hf⟩ := hi i hil
        obtain ⟨v0, y0, hc0, hy0, ht0⟩ := hf 0 _ rfl
        obtain ⟨v1, y1, hc1, hy1, ht1⟩ := hf 1 _ rfl
        obtain ⟨s0, e0, x0, _⟩ := DataW.trod_string Try.underlying9 ht0
        obtain ⟨s1, e1, x1, _⟩ := DataW.trod_string Try.underlying9 ht1
        simp only [List.cons.injEq, and_true] at e0 e1
        subst e0 e1
        exact ⟨⟨s0, s1⟩, fun _ => ⟨hc0, hc1⟩⟩
      · exact ⟨⟨⟨#[]⟩, ⟨#[]⟩⟩, fun h => absurd h hil⟩
    obtain ⟨f, hf⟩ := Classical.axiomOfChoice key
    refine ⟨(List.range len).map f, ⟨some a, cap, by rw [range_map_len], by rw [range_map_len]; exact Nat.le_trans hl (Nat.le_trans hm (by unfold maxLen; omega)), fun hp => ?_⟩, fun A n c e => by injection e with _ h2 h3; omega⟩
    rw [flat_len pc2_len, range_map_len] at hp
    have h0 := (hf 0 (by omega)).1
    have hsp : a.spot = none := by
      have := World.cell?_spot h0
      rwa [show a.add (0 * 2) = a from by simp [Addr.add]] at this
    obtain ⟨ab, ao, asp⟩ := a
    simp only at hsp
    subst hsp
    refine ⟨ab, ao, rfl, ?_, fun j u hj => ?_⟩
    · have := cell_lt h0
      rwa [block_add] at this
    · have hjl : j < ((List.range len).map f).length * 2 := by
        have := (List.getElem?_eq_some_iff.1 hj).1
        rwa [flat_len pc2_len] at this
      rw [range_map_len] at hjl
      have hd : j / 2 < len := by omega
      obtain ⟨h1, h2⟩ := hf (j / 2) hd
      rw [add_none rfl] at h1 h2
      have hx : ((List.range len).map f)[j / 2]? = some (f (j / 2)) := by
        rw [List.getElem?_map, List.getElem?_range hd]; rfl
      have hfa := flat_at pc2_len ((List.range len).map f) (j / 2) (j % 2) _ hx (by omega)
      have hjj : j / 2 * 2 + j % 2 = j := by omega
      rw [hjj, hj] at hfa
      have hcase : j % 2 = 0 ∨ j % 2 = 1 := by omega
      simp only [pc2] at hfa
      rcases hcase with e | e
      · rw [e] at hfa hjj
        simp at hfa
        rw [hfa, show ao + j = ao + j / 2 * 2 by omega]
        exact h1
      · rw [e] at hfa
        simp at hfa
        rw [hfa, show ao + j = ao + (j / 2 * 2 + 1) by omega]
        exact h2
end Go.Proofs.Ytobddfpdijmgiaa
