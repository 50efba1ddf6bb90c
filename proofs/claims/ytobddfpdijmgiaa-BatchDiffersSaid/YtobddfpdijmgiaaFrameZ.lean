/- Pairs that came in. -/
import Derived.Test.YtobddfpdijmgiaaFrameX
import Derived.Test.YtobddfpdijmgiaaBtI
namespace Go.Proofs.Ytobddfpdijmgiaa
open Go.RowKit
set_option linter.unusedVariables false
set_option linter.unusedSimpArgs false

def Pxd (H : Type) (d : DataW H) (L : List Pq2) : Prop := d = .nil ∧ L = [] ∨ ∃ ls rest, d = .slice ls rest ∧ ∀ p ∈ L, ∃ y1, DataW.agg [.lit (.string p.k.data.toList), y1] ∈ ls
theorem open_pairs15d {H : Type} {enc : TypeId × Value → H} {w : World} {base fuel : Nat} {A : Option Addr} {len cap : Nat} {d : DataW H} {p : List MemPlace}
    (h : DataW.trod enc Try.prog w base (fun _ => true) true fuel 46 [.slice A len cap] = some (d, p)) : ∃ L, Pc w (.slice A len cap) L ∧ Pxd H d L := by
  rcases open_rows Try.underlying46 Try.underlying61 (by kernel_rfl) (by kernel_rfl) h with ⟨rfl, rfl, rfl, rfl⟩ | ⟨a, D, rest, rfl, hl, hm, rfl, hi⟩
  · exact ⟨[], ⟨⟨none, 0, rfl, by simp, fun h => by simp at h⟩, fun A n c e => by injection e with _ h2 h3; omega⟩, .inl ⟨rfl, rfl⟩⟩
  · have key : ∀ i, ∃ q : Pq2, i < len → w.cell? (a.add (i * 2)) = some (.string q.k) ∧ w.cell? (a.add (i * 2 + 1)) = some (.string q.v) ∧ ∃ y1, D i = .agg [.lit (.string q.k.data.toList), y1] := by
      intro i
      by_cases hil : i < len
      · obtain ⟨ys, n, hD, hyl, hf⟩ := hi i hil
        obtain ⟨v0, y0, hc0, hy0, ht0⟩ := hf 0 _ rfl
        obtain ⟨v1, y1, hc1, hy1, ht1⟩ := hf 1 _ rfl
        obtain ⟨s0, e0, x0, _⟩ := DataW.trod_string Try.underlying9 ht0
        obtain ⟨s1, e1, x1, _⟩ := DataW.trod_string Try.underlying9 ht1
        simp only [List.cons.injEq, and_true] at e0 e1
        subst e0 e1
        have hys : D i = .agg [.lit (.string s0.data.toList), y1.1] := by
          rw [hD]
          congr 1
          have e0 := hy0
          have e1 := hy1
          match ys, hyl, e0, e1 with
          | [a0, a1], _, e0, e1 =>
            simp at e0 e1
            rw [e0, e1, x0]
            rfl
        exact ⟨⟨s0, s1⟩, fun _ => ⟨hc0, hc1, _, hys⟩⟩
      · exact ⟨⟨⟨#[]⟩, ⟨#[]⟩⟩, fun h => absurd h hil⟩
    obtain ⟨f, hf⟩ := Classical.axiomOfChoice key
    refine ⟨(List.range len).map f, ⟨⟨some a, cap, by rw [range_map_len], by rw [range_map_len]; exact Nat.le_trans hl (Nat.le_trans hm (by unfold maxLen; omega)), fun hp => ?_⟩, fun A n c e => by injection e with _ h2 h3; omega⟩, .inr ⟨_, rest, rfl, fun q hq => ?_⟩⟩
    · rw [flat_len pc2_len, range_map_len] at hp
      have h0 := (hf 0 (by omega)).1
      have hsp : a.spot = none := by
        have := World.cell?_spot h0
        rwa [show a.add (0 * 2) = a from by simp [Addr.add]] at this
      obtain ⟨ab, ao, asp⟩ := a
      simp only at hsp
      subst hsp
      refine ⟨ab, ao, rfl, ?_, fun j u hj => ?_⟩
      · have := cell_lt h0
        rwa [block_add] at this
      · have hjl : j < ((List.range len).map f).length * 2 := by
          have := (List.getElem?_eq_some_iff.1 hj).1
          rwa [flat_len pc2_len] at this
        rw [range_map_len] at hjl
        have hd : j / 2 < len := by omega
        obtain ⟨h1, h2, _⟩ := hf (j / 2) hd
        rw [add_none rfl] at h1 h2
        have hx : ((List.range len).map f)[j / 2]? = some (f (j / 2)) := by
          rw [List.getElem?_map, List.getElem?_range hd]; rfl
        have hfa := flat_at pc2_len ((List.range len).map f) (j / 2) (j % 2) _ hx (by omega)
        have hjj : j / 2 * 2 + j % 2 = j := by omega
        rw [hjj, hj] at hfa
        have hcase : j % 2 = 0 ∨ j % 2 = 1 := by omega
        simp only [pc2] at hfa
        rcases hcase with e | e
        · rw [e] at hfa hjj
          simp at hfa
          rw [hfa, show ao + j = ao + j / 2 * 2 by omega]
          exact h1
        · rw [e] at hfa
          simp at hfa
          rw [hfa, show ao + j = ao + (j / 2 * 2 + 1) by omega]
          exact h2
    · obtain ⟨i, hi', rfl⟩ := List.mem_map.1 hq
      obtain ⟨y1, e⟩ := (hf i (List.mem_range.1 hi')).2.2
      exact ⟨y1, e ▸ (by first | exact List.mem_map.2 ⟨i, hi', rfl⟩ | exact List.mem_map_of_mem hi')⟩
theorem open_pairs15 {H : Type} {enc : TypeId × Value → H} {w : World} {base fuel : Nat} {A : Option Addr} {len cap : Nat} {d : DataW H} {p : List MemPlace}
    (h : DataW.trod enc Try.prog w base (fun _ => true) true fuel 46 [.slice A len cap] = some (d, p)) : ∃ L, Pc w (.slice A len cap) L := by
  obtain ⟨L, h1, _⟩ := open_pairs15d h
  exact ⟨L, h1⟩
theorem pairs_reach15 {H : Type} {L : List Pq2} {d : DataW H} {ts : List TypeId} {ds : List (DataW H)} (h : Pxd H d L)
    (hz : (DataW.weightsEach Try.prog ts ds).all (· ≤ reachBytes) = true) {j : Nat} (ht : ts[j]? = some 46) (hj : ds[j]? = some d) : ∀ p ∈ L, p.k.size ≤ 140737488351232 := by
  rcases h with ⟨_, rfl⟩ | ⟨ls, rest, rfl, h⟩
  · intro q hq; cases hq
  intro q hq
  obtain ⟨y1, hm⟩ := h q hq
  refine reach_elem (n := q.k.size) hz ht hj Try.underlying46 hm ?_
  exact weights_part Try.underlying61 (j := 0) (t := 9) rfl rfl (by simp [DataW.weights])
end Go.Proofs.Ytobddfpdijmgiaa
