/- Items that came in, with the sizes that the form's own reach gives. -/
import Derived.Test.YtjkfgbmlhglnfaaFrameX
namespace Go.Proofs.Ytjkfgbmlhglnfaa
open Go.RowKit
set_option linter.unusedVariables false
set_option linter.unusedSimpArgs false

def Ixd (H : Type) (d : DataW H) (M : List (Itm × Value)) : Prop := d = .nil ∧ M = [] ∨ ∃ ls rest, d = .slice ls rest ∧ ∀ p ∈ M, ∃ y0 dV, DataW.agg [y0, dV] ∈ ls ∧ Ld dV p.1.vs.length
theorem open_itemsd {H : Type} {enc : TypeId × Value → H} {w : World} {base fuel : Nat} {A : Option Addr} {len cap : Nat} {d : DataW H} {p : List MemPlace}
    (h : DataW.trod enc Try.prog w base (fun _ => true) true fuel 22 [.slice A len cap] = some (d, p)) :
    ∃ M, Ix14 w (.slice A len cap) M ∧ Ixd H d M := by
  rcases open_rows Try.underlying22 Try.underlying40 (by kernel_rfl) (by kernel_rfl) h with ⟨rfl, rfl, rfl, rfl⟩ | ⟨a, D, rest, rfl, hl, hm, rfl, hi⟩
  · exact ⟨[], ⟨⟨none, 0, rfl, by simp, (fun h => by simp at h), fun p hp => by cases hp⟩, fun p hp => by cases hp⟩, .inl ⟨rfl, rfl⟩⟩
  · have key : ∀ i, ∃ q : Itm × Value, i < len → w.cell? (a.add (i * 2)) = some (.string q.1.k) ∧ w.cell? (a.add (i * 2 + 1)) = some q.2 ∧ Vr w q.2 q.1.vs ∧ q.1.k.size ≤ maxLen ∧ (∀ A n c, q.2 = .slice A n c → n ≤ c) ∧ ∃ y0 dV, D i = .agg [y0, dV] ∧ Ld dV q.1.vs.length := by
      intro i
      by_cases hil : i < len
      · obtain ⟨ys, n, hD, hyl, hf⟩ := hi i hil
        obtain ⟨v0, y0, hc0, hy0, ht0⟩ := hf 0 _ rfl
        obtain ⟨v1, y1, hc1, hy1, ht1⟩ := hf 1 _ rfl
        obtain ⟨s0, e0, x0, m0⟩ := DataW.trod_string Try.underlying9 ht0
        simp only [List.cons.injEq, and_true] at e0
        subst e0
        obtain ⟨A1, l1, c1, rfl⟩ : ∃ A len cap, v1 = .slice A len cap := by
          rcases Go.Deep.open_slice Try.underlying38 ht1 with ⟨hcs, hx⟩ | ⟨a, len', cap', m, n, D, Pl, hcs, hb, hl, hm, hmm, hx, hi⟩
          · simp at hcs; exact ⟨_, _, _, hcs⟩
          · simp at hcs; exact ⟨_, _, _, hcs⟩
        obtain ⟨d1, p1⟩ := y1
        obtain ⟨V, hV, _, hdv⟩ := open_vers ht1
        have hc := vers_cap ht1
        have hld : Ld d1 V.length := by
          rcases hdv with ⟨e1, e2⟩ | ⟨r2, e1⟩
          · exact .inl ⟨e1, by rw [e2]; rfl⟩
          · exact .inr ⟨_, r2, e1, List.length_map ..⟩
        have hys : D i = .agg [y0.1, d1] := by
          rw [hD]
          congr 1
          have e0 := hy0
          have e1 := hy1
          match ys, hyl, e0, e1 with
          | [a0, a1], _, e0, e1 =>
            simp at e0 e1
            rw [e0, e1]
            rfl
        exact ⟨(⟨s0, V⟩, .slice A1 l1 c1), fun _ => ⟨hc0, hc1, hV, m0, fun A n c e => by (injection e with _ e2 e3; omega), _, _, hys, hld⟩⟩
      · exact ⟨(⟨⟨#[]⟩, []⟩, .slice none 0 0), fun h => absurd h hil⟩
    obtain ⟨f, hf⟩ := Classical.axiomOfChoice key
    refine ⟨(List.range len).map f, ⟨⟨some a, cap, by rw [range_map_len], by rw [range_map_len]; exact Nat.le_trans hl (Nat.le_trans hm (by unfold maxLen; omega)), fun hp => ?_, fun q hq => ?_⟩, fun q hq => ?_⟩, .inr ⟨_, rest, rfl, fun q hq => ?_⟩⟩
    · rw [flat_len ic_len, range_map_len] at hp
      have h0 := (hf 0 (by omega)).1
      have hsp : a.spot = none := by
        have := World.cell?_spot h0
        rwa [show a.add (0 * 2) = a from by simp [Addr.add]] at this
      obtain ⟨ab, ao, asp⟩ := a
      simp only at hsp
      subst hsp
      refine ⟨ab, ao, rfl, ?_, fun j u hj => ?_⟩
      · have := cell_lt h0
        rwa [block_add] at this
      · have hjl : j < ((List.range len).map f).length * 2 := by
          have := (List.getElem?_eq_some_iff.1 hj).1
          rwa [flat_len ic_len] at this
        rw [range_map_len] at hjl
        have hd : j / 2 < len := by omega
        obtain ⟨h1, h2, _⟩ := hf (j / 2) hd
        rw [add_none rfl] at h1 h2
        have hx : ((List.range len).map f)[j / 2]? = some (f (j / 2)) := by
          rw [List.getElem?_map, List.getElem?_range hd]; rfl
        have hfa := flat_at ic_len ((List.range len).map f) (j / 2) (j % 2) _ hx (by omega)
        have hjj : j / 2 * 2 + j % 2 = j := by omega
        rw [hjj, hj] at hfa
        have hcase : j % 2 = 0 ∨ j % 2 = 1 := by omega
        simp only [ic] at hfa
        rcases hcase with e | e
        · rw [e] at hfa hjj
          simp at hfa
          rw [hfa, show ao + j = ao + j / 2 * 2 by omega]
          exact h1
        · rw [e] at hfa
          simp at hfa
          rw [hfa, show ao + j = ao + (j / 2 * 2 + 1) by omega]
          exact h2
    · obtain ⟨i, hi', rfl⟩ := List.mem_map.1 hq
      exact (hf i (List.mem_range.1 hi')).2.2.1
    · obtain ⟨i, hi', rfl⟩ := List.mem_map.1 hq
      exact ⟨(hf i (List.mem_range.1 hi')).2.2.2.1, (hf i (List.mem_range.1 hi')).2.2.2.2.1⟩
    · obtain ⟨i, hi', rfl⟩ := List.mem_map.1 hq
      obtain ⟨y0, dV, e, hl2⟩ := (hf i (List.mem_range.1 hi')).2.2.2.2.2
      exact ⟨y0, dV, e ▸ (by first | exact List.mem_map.2 ⟨i, hi', rfl⟩ | exact List.mem_map_of_mem hi'), hl2⟩
theorem items_reach {H : Type} {M : List (Itm × Value)} {d : DataW H} {ts : List TypeId} {ds : List (DataW H)} (h : Ixd H d M)
    (hz : (DataW.weightsEach Try.prog ts ds).all (· ≤ reachBytes) = true) {j : Nat} (ht : ts[j]? = some 22) (hj : ds[j]? = some d) : ∀ p ∈ M, p.1.vs.length ≤ 140737488351232 := by
  rcases h with ⟨_, rfl⟩ | ⟨ls, rest, rfl, h⟩
  · intro q hq; cases hq
  intro q hq
  obtain ⟨y0, dL, hm, hd⟩ := h q hq
  rcases hd with ⟨_, e⟩ | ⟨l2, r2, rfl, e⟩
  · omega
  · have hb : Try.prog.bytesOf 83 = 32 := by kernel_rfl
    have := of_decide_eq_true (List.all_eq_true.1 hz _ (DataW.weights_mem_each ht hj ((l2.length + r2.length) * 32) (by
      simp only [DataW.weights, Try.underlying22, List.mem_cons, List.mem_append]
      refine .inr (.inl (weights_all hm ?_))
      refine weights_part Try.underlying40 (j := 1) (t := 38) rfl rfl ?_
      simp only [DataW.weights, Try.underlying38, hb]
      exact List.mem_cons_self)))
    simp only [reachBytes] at this
    omega
end Go.Proofs.Ytjkfgbmlhglnfaa
