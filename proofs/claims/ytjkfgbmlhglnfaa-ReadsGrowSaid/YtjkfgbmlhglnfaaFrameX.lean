/- How changes, items, calls, and rows of changes that came in are opened. -/
import Derived.Test.YtjkfgbmlhglnfaaFrameVn
import Derived.Test.YtjkfgbmlhglnfaaSpG
namespace Go.Proofs.Ytjkfgbmlhglnfaa
open Go.ChangeShapes Go.WideShapes Go.ChangeAt Go.RowKit
set_option linter.unusedVariables false
set_option maxRecDepth 100000

/-- How long the data of a slice is. -/
def Ld {H : Type} (d : DataW H) (n : Nat) : Prop := d = .nil ∧ n = 0 ∨ ∃ ls rest, d = .slice ls rest ∧ ls.length = n
/-- What a slice's data tells of its changes. -/
def Cd {H : Type} (d : DataW H) (L : List Cg) : Prop := d = .nil ∧ L = [] ∨ ∃ ls rest, d = .slice ls rest ∧ ∀ c ∈ L, ∃ y2, DataW.agg [.lit (.string c.k.data.toList), .lit (.string c.v.data.toList), y2] ∈ ls
theorem open_chgW {H : Type} {enc : TypeId × Value → H} {w : World} {base fuel : Nat} {v : Value} {y : DataW H × List MemPlace}
    (h : DataW.trod enc Try.prog w base (fun _ => true) true fuel 61 [v] = some y) : ∃ L, Cx w v L ∧ Ld y.1 L.length ∧ Cd y.1 L := by
  obtain ⟨A, len, cap, rfl⟩ : ∃ A len cap, v = .slice A len cap := by
    rcases Go.Deep.open_slice Try.underlying61 h with ⟨hcs, hx⟩ | ⟨a, len', cap', m, n, D, Pl, hcs, hb, hl, hm, hmm, hx, hi⟩
    · simp at hcs; exact ⟨_, _, _, hcs⟩
    · simp at hcs; exact ⟨_, _, _, hcs⟩
  obtain ⟨d, p⟩ := y
  rcases open_rows Try.underlying61 Try.underlying79 (by kernel_rfl) (by kernel_rfl) h with ⟨rfl, rfl, rfl, rfl⟩ | ⟨a, D, rest, rfl, hl, hm, rfl, hi⟩
  · exact ⟨[], ⟨none, 0, rfl, by simp, fun h => by simp at h⟩, .inl ⟨rfl, rfl⟩, .inl ⟨rfl, rfl⟩⟩
  · have key : ∀ i, ∃ q : Cg, i < len → w.cell? (a.add (i * 3)) = some (.string q.k) ∧ w.cell? (a.add (i * 3 + 1)) = some (.string q.v) ∧ w.cell? (a.add (i * 3 + 2)) = some (.bool q.d) ∧ ∃ y2, D i = .agg [.lit (.string q.k.data.toList), .lit (.string q.v.data.toList), y2] := by
      intro i
      by_cases hil : i < len
      · obtain ⟨ys, n, hD, hyl, hf⟩ := hi i hil
        obtain ⟨v0, y0, hc0, hy0, ht0⟩ := hf 0 _ rfl
        obtain ⟨v1, y1, hc1, hy1, ht1⟩ := hf 1 _ rfl
        obtain ⟨v2, y2, hc2, hy2, ht2⟩ := hf 2 _ rfl
        obtain ⟨s0, e0, x0, _⟩ := DataW.trod_string Try.underlying9 ht0
        obtain ⟨s1, e1, x1, _⟩ := DataW.trod_string Try.underlying9 ht1
        obtain ⟨m, e2, x2⟩ := DataW.trod_bool Try.underlying4 ht2
        simp only [List.cons.injEq, and_true] at e0 e1 e2
        subst e0 e1 e2
        have hys : D i = .agg [.lit (.string s0.data.toList), .lit (.string s1.data.toList), y2.1] := by
          rw [hD]
          congr 1
          have e0 := hy0
          have e1 := hy1
          have e2 := hy2
          match ys, hyl, e0, e1, e2 with
          | [a0, a1, a2], _, e0, e1, e2 =>
            simp at e0 e1 e2
            rw [e0, e1, e2, x0, x1]
            rfl
        exact ⟨⟨s0, s1, m⟩, fun _ => ⟨hc0, hc1, hc2, _, hys⟩⟩
      · exact ⟨⟨⟨#[]⟩, ⟨#[]⟩, false⟩, fun h => absurd h hil⟩
    obtain ⟨f, hf⟩ := Classical.axiomOfChoice key
    have hdt : Cd (.slice ((List.range len).map D) rest) ((List.range len).map f) := .inr ⟨_, rest, rfl, fun q hq => by
      obtain ⟨i, hi', rfl⟩ := List.mem_map.1 hq
      obtain ⟨y2, e⟩ := (hf i (List.mem_range.1 hi')).2.2.2
      exact ⟨y2, e ▸ (by first | exact List.mem_map.2 ⟨i, hi', rfl⟩ | exact List.mem_map_of_mem hi')⟩⟩
    refine ⟨(List.range len).map f, ⟨some a, cap, by rw [range_map_len], by rw [range_map_len]; exact Nat.le_trans hl (Nat.le_trans hm (by unfold maxLen; omega)), fun hp => ?_⟩, .inr ⟨_, rest, rfl, by simp⟩, hdt⟩
    rw [flat_len cc_len, range_map_len] at hp
    have h0 := (hf 0 (by omega)).1
    have hsp : a.spot = none := by
      have := World.cell?_spot h0
      rwa [show a.add (0 * 3) = a from by simp [Addr.add]] at this
    obtain ⟨ab, ao, asp⟩ := a
    simp only at hsp
    subst hsp
    refine ⟨ab, ao, rfl, ?_, fun j u hj => ?_⟩
    · have := cell_lt h0
      rwa [block_add] at this
    · have hjl : j < ((List.range len).map f).length * 3 := by
        have := (List.getElem?_eq_some_iff.1 hj).1
        rwa [flat_len cc_len] at this
      rw [range_map_len] at hjl
      have hd : j / 3 < len := by omega
      obtain ⟨h1, h2, h3, _⟩ := hf (j / 3) hd
      rw [add_none rfl] at h1 h2 h3
      have hx : ((List.range len).map f)[j / 3]? = some (f (j / 3)) := by
        rw [List.getElem?_map, List.getElem?_range hd]; rfl
      have hfa := flat_at cc_len ((List.range len).map f) (j / 3) (j % 3) _ hx (by omega)
      have hjj : j / 3 * 3 + j % 3 = j := by omega
      rw [hjj, hj] at hfa
      have hcase : j % 3 = 0 ∨ j % 3 = 1 ∨ j % 3 = 2 := by omega
      simp only [cc] at hfa
      rcases hcase with e | e | e
      · rw [e] at hfa hjj
        simp at hfa
        rw [hfa, show ao + j = ao + j / 3 * 3 by omega]
        exact h1
      · rw [e] at hfa
        simp at hfa
        rw [hfa, show ao + j = ao + (j / 3 * 3 + 1) by omega]
        exact h2
      · rw [e] at hfa
        simp at hfa
        rw [hfa, show ao + j = ao + (j / 3 * 3 + 2) by omega]
        exact h3
theorem open_chgV {H : Type} {enc : TypeId × Value → H} {w : World} {base fuel : Nat} {v : Value} {y : DataW H × List MemPlace}
    (h : DataW.trod enc Try.prog w base (fun _ => true) true fuel 61 [v] = some y) : ∃ L, Cx w v L ∧ Ld y.1 L.length := by
  obtain ⟨L, h1, h2, _⟩ := open_chgW h
  exact ⟨L, h1, h2⟩
theorem open_chgd {H : Type} {enc : TypeId × Value → H} {w : World} {base fuel : Nat} {v : Value} {d : DataW H} {p : List MemPlace}
    (h : DataW.trod enc Try.prog w base (fun _ => true) true fuel 61 [v] = some (d, p)) : ∃ L, Cx w v L ∧ Cd d L := by
  obtain ⟨L, h1, _, h2⟩ := open_chgW h
  exact ⟨L, h1, h2⟩
theorem chgs_reach {H : Type} {L : List Cg} {d : DataW H} {ts : List TypeId} {ds : List (DataW H)} (h : Cd d L)
    (hz : (DataW.weightsEach Try.prog ts ds).all (· ≤ reachBytes) = true) {j : Nat} (ht : ts[j]? = some 61) (hj : ds[j]? = some d) : ∀ c ∈ L, c.k.size ≤ 140737488351232 := by
  rcases h with ⟨_, rfl⟩ | ⟨ls, rest, rfl, h⟩
  · intro q hq; cases hq
  intro q hq
  obtain ⟨y2, hm⟩ := h q hq
  refine reach_elem (n := q.k.size) hz ht hj Try.underlying61 hm ?_
  exact weights_part Try.underlying79 (j := 0) (t := 9) rfl rfl (by simp [DataW.weights])
theorem open_chgs {H : Type} {enc : TypeId × Value → H} {w : World} {base fuel : Nat} {v : Value} {y : DataW H × List MemPlace}
    (h : DataW.trod enc Try.prog w base (fun _ => true) true fuel 61 [v] = some y) : ∃ L, Cx w v L := by
  obtain ⟨L, h1, _⟩ := open_chgV h
  exact ⟨L, h1⟩
/-- A call that came in. -/
structure Ac14 where
  k : Int
  t : Int
  v : Value
  L : List Cg
def Acts14 (w : World) (v : Value) (qs : List Ac14) : Prop := ∃ A cap, v = .slice A qs.length cap ∧ qs.length ≤ 9223372036854775807 ∧ (0 < qs.length → ∃ b o, A = some ⟨b, o, none⟩ ∧ b < w.heap.size ∧ ∀ j q, qs[j]? = some q →
  (w.cell? ⟨b, o + j * 3, none⟩ = some (.int .i64 q.k) ∧ w.cell? ⟨b, o + j * 3 + 1, none⟩ = some (.int .i64 q.t) ∧ w.cell? ⟨b, o + j * 3 + 2, none⟩ = some q.v) ∧ Cx w q.v q.L ∧ -9223372036854775808 ≤ q.t ∧ q.t ≤ 9223372036854775807)
/-- Items that came in. -/
def Ix14 (w : World) (v : Value) (M : List (Itm × Value)) : Prop := Ix w v M ∧ ∀ p ∈ M, p.1.k.size ≤ maxLen ∧ ∀ A n c, p.2 = .slice A n c → n ≤ c
theorem open_items {H : Type} {enc : TypeId × Value → H} {w : World} {base fuel : Nat} {A : Option Addr} {len cap : Nat} {d : DataW H} {p : List MemPlace}
    (h : DataW.trod enc Try.prog w base (fun _ => true) true fuel 22 [.slice A len cap] = some (d, p)) :
    ∃ M, Ix14 w (.slice A len cap) M := by
  rcases open_rows Try.underlying22 Try.underlying40 (by kernel_rfl) (by kernel_rfl) h with ⟨rfl, rfl, rfl, rfl⟩ | ⟨a, D, rest, rfl, hl, hm, rfl, hi⟩
  · exact ⟨[], ⟨none, 0, rfl, by simp, (fun h => by simp at h), fun p hp => by cases hp⟩, fun p hp => by cases hp⟩
  · have key : ∀ i, ∃ q : Itm × Value, i < len → w.cell? (a.add (i * 2)) = some (.string q.1.k) ∧ w.cell? (a.add (i * 2 + 1)) = some q.2 ∧ Vr w q.2 q.1.vs ∧ q.1.k.size ≤ maxLen ∧ ∀ A n c, q.2 = .slice A n c → n ≤ c := by
      intro i
      by_cases hil : i < len
      · obtain ⟨ys, n, hD, hyl, hf⟩ := hi i hil
        obtain ⟨v0, y0, hc0, hy0, ht0⟩ := hf 0 _ rfl
        obtain ⟨v1, y1, hc1, hy1, ht1⟩ := hf 1 _ rfl
        obtain ⟨s0, e0, x0, m0⟩ := DataW.trod_string Try.underlying9 ht0
        simp only [List.cons.injEq, and_true] at e0
        subst e0
        obtain ⟨A1, l1, c1, rfl⟩ : ∃ A len cap, v1 = .slice A len cap := by
          rcases Go.Deep.open_slice Try.underlying38 ht1 with ⟨hcs, hx⟩ | ⟨a, len', cap', m, n, D, Pl, hcs, hb, hl, hm, hmm, hx, hi⟩
          · simp at hcs; exact ⟨_, _, _, hcs⟩
          · simp at hcs; exact ⟨_, _, _, hcs⟩
        obtain ⟨d1, p1⟩ := y1
        obtain ⟨V, hV, _, _⟩ := open_vers ht1
        have hc := vers_cap ht1
        exact ⟨(⟨s0, V⟩, .slice A1 l1 c1), fun _ => ⟨hc0, hc1, hV, m0, fun A n c e => by injection e with _ e2 e3; omega⟩⟩
      · exact ⟨(⟨⟨#[]⟩, []⟩, .slice none 0 0), fun h => absurd h hil⟩
    obtain ⟨f, hf⟩ := Classical.axiomOfChoice key
    refine ⟨(List.range len).map f, ⟨some a, cap, by rw [range_map_len], by rw [range_map_len]; exact Nat.le_trans hl (Nat.le_trans hm (by unfold maxLen; omega)), fun hp => ?_, fun q hq => ?_⟩, fun q hq => ?_⟩
    · rw [flat_len ic_len, range_map_len] at hp
      have h0 := (hf 0 (by omega)).1
      have hsp : a.spot = none := by
        have := World.cell?_spot h0
        rwa [show a.add (0 * 2) = a from by simp [Addr.add]] at this
      obtain ⟨ab, ao, asp⟩ := a
      simp only at hsp
      subst hsp
      refine ⟨ab, ao, rfl, ?_, fun j u hj => ?_⟩
      · have := cell_lt h0
        rwa [block_add] at this
      · have hjl : j < ((List.range len).map f).length * 2 := by
          have := (List.getElem?_eq_some_iff.1 hj).1
          rwa [flat_len ic_len] at this
        rw [range_map_len] at hjl
        have hd : j / 2 < len := by omega
        obtain ⟨h1, h2, _⟩ := hf (j / 2) hd
        rw [add_none rfl] at h1 h2
        have hx : ((List.range len).map f)[j / 2]? = some (f (j / 2)) := by
          rw [List.getElem?_map, List.getElem?_range hd]; rfl
        have hfa := flat_at ic_len ((List.range len).map f) (j / 2) (j % 2) _ hx (by omega)
        have hjj : j / 2 * 2 + j % 2 = j := by omega
        rw [hjj, hj] at hfa
        have hcase : j % 2 = 0 ∨ j % 2 = 1 := by omega
        simp only [ic] at hfa
        rcases hcase with e | e
        · rw [e] at hfa hjj
          simp at hfa
          rw [hfa, show ao + j = ao + j / 2 * 2 by omega]
          exact h1
        · rw [e] at hfa
          simp at hfa
          rw [hfa, show ao + j = ao + (j / 2 * 2 + 1) by omega]
          exact h2
    · obtain ⟨i, hi', rfl⟩ := List.mem_map.1 hq
      exact (hf i (List.mem_range.1 hi')).2.2.1
    · obtain ⟨i, hi', rfl⟩ := List.mem_map.1 hq
      exact (hf i (List.mem_range.1 hi')).2.2.2
/-- Rows of changes that came in. -/
def Chs (w : World) (v : Value) (qs : List (Value × List Cg)) : Prop := ∃ A cap, v = .slice A qs.length cap ∧ qs.length ≤ 9223372036854775807 ∧ (0 < qs.length → ∃ b o, A = some ⟨b, o, none⟩ ∧ b < w.heap.size ∧ ∀ j q, qs[j]? = some q → w.cell? ⟨b, o + j, none⟩ = some q.1 ∧ Cx w q.1 q.2)
end Go.Proofs.Ytjkfgbmlhglnfaa
