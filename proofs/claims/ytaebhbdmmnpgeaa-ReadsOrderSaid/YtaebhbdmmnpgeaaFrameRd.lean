/- Reads that came in, by value. -/
import Derived.Test.YtaebhbdmmnpgeaaFrameX
import Derived.Test.YtaebhbdmmnpgeaaFrameR
import Derived.Test.YtaebhbdmmnpgeaaRdC
namespace Go.Proofs.Ytaebhbdmmnpgeaa
open Go.RowKit Go.ChangeShapes Go.WideShapes Go.ChangeAt
set_option linter.unusedVariables false
set_option linter.unusedSimpArgs false
set_option maxRecDepth 100000

theorem row_of_2r {α : Type} {xs : Array α} (h : xs.size = 2) : ∃ a b, xs = #[a, b] := by
  obtain ⟨l⟩ := xs
  match l, h with
  | [a, b], _ => exact ⟨a, b, rfl⟩
theorem list_of_2r {α : Type} {l : List α} (h : l.length = 2) : ∃ a b, l = [a, b] := by
  match l, h with
  | [a, b], _ => exact ⟨a, b, rfl⟩
theorem open_spns {H : Type} {enc : TypeId × Value → H} {w : World} {base fuel : Nat} {v : Value} {y : DataW H × List MemPlace}
    (h : DataW.trod enc Try.prog w base (fun _ => true) true fuel 58 [v] = some y) : ∃ A n c L, v = .slice A n c ∧ Px w (.slice A n c) L ∧ n ≤ c := by
  obtain ⟨A, len, cap, rfl⟩ : ∃ A len cap, v = .slice A len cap := by
    rcases Go.Deep.open_slice Try.underlying58 h with ⟨hcs, hx⟩ | ⟨a, len', cap', m, n, D, Pl, hcs, hb, hl, hm, hmm, hx, hi⟩
    · simp at hcs; exact ⟨_, _, _, hcs⟩
    · simp at hcs; exact ⟨_, _, _, hcs⟩
  obtain ⟨d, p⟩ := y
  rcases open_rows Try.underlying58 Try.underlying73 (by kernel_rfl) (by kernel_rfl) h with ⟨rfl, rfl, rfl, rfl⟩ | ⟨a, D, rest, rfl, hl, hm, rfl, hi⟩
  · exact ⟨none, 0, 0, [], rfl, ⟨none, 0, rfl, by simp, fun h => by simp at h⟩, Nat.le_refl _⟩
  · have key : ∀ i, ∃ q : Pq2, i < len → w.cell? (a.add (i * 2)) = some (.string q.k) ∧ w.cell? (a.add (i * 2 + 1)) = some (.string q.v) := by
      intro i
      by_cases hil : i < len
      · obtain ⟨ys, n, hD, hyl, hf⟩ := hi i hil
        obtain ⟨v0, y0, hc0, hy0, ht0⟩ := hf 0 _ rfl
        obtain ⟨v1, y1, hc1, hy1, ht1⟩ := hf 1 _ rfl
        obtain ⟨s0, e0, x0, _⟩ := DataW.trod_string Try.underlying9 ht0
        obtain ⟨s1, e1, x1, _⟩ := DataW.trod_string Try.underlying9 ht1
        simp only [List.cons.injEq, and_true] at e0 e1
        subst e0 e1
        exact ⟨⟨s0, s1⟩, fun _ => ⟨hc0, hc1⟩⟩
      · exact ⟨⟨⟨#[]⟩, ⟨#[]⟩⟩, fun h => absurd h hil⟩
    obtain ⟨f, hf⟩ := Classical.axiomOfChoice key
    refine ⟨some a, len, cap, (List.range len).map f, rfl, ⟨some a, cap, by rw [range_map_len], by rw [range_map_len]; exact Nat.le_trans hl (Nat.le_trans hm (by unfold maxLen; omega)), fun hp => ?_⟩, hl⟩
    rw [flat_len pc2_len, range_map_len] at hp
    have h0 := (hf 0 (by omega)).1
    have hsp : a.spot = none := by
      have := World.cell?_spot h0
      rwa [show a.add (0 * 2) = a from by simp [Addr.add]] at this
    obtain ⟨ab, ao, asp⟩ := a
    simp only at hsp
    subst hsp
    refine ⟨ab, ao, rfl, ?_, fun j u hj => ?_⟩
    · have := cell_lt h0
      rwa [block_add] at this
    · have hjl : j < ((List.range len).map f).length * 2 := by
        have := (List.getElem?_eq_some_iff.1 hj).1
        rwa [flat_len pc2_len] at this
      rw [range_map_len] at hjl
      have hd : j / 2 < len := by omega
      obtain ⟨h1, h2⟩ := hf (j / 2) hd
      rw [add_none rfl] at h1 h2
      have hx : ((List.range len).map f)[j / 2]? = some (f (j / 2)) := by
        rw [List.getElem?_map, List.getElem?_range hd]; rfl
      have hfa := flat_at pc2_len ((List.range len).map f) (j / 2) (j % 2) _ hx (by omega)
      have hjj : j / 2 * 2 + j % 2 = j := by omega
      rw [hjj, hj] at hfa
      have hcase : j % 2 = 0 ∨ j % 2 = 1 := by omega
      simp only [pc2] at hfa
      rcases hcase with e | e
      · rw [e] at hfa hjj
        simp at hfa
        rw [hfa, show ao + j = ao + j / 2 * 2 by omega]
        exact h1
      · rw [e] at hfa
        simp at hfa
        rw [hfa, show ao + j = ao + (j / 2 * 2 + 1) by omega]
        exact h2
theorem open_keys {H : Type} {enc : TypeId × Value → H} {w : World} {base fuel : Nat} {v : Value} {y : DataW H × List MemPlace}
    (h : DataW.trod enc Try.prog w base (fun _ => true) true fuel 57 [v] = some y) : ∃ A n c L, v = .slice A n c ∧ Kx w (.slice A n c) L := by
  obtain ⟨A, len, cap, rfl, hlen⟩ : ∃ A len cap, v = .slice A len cap ∧ len ≤ 9223372036854775807 := by
    rcases Go.Deep.open_slice Try.underlying57 h with ⟨hcs, hx⟩ | ⟨a, len', cap', m, n, D, Pl, hcs, hb, hl, hm, hmm, hx, hi⟩
    · simp at hcs; exact ⟨_, _, _, hcs, by omega⟩
    · simp at hcs; exact ⟨_, _, _, hcs, Nat.le_trans hl (Nat.le_trans hm (by unfold maxLen; omega))⟩
  obtain ⟨d, p⟩ := y
  obtain ⟨L, A', cap', e, hr⟩ := open_strs h
  injection e with e1 e2 e3
  subst e1 e2 e3
  refine ⟨A, L.length, cap, L, rfl, A, cap, rfl, hlen, fun hp => ?_⟩
  rw [List.length_map] at hp
  obtain ⟨⟨b, o, sp⟩, e, hsp, hb, hc⟩ := hr hp
  simp only at hsp hb
  subst hsp
  refine ⟨b, o, e, hb, fun j u hj => ?_⟩
  rw [List.getElem?_map] at hj
  cases hs : L[j]? with
  | none => rw [hs] at hj; cases hj
  | some s =>
    rw [hs] at hj
    injection hj with hj
    subst hj
    have := hc j s hs
    rwa [add_none rfl] at this
theorem open_reads16 {H : Type} {enc : TypeId × Value → H} {w : World} {r : Reach} {b0 base : Nat} {v : Value} {d : DataW H} {p : List MemPlace} (hv : Value.okWide Try.prog w r b0 60 v)
    (h : DataW.Trod enc Try.prog w base (fun _ => true) true 60 v d p) :
    ∃ (A1 : Option Addr) (n1 c1 : Nat) (A2 : Option Addr) (n2 c2 : Nat) (K : List ByteArray) (S : List Pq2), v = .agg #[.slice A1 n1 c1, .slice A2 n2 c2] ∧ Kx w (.slice A1 n1 c1) K ∧ Px w (.slice A2 n2 c2) S ∧ n2 ≤ c2 := by
  obtain ⟨cs, rfl, hsz⟩ := okWide_struct Try.underlying60 hv
  obtain ⟨c0, c1, rfl⟩ := row_of_2r (hsz.trans (by kernel_rfl))
  obtain ⟨fuel, hf⟩ := h
  obtain ⟨xs, n, hx0, hx, hl, hlen, hg⟩ := DataW.trod_struct Try.underlying60 hf
  obtain ⟨y0, y1, rfl⟩ := list_of_2r hlen
  have k3 : Try.prog.cellsOf 57 = 1 := by kernel_rfl
  have k4 : Try.prog.cellsOf 58 = 1 := by kernel_rfl
  have g0 : DataW.trod enc Try.prog w base (fun _ => true) true n 57 [c0] = some y0 := by have := hg 0 _ rfl; simpa [Value.cells, k3] using this
  have g1 : DataW.trod enc Try.prog w base (fun _ => true) true n 58 [c1] = some y1 := by have := hg 1 _ rfl; simpa [Value.cells, k3, k4] using this
  obtain ⟨A1, n1, d1, K, rfl, hK⟩ := open_keys g0
  obtain ⟨A2, n2, d2, S, rfl, hS, hc⟩ := open_spns g1
  exact ⟨A1, n1, d1, A2, n2, d2, K, S, rfl, hK, hS, hc⟩
theorem open_span16 {H : Type} {enc : TypeId × Value → H} {w : World} {r : Reach} {b0 base : Nat} {v : Value} {d : DataW H} {p : List MemPlace} (hv : Value.okWide Try.prog w r b0 73 v)
    (h : DataW.Trod enc Try.prog w base (fun _ => true) true 73 v d p) : ∃ s : Pq2, v = .agg #[.string s.k, .string s.v] := by
  obtain ⟨cs, rfl, hsz⟩ := okWide_struct Try.underlying73 hv
  obtain ⟨c0, c1, rfl⟩ := row_of_2r (hsz.trans (by kernel_rfl))
  obtain ⟨fuel, hf⟩ := h
  obtain ⟨xs, n, hx0, hx, hl, hlen, hg⟩ := DataW.trod_struct Try.underlying73 hf
  obtain ⟨y0, y1, rfl⟩ := list_of_2r hlen
  have k3 : Try.prog.cellsOf 9 = 1 := by kernel_rfl
  have g0 : DataW.trod enc Try.prog w base (fun _ => true) true n 9 [c0] = some y0 := by have := hg 0 _ rfl; simpa [Value.cells, k3] using this
  have g1 : DataW.trod enc Try.prog w base (fun _ => true) true n 9 [c1] = some y1 := by have := hg 1 _ rfl; simpa [Value.cells, k3] using this
  obtain ⟨s0, e0, x0, _⟩ := DataW.trod_string Try.underlying9 g0
  obtain ⟨s1, e1, x1, _⟩ := DataW.trod_string Try.underlying9 g1
  simp only [List.cons.injEq, and_true] at e0 e1
  subst e0 e1
  exact ⟨⟨s0, s1⟩, rfl⟩
end Go.Proofs.Ytaebhbdmmnpgeaa
