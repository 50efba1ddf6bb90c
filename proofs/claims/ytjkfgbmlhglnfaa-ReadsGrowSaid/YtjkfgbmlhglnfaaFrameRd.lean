/- Reads that came in, by value. -/
import Derived.Test.YtjkfgbmlhglnfaaFrameX
import Derived.Test.YtjkfgbmlhglnfaaFrameR
import Derived.Test.YtjkfgbmlhglnfaaRdC
namespace Go.Proofs.Ytjkfgbmlhglnfaa
open Go.RowKit Go.ChangeShapes Go.WideShapes Go.ChangeAt
set_option linter.unusedVariables false
set_option linter.unusedSimpArgs false
set_option maxRecDepth 100000

theorem row_of_2r {α : Type} {xs : Array α} (h : xs.size = 2) : ∃ a b, xs = #[a, b] := by
  obtain ⟨l⟩ := xs
  match l, h with
  | [a, b], _ => exact ⟨a, b, rfl⟩
theorem list_of_2r {α : Type} {l : List α} (h : l.length = 2) : ∃ a b, l = [a, b] := by
  match l, h with
  | [a, b], _ => exact ⟨a, b, rfl⟩
/-- What a slice's data tells of its texts, of its spans. -/
def Kd16 {H : Type} (d : DataW H) (L : List ByteArray) : Prop := d = .nil ∧ L = [] ∨ ∃ ls rest, d = .slice ls rest ∧ ∀ k ∈ L, DataW.lit (.string k.data.toList) ∈ ls
def Sd16 {H : Type} (d : DataW H) (L : List Pq2) : Prop := d = .nil ∧ L = [] ∨ ∃ ls rest, d = .slice ls rest ∧ ∀ p ∈ L, DataW.agg [.lit (.string p.k.data.toList), .lit (.string p.v.data.toList)] ∈ ls
theorem open_spns {H : Type} {enc : TypeId × Value → H} {w : World} {base fuel : Nat} {v : Value} {y : DataW H × List MemPlace}
    (h : DataW.trod enc Try.prog w base (fun _ => true) true fuel 44 [v] = some y) : ∃ A n c L, v = .slice A n c ∧ Px w (.slice A n c) L ∧ n ≤ c ∧ Sd16 y.1 L := by
  obtain ⟨A, len, cap, rfl⟩ : ∃ A len cap, v = .slice A len cap := by
    rcases Go.Deep.open_slice Try.underlying44 h with ⟨hcs, hx⟩ | ⟨a, len', cap', m, n, D, Pl, hcs, hb, hl, hm, hmm, hx, hi⟩
    · simp at hcs; exact ⟨_, _, _, hcs⟩
    · simp at hcs; exact ⟨_, _, _, hcs⟩
  obtain ⟨d, p⟩ := y
  rcases open_rows Try.underlying44 Try.underlying59 (by kernel_rfl) (by kernel_rfl) h with ⟨rfl, rfl, rfl, rfl⟩ | ⟨a, D, rest, rfl, hl, hm, rfl, hi⟩
  · exact ⟨none, 0, 0, [], rfl, ⟨none, 0, rfl, by simp, fun h => by simp at h⟩, Nat.le_refl _, .inl ⟨rfl, rfl⟩⟩
  · have key : ∀ i, ∃ q : Pq2, i < len → w.cell? (a.add (i * 2)) = some (.string q.k) ∧ w.cell? (a.add (i * 2 + 1)) = some (.string q.v) ∧ D i = .agg [.lit (.string q.k.data.toList), .lit (.string q.v.data.toList)] := by
      intro i
      by_cases hil : i < len
      · obtain ⟨ys, n, hD, hyl, hf⟩ := hi i hil
        obtain ⟨v0, y0, hc0, hy0, ht0⟩ := hf 0 _ rfl
        obtain ⟨v1, y1, hc1, hy1, ht1⟩ := hf 1 _ rfl
        obtain ⟨s0, e0, x0, _⟩ := DataW.trod_string Try.underlying9 ht0
        obtain ⟨s1, e1, x1, _⟩ := DataW.trod_string Try.underlying9 ht1
        simp only [List.cons.injEq, and_true] at e0 e1
        subst e0 e1
        have hys : D i = .agg [.lit (.string s0.data.toList), .lit (.string s1.data.toList)] := by
          rw [hD]
          congr 1
          have e0 := hy0
          have e1 := hy1
          match ys, hyl, e0, e1 with
          | [a0, a1], _, e0, e1 =>
            simp at e0 e1
            rw [e0, e1, x0, x1]
            rfl
        exact ⟨⟨s0, s1⟩, fun _ => ⟨hc0, hc1, hys⟩⟩
      · exact ⟨⟨⟨#[]⟩, ⟨#[]⟩⟩, fun h => absurd h hil⟩
    obtain ⟨f, hf⟩ := Classical.axiomOfChoice key
    have hdt : Sd16 (.slice ((List.range len).map D) rest) ((List.range len).map f) := .inr ⟨_, rest, rfl, fun q hq => by
      obtain ⟨i, hi', rfl⟩ := List.mem_map.1 hq
      have e := (hf i (List.mem_range.1 hi')).2.2
      exact e ▸ (by first | exact List.mem_map.2 ⟨i, hi', rfl⟩ | exact List.mem_map_of_mem hi')⟩
    refine ⟨some a, len, cap, (List.range len).map f, rfl, ⟨some a, cap, by rw [range_map_len], by rw [range_map_len]; exact Nat.le_trans hl (Nat.le_trans hm (by unfold maxLen; omega)), fun hp => ?_⟩, hl, hdt⟩
    rw [flat_len pc2_len, range_map_len] at hp
    have h0 := (hf 0 (by omega)).1
    have hsp : a.spot = none := by
      have := World.cell?_spot h0
      rwa [show a.add (0 * 2) = a from by simp [Addr.add]] at this
    obtain ⟨ab, ao, asp⟩ := a
    simp only at hsp
    subst hsp
    refine ⟨ab, ao, rfl, ?_, fun j u hj => ?_⟩
    · have := cell_lt h0
      rwa [block_add] at this
    · have hjl : j < ((List.range len).map f).length * 2 := by
        have := (List.getElem?_eq_some_iff.1 hj).1
        rwa [flat_len pc2_len] at this
      rw [range_map_len] at hjl
      have hd : j / 2 < len := by omega
      obtain ⟨h1, h2, _⟩ := hf (j / 2) hd
      rw [add_none rfl] at h1 h2
      have hx : ((List.range len).map f)[j / 2]? = some (f (j / 2)) := by
        rw [List.getElem?_map, List.getElem?_range hd]; rfl
      have hfa := flat_at pc2_len ((List.range len).map f) (j / 2) (j % 2) _ hx (by omega)
      have hjj : j / 2 * 2 + j % 2 = j := by omega
      rw [hjj, hj] at hfa
      have hcase : j % 2 = 0 ∨ j % 2 = 1 := by omega
      simp only [pc2] at hfa
      rcases hcase with e | e
      · rw [e] at hfa hjj
        simp at hfa
        rw [hfa, show ao + j = ao + j / 2 * 2 by omega]
        exact h1
      · rw [e] at hfa
        simp at hfa
        rw [hfa, show ao + j = ao + (j / 2 * 2 + 1) by omega]
        exact h2
theorem open_keys {H : Type} {enc : TypeId × Value → H} {w : World} {base fuel : Nat} {v : Value} {y : DataW H × List MemPlace}
    (h : DataW.trod enc Try.prog w base (fun _ => true) true fuel 43 [v] = some y) : ∃ A n c L, v = .slice A n c ∧ Kx w (.slice A n c) L ∧ n ≤ c ∧ Kd16 y.1 L := by
  obtain ⟨d, p⟩ := y
  rcases open_strings Try.underlying43 Try.underlying9 (by kernel_rfl) h with ⟨hcs, hx⟩ | ⟨x, l, c2, ss, hcs, _, hl, hm, hz, hx, hcell, hw⟩
  · simp only [List.cons.injEq, and_true] at hcs
    subst hcs
    exact ⟨none, 0, 0, [], rfl, kx_nil _, Nat.le_refl _, .inl ⟨congrArg Prod.fst hx, rfl⟩⟩
  · simp only [List.cons.injEq, and_true] at hcs
    subst hcs
    have hz' : ss.length = c2 := by simpa using hz
    have hlen : (ss.take l).length = l := by simp; omega
    refine ⟨some x, l, c2, ss.take l, rfl, ⟨some x, c2, by rw [hlen], by rw [hlen]; exact Nat.le_trans hl (Nat.le_trans hm (by unfold maxLen; omega)), fun hp => ?_⟩, hl, .inr ⟨_, _, congrArg Prod.fst hx, fun k hk => List.mem_map.2 ⟨k, hk, rfl⟩⟩⟩
    rw [List.length_map, hlen] at hp
    have h0 := hcell 0 (by omega)
    have hsp : x.spot = none := by
      have := World.cell?_spot h0
      rw [show x.add 0 = x from by simp [Addr.add]] at this
      exact this
    obtain ⟨ab, ao, asp⟩ := x
    simp only at hsp
    subst hsp
    refine ⟨ab, ao, rfl, ?_, fun j u hj => ?_⟩
    · have := cell_lt h0
      rwa [block_add] at this
    · rw [List.getElem?_map, List.getElem?_take] at hj
      split at hj
      · have hjl : j < ss.length := by omega
        rw [List.getElem?_eq_getElem hjl] at hj
        injection hj with hj
        subst hj
        have := hcell j hjl
        rw [add_none rfl] at this
        rw [this]
        simp [List.getElem?_eq_getElem hjl]
      · cases hj
theorem open_reads16d {H : Type} {enc : TypeId × Value → H} {w : World} {r : Reach} {b0 base : Nat} {v : Value} {d : DataW H} {p : List MemPlace} (hv : Value.okWide Try.prog w r b0 46 v)
    (h : DataW.Trod enc Try.prog w base (fun _ => true) true 46 v d p) :
    ∃ (A1 : Option Addr) (n1 c1 : Nat) (A2 : Option Addr) (n2 c2 : Nat) (K : List ByteArray) (S : List Pq2), v = .agg #[.slice A1 n1 c1, .slice A2 n2 c2] ∧ Kx w (.slice A1 n1 c1) K ∧ Px w (.slice A2 n2 c2) S ∧ n1 ≤ c1 ∧ n2 ≤ c2 ∧ ∃ dk ds, d = .agg [dk, ds] ∧ Kd16 dk K ∧ Sd16 ds S := by
  obtain ⟨cs, rfl, hsz⟩ := okWide_struct Try.underlying46 hv
  obtain ⟨c0, c1, rfl⟩ := row_of_2r (hsz.trans (by kernel_rfl))
  obtain ⟨fuel, hf⟩ := h
  obtain ⟨xs, n, hx0, hx, hl, hlen, hg⟩ := DataW.trod_struct Try.underlying46 hf
  obtain ⟨y0, y1, rfl⟩ := list_of_2r hlen
  have k3 : Try.prog.cellsOf 43 = 1 := by kernel_rfl
  have k4 : Try.prog.cellsOf 44 = 1 := by kernel_rfl
  have g0 : DataW.trod enc Try.prog w base (fun _ => true) true n 43 [c0] = some y0 := by have := hg 0 _ rfl; simpa [Value.cells, k3] using this
  have g1 : DataW.trod enc Try.prog w base (fun _ => true) true n 44 [c1] = some y1 := by have := hg 1 _ rfl; simpa [Value.cells, k3, k4] using this
  obtain ⟨A1, n1, d1, K, rfl, hK, hc1, e1⟩ := open_keys g0
  obtain ⟨A2, n2, d2, S, rfl, hS, hc, e2⟩ := open_spns g1
  simp only [Prod.mk.injEq] at hx
  exact ⟨A1, n1, d1, A2, n2, d2, K, S, rfl, hK, hS, hc1, hc, y0.1, y1.1, by first | exact hx.1 | (rw [hx.1]; rfl), e1, e2⟩
theorem open_reads16 {H : Type} {enc : TypeId × Value → H} {w : World} {r : Reach} {b0 base : Nat} {v : Value} {d : DataW H} {p : List MemPlace} (hv : Value.okWide Try.prog w r b0 46 v)
    (h : DataW.Trod enc Try.prog w base (fun _ => true) true 46 v d p) :
    ∃ (A1 : Option Addr) (n1 c1 : Nat) (A2 : Option Addr) (n2 c2 : Nat) (K : List ByteArray) (S : List Pq2), v = .agg #[.slice A1 n1 c1, .slice A2 n2 c2] ∧ Kx w (.slice A1 n1 c1) K ∧ Px w (.slice A2 n2 c2) S ∧ n2 ≤ c2 := by
  obtain ⟨A1, n1, c1, A2, n2, c2, K, S, e, hK, hS, _, hc, _⟩ := open_reads16d hv h
  exact ⟨A1, n1, c1, A2, n2, c2, K, S, e, hK, hS, hc⟩
/-- .. with the sizes that the form's own reach gives. -/
theorem reads_reach {H : Type} {K : List ByteArray} {S : List Pq2} {dk ds : DataW H} (h1 : Kd16 dk K) (h2 : Sd16 ds S) {ts : List TypeId} {dd : List (DataW H)} (hz : (DataW.weightsEach Try.prog ts dd).all (· ≤ reachBytes) = true)
    {j : Nat} (ht : ts[j]? = some 46) (hj : dd[j]? = some (.agg [dk, ds])) : (∀ k ∈ K, k.size ≤ 140737488351232) ∧ ∀ s ∈ S, s.k.size ≤ 140737488351232 ∧ s.v.size ≤ 140737488351232 := by
  have key : ∀ m ∈ (DataW.agg [dk, ds]).weights Try.prog 46, m ≤ 140737488351232 := fun m hm => by
    have h3 := of_decide_eq_true (List.all_eq_true.1 hz _ (DataW.weights_mem_each ht hj m hm))
    simp only [reachBytes] at h3
    omega
  refine ⟨fun k hk => ?_, fun s hs => ?_⟩
  · rcases h1 with ⟨_, rfl⟩ | ⟨ls, rest, rfl, hm⟩
    · cases hk
    · refine key _ (weights_part Try.underlying46 (j := 0) (t := 43) rfl rfl ?_)
      simp only [DataW.weights, Try.underlying43, List.mem_cons, List.mem_append]
      refine .inr (.inl (weights_all (hm k hk) ?_))
      simp only [DataW.weights, List.mem_singleton, Array.length_toList]
      rfl
  · rcases h2 with ⟨_, rfl⟩ | ⟨ls, rest, rfl, hm⟩
    · cases hs
    · have ks : ∀ m ∈ (DataW.agg [.lit (.string s.k.data.toList), .lit (.string s.v.data.toList)] : DataW H).weights Try.prog 59, m ≤ 140737488351232 := fun m hmm => by
        refine key _ (weights_part Try.underlying46 (j := 1) (t := 44) rfl rfl ?_)
        simp only [DataW.weights, Try.underlying44, List.mem_cons, List.mem_append]
        exact .inr (.inl (weights_all (hm s hs) hmm))
      refine ⟨ks _ (weights_part Try.underlying59 (j := 0) (t := 9) rfl rfl ?_), ks _ (weights_part Try.underlying59 (j := 1) (t := 9) rfl rfl ?_)⟩
      · simp only [DataW.weights, List.mem_singleton, Array.length_toList]; rfl
      · simp only [DataW.weights, List.mem_singleton, Array.length_toList]; rfl
theorem open_span16 {H : Type} {enc : TypeId × Value → H} {w : World} {r : Reach} {b0 base : Nat} {v : Value} {d : DataW H} {p : List MemPlace} (hv : Value.okWide Try.prog w r b0 59 v)
    (h : DataW.Trod enc Try.prog w base (fun _ => true) true 59 v d p) : ∃ s : Pq2, v = .agg #[.string s.k, .string s.v] := by
  obtain ⟨cs, rfl, hsz⟩ := okWide_struct Try.underlying59 hv
  obtain ⟨c0, c1, rfl⟩ := row_of_2r (hsz.trans (by kernel_rfl))
  obtain ⟨fuel, hf⟩ := h
  obtain ⟨xs, n, hx0, hx, hl, hlen, hg⟩ := DataW.trod_struct Try.underlying59 hf
  obtain ⟨y0, y1, rfl⟩ := list_of_2r hlen
  have k3 : Try.prog.cellsOf 9 = 1 := by kernel_rfl
  have g0 : DataW.trod enc Try.prog w base (fun _ => true) true n 9 [c0] = some y0 := by have := hg 0 _ rfl; simpa [Value.cells, k3] using this
  have g1 : DataW.trod enc Try.prog w base (fun _ => true) true n 9 [c1] = some y1 := by have := hg 1 _ rfl; simpa [Value.cells, k3] using this
  obtain ⟨s0, e0, x0, _⟩ := DataW.trod_string Try.underlying9 g0
  obtain ⟨s1, e1, x1, _⟩ := DataW.trod_string Try.underlying9 g1
  simp only [List.cons.injEq, and_true] at e0 e1
  subst e0 e1
  exact ⟨⟨s0, s1⟩, rfl⟩
end Go.Proofs.Ytjkfgbmlhglnfaa
