/- How a node of a tree that came in by value is opened. -/
import Derived.Test.YtcmghbglnkfbaaaFrameR
import Derived.Test.YtcmghbglnkfbaaaFields
namespace Go.Proofs.Ytcmghbglnkfbaaa
open Go.ChangeShapes Go.WideShapes Go.ChangeAt Go.RowKit
set_option linter.unusedVariables false
set_option maxRecDepth 100000

/-- A node, plain. -/
structure Nd where
  leaf : Bool
  keys : List ByteArray
  vals : List ByteArray
  kids : List Int
/-- A slice's length is within its capacity; nil has none. -/
structure Cp (A : Option Addr) (n c : Nat) : Prop where
  le : n ≤ c
  cm : c ≤ maxLen
  nil : A = none → c = 0
def CapV (v : Value) : Prop := ∀ A n c, v = .slice A n c → Cp A n c
/-- A value that is this node, its rows below block B. -/
def NodeV (w : World) (B : Nat) (v : Value) (n : Nd) : Prop := ∃ vk vv vd, v = .agg #[.bool n.leaf, vk, vv, vd] ∧ Strs w B vk n.keys ∧ Strs w B vv n.vals ∧ Ints .i64 w B vd n.kids ∧ CapV vk ∧ CapV vv
theorem row_of_four {α : Type} {cs : Array α} (h : cs.size = 4) : ∃ c0 c1 c2 c3, cs = #[c0, c1, c2, c3] := by
  obtain ⟨l⟩ := cs
  match l, h with
  | [c0, c1, c2, c3], _ => exact ⟨c0, c1, c2, c3, rfl⟩
theorem list_of_four {α : Type} {cs : List α} (h : cs.length = 4) : ∃ c0 c1 c2 c3, cs = [c0, c1, c2, c3] := by
  match cs, h with
  | [c0, c1, c2, c3], _ => exact ⟨c0, c1, c2, c3, rfl⟩
theorem open_strs_any {H : Type} {enc : TypeId × Value → H} {w : World} {base fuel : Nat} {c : Value} {d : DataW H} {p : List MemPlace}
    (h : DataW.trod enc Try.prog w base (fun _ => true) true fuel 23 [c] = some (d, p)) :
    ∃ L, Strs w w.heap.size c L ∧ (d = .nil ∧ L = [] ∨ ∃ rest, d = .slice (strs L) rest) ∧ CapV c := by
  rcases open_strings Try.underlying23 Try.underlying9 (by kernel_rfl) h with ⟨hcs, hx⟩ | ⟨x, l, c2, ss, hcs, _, hl, hm, hz, hx, hcell, hw⟩
  · simp only [List.cons.injEq, and_true] at hcs
    subst hcs
    exact ⟨[], ⟨none, 0, rfl, fun h => absurd h (by simp)⟩, .inl ⟨congrArg Prod.fst hx, rfl⟩, fun A n c e => by injection e with e1 e2 e3; subst e1 e2 e3; exact ⟨Nat.le_refl _, by simp [maxLen], fun _ => rfl⟩⟩
  · simp only [List.cons.injEq, and_true] at hcs
    subst hcs
    have hz' : ss.length = c2 := by simpa using hz
    have hlen : (ss.take l).length = l := by simp; omega
    refine ⟨ss.take l, ⟨some x, c2, by rw [hlen], fun hp => ?_⟩, .inr ⟨_, congrArg Prod.fst hx⟩, fun A n c e => by injection e with e1 e2 e3; subst e1 e2 e3; exact ⟨hl, hm, fun h => by cases h⟩⟩
    have h0 := hcell 0 (by rw [hlen] at hp; omega)
    have hsp : x.spot = none := by
      have := World.cell?_spot h0
      rw [show x.add 0 = x from by simp [Addr.add]] at this
      exact this
    refine ⟨x, rfl, hsp, ?_, fun j z hj => ?_⟩
    · have := cell_lt h0
      rwa [block_add] at this
    · rw [List.getElem?_take] at hj
      split at hj
      · have hjl : j < ss.length := by omega
        rw [hcell j hjl]
        rw [List.getElem?_eq_getElem hjl] at hj
        cases hj
        simp [List.getElem?_eq_getElem hjl]
      · cases hj
theorem open_ints_any {H : Type} {enc : TypeId × Value → H} {w : World} {base fuel : Nat} {c : Value} {d : DataW H} {p : List MemPlace}
    (h : DataW.trod enc Try.prog w base (fun _ => true) true fuel 24 [c] = some (d, p)) :
    ∃ zs, Ints .i64 w w.heap.size c zs ∧ (d = .nil ∧ zs = [] ∨ ∃ rest, d = .slice (lits .i64 zs) rest) := by
  obtain ⟨A, l, cap, rfl⟩ : ∃ A l cap, c = .slice A l cap := by
    rcases open_ints Try.underlying24 Try.underlying3 (by kernel_rfl) h with ⟨hcs, _⟩ | ⟨x, l, c2, ss, hcs, _⟩
    · simp only [List.cons.injEq, and_true] at hcs; exact ⟨_, _, _, hcs⟩
    · simp only [List.cons.injEq, and_true] at hcs; exact ⟨_, _, _, hcs⟩
  exact open_slice_ Try.underlying24 Try.underlying3 (by kernel_rfl) h
/-- A slice's data is these texts. -/
def SDat {H : Type} (d : DataW H) (L : List ByteArray) : Prop := d = .nil ∧ L = [] ∨ ∃ rest, d = .slice (strs L) rest
theorem open_node {H : Type} {enc : TypeId × Value → H} {w : World} {r : Reach} {b0 base : Nat} {v : Value} {d : DataW H} {p : List MemPlace} (hv : Value.okWide Try.prog w r b0 26 v)
    (h : DataW.Trod enc Try.prog w base (fun _ => true) true 26 v d p) :
    ∃ n : Nd, NodeV w w.heap.size v n ∧ ∃ dk dv dd, d = .agg [.lit (.bool n.leaf), dk, dv, dd] ∧ SDat dk n.keys ∧ SDat dv n.vals ∧ (dd = .nil ∧ n.kids = [] ∨ ∃ rest, dd = .slice (lits .i64 n.kids) rest) := by
  obtain ⟨cs, rfl, hsz⟩ := okWide_struct Try.underlying26 hv
  obtain ⟨c0, c1, c2, c3, rfl⟩ := row_of_four (hsz.trans (by kernel_rfl))
  obtain ⟨fuel, hf⟩ := h
  obtain ⟨xs, n, hx0, hx, hl, hlen, hg⟩ := DataW.trod_struct Try.underlying26 hf
  obtain ⟨y0, y1, y2, y3, rfl⟩ := list_of_four hlen
  have k1 : Try.prog.cellsOf 4 = 1 := by kernel_rfl
  have k2 : Try.prog.cellsOf 23 = 1 := by kernel_rfl
  have k3 : Try.prog.cellsOf 24 = 1 := by kernel_rfl
  have g0 : DataW.trod enc Try.prog w base (fun _ => true) true n 4 [c0] = some y0 := by have := hg 0 _ rfl; simpa [Value.cells, k1] using this
  have g1 : DataW.trod enc Try.prog w base (fun _ => true) true n 23 [c1] = some y1 := by have := hg 1 _ rfl; simpa [Value.cells, k1, k2] using this
  have g2 : DataW.trod enc Try.prog w base (fun _ => true) true n 23 [c2] = some y2 := by have := hg 2 _ rfl; simpa [Value.cells, k1, k2] using this
  have g3 : DataW.trod enc Try.prog w base (fun _ => true) true n 24 [c3] = some y3 := by have := hg 3 _ rfl; simpa [Value.cells, k1, k2, k3] using this
  obtain ⟨bl, e0, x0⟩ := DataW.trod_bool Try.underlying4 g0
  simp only [List.cons.injEq, and_true] at e0
  subst e0 x0
  obtain ⟨d1, p1⟩ := y1
  obtain ⟨d2, p2⟩ := y2
  obtain ⟨d3, p3⟩ := y3
  obtain ⟨K, s1, q1, m1⟩ := open_strs_any g1
  obtain ⟨V, s2, q2, m2⟩ := open_strs_any g2
  obtain ⟨Z, s3, q3⟩ := open_ints_any g3
  simp only [Prod.mk.injEq] at hx
  exact ⟨⟨bl, K, V, Z⟩, ⟨c1, c2, c3, rfl, s1, s2, s3, m1, m2⟩, d1, d2, d3, hx.1, q1, q2, q3⟩
/-- .. with the sizes that the form's own reach gives. -/
theorem sdat_reach {H : Type} {d : DataW H} {L : List ByteArray} (h : SDat d L) (hz : ∀ n ∈ d.weights Try.prog 23, n ≤ 140737488351232) : ∀ s ∈ L, s.size ≤ 140737488351232 := fun s hs => by
  rcases h with ⟨_, rfl⟩ | ⟨rest, rfl⟩
  · cases hs
  · refine hz _ ?_
    simp only [DataW.weights, Try.underlying23, List.mem_cons, List.mem_append]
    refine .inr (.inl (weights_all (d := .lit (.string s.data.toList)) (List.mem_map.2 ⟨s, hs, rfl⟩) ?_))
    simp only [DataW.weights, List.mem_singleton, Array.length_toList]
    rfl
theorem node_reach {H : Type} {n : Nd} {dk dv dd : DataW H} (h1 : SDat dk n.keys) (h2 : SDat dv n.vals) {ts : List TypeId} {ds : List (DataW H)} (hz : (DataW.weightsEach Try.prog ts ds).all (· ≤ reachBytes) = true)
    {j : Nat} (ht : ts[j]? = some 26) (hj : ds[j]? = some (.agg [.lit (.bool n.leaf), dk, dv, dd])) : (∀ s ∈ n.keys, s.size ≤ 140737488351232) ∧ ∀ s ∈ n.vals, s.size ≤ 140737488351232 := by
  have key : ∀ m ∈ (DataW.agg [.lit (.bool n.leaf), dk, dv, dd]).weights Try.prog 26, m ≤ 140737488351232 := fun m hm => by
    have h3 := of_decide_eq_true (List.all_eq_true.1 hz _ (DataW.weights_mem_each ht hj m hm))
    simp only [reachBytes] at h3
    omega
  exact ⟨sdat_reach h1 (fun m hm => key m (weights_part Try.underlying26 (j := 1) (t := 23) rfl rfl hm)), sdat_reach h2 (fun m hm => key m (weights_part Try.underlying26 (j := 2) (t := 23) rfl rfl hm))⟩
end Go.Proofs.Ytcmghbglnkfbaaa
