/- How rows of supers, and rows of rows of whole numbers, are opened. -/
import Derived.Test.YtcjoinahelmmpaaFrameU
import Derived.Test.YtcjoinahelmmpaaFields
import Derived.Test.YtcjoinahelmmpaaBlkM
namespace Go.Proofs.Ytcjoinahelmmpaa
open Go.ChangeShapes Go.WideShapes Go.ChangeAt Go.RowKit
set_option linter.unusedVariables false
set_option maxRecDepth 100000

/-- A row of supers. -/
def Sups (B : Nat) (w : World) (v : Value) (qs : List Sup) : Prop := ∃ A cap, v = .slice A qs.length cap ∧ qs.length ≤ 9223372036854775807 ∧ (0 < qs.length → ∃ b o, A = some ⟨b, o, none⟩ ∧ b < B ∧ ∀ j s, qs[j]? = some s →
  w.cell? ⟨b, o + j * 6, none⟩ = some (.int .i64 s.g) ∧ w.cell? ⟨b, o + j * 6 + 1, none⟩ = some (.int .i64 s.r) ∧ w.cell? ⟨b, o + j * 6 + 2, none⟩ = some (.int .i64 s.t) ∧ w.cell? ⟨b, o + j * 6 + 3, none⟩ = some (.int .i64 s.e) ∧ w.cell? ⟨b, o + j * 6 + 4, none⟩ = some (.int .i64 s.l) ∧ w.cell? ⟨b, o + j * 6 + 5, none⟩ = some (.int .i64 s.m))
/-- A row of rows of whole numbers. -/
def Ivs (B : Nat) (w : World) (v : Value) (qs : List (Value × List Int)) : Prop := ∃ A cap, v = .slice A qs.length cap ∧ qs.length ≤ 9223372036854775807 ∧ (0 < qs.length → ∃ b o, A = some ⟨b, o, none⟩ ∧ b < B ∧ ∀ j q, qs[j]? = some q →
  w.cell? ⟨b, o + j, none⟩ = some q.1 ∧ IvB B w q.1 q.2)
theorem open_ivV {H : Type} {enc : TypeId × Value → H} {w : World} {base fuel : Nat} {v : Value} {y : DataW H × List MemPlace}
    (h : DataW.trod enc Try.prog w base (fun _ => true) true fuel 49 [v] = some y) : ∃ zs, IvB w.heap.size w v zs := by
  rcases open_ints Try.underlying49 Try.underlying3 (by kernel_rfl) h with ⟨hcs, hx⟩ | ⟨x, l, c, zs, hcs, _, hl, hm, hz, hx, hcell, hwz⟩
  · simp only [List.cons.injEq, and_true] at hcs
    exact ⟨[], none, 0, hcs, by simp, fun h => by simp at h⟩
  · simp only [List.cons.injEq, and_true] at hcs
    have hz' : zs.length = c := by simpa using hz
    have hlen : (zs.take l).length = l := by simp; omega
    refine ⟨zs.take l, some x, c, by rw [hlen]; exact hcs, by rw [hlen]; unfold maxLen at hm; omega, fun hp => ?_⟩
    have h0 := hcell 0 (by omega)
    have hsp : x.spot = none := by
      have := World.cell?_spot h0
      rwa [show x.add 0 = x from by simp [Addr.add]] at this
    have hb := cell_lt h0
    rw [block_add] at hb
    obtain ⟨b, o, sp⟩ := x
    simp at hsp; subst hsp
    refine ⟨b, o, rfl, hb, fun j z hj => ?_⟩
    rw [List.getElem?_take] at hj
    split at hj
    · have hjl : j < zs.length := by omega
      have hc := hcell j hjl
      rw [add_none rfl] at hc
      rw [hc]
      rw [List.getElem?_eq_getElem hjl] at hj
      cases hj
      simp [List.getElem?_eq_getElem hjl]
    · cases hj
theorem open_sups {H : Type} {enc : TypeId × Value → H} {w : World} {base fuel : Nat} {A : Option Addr} {len cap : Nat} {d : DataW H} {p : List MemPlace}
    (h : DataW.trod enc Try.prog w base (fun _ => true) true fuel 70 [.slice A len cap] = some (d, p)) :
    ∃ qs, Sups w.heap.size w (.slice A len cap) qs := by
  rcases open_rows Try.underlying70 Try.underlying23 (by kernel_rfl) (by kernel_rfl) h with ⟨rfl, rfl, rfl, rfl⟩ | ⟨a, D, rest, rfl, hl, hm, rfl, hi⟩
  · exact ⟨[], none, 0, rfl, by simp, fun h => by simp at h⟩
  · have key : ∀ i, ∃ q : Sup, i < len → (w.cell? (a.add (i * 6)) = some (.int .i64 q.g) ∧ w.cell? (a.add (i * 6 + 1)) = some (.int .i64 q.r) ∧ w.cell? (a.add (i * 6 + 2)) = some (.int .i64 q.t) ∧ w.cell? (a.add (i * 6 + 3)) = some (.int .i64 q.e) ∧ w.cell? (a.add (i * 6 + 4)) = some (.int .i64 q.l) ∧ w.cell? (a.add (i * 6 + 5)) = some (.int .i64 q.m)) := by
      intro i
      by_cases hil : i < len
      · obtain ⟨ys, n, hD, hyl, hf⟩ := hi i hil
        obtain ⟨v0, y0, hc0, hy0, ht0⟩ := hf 0 _ rfl
        obtain ⟨v1, y1, hc1, hy1, ht1⟩ := hf 1 _ rfl
        obtain ⟨v2, y2, hc2, hy2, ht2⟩ := hf 2 _ rfl
        obtain ⟨v3, y3, hc3, hy3, ht3⟩ := hf 3 _ rfl
        obtain ⟨v4, y4, hc4, hy4, ht4⟩ := hf 4 _ rfl
        obtain ⟨v5, y5, hc5, hy5, ht5⟩ := hf 5 _ rfl
        obtain ⟨n0, e0, x0, wf0⟩ := DataW.trod_int Try.underlying3 ht0
        obtain ⟨n1, e1, x1, wf1⟩ := DataW.trod_int Try.underlying3 ht1
        obtain ⟨n2, e2, x2, wf2⟩ := DataW.trod_int Try.underlying3 ht2
        obtain ⟨n3, e3, x3, wf3⟩ := DataW.trod_int Try.underlying3 ht3
        obtain ⟨n4, e4, x4, wf4⟩ := DataW.trod_int Try.underlying3 ht4
        obtain ⟨n5, e5, x5, wf5⟩ := DataW.trod_int Try.underlying3 ht5
        simp only [List.cons.injEq, and_true] at e0 e1 e2 e3 e4 e5
        subst e0 e1 e2 e3 e4 e5
        exact ⟨⟨n0, n1, n2, n3, n4, n5⟩, fun _ => ⟨hc0, hc1, hc2, hc3, hc4, hc5⟩⟩
      · exact ⟨⟨0, 0, 0, 0, 0, 0⟩, fun h => absurd h hil⟩
    obtain ⟨f, hf⟩ := Classical.axiomOfChoice key
    refine ⟨(List.range len).map f, some a, cap, by rw [range_map_len], by rw [range_map_len]; unfold maxLen at hm; omega, fun hp => ?_⟩
    rw [range_map_len] at hp
    have h0 := (hf 0 hp).1
    have hsp : a.spot = none := by
      have := World.cell?_spot h0
      rwa [show a.add (0 * 6) = a from by simp [Addr.add]] at this
    have hb := cell_lt h0
    rw [block_add] at hb
    obtain ⟨b, o, sp⟩ := a
    simp at hsp; subst hsp
    refine ⟨b, o, rfl, hb, fun j q hj => ?_⟩
    obtain ⟨hjl, rfl⟩ := range_map_get hj
    obtain ⟨h1, h2, h3, h4, h5, h6⟩ := hf j hjl
    rw [add_none rfl] at h1 h2 h3 h4 h5 h6
    exact ⟨h1, h2, h3, h4, h5, h6⟩
theorem open_ivs {H : Type} {enc : TypeId × Value → H} {w : World} {base fuel : Nat} {A : Option Addr} {len cap : Nat} {d : DataW H} {p : List MemPlace}
    (h : DataW.trod enc Try.prog w base (fun _ => true) true fuel 71 [.slice A len cap] = some (d, p)) :
    ∃ qs, Ivs w.heap.size w (.slice A len cap) qs := by
  rcases Go.Deep.open_slice Try.underlying71 h with ⟨hcs, hx⟩ | ⟨a, len', cap', m, n, D, Pl, hcs, hb, hl, hm, hmm, hx, hi⟩
  · simp at hcs
    obtain ⟨rfl, rfl, rfl⟩ := hcs
    exact ⟨[], none, 0, rfl, by simp, fun h => by simp at h⟩
  · simp at hcs
    obtain ⟨rfl, rfl, rfl⟩ := hcs
    have kc : Try.prog.cellsOf 49 = 1 := by kernel_rfl
    have key : ∀ i, ∃ q : Value × List Int, i < len → w.cell? (a.add i) = some q.1 ∧ IvB w.heap.size w q.1 q.2 := by
      intro i
      by_cases hil : i < len
      · obtain ⟨cs', hc, ht'⟩ := hi i (by rw [hmm]; simp; omega)
        rw [kc, Nat.mul_one] at hc
        obtain ⟨_, hcl, hat⟩ := World.cells?_some hc
        have h0 := hat 0 (by decide)
        match cs', hcl with
        | [c], _ =>
          obtain ⟨zs, hz⟩ := open_ivV ht'
          refine ⟨(c, zs), fun _ => ⟨?_, hz⟩⟩
          rw [show (a.add i).add 0 = a.add i from by simp [Addr.add]] at h0
          exact h0
      · exact ⟨(.slice none 0 0, []), fun h => absurd h hil⟩
    obtain ⟨f, hf⟩ := Classical.axiomOfChoice key
    refine ⟨(List.range len).map f, some a, cap, by rw [range_map_len], by rw [range_map_len]; unfold maxLen at hm; omega, fun hp => ?_⟩
    rw [range_map_len] at hp
    have h0 := (hf 0 hp).1
    have hsp : a.spot = none := by
      have := World.cell?_spot h0
      rwa [show a.add 0 = a from by simp [Addr.add]] at this
    have hb := cell_lt h0
    rw [block_add] at hb
    obtain ⟨b, o, sp⟩ := a
    simp at hsp; subst hsp
    refine ⟨b, o, rfl, hb, fun j q hj => ?_⟩
    obtain ⟨hjl, rfl⟩ := range_map_get hj
    obtain ⟨h1, h2⟩ := hf j hjl
    rw [add_none rfl] at h1
    exact ⟨h1, h2⟩
end Go.Proofs.Ytcjoinahelmmpaa
