/- How a super that came in by value is opened and shut. -/
import Derived.Test.YtcjoinahelmmpaaFrame
import Derived.Test.YtcjoinahelmmpaaSuB
import Derived.Lib.SmallJoins
import Derived.Test.YtcjoinahelmmpaaFields
import Derived.Test.YtcjoinahelmmpaaBlkM
namespace Go.Proofs.Ytcjoinahelmmpaa
open Go.ChangeShapes Go.WideShapes Go.ChangeAt Go.RowKit
set_option linter.unusedVariables false
set_option maxRecDepth 100000

section
variable {H : Type} {enc : TypeId × Value → H} {w : World} {base : Nat} {spare : Nat → Bool} {held : Bool}
theorem row_of_six {α : Type} {cs : Array α} (h : cs.size = 6) : ∃ c0 c1 c2 c3 c4 c5, cs = #[c0, c1, c2, c3, c4, c5] := by
  obtain ⟨l⟩ := cs
  match l, h with
  | [c0, c1, c2, c3, c4, c5], _ => exact ⟨c0, c1, c2, c3, c4, c5, rfl⟩
theorem list_of_six {α : Type} {cs : List α} (h : cs.length = 6) : ∃ c0 c1 c2 c3 c4 c5, cs = [c0, c1, c2, c3, c4, c5] := by
  match cs, h with
  | [c0, c1, c2, c3, c4, c5], _ => exact ⟨c0, c1, c2, c3, c4, c5, rfl⟩
/-- What whole numbers a super has. -/
def Sup.wf (s : Sup) : Prop := (Lit.int .i64 s.g).wf = true ∧ (Lit.int .i64 s.r).wf = true ∧ (Lit.int .i64 s.t).wf = true ∧ (Lit.int .i64 s.e).wf = true ∧ (Lit.int .i64 s.l).wf = true ∧ (Lit.int .i64 s.m).wf = true
/-- A super as data. -/
def udat (s : Sup) : DataW H := .agg [.lit (.int .i64 s.g), .lit (.int .i64 s.r), .lit (.int .i64 s.t), .lit (.int .i64 s.e), .lit (.int .i64 s.l), .lit (.int .i64 s.m)]
theorem super_cells {fuel : Nat} {xs : List Value} {y : DataW H × List MemPlace} (h : DataW.trod enc Try.prog w base spare held fuel 23 xs = some y) (hx : xs.length = 6) :
    ∃ s : Sup, xs = [.int .i64 s.g, .int .i64 s.r, .int .i64 s.t, .int .i64 s.e, .int .i64 s.l, .int .i64 s.m] ∧ y.1 = udat s ∧ y.2 = [] ∧ s.wf := by
  obtain ⟨c0, c1, c2, c3, c4, c5, rfl⟩ := list_of_six hx
  obtain ⟨ys, n, hx0, hx, hl, hlen, hg⟩ := DataW.trod_struct Try.underlying23 h
  obtain ⟨y0, y1, y2, y3, y4, y5, rfl⟩ := list_of_six hlen
  have k3 : Try.prog.cellsOf 3 = 1 := by kernel_rfl
  have g0 : DataW.trod enc Try.prog w base spare held n 3 [c0] = some y0 := by have := hg 0 _ rfl; simpa [Value.cells, k3] using this
  have g1 : DataW.trod enc Try.prog w base spare held n 3 [c1] = some y1 := by have := hg 1 _ rfl; simpa [Value.cells, k3] using this
  have g2 : DataW.trod enc Try.prog w base spare held n 3 [c2] = some y2 := by have := hg 2 _ rfl; simpa [Value.cells, k3] using this
  have g3 : DataW.trod enc Try.prog w base spare held n 3 [c3] = some y3 := by have := hg 3 _ rfl; simpa [Value.cells, k3] using this
  have g4 : DataW.trod enc Try.prog w base spare held n 3 [c4] = some y4 := by have := hg 4 _ rfl; simpa [Value.cells, k3] using this
  have g5 : DataW.trod enc Try.prog w base spare held n 3 [c5] = some y5 := by have := hg 5 _ rfl; simpa [Value.cells, k3] using this
  obtain ⟨n0, e0, x0, w0⟩ := DataW.trod_int Try.underlying3 g0
  obtain ⟨n1, e1, x1, w1⟩ := DataW.trod_int Try.underlying3 g1
  obtain ⟨n2, e2, x2, w2⟩ := DataW.trod_int Try.underlying3 g2
  obtain ⟨n3, e3, x3, w3⟩ := DataW.trod_int Try.underlying3 g3
  obtain ⟨n4, e4, x4, w4⟩ := DataW.trod_int Try.underlying3 g4
  obtain ⟨n5, e5, x5, w5⟩ := DataW.trod_int Try.underlying3 g5
  simp at e0 e1 e2 e3 e4 e5
  subst e0 e1 e2 e3 e4 e5 x0 x1 x2 x3 x4 x5
  exact ⟨⟨n0, n1, n2, n3, n4, n5⟩, rfl, by rw [hx]; rfl, by rw [hx]; rfl, w0, w1, w2, w3, w4, w5⟩
theorem open_super {r : Reach} {b0 : Nat} {v : Value} {d : DataW H} {p : List MemPlace} (hv : Value.okWide Try.prog w r b0 23 v) (h : DataW.Trod enc Try.prog w base spare held 23 v d p) :
    ∃ s : Sup, v = uv s ∧ d = udat s ∧ p = [] ∧ s.wf := by
  obtain ⟨cs, rfl, hsz⟩ := okWide_struct Try.underlying23 hv
  obtain ⟨fuel, hf⟩ := h
  obtain ⟨s, h1, h2, h3, h4⟩ := super_cells (xs := cs.toList) (by simpa [Value.cells] using hf) (by rw [Array.length_toList]; exact hsz.trans (by kernel_rfl))
  refine ⟨s, ?_, h2, h3, h4⟩
  unfold uv
  congr 1
  apply Array.ext'
  exact h1
theorem shut_super (s : Sup) (h : s.wf) : DataW.Trod enc Try.prog w base spare held 23 (uv s) (udat s) [] := by
  obtain ⟨h0, h1, h2, h3, h4, h5⟩ := h
  have k3 : Try.prog.cellsOf 3 = 1 := by kernel_rfl
  have hi : ∀ z : Int, (Lit.int .i64 z).wf = true → DataW.trod enc Try.prog w base spare held 1 3 [.int .i64 z] = some (.lit (.int .i64 z), []) := fun z hz => by simp [DataW.trod, Try.underlying3, hz]
  refine ⟨2, ?_⟩
  have := trod_struct_mk (enc := enc) (w := w) (base := base) (spare := spare) (held := held) (n := 1) (cs := [.int .i64 s.g, .int .i64 s.r, .int .i64 s.t, .int .i64 s.e, .int .i64 s.l, .int .i64 s.m])
    (xs := [(.lit (.int .i64 s.g), []), (.lit (.int .i64 s.r), []), (.lit (.int .i64 s.t), []), (.lit (.int .i64 s.e), []), (.lit (.int .i64 s.l), []), (.lit (.int .i64 s.m), [])]) Try.underlying23 (by kernel_rfl) (by simp [k3, hi _ h0, hi _ h1, hi _ h2, hi _ h3, hi _ h4, hi _ h5])
  simpa [Value.cells, uv, udat] using this
end
end Go.Proofs.Ytcjoinahelmmpaa
/- How rows of supers, and rows of rows of whole numbers, are opened. -/
namespace Go.Proofs.Ytcjoinahelmmpaa
open Go.ChangeShapes Go.WideShapes Go.ChangeAt Go.RowKit
set_option linter.unusedVariables false
set_option maxRecDepth 100000

/-- A row of supers. -/
def Sups (B : Nat) (w : World) (v : Value) (qs : List Sup) : Prop := ∃ A cap, v = .slice A qs.length cap ∧ qs.length ≤ 9223372036854775807 ∧ (0 < qs.length → ∃ b o, A = some ⟨b, o, none⟩ ∧ b < B ∧ ∀ j s, qs[j]? = some s →
  w.cell? ⟨b, o + j * 6, none⟩ = some (.int .i64 s.g) ∧ w.cell? ⟨b, o + j * 6 + 1, none⟩ = some (.int .i64 s.r) ∧ w.cell? ⟨b, o + j * 6 + 2, none⟩ = some (.int .i64 s.t) ∧ w.cell? ⟨b, o + j * 6 + 3, none⟩ = some (.int .i64 s.e) ∧ w.cell? ⟨b, o + j * 6 + 4, none⟩ = some (.int .i64 s.l) ∧ w.cell? ⟨b, o + j * 6 + 5, none⟩ = some (.int .i64 s.m))
/-- A row of rows of whole numbers. -/
def Ivs (B : Nat) (w : World) (v : Value) (qs : List (Value × List Int)) : Prop := ∃ A cap, v = .slice A qs.length cap ∧ qs.length ≤ 9223372036854775807 ∧ (0 < qs.length → ∃ b o, A = some ⟨b, o, none⟩ ∧ b < B ∧ ∀ j q, qs[j]? = some q →
  w.cell? ⟨b, o + j, none⟩ = some q.1 ∧ IvB B w q.1 q.2)
theorem open_ivV {H : Type} {enc : TypeId × Value → H} {w : World} {base fuel : Nat} {v : Value} {y : DataW H × List MemPlace}
    (h : DataW.trod enc Try.prog w base (fun _ => true) true fuel 49 [v] = some y) : ∃ zs, IvB w.heap.size w v zs := by
  rcases open_ints Try.underlying49 Try.underlying3 (by kernel_rfl) h with ⟨hcs, hx⟩ | ⟨x, l, c, zs, hcs, _, hl, hm, hz, hx, hcell, hwz⟩
  · simp only [List.cons.injEq, and_true] at hcs
    exact ⟨[], none, 0, hcs, by simp, fun h => by simp at h⟩
  · simp only [List.cons.injEq, and_true] at hcs
    have hz' : zs.length = c := by simpa using hz
    have hlen : (zs.take l).length = l := by simp; omega
    refine ⟨zs.take l, some x, c, by rw [hlen]; exact hcs, by rw [hlen]; unfold maxLen at hm; omega, fun hp => ?_⟩
    have h0 := hcell 0 (by omega)
    have hsp : x.spot = none := by
      have := World.cell?_spot h0
      rwa [show x.add 0 = x from by simp [Addr.add]] at this
    have hb := cell_lt h0
    rw [block_add] at hb
    obtain ⟨b, o, sp⟩ := x
    simp at hsp; subst hsp
    refine ⟨b, o, rfl, hb, fun j z hj => ?_⟩
    rw [List.getElem?_take] at hj
    split at hj
    · have hjl : j < zs.length := by omega
      have hc := hcell j hjl
      rw [add_none rfl] at hc
      rw [hc]
      rw [List.getElem?_eq_getElem hjl] at hj
      cases hj
      simp [List.getElem?_eq_getElem hjl]
    · cases hj
theorem open_sups {H : Type} {enc : TypeId × Value → H} {w : World} {base fuel : Nat} {A : Option Addr} {len cap : Nat} {d : DataW H} {p : List MemPlace}
    (h : DataW.trod enc Try.prog w base (fun _ => true) true fuel 70 [.slice A len cap] = some (d, p)) :
    ∃ qs, Sups w.heap.size w (.slice A len cap) qs := by
  rcases open_rows Try.underlying70 Try.underlying23 (by kernel_rfl) (by kernel_rfl) h with ⟨rfl, rfl, rfl, rfl⟩ | ⟨a, D, rest, rfl, hl, hm, rfl, hi⟩
  · exact ⟨[], none, 0, rfl, by simp, fun h => by simp at h⟩
  · have key : ∀ i, ∃ q : Sup, i < len → (w.cell? (a.add (i * 6)) = some (.int .i64 q.g) ∧ w.cell? (a.add (i * 6 + 1)) = some (.int .i64 q.r) ∧ w.cell? (a.add (i * 6 + 2)) = some (.int .i64 q.t) ∧ w.cell? (a.add (i * 6 + 3)) = some (.int .i64 q.e) ∧ w.cell? (a.add (i * 6 + 4)) = some (.int .i64 q.l) ∧ w.cell? (a.add (i * 6 + 5)) = some (.int .i64 q.m)) := by
      intro i
      by_cases hil : i < len
      · obtain ⟨ys, n, hD, hyl, hf⟩ := hi i hil
        obtain ⟨v0, y0, hc0, hy0, ht0⟩ := hf 0 _ rfl
        obtain ⟨v1, y1, hc1, hy1, ht1⟩ := hf 1 _ rfl
        obtain ⟨v2, y2, hc2, hy2, ht2⟩ := hf 2 _ rfl
        obtain ⟨v3, y3, hc3, hy3, ht3⟩ := hf 3 _ rfl
        obtain ⟨v4, y4, hc4, hy4, ht4⟩ := hf 4 _ rfl
        obtain ⟨v5, y5, hc5, hy5, ht5⟩ := hf 5 _ rfl
        obtain ⟨n0, e0, x0, wf0⟩ := DataW.trod_int Try.underlying3 ht0
        obtain ⟨n1, e1, x1, wf1⟩ := DataW.trod_int Try.underlying3 ht1
        obtain ⟨n2, e2, x2, wf2⟩ := DataW.trod_int Try.underlying3 ht2
        obtain ⟨n3, e3, x3, wf3⟩ := DataW.trod_int Try.underlying3 ht3
        obtain ⟨n4, e4, x4, wf4⟩ := DataW.trod_int Try.underlying3 ht4
        obtain ⟨n5, e5, x5, wf5⟩ := DataW.trod_int Try.underlying3 ht5
        simp only [List.cons.injEq, and_true] at e0 e1 e2 e3 e4 e5
        subst e0 e1 e2 e3 e4 e5
        exact ⟨⟨n0, n1, n2, n3, n4, n5⟩, fun _ => ⟨hc0, hc1, hc2, hc3, hc4, hc5⟩⟩
      · exact ⟨⟨0, 0, 0, 0, 0, 0⟩, fun h => absurd h hil⟩
    obtain ⟨f, hf⟩ := Classical.axiomOfChoice key
    refine ⟨(List.range len).map f, some a, cap, by rw [range_map_len], by rw [range_map_len]; unfold maxLen at hm; omega, fun hp => ?_⟩
    rw [range_map_len] at hp
    have h0 := (hf 0 hp).1
    have hsp : a.spot = none := by
      have := World.cell?_spot h0
      rwa [show a.add (0 * 6) = a from by simp [Addr.add]] at this
    have hb := cell_lt h0
    rw [block_add] at hb
    obtain ⟨b, o, sp⟩ := a
    simp at hsp; subst hsp
    refine ⟨b, o, rfl, hb, fun j q hj => ?_⟩
    obtain ⟨hjl, rfl⟩ := range_map_get hj
    obtain ⟨h1, h2, h3, h4, h5, h6⟩ := hf j hjl
    rw [add_none rfl] at h1 h2 h3 h4 h5 h6
    exact ⟨h1, h2, h3, h4, h5, h6⟩
theorem open_ivs {H : Type} {enc : TypeId × Value → H} {w : World} {base fuel : Nat} {A : Option Addr} {len cap : Nat} {d : DataW H} {p : List MemPlace}
    (h : DataW.trod enc Try.prog w base (fun _ => true) true fuel 71 [.slice A len cap] = some (d, p)) :
    ∃ qs, Ivs w.heap.size w (.slice A len cap) qs := by
  rcases Go.Deep.open_slice Try.underlying71 h with ⟨hcs, hx⟩ | ⟨a, len', cap', m, n, D, Pl, hcs, hb, hl, hm, hmm, hx, hi⟩
  · simp at hcs
    obtain ⟨rfl, rfl, rfl⟩ := hcs
    exact ⟨[], none, 0, rfl, by simp, fun h => by simp at h⟩
  · simp at hcs
    obtain ⟨rfl, rfl, rfl⟩ := hcs
    have kc : Try.prog.cellsOf 49 = 1 := by kernel_rfl
    have key : ∀ i, ∃ q : Value × List Int, i < len → w.cell? (a.add i) = some q.1 ∧ IvB w.heap.size w q.1 q.2 := by
      intro i
      by_cases hil : i < len
      · obtain ⟨cs', hc, ht'⟩ := hi i (by rw [hmm]; simp; omega)
        rw [kc, Nat.mul_one] at hc
        obtain ⟨_, hcl, hat⟩ := World.cells?_some hc
        have h0 := hat 0 (by decide)
        match cs', hcl with
        | [c], _ =>
          obtain ⟨zs, hz⟩ := open_ivV ht'
          refine ⟨(c, zs), fun _ => ⟨?_, hz⟩⟩
          rw [show (a.add i).add 0 = a.add i from by simp [Addr.add]] at h0
          exact h0
      · exact ⟨(.slice none 0 0, []), fun h => absurd h hil⟩
    obtain ⟨f, hf⟩ := Classical.axiomOfChoice key
    refine ⟨(List.range len).map f, some a, cap, by rw [range_map_len], by rw [range_map_len]; unfold maxLen at hm; omega, fun hp => ?_⟩
    rw [range_map_len] at hp
    have h0 := (hf 0 hp).1
    have hsp : a.spot = none := by
      have := World.cell?_spot h0
      rwa [show a.add 0 = a from by simp [Addr.add]] at this
    have hb := cell_lt h0
    rw [block_add] at hb
    obtain ⟨b, o, sp⟩ := a
    simp at hsp; subst hsp
    refine ⟨b, o, rfl, hb, fun j q hj => ?_⟩
    obtain ⟨hjl, rfl⟩ := range_map_get hj
    obtain ⟨h1, h2⟩ := hf j hjl
    rw [add_none rfl] at h1
    exact ⟨h1, h2⟩
end Go.Proofs.Ytcjoinahelmmpaa
/- How a row of layer 11's calls is opened. -/
namespace Go.Proofs.Ytcjoinahelmmpaa
open Go.ChangeShapes Go.WideShapes Go.ChangeAt Go.RowKit
set_option linter.unusedVariables false
set_option maxRecDepth 100000

/-- A call that came in. -/
structure Acw where
  k : Int
  i : Int
  s : ByteArray
  v : Value
  zs : List Int
  p : Sup
def Acw.cs (q : Acw) : List Value := [.int .i64 q.k, .int .i64 q.i, .string q.s, q.v, .int .i64 q.p.g, .int .i64 q.p.r, .int .i64 q.p.t, .int .i64 q.p.e, .int .i64 q.p.l, .int .i64 q.p.m]
def Acts11 (B : Nat) (w : World) (v : Value) (qs : List Acw) : Prop := ∃ A cap, v = .slice A qs.length cap ∧ qs.length ≤ 9223372036854775807 ∧ (0 < qs.length → ∃ b o, A = some ⟨b, o, none⟩ ∧ b < B ∧ ∀ j q, qs[j]? = some q →
  (∀ x u, q.cs[x]? = some u → w.cell? ⟨b, o + j * 10 + x, none⟩ = some u) ∧ IvB B w q.v q.zs ∧ -9223372036854775808 ≤ q.i ∧ q.i ≤ 9223372036854775807)
theorem list_of_ten {α : Type} {cs : List α} (h : cs.length = 10) : ∃ c0 c1 c2 c3 c4 c5 c6 c7 c8 c9, cs = [c0, c1, c2, c3, c4, c5, c6, c7, c8, c9] := by
  match cs, h with
  | [c0, c1, c2, c3, c4, c5, c6, c7, c8, c9], _ => exact ⟨c0, c1, c2, c3, c4, c5, c6, c7, c8, c9, rfl⟩
theorem open_acts11 {H : Type} {enc : TypeId × Value → H} {w : World} {base fuel : Nat} {A : Option Addr} {len cap : Nat} {d : DataW H} {p : List MemPlace}
    (h : DataW.trod enc Try.prog w base (fun _ => true) true fuel 39 [.slice A len cap] = some (d, p)) :
    ∃ qs, Acts11 w.heap.size w (.slice A len cap) qs := by
  rcases Go.Deep.open_slice Try.underlying39 h with ⟨hcs, hx⟩ | ⟨a, len', cap', m, n, D, Pl, hcs, hb, hl, hm, hmm, hx, hi⟩
  · simp at hcs
    obtain ⟨rfl, rfl, rfl⟩ := hcs
    exact ⟨[], none, 0, rfl, by simp, fun h => by simp at h⟩
  · simp at hcs
    obtain ⟨rfl, rfl, rfl⟩ := hcs
    have kc : Try.prog.cellsOf 51 = 10 := by kernel_rfl
    have k3 : Try.prog.cellsOf 3 = 1 := by kernel_rfl
    have k9 : Try.prog.cellsOf 9 = 1 := by kernel_rfl
    have ki : Try.prog.cellsOf 49 = 1 := by kernel_rfl
    have ks : Try.prog.cellsOf 23 = 6 := by kernel_rfl
    have key : ∀ i, ∃ q : Acw, i < len → (∀ x u, q.cs[x]? = some u → w.cell? (a.add (i * 10 + x)) = some u) ∧ IvB w.heap.size w q.v q.zs ∧ -9223372036854775808 ≤ q.i ∧ q.i ≤ 9223372036854775807 := by
      intro i
      by_cases hil : i < len
      · obtain ⟨cs', hc, ht'⟩ := hi i (by rw [hmm]; simp; omega)
        rw [kc] at hc
        obtain ⟨_, hcl, hat⟩ := World.cells?_some hc
        obtain ⟨v0, v1, v2, v3, v4, v5, v6, v7, v8, v9, rfl⟩ := list_of_ten hcl
        obtain ⟨ys, n', hn', hy, hlen, hyl, hf⟩ := DataW.trod_struct Try.underlying51 ht'
        obtain ⟨y0, y1, y2, y3, y4, rfl⟩ := (show ∃ y0 y1 y2 y3 y4, ys = [y0, y1, y2, y3, y4] from by
          match ys, hyl with
          | [y0, y1, y2, y3, y4], _ => exact ⟨_, _, _, _, _, rfl⟩)
        have g0 : DataW.trod enc Try.prog w base (fun _ => true) true n' 3 [v0] = some y0 := by have := hf 0 _ rfl; simpa [k3] using this
        have g1 : DataW.trod enc Try.prog w base (fun _ => true) true n' 3 [v1] = some y1 := by have := hf 1 _ rfl; simpa [k3] using this
        have g2 : DataW.trod enc Try.prog w base (fun _ => true) true n' 9 [v2] = some y2 := by have := hf 2 _ rfl; simpa [k9] using this
        have g3 : DataW.trod enc Try.prog w base (fun _ => true) true n' 49 [v3] = some y3 := by have := hf 3 _ rfl; simpa [ki] using this
        have g4 : DataW.trod enc Try.prog w base (fun _ => true) true n' 23 [v4, v5, v6, v7, v8, v9] = some y4 := by have := hf 4 _ rfl; simpa [ks] using this
        obtain ⟨k, e0, x0, wf0⟩ := DataW.trod_int Try.underlying3 g0
        obtain ⟨m', e1, x1, wf1⟩ := DataW.trod_int Try.underlying3 g1
        obtain ⟨s, e2, x2, _⟩ := DataW.trod_string Try.underlying9 g2
        obtain ⟨zs, hz⟩ := open_ivV g3
        obtain ⟨sp, e4, _⟩ := super_cells g4 rfl
        simp only [List.cons.injEq, and_true] at e0 e1 e2 e4
        obtain ⟨rfl, rfl, rfl, rfl, rfl, rfl⟩ := e4
        subst e0 e1 e2
        refine ⟨⟨k, m', s, v3, zs, sp⟩, fun _ => ⟨fun x u hu => ?_, hz, wf_i64 wf1⟩⟩
        have hx : x < 10 := (List.getElem?_eq_some_iff.1 hu).1
        have := hat x hx
        rw [Go.Deep.add_add] at this
        rw [this]
        exact hu
      · exact ⟨⟨0, 0, ⟨#[]⟩, .slice none 0 0, [], ⟨0, 0, 0, 0, 0, 0⟩⟩, fun h => absurd h hil⟩
    obtain ⟨f, hf⟩ := Classical.axiomOfChoice key
    refine ⟨(List.range len).map f, some a, cap, by rw [range_map_len], by rw [range_map_len]; unfold maxLen at hm; omega, fun hp => ?_⟩
    rw [range_map_len] at hp
    have h0 := (hf 0 hp).1 0 _ rfl
    have hsp : a.spot = none := by
      have := World.cell?_spot h0
      rwa [show a.add (0 * 10 + 0) = a from by simp [Addr.add]] at this
    have hb := cell_lt h0
    rw [block_add] at hb
    obtain ⟨b, o, sp⟩ := a
    simp at hsp; subst hsp
    refine ⟨b, o, rfl, hb, fun j q hj => ?_⟩
    obtain ⟨hjl, rfl⟩ := range_map_get hj
    obtain ⟨h1, h2⟩ := hf j hjl
    refine ⟨fun x u hu => ?_, h2⟩
    have := h1 x u hu
    rw [add_none rfl] at this
    rw [← this, ← Nat.add_assoc]
end Go.Proofs.Ytcjoinahelmmpaa
