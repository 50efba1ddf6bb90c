/- Layer 8: the program's Drop. -/
import Derived.Test.YtcmghbglnkfbaaaPgQ
namespace Go.Proofs.Ytcmghbglnkfbaaa
open Go.RowKit
set_option linter.unusedVariables false
set_option maxRecDepth 100000

/-- A node that a call has made. -/
def NoO (w : World) (v : Value) (n : Nd) : Prop := ∃ A1 c1 A2 c2 A3 c3, v = nv8 A1 c1 A2 c2 A3 c3 n ∧ No w A1 c1 A2 c2 A3 c3 n ∧ Cp A1 n.keys.length c1 ∧ Cp A2 n.vals.length c2 ∧ Cp A3 n.kids.length c3
theorem NoO.turn {w w' : World} {v : Value} {n : Nd} (h : NoO w v n) (ht : Turn (fun _ => False) w w') : NoO w' v n := by
  obtain ⟨A1, c1, A2, c2, A3, c3, e, h1, h2⟩ := h
  exact ⟨A1, c1, A2, c2, A3, c3, e, h1.turn ht, h2⟩
theorem own_sr {w : World} {B : Nat} {v : Value} {L : List ByteArray} (h : w.ownsRow B 9 1 v L.length (L.map Value.string)) : ∃ A c, v = .slice A L.length c ∧ Sr w A L ∧ Cp A L.length c := by
  have h0 := h
  obtain ⟨hx, ⟨e, hn⟩ | ⟨g, c, cur, e, hB, hr, hle, hcm, _⟩⟩ := h
  · refine ⟨none, 0, by rw [e, hn], fun hp => by omega, ⟨by omega, by unfold maxLen; decide, fun _ => rfl⟩⟩
  · refine ⟨_, c, e, fun hp => ⟨g, 0, rfl, ?_, fun X hX j s hj => ?_⟩, ⟨hle, hcm, fun h => by cases h⟩⟩
    · rcases Nat.lt_or_ge g w.heap.size with h1 | h1
      · exact h1
      · rw [Array.getElem?_eq_none h1] at hr; cases hr
    · subst e
      have h5 := (own_turn8 h0 hX).cells (g := g) rfl j (.string s) (by rw [List.getElem?_map, hj]; rfl)
      rw [Addr.add_mid] at h5
      exact h5
def drop8 (n : Nd) (at_ : Nat) : Nd := ⟨true, chg8 n.keys at_ 1 [], chg8 n.vals at_ 1 [], []⟩
def nil8 : Nd := ⟨false, [], [], []⟩
theorem find8_yes {n : Nd} {key : ByteArray} (h : (find8 n key).2 = true) : Stands8 n ∧ n.leaf = true ∧ (find8 n key).1 < n.keys.length ∧ n.vals.length = n.keys.length ∧ n.kids = [] := by
  unfold find8 at h ⊢
  cases hs : st8 n with
  | false => rw [hs] at h; simp at h
  | true =>
    rw [hs] at h
    simp only [if_true] at h ⊢
    unfold at8 at h
    simp only [Bool.and_eq_true, decide_eq_true_eq] at h
    have hst := st8_of hs
    have h2 := hst.2
    rw [h.1] at h2
    simp only [if_true] at h2
    exact ⟨hst, h.1, h.2.1, h2.2.1, List.eq_nil_of_length_eq_zero h2.2.2⟩
theorem put4 {W : World} {g t : Nat} {a b c d : Value} (h : Blk W g t [a, b, c, d]) (x0 x1 x2 x3 : Value) : Blk ((((W.setCell ⟨g, 0, none⟩ x0).setCell ⟨g, 1, none⟩ x1).setCell ⟨g, 2, none⟩ x2).setCell ⟨g, 3, none⟩ x3) g t [x0, x1, x2, x3] ∧ Turn (fun k => k = g) W ((((W.setCell ⟨g, 0, none⟩ x0).setCell ⟨g, 1, none⟩ x1).setCell ⟨g, 2, none⟩ x2).setCell ⟨g, 3, none⟩ x3) :=
  ⟨(((h.put 0 x0).put 1 x1).put 2 x2).put 3 x3, ((((Turn.refl (fun k => k = g) W).setCell (p := ⟨g, 0, none⟩) (.inl rfl) x0).setCell (p := ⟨g, 1, none⟩) (.inl rfl) x1).setCell (p := ⟨g, 2, none⟩) (.inl rfl) x2).setCell (p := ⟨g, 3, none⟩) (.inl rfl) x3⟩
theorem Sr.away {w w' : World} {A : Option Addr} {L : List ByteArray} {B g : Nat} {v : Value} {c : Nat} (h : w.ownsRow B 9 1 v L.length (L.map Value.string)) (hv : v = .slice A L.length c) (hg : g < B) (ht : Turn (fun k => k = g) w w') : Sr w' A L := by
  obtain ⟨hx, ⟨e, hn⟩ | ⟨q, c', cur, e, hB, hr, hh⟩⟩ := h
  · exact fun hp => by omega
  · have hq : q < w.heap.size := by
      rcases Nat.lt_or_ge q w.heap.size with h1 | h1
      · exact h1
      · rw [Array.getElem?_eq_none h1] at hr; cases hr
    have h2 : w'.ownsRow B 9 1 v L.length (L.map Value.string) := ⟨hx, .inr ⟨q, c', cur, e, hB, (ht.block q hq (by omega)).trans hr, hh⟩⟩
    obtain ⟨A2, c2, e2, h3, _⟩ := own_sr h2
    rw [hv] at e2
    injection e2 with e3
    rw [e3]; exact h3
theorem box_two (w : World) (a b : List Value) : Blk ((w.alloc (.cells a.toArray 26)).alloc (.cells b.toArray 26)) w.heap.size 26 a ∧ Blk ((w.alloc (.cells a.toArray 26)).alloc (.cells b.toArray 26)) (w.heap.size + 1) 26 b := by
  refine ⟨(Blk.new w _ a).alloc _, ?_⟩
  have := Blk.new (w.alloc (.cells a.toArray 26)) 26 b
  rw [show (w.alloc (.cells a.toArray 26)).heap.size = w.heap.size + 1 from by simp] at this
  exact this
end Go.Proofs.Ytcmghbglnkfbaaa
