/- Layer 8: own (the program's): rows of a node's own. -/
import Derived.Test.YtpnnbfojdccfhaaPgU
import Derived.Test.YtpnnbfojdccfhaaShelf
namespace Go.Proofs.Ytpnnbfojdccfhaa
open Go.RowKit
set_option linter.unusedVariables false
set_option maxRecDepth 100000

theorem cloneS (L : List ByteArray) (A : Option Addr) (c : Nat) (w : World) (h : Sr w A L) (hc : Cp A L.length c) (hl : L.length ≤ 4000) :
    Calls Try.prog 62 #[.slice A L.length c] w fun e w' => ∃ v, e = .returned v ∧ (∃ A2 c2, v = .slice A2 L.length c2 ∧ w'.ownsRow w.heap.size 9 1 (.slice A2 L.length c2) L.length (L.map Value.string) ∧ Cp A2 L.length c2 ∧ Turn (fun _ => False) w w') := by
  have fin : ∀ v (w' : World), w'.ownsRow w.heap.size 9 1 v L.length (L.map Value.string) → Below w.heap.size w w' → ∃ u, Ending.returned v = .returned u ∧ (∃ A2 c2, u = .slice A2 L.length c2 ∧ w'.ownsRow w.heap.size 9 1 (.slice A2 L.length c2) L.length (L.map Value.string) ∧ Cp A2 L.length c2 ∧ Turn (fun _ => False) w w') := fun v w' ho hb => by
    obtain ⟨A2, c2, rfl, _, h2⟩ := own_sr ho
    exact ⟨_, rfl, A2, c2, rfl, ho, h2, Turn.of_below hb (fun k h1 h2 => absurd h1 (Nat.not_lt.2 h2))⟩
  rcases Nat.eq_zero_or_pos L.length with h0 | h0
  · have hL : L = [] := List.eq_nil_of_length_eq_zero h0
    subst hL
    cases A with
    | none =>
      obtain rfl := hc.nil rfl
      refine (Try.slices_Clone_string_nil 0 0 w).mono ?_
      rintro e w' ⟨rfl, rfl⟩
      exact fin _ _ ⟨rfl, .inl ⟨rfl, rfl⟩⟩ (Below.refl _ _)
    | some ad =>
      refine (Try.slices_Clone_string_zero ad c w).mono ?_
      rintro e w' ⟨v, rfl, ho, _, hb⟩
      exact fin _ _ ho hb
  · obtain ⟨b, o, rfl, hb, hcc⟩ := h h0
    refine (Try.slices_Clone_string b o L.length c L w (Nat.le_refl _) (by omega) (fun j hj => ?_)).mono ?_
    · rw [hcc w (Turn.refl _ w) j _ (List.getElem?_eq_getElem hj), List.getD_eq_getElem?_getD, List.getElem?_eq_getElem hj]; rfl
    · rintro e w' ⟨v, rfl, ho, _, hb⟩
      rw [List.take_of_length_le (Nat.le_refl _)] at ho
      exact fin _ _ ho hb
theorem own_nr {w : World} {B : Nat} {v : Value} {L : List Int} (h : w.ownsRow B 3 1 v L.length (L.map (Value.int .i64))) : ∃ A c, v = .slice A L.length c ∧ Nr w A L ∧ Cp A L.length c := by
  have h0 := h
  obtain ⟨hx, ⟨e, hn⟩ | ⟨g, c, cur, e, hB, hr, hle, hcm, _⟩⟩ := h
  · refine ⟨none, 0, by rw [e, hn], fun hp => by omega, ⟨by omega, by unfold maxLen; decide, fun _ => rfl⟩⟩
  · refine ⟨_, c, e, fun hp => ⟨g, 0, rfl, ?_, fun X hX j s hj => ?_⟩, ⟨hle, hcm, fun h => by cases h⟩⟩
    · rcases Nat.lt_or_ge g w.heap.size with h1 | h1
      · exact h1
      · rw [Array.getElem?_eq_none h1] at hr; cases hr
    · subst e
      have h5 := (own_turn8 h0 hX).cells (g := g) rfl j (.int .i64 s) (by rw [List.getElem?_map, hj]; rfl)
      rw [Addr.add_mid] at h5
      exact h5
theorem Nr.away {w w' : World} {A : Option Addr} {L : List Int} {B g : Nat} {v : Value} {c : Nat} (h : w.ownsRow B 3 1 v L.length (L.map (Value.int .i64))) (hv : v = .slice A L.length c) (hg : g < B) (ht : Turn (fun k => k = g) w w') : Nr w' A L := by
  obtain ⟨hx, ⟨e, hn⟩ | ⟨q, c', cur, e, hB, hr, hh⟩⟩ := h
  · exact fun hp => by omega
  · have hq : q < w.heap.size := by
      rcases Nat.lt_or_ge q w.heap.size with h1 | h1
      · exact h1
      · rw [Array.getElem?_eq_none h1] at hr; cases hr
    have h2 : w'.ownsRow B 3 1 v L.length (L.map (Value.int .i64)) := ⟨hx, .inr ⟨q, c', cur, e, hB, (ht.block q hq (by omega)).trans hr, hh⟩⟩
    obtain ⟨A2, c2, e2, h3, _⟩ := own_nr h2
    rw [hv] at e2
    injection e2 with e3
    rw [e3]; exact h3
theorem Sr.away2 {w w' : World} {A : Option Addr} {L : List ByteArray} {B : Nat} {S : Nat → Prop} {v : Value} {c : Nat} (h : w.ownsRow B 9 1 v L.length (L.map Value.string)) (hv : v = .slice A L.length c) (hS : ∀ k, S k → k < B) (ht : Turn S w w') : Sr w' A L := by
  obtain ⟨hx, ⟨e, hn⟩ | ⟨q, c', cur, e, hB, hr, hh⟩⟩ := h
  · exact fun hp => by omega
  · have hq : q < w.heap.size := by
      rcases Nat.lt_or_ge q w.heap.size with h1 | h1
      · exact h1
      · rw [Array.getElem?_eq_none h1] at hr; cases hr
    have h2 : w'.ownsRow B 9 1 v L.length (L.map Value.string) := ⟨hx, .inr ⟨q, c', cur, e, hB, (ht.block q hq (fun hs => by have := hS q hs; omega)).trans hr, hh⟩⟩
    obtain ⟨A2, c2, e2, h3, _⟩ := own_sr h2
    rw [hv] at e2
    injection e2 with e3
    rw [e3]; exact h3
theorem Nr.away2 {w w' : World} {A : Option Addr} {L : List Int} {B : Nat} {S : Nat → Prop} {v : Value} {c : Nat} (h : w.ownsRow B 3 1 v L.length (L.map (Value.int .i64))) (hv : v = .slice A L.length c) (hS : ∀ k, S k → k < B) (ht : Turn S w w') : Nr w' A L := by
  obtain ⟨hx, ⟨e, hn⟩ | ⟨q, c', cur, e, hB, hr, hh⟩⟩ := h
  · exact fun hp => by omega
  · have hq : q < w.heap.size := by
      rcases Nat.lt_or_ge q w.heap.size with h1 | h1
      · exact h1
      · rw [Array.getElem?_eq_none h1] at hr; cases hr
    have h2 : w'.ownsRow B 3 1 v L.length (L.map (Value.int .i64)) := ⟨hx, .inr ⟨q, c', cur, e, hB, (ht.block q hq (fun hs => by have := hS q hs; omega)).trans hr, hh⟩⟩
    obtain ⟨A2, c2, e2, h3, _⟩ := own_nr h2
    rw [hv] at e2
    injection e2 with e3
    rw [e3]; exact h3
theorem cloneI (L : List Int) (A : Option Addr) (c : Nat) (w : World) (h : Nr w A L) (hc : Cp A L.length c) (hl : L.length ≤ 4000) :
    Calls Try.prog 63 #[.slice A L.length c] w fun e w' => ∃ v, e = .returned v ∧ (∃ A2 c2, v = .slice A2 L.length c2 ∧ w'.ownsRow w.heap.size 3 1 (.slice A2 L.length c2) L.length (L.map (Value.int .i64)) ∧ Cp A2 L.length c2 ∧ Turn (fun _ => False) w w') := by
  have fin : ∀ v (w' : World), w'.ownsRow w.heap.size 3 1 v L.length (L.map (Value.int .i64)) → Below w.heap.size w w' → ∃ u, Ending.returned v = .returned u ∧ (∃ A2 c2, u = .slice A2 L.length c2 ∧ w'.ownsRow w.heap.size 3 1 (.slice A2 L.length c2) L.length (L.map (Value.int .i64)) ∧ Cp A2 L.length c2 ∧ Turn (fun _ => False) w w') := fun v w' ho hb => by
    obtain ⟨A2, c2, rfl, _, h2⟩ := own_nr ho
    exact ⟨_, rfl, A2, c2, rfl, ho, h2, Turn.of_below hb (fun k h1 h2 => absurd h1 (Nat.not_lt.2 h2))⟩
  rcases Nat.eq_zero_or_pos L.length with h0 | h0
  · have hL : L = [] := List.eq_nil_of_length_eq_zero h0
    subst hL
    cases A with
    | none =>
      obtain rfl := hc.nil rfl
      refine (Try.slices_Clone_int_nil 0 0 w).mono ?_
      rintro e w' ⟨rfl, rfl⟩
      exact fin _ _ ⟨rfl, .inl ⟨rfl, rfl⟩⟩ (Below.refl _ _)
    | some ad =>
      refine (Try.slices_Clone_int_zero ad c w).mono ?_
      rintro e w' ⟨v, rfl, ho, _, hb⟩
      exact fin _ _ ho hb
  · obtain ⟨b, o, rfl, hb, hcc⟩ := h h0
    refine (Try.slices_Clone_int b o L.length c L w (Nat.le_refl _) (by omega) (fun j hj => ?_)).mono ?_
    · rw [hcc w (Turn.refl _ w) j _ (List.getElem?_eq_getElem hj), List.getD_eq_getElem?_getD, List.getElem?_eq_getElem hj]; rfl
    · rintro e w' ⟨v, rfl, ho, _, hb⟩
      rw [List.take_of_length_le (Nat.le_refl _)] at ho
      exact fin _ _ ho hb
set_option maxHeartbeats 4000000 in
theorem own_any (n : Nd) (A1 : Option Addr) (c1 : Nat) (A2 : Option Addr) (c2 : Nat) (A3 : Option Addr) (c3 : Nat) (w : World) (h : No w A1 c1 A2 c2 A3 c3 n) (hc1 : Cp A1 n.keys.length c1) (hc2 : Cp A2 n.vals.length c2) (hc3 : Cp A3 n.kids.length c3) (h1 : n.keys.length ≤ 4000) (h2 : n.vals.length ≤ 4000) (h3 : n.kids.length ≤ 4000) :
    Calls Try.prog 43 #[nv8 A1 c1 A2 c2 A3 c3 n] w fun e w' => ∃ v, e = .returned v ∧ (∃ E1 f1 E2 f2 E3 f3, v = nv8 E1 f1 E2 f2 E3 f3 n ∧ (∀ X, Turn (fun k => k < w.heap.size) w' X → No X E1 f1 E2 f2 E3 f3 n) ∧ (Cp E1 n.keys.length f1 ∧ Cp E2 n.vals.length f2 ∧ Cp E3 n.kids.length f3) ∧ Turn (fun _ => False) w w') := by
  have HK := Lib.hid (fun X (ht : Turn (fun _ => False) w X) => cloneS n.keys A1 c1 X (h.keys.turn ht) hc1 h1)
  have HV := Lib.hid (fun X (ht : Turn (fun _ => False) w X) => cloneS n.vals A2 c2 X (h.vals.turn ht) hc2 h2)
  have HD := Lib.hid (fun X (ht : Turn (fun _ => False) w X) => cloneI n.kids A3 c3 X (h.kids.turn ht) hc3 h3)
  have T0 := Lib.hid (((Turn.refl (fun _ => False) w).alloc (.cells #[.bool n.leaf, .slice A1 n.keys.length c1, .slice A2 n.vals.length c2, .slice A3 n.kids.length c3] 26)).alloc (.cells #[.bool false, .slice none 0 0, .slice none 0 0, .slice none 0 0] 26))
  have B0 := Lib.hid (box_two w [.bool n.leaf, .slice A1 n.keys.length c1, .slice A2 n.vals.length c2, .slice A3 n.kids.length c3] [.bool false, .slice none 0 0, .slice none 0 0, .slice none 0 0]).1
  have R0 := Lib.hid (box_two w [.bool n.leaf, .slice A1 n.keys.length c1, .slice A2 n.vals.length c2, .slice A3 n.kids.length c3] [.bool false, .slice none 0 0, .slice none 0 0, .slice none 0 0]).2
  clear h hc1 hc2 hc3 h1 h2 h3
  simp only [nv8]
  generalize hlf : n.leaf = leaf at *
  generalize hnk : n.keys.length = nk at *
  generalize hnv : n.vals.length = nv at *
  generalize hnd : n.kids.length = nd at *
  go_enter Try.func43, Try.ntmps43
  go_wp2_with fail
  generalize hW : (w.alloc (.cells #[.bool leaf, .slice A1 nk c1, .slice A2 nv c2, .slice A3 nd c3] 26)).alloc (.cells #[.bool false, .slice none 0 0, .slice none 0 0, .slice none 0 0] 26) = W at *
  have hgz : w.heap.size + 1 < W.heap.size := R0.out.lt
  have yd0 : (W.drew).cell? ⟨w.heap.size, 0, none⟩ = some (.bool leaf) := (B0.out.drew).cell 0
  have yd1 : (W.drew).cell? ⟨w.heap.size, 1, none⟩ = some (.slice A1 nk c1) := (B0.out.drew).cell 1
  have yd2 : (W.drew).cell? ⟨w.heap.size, 2, none⟩ = some (.slice A2 nv c2) := (B0.out.drew).cell 2
  have yd3 : (W.drew).cell? ⟨w.heap.size, 3, none⟩ = some (.slice A3 nd c3) := (B0.out.drew).cell 3
  go_region_held3 (fun X => X.cell? ⟨w.heap.size, 0, none⟩ = some (.bool leaf) ∧ X.cell? ⟨w.heap.size, 1, none⟩ = some (.slice A1 nk c1) ∧ X.cell? ⟨w.heap.size, 2, none⟩ = some (.slice A2 nv c2) ∧ X.cell? ⟨w.heap.size, 3, none⟩ = some (.slice A3 nd c3))
    (first
      | (with_reducible exact ⟨yd0, yd1, yd2, yd3⟩)
      | (with_reducible exact ⟨y50, y51, y52, y53⟩)
      | (with_reducible exact ⟨y60, y61, y62, y63⟩)
      | (with_reducible exact ⟨y70, y71, y72, y73⟩)
      | (with_reducible exact ⟨y80, y81, y82, y83⟩))
    (first
      | (refine step_call rfl 63 Try.f63 _ _ rfl Try.func63 (by kernel_rfl) (by kernel_rfl) _ _ (HD.out _ (T0.out.trans T6.out)) (by go_simp) ?_; rintro v7 w7 ⟨A7, c7, rfl, ho7, hp7, ht7⟩; have P7 := Lib.hid hp7; have T7 : Hid (Turn (fun _ => False) W w7) := Lib.hid ((T6.out).trans ht7); have O7 := Lib.hid (own_low8 ho7 ((T6.out).size)); have y70 : (w7).cell? ⟨w.heap.size, 0, none⟩ = some (.bool leaf) := (B0.out.turn T7.out (fun h => h)).cell 0; have y71 : (w7).cell? ⟨w.heap.size, 1, none⟩ = some (.slice A1 nk c1) := (B0.out.turn T7.out (fun h => h)).cell 1; have y72 : (w7).cell? ⟨w.heap.size, 2, none⟩ = some (.slice A2 nv c2) := (B0.out.turn T7.out (fun h => h)).cell 2; have y73 : (w7).cell? ⟨w.heap.size, 3, none⟩ = some (.slice A3 nd c3) := (B0.out.turn T7.out (fun h => h)).cell 3; have O57 := Lib.hid (own_turn8 O56.out ht7); have O67 := Lib.hid (own_turn8 O6.out ht7); have R7 := Lib.hid (R0.out.turn T7.out (fun h => h)); have r0 := R7.out.cell 0; have r1 := R7.out.cell 1; have r2 := R7.out.cell 2; have r3 := R7.out.cell 3; have g0 := R7.out.free 0; have g1 := R7.out.free 1; have g2 := R7.out.free 2; have g3 := R7.out.free 3; have y80 : (((((w7).setCell ⟨w.heap.size + 1, 0, none⟩ (.bool leaf)).setCell ⟨w.heap.size + 1, 1, none⟩ (.slice A5 nk c5)).setCell ⟨w.heap.size + 1, 2, none⟩ (.slice A6 nv c6)).setCell ⟨w.heap.size + 1, 3, none⟩ (.slice A7 nd c7)).cell? ⟨w.heap.size, 0, none⟩ = some (.bool leaf) := ((B0.out.turn T7.out (fun h => h)).turn (put4 R7.out (.bool leaf) (.slice A5 nk c5) (.slice A6 nv c6) (.slice A7 nd c7)).2 (fun h => by omega)).cell 0; have y81 : (((((w7).setCell ⟨w.heap.size + 1, 0, none⟩ (.bool leaf)).setCell ⟨w.heap.size + 1, 1, none⟩ (.slice A5 nk c5)).setCell ⟨w.heap.size + 1, 2, none⟩ (.slice A6 nv c6)).setCell ⟨w.heap.size + 1, 3, none⟩ (.slice A7 nd c7)).cell? ⟨w.heap.size, 1, none⟩ = some (.slice A1 nk c1) := ((B0.out.turn T7.out (fun h => h)).turn (put4 R7.out (.bool leaf) (.slice A5 nk c5) (.slice A6 nv c6) (.slice A7 nd c7)).2 (fun h => by omega)).cell 1; have y82 : (((((w7).setCell ⟨w.heap.size + 1, 0, none⟩ (.bool leaf)).setCell ⟨w.heap.size + 1, 1, none⟩ (.slice A5 nk c5)).setCell ⟨w.heap.size + 1, 2, none⟩ (.slice A6 nv c6)).setCell ⟨w.heap.size + 1, 3, none⟩ (.slice A7 nd c7)).cell? ⟨w.heap.size, 2, none⟩ = some (.slice A2 nv c2) := ((B0.out.turn T7.out (fun h => h)).turn (put4 R7.out (.bool leaf) (.slice A5 nk c5) (.slice A6 nv c6) (.slice A7 nd c7)).2 (fun h => by omega)).cell 2; have y83 : (((((w7).setCell ⟨w.heap.size + 1, 0, none⟩ (.bool leaf)).setCell ⟨w.heap.size + 1, 1, none⟩ (.slice A5 nk c5)).setCell ⟨w.heap.size + 1, 2, none⟩ (.slice A6 nv c6)).setCell ⟨w.heap.size + 1, 3, none⟩ (.slice A7 nd c7)).cell? ⟨w.heap.size, 3, none⟩ = some (.slice A3 nd c3) := ((B0.out.turn T7.out (fun h => h)).turn (put4 R7.out (.bool leaf) (.slice A5 nk c5) (.slice A6 nv c6) (.slice A7 nd c7)).2 (fun h => by omega)).cell 3; clear ho7 hp7 ht7)
      | (refine step_call rfl 62 Try.f62 _ _ rfl Try.func62 (by kernel_rfl) (by kernel_rfl) _ _ (HV.out _ (T0.out.trans T5.out)) (by go_simp) ?_; rintro v6 w6 ⟨A6, c6, rfl, ho6, hp6, ht6⟩; have P6 := Lib.hid hp6; have T6 : Hid (Turn (fun _ => False) W w6) := Lib.hid ((T5.out).trans ht6); have O6 := Lib.hid (own_low8 ho6 ((T5.out).size)); have y60 : (w6).cell? ⟨w.heap.size, 0, none⟩ = some (.bool leaf) := (B0.out.turn T6.out (fun h => h)).cell 0; have y61 : (w6).cell? ⟨w.heap.size, 1, none⟩ = some (.slice A1 nk c1) := (B0.out.turn T6.out (fun h => h)).cell 1; have y62 : (w6).cell? ⟨w.heap.size, 2, none⟩ = some (.slice A2 nv c2) := (B0.out.turn T6.out (fun h => h)).cell 2; have y63 : (w6).cell? ⟨w.heap.size, 3, none⟩ = some (.slice A3 nd c3) := (B0.out.turn T6.out (fun h => h)).cell 3; have O56 := Lib.hid (own_turn8 O5.out ht6); clear ho6 hp6 ht6)
      | (refine step_call rfl 62 Try.f62 _ _ rfl Try.func62 (by kernel_rfl) (by kernel_rfl) _ _ (HK.out _ (T0.out.trans ((Turn.refl (fun _ => False) W).drew))) (by go_simp) ?_; rintro v5 w5 ⟨A5, c5, rfl, ho5, hp5, ht5⟩; have P5 := Lib.hid hp5; have T5 : Hid (Turn (fun _ => False) W w5) := Lib.hid (((Turn.refl (fun _ => False) W).drew).trans ht5); have O5 := Lib.hid (own_low8 ho5 (((Turn.refl (fun _ => False) W).drew).size)); have y50 : (w5).cell? ⟨w.heap.size, 0, none⟩ = some (.bool leaf) := (B0.out.turn T5.out (fun h => h)).cell 0; have y51 : (w5).cell? ⟨w.heap.size, 1, none⟩ = some (.slice A1 nk c1) := (B0.out.turn T5.out (fun h => h)).cell 1; have y52 : (w5).cell? ⟨w.heap.size, 2, none⟩ = some (.slice A2 nv c2) := (B0.out.turn T5.out (fun h => h)).cell 2; have y53 : (w5).cell? ⟨w.heap.size, 3, none⟩ = some (.slice A3 nd c3) := (B0.out.turn T5.out (fun h => h)).cell 3;  clear ho5 hp5 ht5))
  all_goals go_wp2_with fail
  obtain ⟨hf, htf⟩ := put4 R7.out (.bool leaf) (.slice A5 nk c5) (.slice A6 nv c6) (.slice A7 nd c7)
  have htt := (T0.out.trans T7.out).trans_new htf (fun k hk e => by omega)
  have e0 := hf.cell 0
  have e1 := hf.cell 1
  have e2 := hf.cell 2
  have e3 := hf.cell 3
  simp only [List.getElem?_cons_zero, List.getElem?_cons_succ] at e0 e1 e2 e3
  clear r0 r1 r2 r3 g0 g1 g2 g3 hf y80 y81 y82 y83
  generalize ((((w7).setCell ⟨w.heap.size + 1, 0, none⟩ (.bool leaf)).setCell ⟨w.heap.size + 1, 1, none⟩ (.slice A5 nk c5)).setCell ⟨w.heap.size + 1, 2, none⟩ (.slice A6 nv c6)).setCell ⟨w.heap.size + 1, 3, none⟩ (.slice A7 nd c7) = WF at *
  refine bodyPost_ret (v := .agg #[.bool leaf, .slice A5 nk c5, .slice A6 nv c6, .slice A7 nd c7]) (by simp [results, Try.results43, go_sem, e0, e1, e2, e3]) rfl ⟨_, rfl, A5, c5, A6, c6, A7, c7, (by first | (simp only [nv8]; done) | (simp only [nv8, hlf, hnk, hnv, hnd]; done)), fun X hX => ?_, ?_, htt⟩
  · have k5 := O57.out
    have k6 := O67.out
    have k7 := O7.out
    rw [← hnk] at k5
    rw [← hnv] at k6
    rw [← hnd] at k7
    have hX2 : Turn (fun k => k < w.heap.size + 2) (w7) X := (htf.mono (fun k _ (h : k = w.heap.size + 1) => by omega)).trans (hX.mono (fun k _ (h : k < w.heap.size) => by omega))
    exact ⟨Sr.away2 k5 rfl (fun k hk => by omega) hX2, Sr.away2 k6 rfl (fun k hk => by omega) hX2, Nr.away2 k7 rfl (fun k hk => by omega) hX2⟩
  · exact ⟨P5.out, P6.out, P7.out⟩
end Go.Proofs.Ytpnnbfojdccfhaa
