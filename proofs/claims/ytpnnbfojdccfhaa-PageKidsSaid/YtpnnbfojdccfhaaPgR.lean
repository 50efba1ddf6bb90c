/- Layer 8: the program's Drop. -/
import Derived.Test.YtpnnbfojdccfhaaPgQ
namespace Go.Proofs.Ytpnnbfojdccfhaa
open Go.RowKit
set_option linter.unusedVariables false
set_option maxRecDepth 100000

/-- A node that a call has made. -/
def NoO (w : World) (v : Value) (n : Nd) : Prop := ∃ A1 c1 A2 c2 A3 c3, v = nv8 A1 c1 A2 c2 A3 c3 n ∧ No w A1 c1 A2 c2 A3 c3 n ∧ Cp A1 n.keys.length c1 ∧ Cp A2 n.vals.length c2 ∧ Cp A3 n.kids.length c3
theorem NoO.turn {w w' : World} {v : Value} {n : Nd} (h : NoO w v n) (ht : Turn (fun _ => False) w w') : NoO w' v n := by
  obtain ⟨A1, c1, A2, c2, A3, c3, e, h1, h2⟩ := h
  exact ⟨A1, c1, A2, c2, A3, c3, e, h1.turn ht, h2⟩
theorem own_sr {w : World} {B : Nat} {v : Value} {L : List ByteArray} (h : w.ownsRow B 9 1 v L.length (L.map Value.string)) : ∃ A c, v = .slice A L.length c ∧ Sr w A L ∧ Cp A L.length c := by
  have h0 := h
  obtain ⟨hx, ⟨e, hn⟩ | ⟨g, c, cur, e, hB, hr, hle, hcm, _⟩⟩ := h
  · refine ⟨none, 0, by rw [e, hn], fun hp => by omega, ⟨by omega, by unfold maxLen; decide, fun _ => rfl⟩⟩
  · refine ⟨_, c, e, fun hp => ⟨g, 0, rfl, ?_, fun X hX j s hj => ?_⟩, ⟨hle, hcm, fun h => by cases h⟩⟩
    · rcases Nat.lt_or_ge g w.heap.size with h1 | h1
      · exact h1
      · rw [Array.getElem?_eq_none h1] at hr; cases hr
    · subst e
      have h5 := (own_turn8 h0 hX).cells (g := g) rfl j (.string s) (by rw [List.getElem?_map, hj]; rfl)
      rw [Addr.add_mid] at h5
      exact h5
def drop8 (n : Nd) (at_ : Nat) : Nd := ⟨true, chg8 n.keys at_ 1 [], chg8 n.vals at_ 1 [], []⟩
def nil8 : Nd := ⟨false, [], [], []⟩
theorem find8_yes {n : Nd} {key : ByteArray} (h : (find8 n key).2 = true) : Stands8 n ∧ n.leaf = true ∧ (find8 n key).1 < n.keys.length ∧ n.vals.length = n.keys.length ∧ n.kids = [] := by
  unfold find8 at h ⊢
  cases hs : st8 n with
  | false => rw [hs] at h; simp at h
  | true =>
    rw [hs] at h
    simp only [if_true] at h ⊢
    unfold at8 at h
    simp only [Bool.and_eq_true, decide_eq_true_eq] at h
    have hst := st8_of hs
    have h2 := hst.2
    rw [h.1] at h2
    simp only [if_true] at h2
    exact ⟨hst, h.1, h.2.1, h2.2.1, List.eq_nil_of_length_eq_zero h2.2.2⟩
theorem put4 {W : World} {g t : Nat} {a b c d : Value} (h : Blk W g t [a, b, c, d]) (x0 x1 x2 x3 : Value) : Blk ((((W.setCell ⟨g, 0, none⟩ x0).setCell ⟨g, 1, none⟩ x1).setCell ⟨g, 2, none⟩ x2).setCell ⟨g, 3, none⟩ x3) g t [x0, x1, x2, x3] ∧ Turn (fun k => k = g) W ((((W.setCell ⟨g, 0, none⟩ x0).setCell ⟨g, 1, none⟩ x1).setCell ⟨g, 2, none⟩ x2).setCell ⟨g, 3, none⟩ x3) :=
  ⟨(((h.put 0 x0).put 1 x1).put 2 x2).put 3 x3, ((((Turn.refl (fun k => k = g) W).setCell (p := ⟨g, 0, none⟩) (.inl rfl) x0).setCell (p := ⟨g, 1, none⟩) (.inl rfl) x1).setCell (p := ⟨g, 2, none⟩) (.inl rfl) x2).setCell (p := ⟨g, 3, none⟩) (.inl rfl) x3⟩
theorem Sr.away {w w' : World} {A : Option Addr} {L : List ByteArray} {B g : Nat} {v : Value} {c : Nat} (h : w.ownsRow B 9 1 v L.length (L.map Value.string)) (hv : v = .slice A L.length c) (hg : g < B) (ht : Turn (fun k => k = g) w w') : Sr w' A L := by
  obtain ⟨hx, ⟨e, hn⟩ | ⟨q, c', cur, e, hB, hr, hh⟩⟩ := h
  · exact fun hp => by omega
  · have hq : q < w.heap.size := by
      rcases Nat.lt_or_ge q w.heap.size with h1 | h1
      · exact h1
      · rw [Array.getElem?_eq_none h1] at hr; cases hr
    have h2 : w'.ownsRow B 9 1 v L.length (L.map Value.string) := ⟨hx, .inr ⟨q, c', cur, e, hB, (ht.block q hq (by omega)).trans hr, hh⟩⟩
    obtain ⟨A2, c2, e2, h3, _⟩ := own_sr h2
    rw [hv] at e2
    injection e2 with e3
    rw [e3]; exact h3
/-- What changed tells, as a slice that reads. -/
theorem changed_sl (L M : List ByteArray) (A : Option Addr) (c : Nat) (A' : Option Addr) (c' at_ gone : Nat) (w : World) (h : Sr w A L) (hcp : Cp A L.length c) (h' : Sr w A' M) (hcp' : Cp A' M.length c') (hag : at_ + gone ≤ L.length) (hl : L.length ≤ 4000) (hm : M.length ≤ 4000) :
    Calls Try.prog 39 #[.slice A L.length c, .int .i64 at_, .int .i64 gone, .slice A' M.length c'] w fun e w' => ∃ v, e = .returned v ∧ (∃ A2 c2, v = .slice A2 (chg8 L at_ gone M).length c2 ∧ w'.ownsRow w.heap.size 9 1 (.slice A2 (chg8 L at_ gone M).length c2) (chg8 L at_ gone M).length ((chg8 L at_ gone M).map Value.string) ∧ Cp A2 (chg8 L at_ gone M).length c2 ∧ Turn (fun _ => False) w w') := by
  refine (changed_any L M A c A' c' at_ gone w h hcp h' hcp' hag hl hm).mono ?_
  rintro e w' ⟨v, rfl, ho, ht⟩
  obtain ⟨A2, c2, rfl, _, h2⟩ := own_sr ho
  exact ⟨_, rfl, A2, c2, rfl, ho, h2, ht⟩
theorem box_two (w : World) (a b : List Value) : Blk ((w.alloc (.cells a.toArray 26)).alloc (.cells b.toArray 26)) w.heap.size 26 a ∧ Blk ((w.alloc (.cells a.toArray 26)).alloc (.cells b.toArray 26)) (w.heap.size + 1) 26 b := by
  refine ⟨(Blk.new w _ a).alloc _, ?_⟩
  have := Blk.new (w.alloc (.cells a.toArray 26)) 26 b
  rw [show (w.alloc (.cells a.toArray 26)).heap.size = w.heap.size + 1 from by simp] at this
  exact this
theorem drop_no (n : Nd) (key : ByteArray) (A1 : Option Addr) (c1 : Nat) (A2 : Option Addr) (c2 : Nat) (A3 : Option Addr) (c3 : Nat) (w : World) (h : No w A1 c1 A2 c2 A3 c3 n) (hf : Few8 n) (hk : (find8 n key).2 = false) :
    Calls Try.prog 18 #[nv8 A1 c1 A2 c2 A3 c3 n, .string key] w fun e w' => e = .returned (.tuple #[.agg #[.bool false, .slice none 0 0, .slice none 0 0, .slice none 0 0], .bool false]) ∧ Turn (fun _ => False) w w' := by
  have HF := Lib.hid (fun W (ht : Turn (fun _ => False) w W) => find_any n key A1 c1 A2 c2 A3 c3 W (h.turn ht) hf)
  rw [hk] at HF
  generalize (find8 n key).1 = P at *
  have T0 := Lib.hid (((Turn.refl (fun _ => False) w).alloc (.cells #[.bool n.leaf, .slice A1 n.keys.length c1, .slice A2 n.vals.length c2, .slice A3 n.kids.length c3] 26)).alloc (.cells #[.bool false, .slice none 0 0, .slice none 0 0, .slice none 0 0] 26))
  have R0 := Lib.hid (box_two w [.bool n.leaf, .slice A1 n.keys.length c1, .slice A2 n.vals.length c2, .slice A3 n.kids.length c3] [.bool false, .slice none 0 0, .slice none 0 0, .slice none 0 0]).2
  clear h hf hk
  obtain ⟨leaf, K, V, Z⟩ := n
  simp only [nv8] at *
  generalize K.length = nk at *
  generalize V.length = nv at *
  generalize Z.length = nd at *
  go_enter Try.func18, Try.ntmps18
  go_wp2_with fail
  refine (HF.out _ T0.out).mono ?_
  rintro e w1 ⟨rfl, ht1⟩
  have T1 := Lib.hid (T0.out.trans ht1)
  have R1 := Lib.hid (R0.out.turn ht1 (fun h => h))
  clear ht1 T0 R0
  have r0 := R1.out.cell 0
  have r1 := R1.out.cell 1
  have r2 := R1.out.cell 2
  have r3 := R1.out.cell 3
  have g0 := R1.out.free 0
  have g1 := R1.out.free 1
  have g2 := R1.out.free 2
  have g3 := R1.out.free 3
  simp only [List.getElem?_cons_zero, List.getElem?_cons_succ] at r0 r1 r2 r3
  go_wp2_with fail
  obtain ⟨hf, htf⟩ := put4 R1.out (.bool false) (.slice none 0 0) (.slice none 0 0) (.slice none 0 0)
  have htt := T1.out.trans_new htf (fun k hk e => by omega)
  have e0 := hf.cell 0
  have e1 := hf.cell 1
  have e2 := hf.cell 2
  have e3 := hf.cell 3
  simp only [List.getElem?_cons_zero, List.getElem?_cons_succ] at e0 e1 e2 e3
  clear r0 r1 r2 r3 g0 g1 g2 g3 hf
  generalize (((((w1.setCell ⟨w.heap.size + 1, 0, none⟩ (.bool false)).setCell ⟨w.heap.size + 1, 1, none⟩ (.slice none 0 0)).setCell ⟨w.heap.size + 1, 2, none⟩ (.slice none 0 0)).setCell ⟨w.heap.size + 1, 3, none⟩ (.slice none 0 0))) = WF at *
  exact bodyPost_ret (v := .tuple #[.agg #[.bool false, .slice none 0 0, .slice none 0 0, .slice none 0 0], .bool false]) (by simp [results, Try.results18, go_sem, e0, e1, e2, e3]) rfl ⟨rfl, htt⟩
set_option maxHeartbeats 4000000 in
theorem drop_yes (n : Nd) (key : ByteArray) (A1 : Option Addr) (c1 : Nat) (A2 : Option Addr) (c2 : Nat) (A3 : Option Addr) (c3 : Nat) (w : World) (h : No w A1 c1 A2 c2 A3 c3 n) (hc1 : Cp A1 n.keys.length c1) (hc2 : Cp A2 n.vals.length c2) (hf : Few8 n) (hk : (find8 n key).2 = true) :
    Calls Try.prog 18 #[nv8 A1 c1 A2 c2 A3 c3 n, .string key] w fun e w' => ∃ v, e = .returned (.tuple #[v, .bool true]) ∧ NoO w' v (drop8 n (find8 n key).1) ∧ Turn (fun _ => False) w w' := by
  obtain ⟨hst, hlf, hat, hvl, hzl⟩ := find8_yes hk
  have HF := Lib.hid (fun W (ht : Turn (fun _ => False) w W) => find_any n key A1 c1 A2 c2 A3 c3 W (h.turn ht) hf)
  rw [hk] at HF
  have f1 := hf.nk
  have HCK := Lib.hid (fun W (ht : Turn (fun _ => False) w W) => changed_sl n.keys [] A1 c1 none 0 (find8 n key).1 1 W (h.keys.turn ht) hc1 (sr_nil _ _) ⟨Nat.le_refl _, by unfold maxLen; decide, fun _ => rfl⟩ (by omega) (by omega) (by decide))
  have HCV := Lib.hid (fun W (ht : Turn (fun _ => False) w W) => changed_sl n.vals [] A2 c2 none 0 (find8 n key).1 1 W (h.vals.turn ht) hc2 (sr_nil _ _) ⟨Nat.le_refl _, by unfold maxLen; decide, fun _ => rfl⟩ (by omega) (by omega) (by decide))
  have HD : Hid (drop8 n (find8 n key).1 = ⟨true, chg8 n.keys (find8 n key).1 1 [], chg8 n.vals (find8 n key).1 1 [], []⟩) := Lib.hid rfl
  generalize (find8 n key).1 = P at *
  generalize drop8 n P = DN at *
  generalize chg8 n.keys P 1 [] = KS at *
  generalize chg8 n.vals P 1 [] = VS at *
  obtain ⟨lk, hlk⟩ : ∃ k, KS.length = k := ⟨_, rfl⟩
  obtain ⟨lv, hlv⟩ : ∃ k, VS.length = k := ⟨_, rfl⟩
  rw [hlk] at HCK
  rw [hlv] at HCV
  have HLK := Lib.hid hlk
  have HLV := Lib.hid hlv
  clear hlk hlv
  have T0 := Lib.hid (((Turn.refl (fun _ => False) w).alloc (.cells #[.bool n.leaf, .slice A1 n.keys.length c1, .slice A2 n.vals.length c2, .slice A3 n.kids.length c3] 26)).alloc (.cells #[.bool false, .slice none 0 0, .slice none 0 0, .slice none 0 0] 26))
  have B0 := Lib.hid (box_two w [.bool n.leaf, .slice A1 n.keys.length c1, .slice A2 n.vals.length c2, .slice A3 n.kids.length c3] [.bool false, .slice none 0 0, .slice none 0 0, .slice none 0 0]).1
  have R0 := Lib.hid (box_two w [.bool n.leaf, .slice A1 n.keys.length c1, .slice A2 n.vals.length c2, .slice A3 n.kids.length c3] [.bool false, .slice none 0 0, .slice none 0 0, .slice none 0 0]).2
  clear h hf hk hc1 hc2 hst hat hvl hzl f1
  obtain ⟨leaf, K, V, Z⟩ := n
  simp only [nv8] at *
  subst hlf
  generalize K.length = nk at *
  generalize V.length = nv at *
  generalize Z.length = nd at *
  go_enter Try.func18, Try.ntmps18
  go_wp2_with fail
  refine (HF.out _ T0.out).mono ?_
  rintro e w1 ⟨rfl, ht1⟩
  have T1 := Lib.hid (T0.out.trans ht1)
  have B1 := Lib.hid (B0.out.turn ht1 (fun h => h))
  have R1 := Lib.hid (R0.out.turn ht1 (fun h => h))
  clear ht1 T0 R0 B0
  have y1 : w1.cell? ⟨w.heap.size, 1, none⟩ = some (.slice A1 nk c1) := B1.out.cell 1
  have y2 : w1.cell? ⟨w.heap.size, 2, none⟩ = some (.slice A2 nv c2) := B1.out.cell 2
  have hgz : w.heap.size + 1 < w1.heap.size := R1.out.lt
  have y1d : w1.drew.cell? ⟨w.heap.size, 1, none⟩ = some (.slice A1 nk c1) := y1
  have y2d : w1.drew.cell? ⟨w.heap.size, 2, none⟩ = some (.slice A2 nv c2) := y2
  go_wp2_with fail
  go_region_held3 (fun X => X.cell? ⟨w.heap.size, 1, none⟩ = some (.slice A1 nk c1) ∧ X.cell? ⟨w.heap.size, 2, none⟩ = some (.slice A2 nv c2))
    (first
      | (with_reducible exact ⟨y1d, y2d⟩)
      | (with_reducible exact ⟨y51, y52⟩)
      | (with_reducible exact ⟨y61, y62⟩)
      | (with_reducible exact ⟨y71, y72⟩))
    (first
      | (refine step_call rfl 39 Try.f39 _ _ rfl Try.func39 (by kernel_rfl) (by kernel_rfl) _ _ (HCV.out _ T5.out) (by go_simp) ?_; rintro v6 w6 ⟨A6, c6, rfl, ho6, hp6, ht6⟩; have P6 := Lib.hid hp6; have HO6 := Lib.hid ho6; have T6 := Lib.hid (T5.out.trans ht6); have HP5 := Lib.hid (own_turn8 HO5.out ht6); have B6 := Lib.hid (B5.out.turn ht6 (fun h => h)); have R6 := Lib.hid (R5.out.turn ht6 (fun h => h)); have hg6 := ht6.size; have hg5 := H5.out.size; have y61 : w6.cell? ⟨w.heap.size, 1, none⟩ = some (.slice A1 nk c1) := B6.out.cell 1; have y62 : w6.cell? ⟨w.heap.size, 2, none⟩ = some (.slice A2 nv c2) := B6.out.cell 2; have y71 : ((((w6.setCell ⟨w.heap.size + 1, 0, none⟩ (.bool true)).setCell ⟨w.heap.size + 1, 1, none⟩ (.slice A5 lk c5)).setCell ⟨w.heap.size + 1, 2, none⟩ (.slice A6 lv c6)).setCell ⟨w.heap.size + 1, 3, none⟩ (.slice none 0 0)).cell? ⟨w.heap.size, 1, none⟩ = some (.slice A1 nk c1) := (B6.out.turn (put4 R6.out (.bool true) (.slice A5 lk c5) (.slice A6 lv c6) (.slice none 0 0)).2 (fun h => by omega)).cell 1; have y72 : ((((w6.setCell ⟨w.heap.size + 1, 0, none⟩ (.bool true)).setCell ⟨w.heap.size + 1, 1, none⟩ (.slice A5 lk c5)).setCell ⟨w.heap.size + 1, 2, none⟩ (.slice A6 lv c6)).setCell ⟨w.heap.size + 1, 3, none⟩ (.slice none 0 0)).cell? ⟨w.heap.size, 2, none⟩ = some (.slice A2 nv c2) := (B6.out.turn (put4 R6.out (.bool true) (.slice A5 lk c5) (.slice A6 lv c6) (.slice none 0 0)).2 (fun h => by omega)).cell 2; clear ht6 ho6 hp6; have r0 := R6.out.cell 0; have r1 := R6.out.cell 1; have r2 := R6.out.cell 2; have r3 := R6.out.cell 3; have g0 := R6.out.free 0; have g1 := R6.out.free 1; have g2 := R6.out.free 2; have g3 := R6.out.free 3)
      | (refine step_call rfl 39 Try.f39 _ _ rfl Try.func39 (by kernel_rfl) (by kernel_rfl) _ _ (HCK.out _ (T1.out.drew)) (by go_simp) ?_; rintro v5 w5 ⟨A5, c5, rfl, ho5, hp5, ht5⟩; have P5 := Lib.hid hp5; have H5 := Lib.hid ((Turn.refl (fun _ => False) w1).drew.trans ht5); have HO5 := Lib.hid ho5; have T5 := Lib.hid (T1.out.trans H5.out); have B5 := Lib.hid (B1.out.turn H5.out (fun h => h)); have R5 := Lib.hid (R1.out.turn H5.out (fun h => h)); have y51 : w5.cell? ⟨w.heap.size, 1, none⟩ = some (.slice A1 nk c1) := B5.out.cell 1; have y52 : w5.cell? ⟨w.heap.size, 2, none⟩ = some (.slice A2 nv c2) := B5.out.cell 2; clear ht5 ho5 hp5))
  all_goals go_wp2_with fail
  obtain ⟨hf, htf⟩ := put4 R6.out (.bool true) (.slice A5 lk c5) (.slice A6 lv c6) (.slice none 0 0)
  have htt := T6.out.trans_new htf (fun k hk e => by omega)
  have e0 := hf.cell 0
  have e1 := hf.cell 1
  have e2 := hf.cell 2
  have e3 := hf.cell 3
  simp only [List.getElem?_cons_zero, List.getElem?_cons_succ] at e0 e1 e2 e3
  clear r0 r1 r2 r3 g0 g1 g2 g3 hf
  generalize (((((w6.setCell ⟨w.heap.size + 1, 0, none⟩ (.bool true)).setCell ⟨w.heap.size + 1, 1, none⟩ (.slice A5 lk c5)).setCell ⟨w.heap.size + 1, 2, none⟩ (.slice A6 lv c6)).setCell ⟨w.heap.size + 1, 3, none⟩ (.slice none 0 0))) = WF at *
  refine bodyPost_ret (v := .tuple #[.agg #[.bool true, .slice A5 lk c5, .slice A6 lv c6, .slice none 0 0], .bool true]) (by simp [results, Try.results18, go_sem, e0, e1, e2, e3]) rfl ⟨_, rfl, ⟨A5, c5, A6, c6, none, 0, by rw [HD.out]; simp only [nv8]; rw [HLK.out, HLV.out]; rfl, ?_, ?_⟩, htt⟩
  · rw [HD.out]
    have k5 := HP5.out
    have k6 := HO6.out
    rw [← HLK.out] at k5
    rw [← HLV.out] at k6
    exact ⟨Sr.away k5 rfl (by show w.heap.size + 1 < w1.heap.size; exact hgz) htf, Sr.away k6 rfl (by show w.heap.size + 1 < w5.heap.size; omega) htf, nr_nil _ _⟩
  · rw [HD.out]
    show Cp A5 KS.length c5 ∧ Cp A6 VS.length c6 ∧ Cp none 0 0
    rw [HLK.out, HLV.out]
    exact ⟨P5.out, P6.out, ⟨Nat.le_refl _, by unfold maxLen; decide, fun _ => rfl⟩⟩
end Go.Proofs.Ytpnnbfojdccfhaa
