/- Layer 8: a node's bytes, piece by piece (the program's). -/
import Derived.Test.YtcmghbglnkfbaaaPgH
import Derived.Test.YtcmghbglnkfbaaaPutB
import Derived.Lib.AppendStr
import Derived.Deep.RegionHeld3
namespace Go.Proofs.Ytcmghbglnkfbaaa
open Go.RowKit
set_option linter.unusedVariables false
set_option maxRecDepth 100000

def head8 (leaf : Bool) (nk : Nat) (k0 : Int) : List UInt8 := if leaf then fld 1 76 ++ fld 2 nk else fld 1 73 ++ fld 2 nk ++ fld 4 k0
def lent8 (key val : ByteArray) : List UInt8 := fld 1 key.size ++ key.data.toList ++ fld 2 val.size ++ val.data.toList
def kent8 (key : ByteArray) (kid : Int) : List UInt8 := fld 1 key.size ++ key.data.toList ++ fld 4 kid
theorem len_head8 (leaf : Bool) (nk : Nat) (k0 : Int) : (head8 leaf nk k0).length = if leaf then 3 else 7 := by
  unfold head8; cases leaf <;> simp [len_fld]
theorem len_lent8 (key val : ByteArray) : (lent8 key val).length = 3 + key.size + val.size := by
  unfold lent8; simp [len_fld]; omega
theorem len_kent8 (key : ByteArray) (kid : Int) : (kent8 key kid).length = 5 + key.size := by
  unfold kent8; simp [len_fld]; omega
theorem put8_nil8 (n : Int) (W : World) : Calls Try.prog 40 #[.slice none 0 0, .int .i64 n] W fun e w' => ∃ v, e = .returned v ∧ (w'.ownsRow W.heap.size 5 1 v (fld 1 n).length (bv (fld 1 n)) ∧ Below W.heap.size W w') :=
  (put8_any 0 none 0 [] n W (Rd.nil _ _ _) (Nat.zero_le _) (by simp)).mono (by rintro e w' ⟨v, rfl, h1, h2⟩; exact ⟨v, rfl, h1, h2⟩)
theorem put16_own8 {w : World} {B : Nat} {v : Value} {l : List UInt8} (h : w.ownsRow B 5 1 v l.length (bv l)) (n : Int) (hl : l.length ≤ 140737488354000) :
    Calls Try.prog 39 #[v, .int .i64 n] w fun e w' => ∃ v, e = .returned v ∧ (w'.ownsRow w.heap.size 5 1 v (l ++ fld 2 n).length (bv (l ++ fld 2 n)) ∧ Below w.heap.size w w') := by
  obtain ⟨A, cap, rfl, hr, _⟩ := rd_of_own h
  exact (put16_any _ A cap l n w hr (Nat.le_refl _) hl).mono (by rintro e w' ⟨v, rfl, h1, h2⟩; exact ⟨v, rfl, h1, h2⟩)
theorem put32_own8 {w : World} {B : Nat} {v : Value} {l : List UInt8} (h : w.ownsRow B 5 1 v l.length (bv l)) (n : Int) (hl : l.length ≤ 140737488354000) :
    Calls Try.prog 41 #[v, .int .i64 n] w fun e w' => ∃ v, e = .returned v ∧ (w'.ownsRow w.heap.size 5 1 v (l ++ fld 4 n).length (bv (l ++ fld 4 n)) ∧ Below w.heap.size w w') := by
  obtain ⟨A, cap, rfl, hr, _⟩ := rd_of_own h
  exact (put32_any _ A cap l n w hr (Nat.le_refl _) hl).mono (by rintro e w' ⟨v, rfl, h1, h2⟩; exact ⟨v, rfl, h1, h2⟩)
theorem own_low8 {w : World} {B B' t s n : Nat} {v : Value} {xs : List Value} (h : w.ownsRow B t s v n xs) (hb : B' ≤ B) : w.ownsRow B' t s v n xs := by
  obtain ⟨hx, h | ⟨g, c, cur, e, hB, hr⟩⟩ := h
  · exact ⟨hx, .inl h⟩
  · exact ⟨hx, .inr ⟨g, c, cur, e, Nat.le_trans hb hB, hr⟩⟩
theorem own_slice8 {w : World} {base e size n : Nat} {v : Value} {xs : List Value} (h : w.ownsRow base e size v n xs) : ∃ A c, v = .slice A n c := by
  obtain ⟨_, h | ⟨g, c, cur, e, _⟩⟩ := h
  · exact ⟨none, 0, by rw [h.1, h.2]⟩
  · exact ⟨_, _, e⟩
theorem own_turn8 {w w' : World} {B t s n : Nat} {v : Value} {xs : List Value} (h : w.ownsRow B t s v n xs) (hb : Turn (fun _ => False) w w') : w'.ownsRow B t s v n xs := by
  obtain ⟨hx, h | ⟨g, c, cur, e, hB, hr, hh⟩⟩ := h
  · exact ⟨hx, .inl h⟩
  · refine ⟨hx, .inr ⟨g, c, cur, e, hB, ?_, hh⟩⟩
    have hg : g < w.heap.size := by
      rcases Nat.lt_or_ge g w.heap.size with h1 | h1
      · exact h1
      · rw [Array.getElem?_eq_none h1] at hr; cases hr
    exact (hb.block g hg (fun h => h)).trans hr
set_option maxHeartbeats 4000000 in
theorem headL_any (n : Nd) (A1 : Option Addr) (c1 : Nat) (A2 : Option Addr) (c2 : Nat) (A3 : Option Addr) (c3 : Nat) (w : World) (hl : n.leaf = true) :
    Calls Try.prog 22 #[nv8 A1 c1 A2 c2 A3 c3 n] w fun e w' => ∃ v, e = .returned v ∧ w'.ownsRow w.heap.size 5 1 v (head8 true n.keys.length 0).length (bv (head8 true n.keys.length 0)) ∧ Below w.heap.size w w' := by
  obtain ⟨leaf, K, V, Z⟩ := n
  simp only [nv8] at *
  subst hl
  generalize K.length = nk at *
  generalize V.length = nv at *
  generalize Z.length = nd at *
  obtain ⟨W, hW⟩ : ∃ W, W = w.alloc (.cells #[.bool true, .slice A1 nk c1, .slice A2 nv c2, .slice A3 nd c3] 26) := ⟨_, rfl⟩
  have HB := Lib.hid (Blk.new w 26 [.bool true, .slice A1 nk c1, .slice A2 nv c2, .slice A3 nd c3])
  have HT : Hid (Below w.heap.size w W ∧ w.heap.size < W.heap.size) := Lib.hid ⟨by rw [hW]; exact (Below.refl _ _).alloc (Nat.le_refl _) _, by rw [hW]; simp⟩
  rw [← hW] at HB
  have y1 : W.cell? ⟨w.heap.size, 1, none⟩ = some (.slice A1 nk c1) := HB.out.cell 1
  have y0 : W.cell? ⟨w.heap.size, 0, none⟩ = some (.bool true) := HB.out.cell 0
  have hlt := HT.out.2
  have HP := Lib.hid (put8_nil8 76)
  go_enter Try.func22, Try.ntmps22
  go_wp2_with fail
  rw [← hW]
  go_region_held3 (fun w' => w'.cell? ⟨w.heap.size, 1, none⟩ = some (.slice A1 nk c1))
    (first
      | exact y1
      | exact (hc5 _ _ hlt).trans y1
      | exact (hc6 _ _ hlt5).trans ((hc5 _ _ hlt).trans y1))
    (first
    | (refine step_call rfl 40 Try.f40 _ _ rfl Try.func40 (by kernel_rfl) (by kernel_rfl) _ _ (HP.out _) (by go_simp) ?_; rintro v5 w5 ⟨ho5, hb5⟩; have HO5 := Lib.hid ho5; have HB5 : Hid (Below W.heap.size W w5) := Lib.hid ((Below.refl W.heap.size W).drew.trans hb5); obtain ⟨hc5, hf5⟩ := bcell HB5.out; have hlt5 : w.heap.size < w5.heap.size := (by have := HB5.out.size; omega); clear ho5 hb5)
    | (refine step_call rfl 39 Try.f39 _ _ rfl Try.func39 (by kernel_rfl) (by kernel_rfl) _ _ (put16_own8 HO5.out nk (by simp [len_fld])) (by go_simp) ?_; rintro v6 w6 ⟨ho6, hb6⟩; have HO6 := Lib.hid ho6; have HB6 := Lib.hid hb6; obtain ⟨hc6, hf6⟩ := bcell HB6.out; clear ho6 hb6))
  all_goals go_wp2_with fail
  all_goals go_ret
  all_goals exact ⟨_, rfl, own_low8 HO6.out (by omega), (HT.out.1.trans (HB5.out.mono (Nat.le_of_lt hlt))).trans (HB6.out.mono (Nat.le_of_lt hlt5))⟩
set_option maxHeartbeats 4000000 in
theorem headK_any (n : Nd) (A1 : Option Addr) (c1 : Nat) (A2 : Option Addr) (c2 : Nat) (A3 : Option Addr) (c3 : Nat) (w : World) (hl : n.leaf = false) (h : No w A1 c1 A2 c2 A3 c3 n) (k0 : Int) (hk : n.kids[0]? = some k0) :
    Calls Try.prog 22 #[nv8 A1 c1 A2 c2 A3 c3 n] w fun e w' => ∃ v, e = .returned v ∧ w'.ownsRow w.heap.size 5 1 v (head8 false n.keys.length k0).length (bv (head8 false n.keys.length k0)) ∧ Below w.heap.size w w' := by
  obtain ⟨b3, o3, rfl, hb3, hc3⟩ := h.kids (by rcases Nat.eq_zero_or_pos n.kids.length with h0 | h0; rw [List.eq_nil_of_length_eq_zero h0] at hk; cases hk; exact h0)
  have hnd : 0 < n.kids.length := by rcases Nat.eq_zero_or_pos n.kids.length with h0 | h0; rw [List.eq_nil_of_length_eq_zero h0] at hk; cases hk; exact h0
  have HC3 := Lib.hid (fun X hX => hc3 X hX 0 k0 hk)
  obtain ⟨leaf, K, V, Z⟩ := n
  simp only [nv8] at *
  subst hl
  clear h hc3 hk
  generalize K.length = nk at *
  generalize V.length = nv at *
  generalize Z.length = nd at *
  obtain ⟨W, hW⟩ : ∃ W, W = w.alloc (.cells #[.bool false, .slice A1 nk c1, .slice A2 nv c2, .slice (some ⟨b3, o3, none⟩) nd c3] 26) := ⟨_, rfl⟩
  have HB := Lib.hid (Blk.new w 26 [.bool false, .slice A1 nk c1, .slice A2 nv c2, .slice (some ⟨b3, o3, none⟩) nd c3])
  have HT : Hid (Below w.heap.size w W ∧ w.heap.size < W.heap.size) := Lib.hid ⟨by rw [hW]; exact (Below.refl _ _).alloc (Nat.le_refl _) _, by rw [hW]; simp⟩
  have x0 := HC3.out W (by rw [hW]; exact (Turn.refl _ w).alloc _)
  simp only [Nat.add_zero] at x0
  rw [← hW] at HB
  have y3 : W.cell? ⟨w.heap.size, 3, none⟩ = some (.slice (some ⟨b3, o3, none⟩) nd c3) := HB.out.cell 3
  have y1 : W.cell? ⟨w.heap.size, 1, none⟩ = some (.slice A1 nk c1) := HB.out.cell 1
  have y0 : W.cell? ⟨w.heap.size, 0, none⟩ = some (.bool false) := HB.out.cell 0
  have hlt := HT.out.2
  have hi1 : (0 : Int) < (nd : Int) := by omega
  have hltb : b3 < W.heap.size := by omega
  have HP := Lib.hid (put8_nil8 73)
  go_enter Try.func22, Try.ntmps22
  go_wp2_with fail
  rw [← hW]
  go_region_held3 (fun w' => w'.cell? ⟨w.heap.size, 1, none⟩ = some (.slice A1 nk c1) ∧ w'.cell? ⟨w.heap.size, 3, none⟩ = some (.slice (some ⟨b3, o3, none⟩) nd c3) ∧ w'.cell? ⟨b3, o3, none⟩ = some (.int .i64 k0))
    (first
      | exact ⟨y1, y3, x0⟩
      | exact ⟨(hc5 _ _ hlt).trans y1, (hc5 _ _ hlt).trans y3, (hc5 _ _ hltb).trans x0⟩
      | exact ⟨(hc6 _ _ hlt5).trans ((hc5 _ _ hlt).trans y1), (hc6 _ _ hlt5).trans ((hc5 _ _ hlt).trans y3), (hc6 _ _ hltb5).trans ((hc5 _ _ hltb).trans x0)⟩
      | exact ⟨(hc7 _ _ hlt6).trans ((hc6 _ _ hlt5).trans ((hc5 _ _ hlt).trans y1)), (hc7 _ _ hlt6).trans ((hc6 _ _ hlt5).trans ((hc5 _ _ hlt).trans y3)), (hc7 _ _ hltb6).trans ((hc6 _ _ hltb5).trans ((hc5 _ _ hltb).trans x0))⟩)
    (first
    | (refine step_call rfl 40 Try.f40 _ _ rfl Try.func40 (by kernel_rfl) (by kernel_rfl) _ _ (HP.out _) (by go_simp) ?_; rintro v5 w5 ⟨ho5, hb5⟩; have HO5 := Lib.hid ho5; have HB5 : Hid (Below W.heap.size W w5) := Lib.hid ((Below.refl W.heap.size W).drew.trans hb5); obtain ⟨hc5, hf5⟩ := bcell HB5.out; have hlt5 : w.heap.size < w5.heap.size := (by have := HB5.out.size; omega); have hltb5 : b3 < w5.heap.size := (by have := HB5.out.size; omega); clear ho5 hb5)
    | (refine step_call rfl 39 Try.f39 _ _ rfl Try.func39 (by kernel_rfl) (by kernel_rfl) _ _ (put16_own8 HO5.out nk (by simp [len_fld])) (by go_simp) ?_; rintro v6 w6 ⟨ho6, hb6⟩; have HO6 := Lib.hid ho6; have HB6 := Lib.hid hb6; obtain ⟨hc6, hf6⟩ := bcell HB6.out; have hlt6 : w.heap.size < w6.heap.size := (by have := hb6.size; omega); have hltb6 : b3 < w6.heap.size := (by have := hb6.size; omega); clear ho6 hb6)
    | (refine step_call rfl 41 Try.f41 _ _ rfl Try.func41 (by kernel_rfl) (by kernel_rfl) _ _ (put32_own8 HO6.out k0 (by simp [len_fld])) (by go_simp) ?_; rintro v7 w7 ⟨ho7, hb7⟩; have HO7 := Lib.hid ho7; have HB7 := Lib.hid hb7; obtain ⟨hc7, hf7⟩ := bcell HB7.out; clear ho7 hb7))
  all_goals go_wp2_with fail
  all_goals go_ret
  all_goals exact ⟨_, rfl, own_low8 HO7.out (by omega), ((HT.out.1.trans (HB5.out.mono (Nat.le_of_lt hlt))).trans (HB6.out.mono (Nat.le_of_lt hlt5))).trans (HB7.out.mono (Nat.le_of_lt hlt6))⟩
end Go.Proofs.Ytcmghbglnkfbaaa
