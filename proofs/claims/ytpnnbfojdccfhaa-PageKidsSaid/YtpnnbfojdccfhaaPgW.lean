/- Layer 8: Split's closure. -/
import Derived.Test.YtpnnbfojdccfhaaPgV
namespace Go.Proofs.Ytpnnbfojdccfhaa
open Go.RowKit
set_option linter.unusedVariables false
set_option maxRecDepth 100000

theorem few_part {n : Nd} (h : Few8 n) (a b : Nat) : Few8 (part8 n a b) := by
  have hm : ∀ {α : Type} (L : List α) (a b : Nat), ((L.take b).drop a).length ≤ L.length := fun L a b => by simp only [List.length_drop, List.length_take]; omega
  have hs : ∀ {α : Type} (L : List α) (a b : Nat) (s : α), s ∈ (L.take b).drop a → s ∈ L := fun L a b s h => List.mem_of_mem_take (List.mem_of_mem_drop h)
  unfold part8
  cases n.leaf
  · exact ⟨Nat.le_trans (hm _ _ _) h.nk, by simp, Nat.le_trans (hm _ _ _) h.nd, fun s k => h.ks s (hs _ _ _ _ k), fun s k => by cases k⟩
  · exact ⟨Nat.le_trans (hm _ _ _) h.nk, Nat.le_trans (hm _ _ _) h.nv, by simp, fun s k => h.ks s (hs _ _ _ _ k), fun s k => h.vs s (hs _ _ _ _ k)⟩
theorem part_any (n : Nd) (a b : Nat) (A1 : Option Addr) (c1 : Nat) (A2 : Option Addr) (c2 : Nat) (A3 : Option Addr) (c3 : Nat) (w : World) (h : No w A1 c1 A2 c2 A3 c3 n) (hc1 : Cp A1 n.keys.length c1) (hc2 : Cp A2 n.vals.length c2) (hc3 : Cp A3 n.kids.length c3) (hs : Stands8 n) (h0 : 0 < n.keys.length) (h2 : n.keys.length ≤ 2000) (hab : a ≤ b) (hb : b ≤ n.keys.length) :
    Calls Try.prog 42 #[nv8 A1 c1 A2 c2 A3 c3 n, .int .i64 a, .int .i64 b] w fun e w' => ∃ v, e = .returned v ∧ NoO w' v (part8 n a b) ∧ Turn (fun _ => False) w w' := by
  have h3 := hs.2
  cases hl : n.leaf with
  | true =>
    rw [hl] at h3
    exact partL_any n a b A1 c1 A2 c2 A3 c3 w h hc1 hc2 hc3 hl h3.2.1 h0 h2 hab hb
  | false =>
    rw [hl] at h3
    exact partK_any n a b A1 c1 A2 c2 A3 c3 w h hc1 hc2 hc3 hl h3.2.2 h0 h2 hab hb
set_option maxHeartbeats 4000000 in
theorem split1_any (n : Nd) (i half bn bh : Nat) (A1 : Option Addr) (c1 : Nat) (A2 : Option Addr) (c2 : Nat) (A3 : Option Addr) (c3 : Nat) (w : World) (h : No w A1 c1 A2 c2 A3 c3 n) (hc1 : Cp A1 n.keys.length c1) (hc2 : Cp A2 n.vals.length c2) (hc3 : Cp A3 n.kids.length c3) (hf : Few8 n) (hs : Stands8 n) (hi : i + 1 ≤ n.keys.length)
    (hB : Blk w bn 26 (nc8 A1 c1 A2 c2 A3 c3 n)) (hH : Blk w bh 3 [.int .i64 half]) :
    Calls Try.prog 41 #[.int .i64 i, .pointer (some ⟨bn, 0, none⟩), .pointer (some ⟨bh, 0, none⟩)] w fun e w' => e = .returned (.bool (decide (half ≤ size8 (part8 n 0 (i + 1))))) ∧ Turn (fun _ => False) w w' := by
  have h2000 := hf.nk
  have HP : Hid (∀ X, Turn (fun _ => False) w X → Calls Try.prog 42 #[nv8 A1 c1 A2 c2 A3 c3 n, .int .i64 0, .int .i64 ((i : Int) + 1)] X fun e w' => ∃ v, e = .returned v ∧ (∃ D1 e1 D2 e2 D3 e3, v = nv8 D1 e1 D2 e2 D3 e3 (part8 n 0 (i + 1)) ∧ No w' D1 e1 D2 e2 D3 e3 (part8 n 0 (i + 1)) ∧ Turn (fun _ => False) X w')) := Lib.hid (fun X hX => by
    refine (part_any n 0 (i + 1) A1 c1 A2 c2 A3 c3 X (h.turn hX) hc1 hc2 hc3 hs (by omega) h2000 (Nat.zero_le _) hi).mono ?_
    rintro e w' ⟨v, rfl, ⟨D1, e1, D2, e2, D3, e3, rfl, hn, _⟩, ht⟩
    exact ⟨_, rfl, D1, e1, D2, e2, D3, e3, rfl, hn, ht⟩)
  have HZ : Hid (∀ X D1 e1 D2 e2 D3 e3, No X D1 e1 D2 e2 D3 e3 (part8 n 0 (i + 1)) → Calls Try.prog 24 #[nv8 D1 e1 D2 e2 D3 e3 (part8 n 0 (i + 1))] X fun e w' => ∃ v, e = .returned v ∧ (v = .int .i64 (size8 (part8 n 0 (i + 1)) : Nat) ∧ Turn (fun _ => False) X w')) := Lib.hid (fun X D1 e1 D2 e2 D3 e3 hn => (size_any _ D1 e1 D2 e2 D3 e3 X hn (few_part hf 0 (i + 1))).mono (fun e w' h => ⟨_, h.1, rfl, h.2⟩))
  have HBB := Lib.hid hB
  have HHH := Lib.hid hH
  have hd : decide ((half : Int) ≤ (size8 (part8 n 0 (i + 1)) : Int)) = decide (half ≤ size8 (part8 n 0 (i + 1))) := by rw [decide_eq_decide]; omega
  generalize size8 (part8 n 0 (i + 1)) = SZ at *
  generalize part8 n 0 (i + 1) = PN at *
  have z1 := wrap_of ((i : Int) + 1) (by omega) (by omega)
  clear h hc1 hc2 hc3 hf hs hi h2000 hB hH
  unfold nc8 at HBB
  simp only [nv8] at *
  generalize n.leaf = leaf at *
  generalize n.keys.length = nk at *
  generalize n.vals.length = nv at *
  generalize n.kids.length = nd at *
  generalize PN.leaf = pl at *
  generalize PN.keys.length = pk at *
  generalize PN.vals.length = pv at *
  generalize PN.kids.length = pd at *
  have y0 : w.drew.cell? ⟨bn, 0, none⟩ = some (.bool leaf) := HBB.out.cell 0
  have y1 : w.drew.cell? ⟨bn, 1, none⟩ = some (.slice A1 nk c1) := HBB.out.cell 1
  have y2 : w.drew.cell? ⟨bn, 2, none⟩ = some (.slice A2 nv c2) := HBB.out.cell 2
  have y3 : w.drew.cell? ⟨bn, 3, none⟩ = some (.slice A3 nd c3) := HBB.out.cell 3
  have y4 : w.drew.cell? ⟨bh, 0, none⟩ = some (.int .i64 half) := HHH.out.cell 0
  go_enter Try.func41, Try.ntmps41
  go_wp2_with fail
  go_region_held3 (fun X => X.cell? ⟨bn, 0, none⟩ = some (.bool leaf) ∧ X.cell? ⟨bn, 1, none⟩ = some (.slice A1 nk c1) ∧ X.cell? ⟨bn, 2, none⟩ = some (.slice A2 nv c2) ∧ X.cell? ⟨bn, 3, none⟩ = some (.slice A3 nd c3) ∧ X.cell? ⟨bh, 0, none⟩ = some (.int .i64 half))
    (first
      | (with_reducible exact ⟨y0, y1, y2, y3, y4⟩)
      | (with_reducible exact ⟨y50, y51, y52, y53, y54⟩)
      | (with_reducible exact ⟨y60, y61, y62, y63, y64⟩))
    (first
      | (refine step_call rfl 24 Try.f24 _ _ rfl Try.func24 (by kernel_rfl) (by kernel_rfl) _ _ (HZ.out _ D1 e1 D2 e2 D3 e3 N5.out) (by go_simp) ?_; rintro v6 w6 ⟨rfl, ht6⟩; have T6 : Hid (Turn (fun _ => False) w w6) := Lib.hid (T5.out.trans ht6); have y60 : w6.cell? ⟨bn, 0, none⟩ = some (.bool leaf) := (HBB.out.turn T6.out (fun h => h)).cell 0; have y61 : w6.cell? ⟨bn, 1, none⟩ = some (.slice A1 nk c1) := (HBB.out.turn T6.out (fun h => h)).cell 1; have y62 : w6.cell? ⟨bn, 2, none⟩ = some (.slice A2 nv c2) := (HBB.out.turn T6.out (fun h => h)).cell 2; have y63 : w6.cell? ⟨bn, 3, none⟩ = some (.slice A3 nd c3) := (HBB.out.turn T6.out (fun h => h)).cell 3; have y64 : w6.cell? ⟨bh, 0, none⟩ = some (.int .i64 half) := (HHH.out.turn T6.out (fun h => h)).cell 0; clear ht6)
      | (refine step_call rfl 42 Try.f42 _ _ rfl Try.func42 (by kernel_rfl) (by kernel_rfl) _ _ (HP.out _ ((Turn.refl (fun _ => False) w).drew)) (by go_simp) ?_; rintro v5 w5 ⟨D1, e1, D2, e2, D3, e3, rfl, hn5, ht5⟩; have N5 := Lib.hid hn5; have T5 : Hid (Turn (fun _ => False) w w5) := Lib.hid ((Turn.refl (fun _ => False) w).drew.trans ht5); have y50 : w5.cell? ⟨bn, 0, none⟩ = some (.bool leaf) := (HBB.out.turn T5.out (fun h => h)).cell 0; have y51 : w5.cell? ⟨bn, 1, none⟩ = some (.slice A1 nk c1) := (HBB.out.turn T5.out (fun h => h)).cell 1; have y52 : w5.cell? ⟨bn, 2, none⟩ = some (.slice A2 nv c2) := (HBB.out.turn T5.out (fun h => h)).cell 2; have y53 : w5.cell? ⟨bn, 3, none⟩ = some (.slice A3 nd c3) := (HBB.out.turn T5.out (fun h => h)).cell 3; have y54 : w5.cell? ⟨bh, 0, none⟩ = some (.int .i64 half) := (HHH.out.turn T5.out (fun h => h)).cell 0; clear ht5 hn5))
  all_goals go_wp2_with fail
  all_goals go_ret
  all_goals exact ⟨by first | rfl | (rw [hd]; rfl), T6.out⟩
end Go.Proofs.Ytpnnbfojdccfhaa
