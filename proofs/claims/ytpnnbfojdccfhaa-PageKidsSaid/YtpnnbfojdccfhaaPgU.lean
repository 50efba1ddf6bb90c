/- Layer 8: part of a node (the program's). -/
import Derived.Test.YtpnnbfojdccfhaaPgS
namespace Go.Proofs.Ytpnnbfojdccfhaa
open Go.RowKit
set_option linter.unusedVariables false
set_option maxRecDepth 100000

def part8 (n : Nd) (a b : Nat) : Nd := if n.leaf then ⟨true, (n.keys.take b).drop a, (n.vals.take b).drop a, []⟩ else ⟨false, (n.keys.take b).drop a, [], (n.kids.take (b + 1)).drop a⟩
def cut8 (b o c a : Nat) : Option Addr := if c = a then some ⟨b, o, none⟩ else some ⟨b, o + a, none⟩
theorem cut_off (b o c a : Nat) : off8 (some ⟨b, o, none⟩) c a = cut8 b o c a := by unfold off8 cut8; simp only [Addr.add_mid]
theorem Nr.take {w : World} {A : Option Addr} {L : List Int} (h : Nr w A L) (q : Nat) : Nr w A (L.take q) := fun hp => by
  have hl : 0 < L.length := by rw [List.length_take] at hp; omega
  obtain ⟨b, o, e, hb, hc⟩ := h hl
  refine ⟨b, o, e, hb, fun X hX j s hj => hc X hX j s ?_⟩
  rw [List.getElem?_take] at hj
  split at hj
  · exact hj
  · cases hj
theorem Nr.drop {w : World} {A : Option Addr} {L : List Int} {c : Nat} (h : Nr w A L) (hc : L.length ≤ c) (q : Nat) : Nr w (off8 A c q) (L.drop q) := fun hp => by
  rw [List.length_drop] at hp
  obtain ⟨b, o, rfl, hb, hcc⟩ := h (by omega)
  refine ⟨b, o + q, ?_, hb, fun X hX j s hj => ?_⟩
  · unfold off8; simp only; rw [if_neg (by omega), Addr.add_mid]
  · rw [List.getElem?_drop] at hj
    have := hcc X hX (q + j) s hj
    rw [← Nat.add_assoc] at this; exact this
theorem len_cut {α : Type} (L : List α) (a b : Nat) (hb : b ≤ L.length) : ((L.take b).drop a).length = b - a := by rw [List.length_drop, List.length_take, Nat.min_eq_left hb]
set_option maxHeartbeats 4000000 in
theorem partL_any (n : Nd) (a b : Nat) (A1 : Option Addr) (c1 : Nat) (A2 : Option Addr) (c2 : Nat) (A3 : Option Addr) (c3 : Nat) (w : World) (h : No w A1 c1 A2 c2 A3 c3 n) (hc1 : Cp A1 n.keys.length c1) (hc2 : Cp A2 n.vals.length c2) (hc3 : Cp A3 n.kids.length c3) (hlf : n.leaf = true) (hv : n.vals.length = n.keys.length) (h0 : 0 < n.keys.length) (h2 : n.keys.length ≤ 2000) (hab : a ≤ b) (hb : b ≤ n.keys.length) :
    Calls Try.prog 42 #[nv8 A1 c1 A2 c2 A3 c3 n, .int .i64 a, .int .i64 b] w fun e w' => ∃ v, e = .returned v ∧ NoO w' v (part8 n a b) ∧ Turn (fun _ => False) w w' := by
  obtain ⟨b1, o1, rfl, _, _⟩ := h.keys h0
  obtain ⟨b2, o2, rfl, _, _⟩ := h.vals (by omega)
  have HN := Lib.hid h
  have HC1 := Lib.hid hc1
  have HC2 := Lib.hid hc2
  have HC3 := Lib.hid hc3
  have T0 := Lib.hid (((Turn.refl (fun _ => False) w).alloc (.cells #[.bool n.leaf, .slice (some ⟨b1, o1, none⟩) n.keys.length c1, .slice (some ⟨b2, o2, none⟩) n.vals.length c2, .slice A3 n.kids.length c3] 26)).alloc (.cells #[.bool false, .slice none 0 0, .slice none 0 0, .slice none 0 0] 26))
  have B0 := Lib.hid (box_two w [.bool n.leaf, .slice (some ⟨b1, o1, none⟩) n.keys.length c1, .slice (some ⟨b2, o2, none⟩) n.vals.length c2, .slice A3 n.kids.length c3] [.bool false, .slice none 0 0, .slice none 0 0, .slice none 0 0]).1
  have R0 := Lib.hid (box_two w [.bool n.leaf, .slice (some ⟨b1, o1, none⟩) n.keys.length c1, .slice (some ⟨b2, o2, none⟩) n.vals.length c2, .slice A3 n.kids.length c3] [.bool false, .slice none 0 0, .slice none 0 0, .slice none 0 0]).2
  rw [hlf] at B0 R0 T0
  have hle1 := hc1.le
  have hle2 := hc2.le
  have hcm1 := hc1.cm
  have hcm2 := hc2.cm
  unfold maxLen at hcm1 hcm2
  have HLF := Lib.hid hlf
  have HAB := Lib.hid hab
  have HBN := Lib.hid hb
  have HLL := Lib.hid hv
  simp only [nv8]
  rw [hlf]
  generalize hnk : n.keys.length = nk at *
  generalize hnv : n.vals.length = nv at *
  generalize hnd : n.kids.length = nd at *
  have z1 : (0 : Int) ≤ (a : Int) := by omega
  have z2 : (a : Int) ≤ (b : Int) := by omega
  have z3 : (b : Int) ≤ (c1 : Int) := by omega
  have z4 : (b : Int) ≤ (c2 : Int) := by omega
  have y0 : ((w.alloc (.cells #[.bool true, .slice (some ⟨b1, o1, none⟩) nk c1, .slice (some ⟨b2, o2, none⟩) nv c2, .slice A3 nd c3] 26)).alloc (.cells #[.bool false, .slice none 0 0, .slice none 0 0, .slice none 0 0] 26)).cell? ⟨w.heap.size, 0, none⟩ = some (.bool true) := B0.out.cell 0
  have y1d : ((w.alloc (.cells #[.bool true, .slice (some ⟨b1, o1, none⟩) nk c1, .slice (some ⟨b2, o2, none⟩) nv c2, .slice A3 nd c3] 26)).alloc (.cells #[.bool false, .slice none 0 0, .slice none 0 0, .slice none 0 0] 26)).drew.cell? ⟨w.heap.size, 1, none⟩ = some (.slice (some ⟨b1, o1, none⟩) nk c1) := B0.out.cell 1
  have y2d : ((w.alloc (.cells #[.bool true, .slice (some ⟨b1, o1, none⟩) nk c1, .slice (some ⟨b2, o2, none⟩) nv c2, .slice A3 nd c3] 26)).alloc (.cells #[.bool false, .slice none 0 0, .slice none 0 0, .slice none 0 0] 26)).drew.cell? ⟨w.heap.size, 2, none⟩ = some (.slice (some ⟨b2, o2, none⟩) nv c2) := B0.out.cell 2
  clear h hc1 hc2 hc3 hle1 hle2 hcm1 hcm2 h2 hb hv hlf
  go_enter Try.func42, Try.ntmps42
  go_wp2_with fail
  generalize hW : (w.alloc (.cells #[.bool true, .slice (some ⟨b1, o1, none⟩) nk c1, .slice (some ⟨b2, o2, none⟩) nv c2, .slice A3 nd c3] 26)).alloc (.cells #[.bool false, .slice none 0 0, .slice none 0 0, .slice none 0 0] 26) = W at *
  have r0 := R0.out.cell 0
  have r1 := R0.out.cell 1
  have r2 := R0.out.cell 2
  have r3 := R0.out.cell 3
  have g0 := R0.out.free 0
  have g1 := R0.out.free 1
  have g2 := R0.out.free 2
  have g3 := R0.out.free 3
  simp only [List.getElem?_cons_zero, List.getElem?_cons_succ] at r0 r1 r2 r3
  have y71 : (((((W.setCell ⟨w.heap.size + 1, 0, none⟩ (.bool true)).setCell ⟨w.heap.size + 1, 1, none⟩ ((.slice (if c1 = a then some ⟨b1, o1, none⟩ else some ⟨b1, o1 + a, none⟩) (b - a) (c1 - a)))).setCell ⟨w.heap.size + 1, 2, none⟩ ((.slice (if c2 = a then some ⟨b2, o2, none⟩ else some ⟨b2, o2 + a, none⟩) (b - a) (c2 - a)))).setCell ⟨w.heap.size + 1, 3, none⟩ (.slice none 0 0)).drew).cell? ⟨w.heap.size, 1, none⟩ = some (.slice (some ⟨b1, o1, none⟩) nk c1) := (B0.out.turn (put4 R0.out (.bool true) ((.slice (if c1 = a then some ⟨b1, o1, none⟩ else some ⟨b1, o1 + a, none⟩) (b - a) (c1 - a))) ((.slice (if c2 = a then some ⟨b2, o2, none⟩ else some ⟨b2, o2 + a, none⟩) (b - a) (c2 - a))) (.slice none 0 0)).2 (fun h => by omega)).cell 1
  have y72 : (((((W.setCell ⟨w.heap.size + 1, 0, none⟩ (.bool true)).setCell ⟨w.heap.size + 1, 1, none⟩ ((.slice (if c1 = a then some ⟨b1, o1, none⟩ else some ⟨b1, o1 + a, none⟩) (b - a) (c1 - a)))).setCell ⟨w.heap.size + 1, 2, none⟩ ((.slice (if c2 = a then some ⟨b2, o2, none⟩ else some ⟨b2, o2 + a, none⟩) (b - a) (c2 - a)))).setCell ⟨w.heap.size + 1, 3, none⟩ (.slice none 0 0)).drew).cell? ⟨w.heap.size, 2, none⟩ = some (.slice (some ⟨b2, o2, none⟩) nv c2) := (B0.out.turn (put4 R0.out (.bool true) ((.slice (if c1 = a then some ⟨b1, o1, none⟩ else some ⟨b1, o1 + a, none⟩) (b - a) (c1 - a))) ((.slice (if c2 = a then some ⟨b2, o2, none⟩ else some ⟨b2, o2 + a, none⟩) (b - a) (c2 - a))) (.slice none 0 0)).2 (fun h => by omega)).cell 2
  go_region_held3 (fun X => X.cell? ⟨w.heap.size, 1, none⟩ = some (.slice (some ⟨b1, o1, none⟩) nk c1) ∧ X.cell? ⟨w.heap.size, 2, none⟩ = some (.slice (some ⟨b2, o2, none⟩) nv c2))
    (first
      | (with_reducible exact ⟨y1d, y2d⟩)
      | (with_reducible exact ⟨y71, y72⟩))
    (first | fail)
  clear y0 y1d y2d y71 y72
  obtain ⟨I1, hI1⟩ : ∃ I, (if c1 = a then some (⟨b1, o1, none⟩ : Addr) else some ⟨b1, o1 + a, none⟩) = I := ⟨_, rfl⟩
  obtain ⟨I2, hI2⟩ : ∃ I, (if c2 = a then some (⟨b2, o2, none⟩ : Addr) else some ⟨b2, o2 + a, none⟩) = I := ⟨_, rfl⟩
  rw [hI1, hI2]
  have HI1 : Hid (cut8 b1 o1 c1 a = I1) := Lib.hid hI1
  have HI2 : Hid (cut8 b2 o2 c2 a = I2) := Lib.hid hI2
  clear hI1 hI2
  all_goals go_wp2_with fail
  obtain ⟨hf, htf⟩ := put4 R0.out (.bool true) ((.slice I1 (b - a) (c1 - a))) ((.slice I2 (b - a) (c2 - a))) (.slice none 0 0)
  have htt := (T0.out.trans_new htf (fun k hk e => by omega)).drew
  have e0 := hf.drew.cell 0
  have e1 := hf.drew.cell 1
  have e2 := hf.drew.cell 2
  have e3 := hf.drew.cell 3
  simp only [List.getElem?_cons_zero, List.getElem?_cons_succ] at e0 e1 e2 e3
  clear r0 r1 r2 r3 g0 g1 g2 g3 hf htf
  generalize (((((W.setCell ⟨w.heap.size + 1, 0, none⟩ (.bool true)).setCell ⟨w.heap.size + 1, 1, none⟩ ((.slice I1 (b - a) (c1 - a)))).setCell ⟨w.heap.size + 1, 2, none⟩ ((.slice I2 (b - a) (c2 - a)))).setCell ⟨w.heap.size + 1, 3, none⟩ (.slice none 0 0)).drew) = WF at *
  refine bodyPost_ret (v := .agg #[.bool true, (.slice I1 (b - a) (c1 - a)), (.slice I2 (b - a) (c2 - a)), .slice none 0 0]) (by simp [results, Try.results42, go_sem, e0, e1, e2, e3]) rfl ⟨_, rfl, ?_, htt⟩
  have q1 := ((HN.out.keys.take b).drop (c := c1) (by have := HC1.out.le; rw [List.length_take]; omega) a).turn htt
  have p1 := (HC1.out.take (q := b) HBN.out).drop (q := a) HAB.out
  rw [cut_off, HI1.out] at q1 p1
  have l1 := len_cut n.keys a b (by rw [hnk]; exact HBN.out)
  have q2 := ((HN.out.vals.take b).drop (c := c2) (by have := HC2.out.le; rw [List.length_take]; omega) a).turn htt
  have p2 := (HC2.out.take (q := b) (by have := HLL.out; have := HBN.out; omega)).drop (q := a) HAB.out
  rw [cut_off, HI2.out] at q2 p2
  have l2 := len_cut n.vals a b (by rw [hnv]; have := HLL.out; have := HBN.out; omega)
  refine ⟨I1, c1 - a, I2, c2 - a, none, 0, ?_, ?_⟩
  · unfold part8; rw [HLF.out, if_pos rfl]; simp only [nv8]; rw [l1, l2]; rfl
  · unfold part8; rw [HLF.out, if_pos rfl]; simp only [l1, l2]
    exact ⟨⟨q1, q2, nr_nil _ _⟩, p1, p2, ⟨Nat.le_refl _, by unfold maxLen; decide, fun _ => rfl⟩⟩
set_option maxHeartbeats 4000000 in
theorem partK_any (n : Nd) (a b : Nat) (A1 : Option Addr) (c1 : Nat) (A2 : Option Addr) (c2 : Nat) (A3 : Option Addr) (c3 : Nat) (w : World) (h : No w A1 c1 A2 c2 A3 c3 n) (hc1 : Cp A1 n.keys.length c1) (hc2 : Cp A2 n.vals.length c2) (hc3 : Cp A3 n.kids.length c3) (hlf : n.leaf = false) (hd : n.kids.length = n.keys.length + 1) (h0 : 0 < n.keys.length) (h2 : n.keys.length ≤ 2000) (hab : a ≤ b) (hb : b ≤ n.keys.length) :
    Calls Try.prog 42 #[nv8 A1 c1 A2 c2 A3 c3 n, .int .i64 a, .int .i64 b] w fun e w' => ∃ v, e = .returned v ∧ NoO w' v (part8 n a b) ∧ Turn (fun _ => False) w w' := by
  obtain ⟨b1, o1, rfl, _, _⟩ := h.keys h0
  obtain ⟨b3, o3, rfl, _, _⟩ := h.kids (by omega)
  have HN := Lib.hid h
  have HC1 := Lib.hid hc1
  have HC2 := Lib.hid hc2
  have HC3 := Lib.hid hc3
  have T0 := Lib.hid (((Turn.refl (fun _ => False) w).alloc (.cells #[.bool n.leaf, .slice (some ⟨b1, o1, none⟩) n.keys.length c1, .slice A2 n.vals.length c2, .slice (some ⟨b3, o3, none⟩) n.kids.length c3] 26)).alloc (.cells #[.bool false, .slice none 0 0, .slice none 0 0, .slice none 0 0] 26))
  have B0 := Lib.hid (box_two w [.bool n.leaf, .slice (some ⟨b1, o1, none⟩) n.keys.length c1, .slice A2 n.vals.length c2, .slice (some ⟨b3, o3, none⟩) n.kids.length c3] [.bool false, .slice none 0 0, .slice none 0 0, .slice none 0 0]).1
  have R0 := Lib.hid (box_two w [.bool n.leaf, .slice (some ⟨b1, o1, none⟩) n.keys.length c1, .slice A2 n.vals.length c2, .slice (some ⟨b3, o3, none⟩) n.kids.length c3] [.bool false, .slice none 0 0, .slice none 0 0, .slice none 0 0]).2
  rw [hlf] at B0 R0 T0
  have hle1 := hc1.le
  have hle3 := hc3.le
  have hcm1 := hc1.cm
  have hcm3 := hc3.cm
  unfold maxLen at hcm1 hcm3
  have HLF := Lib.hid hlf
  have HAB := Lib.hid hab
  have HBN := Lib.hid hb
  have HLL := Lib.hid hd
  simp only [nv8]
  rw [hlf]
  generalize hnk : n.keys.length = nk at *
  generalize hnv : n.vals.length = nv at *
  generalize hnd : n.kids.length = nd at *
  have z1 : (0 : Int) ≤ (a : Int) := by omega
  have z2 : (a : Int) ≤ (b : Int) := by omega
  have z3 : (b : Int) ≤ (c1 : Int) := by omega
  have z4 : (b : Int) + 1 ≤ (c3 : Int) := by omega
  have z5 : (a : Int) ≤ (b : Int) + 1 := by omega
  have z6 := wrap_of ((b : Int) + 1) (by omega) (by omega)
  have y0 : ((w.alloc (.cells #[.bool false, .slice (some ⟨b1, o1, none⟩) nk c1, .slice A2 nv c2, .slice (some ⟨b3, o3, none⟩) nd c3] 26)).alloc (.cells #[.bool false, .slice none 0 0, .slice none 0 0, .slice none 0 0] 26)).cell? ⟨w.heap.size, 0, none⟩ = some (.bool false) := B0.out.cell 0
  have y1d : ((w.alloc (.cells #[.bool false, .slice (some ⟨b1, o1, none⟩) nk c1, .slice A2 nv c2, .slice (some ⟨b3, o3, none⟩) nd c3] 26)).alloc (.cells #[.bool false, .slice none 0 0, .slice none 0 0, .slice none 0 0] 26)).drew.cell? ⟨w.heap.size, 1, none⟩ = some (.slice (some ⟨b1, o1, none⟩) nk c1) := B0.out.cell 1
  have y2d : ((w.alloc (.cells #[.bool false, .slice (some ⟨b1, o1, none⟩) nk c1, .slice A2 nv c2, .slice (some ⟨b3, o3, none⟩) nd c3] 26)).alloc (.cells #[.bool false, .slice none 0 0, .slice none 0 0, .slice none 0 0] 26)).drew.cell? ⟨w.heap.size, 3, none⟩ = some (.slice (some ⟨b3, o3, none⟩) nd c3) := B0.out.cell 3
  clear h hc1 hc2 hc3 hle1 hle3 hcm1 hcm3 h2 hb hd hlf
  go_enter Try.func42, Try.ntmps42
  go_wp2_with fail
  generalize hW : (w.alloc (.cells #[.bool false, .slice (some ⟨b1, o1, none⟩) nk c1, .slice A2 nv c2, .slice (some ⟨b3, o3, none⟩) nd c3] 26)).alloc (.cells #[.bool false, .slice none 0 0, .slice none 0 0, .slice none 0 0] 26) = W at *
  have r0 := R0.out.cell 0
  have r1 := R0.out.cell 1
  have r2 := R0.out.cell 2
  have r3 := R0.out.cell 3
  have g0 := R0.out.free 0
  have g1 := R0.out.free 1
  have g2 := R0.out.free 2
  have g3 := R0.out.free 3
  simp only [List.getElem?_cons_zero, List.getElem?_cons_succ] at r0 r1 r2 r3
  have y71 : (((((W.setCell ⟨w.heap.size + 1, 0, none⟩ (.bool false)).setCell ⟨w.heap.size + 1, 1, none⟩ ((.slice (if c1 = a then some ⟨b1, o1, none⟩ else some ⟨b1, o1 + a, none⟩) (b - a) (c1 - a)))).setCell ⟨w.heap.size + 1, 2, none⟩ (.slice none 0 0)).setCell ⟨w.heap.size + 1, 3, none⟩ ((.slice (if c3 = a then some ⟨b3, o3, none⟩ else some ⟨b3, o3 + a, none⟩) (b + 1 - a) (c3 - a)))).drew).cell? ⟨w.heap.size, 1, none⟩ = some (.slice (some ⟨b1, o1, none⟩) nk c1) := (B0.out.turn (put4 R0.out (.bool false) ((.slice (if c1 = a then some ⟨b1, o1, none⟩ else some ⟨b1, o1 + a, none⟩) (b - a) (c1 - a))) (.slice none 0 0) ((.slice (if c3 = a then some ⟨b3, o3, none⟩ else some ⟨b3, o3 + a, none⟩) (b + 1 - a) (c3 - a)))).2 (fun h => by omega)).cell 1
  have y72 : (((((W.setCell ⟨w.heap.size + 1, 0, none⟩ (.bool false)).setCell ⟨w.heap.size + 1, 1, none⟩ ((.slice (if c1 = a then some ⟨b1, o1, none⟩ else some ⟨b1, o1 + a, none⟩) (b - a) (c1 - a)))).setCell ⟨w.heap.size + 1, 2, none⟩ (.slice none 0 0)).setCell ⟨w.heap.size + 1, 3, none⟩ ((.slice (if c3 = a then some ⟨b3, o3, none⟩ else some ⟨b3, o3 + a, none⟩) (b + 1 - a) (c3 - a)))).drew).cell? ⟨w.heap.size, 3, none⟩ = some (.slice (some ⟨b3, o3, none⟩) nd c3) := (B0.out.turn (put4 R0.out (.bool false) ((.slice (if c1 = a then some ⟨b1, o1, none⟩ else some ⟨b1, o1 + a, none⟩) (b - a) (c1 - a))) (.slice none 0 0) ((.slice (if c3 = a then some ⟨b3, o3, none⟩ else some ⟨b3, o3 + a, none⟩) (b + 1 - a) (c3 - a)))).2 (fun h => by omega)).cell 3
  go_region_held3 (fun X => X.cell? ⟨w.heap.size, 1, none⟩ = some (.slice (some ⟨b1, o1, none⟩) nk c1) ∧ X.cell? ⟨w.heap.size, 3, none⟩ = some (.slice (some ⟨b3, o3, none⟩) nd c3))
    (first
      | (with_reducible exact ⟨y1d, y2d⟩)
      | (with_reducible exact ⟨y71, y72⟩))
    (first | fail)
  clear y0 y1d y2d y71 y72
  obtain ⟨I1, hI1⟩ : ∃ I, (if c1 = a then some (⟨b1, o1, none⟩ : Addr) else some ⟨b1, o1 + a, none⟩) = I := ⟨_, rfl⟩
  obtain ⟨I2, hI2⟩ : ∃ I, (if c3 = a then some (⟨b3, o3, none⟩ : Addr) else some ⟨b3, o3 + a, none⟩) = I := ⟨_, rfl⟩
  rw [hI1, hI2]
  have HI1 : Hid (cut8 b1 o1 c1 a = I1) := Lib.hid hI1
  have HI2 : Hid (cut8 b3 o3 c3 a = I2) := Lib.hid hI2
  clear hI1 hI2
  all_goals go_wp2_with fail
  obtain ⟨hf, htf⟩ := put4 R0.out (.bool false) ((.slice I1 (b - a) (c1 - a))) (.slice none 0 0) ((.slice I2 (b + 1 - a) (c3 - a)))
  have htt := (T0.out.trans_new htf (fun k hk e => by omega)).drew
  have e0 := hf.drew.cell 0
  have e1 := hf.drew.cell 1
  have e2 := hf.drew.cell 2
  have e3 := hf.drew.cell 3
  simp only [List.getElem?_cons_zero, List.getElem?_cons_succ] at e0 e1 e2 e3
  clear r0 r1 r2 r3 g0 g1 g2 g3 hf htf
  generalize (((((W.setCell ⟨w.heap.size + 1, 0, none⟩ (.bool false)).setCell ⟨w.heap.size + 1, 1, none⟩ ((.slice I1 (b - a) (c1 - a)))).setCell ⟨w.heap.size + 1, 2, none⟩ (.slice none 0 0)).setCell ⟨w.heap.size + 1, 3, none⟩ ((.slice I2 (b + 1 - a) (c3 - a)))).drew) = WF at *
  refine bodyPost_ret (v := .agg #[.bool false, (.slice I1 (b - a) (c1 - a)), .slice none 0 0, (.slice I2 (b + 1 - a) (c3 - a))]) (by simp [results, Try.results42, go_sem, e0, e1, e2, e3]) rfl ⟨_, rfl, ?_, htt⟩
  have q1 := ((HN.out.keys.take b).drop (c := c1) (by have := HC1.out.le; rw [List.length_take]; omega) a).turn htt
  have p1 := (HC1.out.take (q := b) HBN.out).drop (q := a) HAB.out
  rw [cut_off, HI1.out] at q1 p1
  have l1 := len_cut n.keys a b (by rw [hnk]; exact HBN.out)
  have q2 := ((HN.out.kids.take (b + 1)).drop (c := c3) (by have := HC3.out.le; rw [List.length_take]; omega) a).turn htt
  have p2 := (HC3.out.take (q := b + 1) (by have := HLL.out; have := HBN.out; omega)).drop (q := a) (by have := HAB.out; omega)
  rw [cut_off, HI2.out] at q2 p2
  have l2 := len_cut n.kids a (b + 1) (by rw [hnd]; have := HLL.out; have := HBN.out; omega)
  refine ⟨I1, c1 - a, none, 0, I2, c3 - a, ?_, ?_⟩
  · unfold part8; rw [HLF.out, if_neg (by decide)]; simp only [nv8]; rw [l1, l2]; rfl
  · unfold part8; rw [HLF.out, if_neg (by decide)]; simp only [l1, l2]
    exact ⟨⟨q1, sr_nil _ _, q2⟩, p1, ⟨Nat.le_refl _, by unfold maxLen; decide, fun _ => rfl⟩, p2⟩
end Go.Proofs.Ytpnnbfojdccfhaa
