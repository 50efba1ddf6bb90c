/- Layer 8: the document's Drop. -/
import Derived.Test.YtpnnbfojdccfhaaPgWb
namespace Go.Proofs.Ytpnnbfojdccfhaa
open Go.RowKit
set_option linter.unusedVariables false
set_option maxRecDepth 100000

/-- A node that a call made: its rows are its own. -/
def NoF (w w' : World) (v : Value) (n : Nd) : Prop := ∃ A1 c1 A2 c2 A3 c3, v = nv8 A1 c1 A2 c2 A3 c3 n ∧ (∀ X, Turn (fun k => k < w.heap.size) w' X → No X A1 c1 A2 c2 A3 c3 n) ∧ Cp A1 n.keys.length c1 ∧ Cp A2 n.vals.length c2 ∧ Cp A3 n.kids.length c3
theorem NoF.o {w w' : World} {v : Value} {n : Nd} (h : NoF w w' v n) : NoO w' v n := by
  obtain ⟨A1, c1, A2, c2, A3, c3, e, h1, h2⟩ := h
  exact ⟨A1, c1, A2, c2, A3, c3, e, h1 _ (Turn.refl _ _), h2⟩
theorem refDrop_no (n : Nd) (key : ByteArray) (hkey : key.size ≤ 140737488351232) (A1 : Option Addr) (c1 : Nat) (A2 : Option Addr) (c2 : Nat) (A3 : Option Addr) (c3 : Nat) (w : World) (h : No w A1 c1 A2 c2 A3 c3 n) (hf : Few8 n) (hk : (find8 n key).2 = false) :
    Calls Try.prog 19 #[nv8 A1 c1 A2 c2 A3 c3 n, .string key] w fun e w' => e = .returned (.tuple #[.agg #[.bool false, .slice none 0 0, .slice none 0 0, .slice none 0 0], .bool false]) ∧ Turn (fun _ => False) w w' := by
  have HF := Lib.hid (fun W (ht : Turn (fun _ => False) w W) => refFind_any n key hkey A1 c1 A2 c2 A3 c3 W (h.turn ht) hf)
  rw [hk] at HF
  generalize (find8 n key).1 = P at *
  have T0 := Lib.hid (((Turn.refl (fun _ => False) w).alloc (.cells #[.bool n.leaf, .slice A1 n.keys.length c1, .slice A2 n.vals.length c2, .slice A3 n.kids.length c3] 26)).alloc (.cells #[.bool false, .slice none 0 0, .slice none 0 0, .slice none 0 0] 26))
  have R0 := Lib.hid (box_two w [.bool n.leaf, .slice A1 n.keys.length c1, .slice A2 n.vals.length c2, .slice A3 n.kids.length c3] [.bool false, .slice none 0 0, .slice none 0 0, .slice none 0 0]).2
  clear h hf hk
  obtain ⟨leaf, K, V, Z⟩ := n
  simp only [nv8] at *
  generalize K.length = nk at *
  generalize V.length = nv at *
  generalize Z.length = nd at *
  go_enter Try.func19, Try.ntmps19
  go_wp2_with fail
  refine (HF.out _ T0.out).mono ?_
  rintro e w1 ⟨rfl, ht1⟩
  have T1 := Lib.hid (T0.out.trans ht1)
  have R1 := Lib.hid (R0.out.turn ht1 (fun h => h))
  clear ht1 T0 R0
  have r0 := R1.out.cell 0
  have r1 := R1.out.cell 1
  have r2 := R1.out.cell 2
  have r3 := R1.out.cell 3
  have g0 := R1.out.free 0
  have g1 := R1.out.free 1
  have g2 := R1.out.free 2
  have g3 := R1.out.free 3
  simp only [List.getElem?_cons_zero, List.getElem?_cons_succ] at r0 r1 r2 r3
  go_wp2_with fail
  obtain ⟨hf, htf⟩ := put4 R1.out (.bool false) (.slice none 0 0) (.slice none 0 0) (.slice none 0 0)
  have htt := T1.out.trans_new htf (fun k hk e => by omega)
  have e0 := hf.cell 0
  have e1 := hf.cell 1
  have e2 := hf.cell 2
  have e3 := hf.cell 3
  simp only [List.getElem?_cons_zero, List.getElem?_cons_succ] at e0 e1 e2 e3
  clear r0 r1 r2 r3 g0 g1 g2 g3 hf
  generalize (((((w1.setCell ⟨w.heap.size + 1, 0, none⟩ (.bool false)).setCell ⟨w.heap.size + 1, 1, none⟩ (.slice none 0 0)).setCell ⟨w.heap.size + 1, 2, none⟩ (.slice none 0 0)).setCell ⟨w.heap.size + 1, 3, none⟩ (.slice none 0 0))) = WF at *
  exact bodyPost_ret (v := .tuple #[.agg #[.bool false, .slice none 0 0, .slice none 0 0, .slice none 0 0], .bool false]) (by simp [results, Try.results19, go_sem, e0, e1, e2, e3]) rfl ⟨rfl, htt⟩
set_option maxHeartbeats 8000000 in
theorem refDrop_yes (n : Nd) (key : ByteArray) (hkey : key.size ≤ 140737488351232) (A1 : Option Addr) (c1 : Nat) (A2 : Option Addr) (c2 : Nat) (A3 : Option Addr) (c3 : Nat) (w : World) (h : No w A1 c1 A2 c2 A3 c3 n) (hc1 : Cp A1 n.keys.length c1) (hc2 : Cp A2 n.vals.length c2) (hf : Few8 n) (hk : (find8 n key).2 = true) :
    Calls Try.prog 19 #[nv8 A1 c1 A2 c2 A3 c3 n, .string key] w fun e w' => ∃ v, e = .returned (.tuple #[v, .bool true]) ∧ NoF w w' v (drop8 n (find8 n key).1) ∧ Turn (fun _ => False) w w' := by
  obtain ⟨hst, hlf, hat, hvl, hzl⟩ := find8_yes hk
  have HF := Lib.hid (fun W (ht : Turn (fun _ => False) w W) => refFind_any n key hkey A1 c1 A2 c2 A3 c3 W (h.turn ht) hf)
  rw [hk] at HF
  have f1 := hf.nk
  have HD : Hid (drop8 n (find8 n key).1 = ⟨true, chg8 n.keys (find8 n key).1 1 [], chg8 n.vals (find8 n key).1 1 [], []⟩) := Lib.hid rfl
  generalize (find8 n key).1 = i at *
  generalize drop8 n i = DN at *
  obtain ⟨a1, rfl⟩ : ∃ a, A1 = some a := by obtain ⟨b, o, e, _⟩ := h.keys (by omega); exact ⟨_, e⟩
  obtain ⟨a2, rfl⟩ : ∃ a, A2 = some a := by obtain ⟨b, o, e, _⟩ := h.vals (by omega); exact ⟨_, e⟩
  obtain ⟨q, hq⟩ : ∃ q, i + 1 = q := ⟨_, rfl⟩
  have hk1 := h.keys.take i
  have hk2 := h.keys.drop hc1.le q
  have hv1 := h.vals.take i
  have hv2 := h.vals.drop hc2.le q
  have pk1 := hc1.take (q := i) (by omega)
  have pk2 := hc1.drop (q := q) (by omega)
  have pv1 := hc2.take (q := i) (by omega)
  have pv2 := hc2.drop (q := q) (by omega)
  unfold off8 at hk2 hv2 pk2 pv2
  simp only at hk2 hv2 pk2 pv2
  have l1 := hc1.le
  have l2 := hc2.le
  have m1 := hc1.cm
  have m2 := hc2.cm
  unfold maxLen at m1 m2
  have hw0 : ∀ X, Turn (fun _ => False) w X → No X (some a1) c1 (some a2) c2 A3 c3 n := fun X hX => h.turn hX
  clear h hf hk hc1 hc2 hst hw0
  obtain ⟨leaf, KL, VL, ZL⟩ := n
  simp only [nv8] at *
  subst hlf
  have HEK : Hid ([] ++ KL.take i ++ KL.drop q = chg8 KL i 1 []) := Lib.hid (by unfold chg8; simp [hq])
  have HEV : Hid ([] ++ VL.take i ++ VL.drop q = chg8 VL i 1 []) := Lib.hid (by unfold chg8; simp [hq])
  have HKL : Hid ((chg8 KL i 1 []).length = KL.length - 1) := Lib.hid (by rw [len_chg (by omega)]; simp)
  have HVL : Hid ((chg8 VL i 1 []).length = VL.length - 1) := Lib.hid (by rw [len_chg (by omega)]; simp)
  have HM1 : Hid ((KL.take i).length = i) := Lib.hid (by simp; omega)
  have HM2 : Hid ((KL.drop q).length = KL.length - q) := Lib.hid (by simp)
  have HM3 : Hid ((VL.take i).length = i) := Lib.hid (by simp; omega)
  have HM4 : Hid ((VL.drop q).length = VL.length - q) := Lib.hid (by simp)
  have HG1 : Hid (([] : List ByteArray).length + (KL.take i).length ≤ 100000) := Lib.hid (by simp; omega)
  have HG2 : Hid (([] ++ KL.take i).length + (KL.drop q).length ≤ 100000) := Lib.hid (by simp; omega)
  have HG3 : Hid (([] : List ByteArray).length + (VL.take i).length ≤ 100000) := Lib.hid (by simp; omega)
  have HG4 : Hid (([] ++ VL.take i).length + (VL.drop q).length ≤ 100000) := Lib.hid (by simp; omega)
  generalize hKS : chg8 KL i 1 [] = KS at *
  generalize hVS : chg8 VL i 1 [] = VS at *
  obtain ⟨lk, hlk⟩ : ∃ k, KS.length = k := ⟨_, rfl⟩
  obtain ⟨lv, hlv⟩ : ∃ k, VS.length = k := ⟨_, rfl⟩
  have HLK := Lib.hid hlk
  have HLV := Lib.hid hlv
  have HN1 : Hid (([] ++ KL.take i).length = i) := Lib.hid (by rw [List.nil_append]; exact HM1.out)
  have HN2 : Hid (([] ++ KL.take i ++ KL.drop q).length = lk) := Lib.hid (by rw [HEK.out]; exact hlk)
  have HN3 : Hid (([] ++ VL.take i).length = i) := Lib.hid (by rw [List.nil_append]; exact HM3.out)
  have HN4 : Hid (([] ++ VL.take i ++ VL.drop q).length = lv) := Lib.hid (by rw [HEV.out]; exact hlv)
  clear hlk hlv hKS hVS HKL HVL
  have T0 := Lib.hid (((Turn.refl (fun _ => False) w).alloc (.cells #[.bool true, .slice (some a1) KL.length c1, .slice (some a2) VL.length c2, .slice A3 ZL.length c3] 26)).alloc (.cells #[.bool false, .slice none 0 0, .slice none 0 0, .slice none 0 0] 26))
  have B0 := Lib.hid (box_two w [.bool true, .slice (some a1) KL.length c1, .slice (some a2) VL.length c2, .slice A3 ZL.length c3] [.bool false, .slice none 0 0, .slice none 0 0, .slice none 0 0]).1
  have R0 := Lib.hid (box_two w [.bool true, .slice (some a1) KL.length c1, .slice (some a2) VL.length c2, .slice A3 ZL.length c3] [.bool false, .slice none 0 0, .slice none 0 0, .slice none 0 0]).2
  generalize KL.length = nk at *
  generalize VL.length = nv at *
  generalize ZL.length = nd at *
  have hqq : (i : Int) + 1 = (q : Int) := by omega
  have z1 : (0 : Int) ≤ (i : Int) := by omega
  have z2 : (i : Int) ≤ (c1 : Int) := by omega
  have z3 : (i : Int) ≤ (c2 : Int) := by omega
  have z4 : (0 : Int) ≤ (q : Int) := by omega
  have z5 : (q : Int) ≤ (nk : Int) := by omega
  have z6 : (q : Int) ≤ (nv : Int) := by omega
  have z7 := wrap_of (q : Int) (by omega) (by omega)
  have z8 : (nk : Int) ≤ (c1 : Int) := by omega
  have z9 : (nv : Int) ≤ (c2 : Int) := by omega
  clear hq hvl
  go_enter Try.func19, Try.ntmps19
  go_wp2_with fail
  refine (HF.out _ T0.out).mono ?_
  rintro e w1 ⟨rfl, ht1⟩
  have T1 := Lib.hid (T0.out.trans ht1)
  have B1 := Lib.hid (B0.out.turn ht1 (fun h => h))
  have R1 := Lib.hid (R0.out.turn ht1 (fun h => h))
  have HK1 := Lib.hid (hk1.turn T1.out)
  have HK2 := Lib.hid (hk2.turn T1.out)
  have HV1 := Lib.hid (hv1.turn T1.out)
  have HV2 := Lib.hid (hv2.turn T1.out)
  have PK1 := Lib.hid pk1
  have PK2 := Lib.hid pk2
  have PV1 := Lib.hid pv1
  have PV2 := Lib.hid pv2
  have hgz : w.heap.size + 1 < w1.heap.size := R1.out.lt
  clear ht1 T0 R0 B0 hk1 hk2 hv1 hv2 pk1 pk2 pv1 pv2
  go_wp2_with fail
  refine wp_region_noPanic ?_
  refine wp_region_held_drew (S := fun X => Turn (fun k => k = w.heap.size + 1) w1 X) (by kernel_rfl) ((Turn.refl (fun k => k = w.heap.size + 1) w1).drew) (fun hHeld => ?_)
  refine wpAnyH_named (fun X0 hX0 => ?_)
  clear hHeld
  have T0 : Hid (Turn (fun _ => False) w1 X0) := Lib.hid (by rw [hX0]; exact (Turn.refl (fun _ => False) w1).drew)
  have hH0 := T0.out.mono (T := (fun k => k = w.heap.size + 1)) (fun _ _ h => h.elim)
  clear hX0
  have B0_4 := Lib.hid ((R1.out).turn T0.out (fun h => h))
  refine wpAnyH_take (i := 1) (v := ?_) rfl (by kernel_rfl) (by kernel_rfl) (by kernel_rfl) (fun _ _ _ h => h) (Or.inl ⟨by rfl, ?_⟩) (by assumption) ?_
  rotate_left 1
  · intro w' hSw
    go_simp
    all_goals first | with_reducible rfl | (rw [if_neg (by omega)]; done) | (rw [if_pos (by omega)]; done) | (rw [if_neg (by omega)]; with_reducible rfl) | (rw [if_pos (by omega)]; with_reducible rfl)
  try simp only [List.getElem_toArray, List.getElem_cons_zero, List.getElem_cons_succ, Act.put, List.setIfInBounds_toArray, List.set_cons_zero, List.set_cons_succ]
  refine wpAnyH_take (i := 2) (v := ?_) rfl (by kernel_rfl) (by kernel_rfl) (by kernel_rfl) (fun _ _ _ h => h) (Or.inl ⟨by rfl, ?_⟩) (by assumption) ?_
  rotate_left 1
  · intro w' hSw
    have x1 : w'.cell? ⟨w.heap.size, 1, none⟩ = some (.slice (some a1) nk c1) := (B1.out.turn hSw (by omega)).cell 1
    go_simp
    all_goals first | with_reducible rfl | (rw [if_neg (by omega)]; done) | (rw [if_pos (by omega)]; done) | (rw [if_neg (by omega)]; with_reducible rfl) | (rw [if_pos (by omega)]; with_reducible rfl)
  try simp only [List.getElem_toArray, List.getElem_cons_zero, List.getElem_cons_succ, Act.put, List.setIfInBounds_toArray, List.set_cons_zero, List.set_cons_succ]
  refine wpAnyH_take (i := 3) (v := ?_) rfl (by kernel_rfl) (by kernel_rfl) (by kernel_rfl) (fun _ _ _ h => h) (Or.inl ⟨by rfl, ?_⟩) (by assumption) ?_
  rotate_left 1
  · intro w' hSw
    go_simp
    all_goals first | with_reducible rfl | (rw [if_neg (by omega)]; done) | (rw [if_pos (by omega)]; done) | (rw [if_neg (by omega)]; with_reducible rfl) | (rw [if_pos (by omega)]; with_reducible rfl)
  try simp only [List.getElem_toArray, List.getElem_cons_zero, List.getElem_cons_succ, Act.put, List.setIfInBounds_toArray, List.set_cons_zero, List.set_cons_succ]
  refine wpAnyH_take (i := 4) (v := ?_) rfl (by kernel_rfl) (by kernel_rfl) (by kernel_rfl) (fun _ _ _ h => h) (Or.inl ⟨by rfl, ?_⟩) (by assumption) ?_
  rotate_left 1
  · intro w' hSw
    go_simp
    all_goals first | with_reducible rfl | (rw [if_neg (by omega)]; done) | (rw [if_pos (by omega)]; done) | (rw [if_neg (by omega)]; with_reducible rfl) | (rw [if_pos (by omega)]; with_reducible rfl)
  try simp only [List.getElem_toArray, List.getElem_cons_zero, List.getElem_cons_succ, Act.put, List.setIfInBounds_toArray, List.set_cons_zero, List.set_cons_succ]
  refine wpAnyH_take (i := 6) (v := ?_) rfl (by kernel_rfl) (by kernel_rfl) (by kernel_rfl) (fun _ _ _ h => h) (Or.inl ⟨by rfl, ?_⟩) (by assumption) ?_
  rotate_left 1
  · intro w' hSw
    go_simp
    all_goals first | with_reducible rfl | (rw [if_neg (by omega)]; done) | (rw [if_pos (by omega)]; done) | (rw [if_neg (by omega)]; with_reducible rfl) | (rw [if_pos (by omega)]; with_reducible rfl)
  try simp only [List.getElem_toArray, List.getElem_cons_zero, List.getElem_cons_succ, Act.put, List.setIfInBounds_toArray, List.set_cons_zero, List.set_cons_succ]
  refine wpAnyH_take (i := 7) (v := ?_) rfl (by kernel_rfl) (by kernel_rfl) (by kernel_rfl) (fun _ _ _ h => h) (Or.inl ⟨by rfl, ?_⟩) (by assumption) ?_
  rotate_left 1
  · intro w' hSw
    have x1 : w'.cell? ⟨w.heap.size, 1, none⟩ = some (.slice (some a1) nk c1) := (B1.out.turn hSw (by omega)).cell 1
    go_simp
    all_goals first | with_reducible rfl | (rw [if_neg (by omega)]; done) | (rw [if_pos (by omega)]; done) | (rw [if_neg (by omega)]; with_reducible rfl) | (rw [if_pos (by omega)]; with_reducible rfl)
  try simp only [List.getElem_toArray, List.getElem_cons_zero, List.getElem_cons_succ, Act.put, List.setIfInBounds_toArray, List.set_cons_zero, List.set_cons_succ]
  refine wpAnyH_take (i := 8) (v := ?_) rfl (by kernel_rfl) (by kernel_rfl) (by kernel_rfl) (fun _ _ _ h => h) (Or.inl ⟨by rfl, ?_⟩) (by assumption) ?_
  rotate_left 1
  · intro w' hSw
    go_simp
    all_goals first | with_reducible rfl | (rw [if_neg (by omega)]; done) | (rw [if_pos (by omega)]; done) | (rw [if_neg (by omega)]; with_reducible rfl) | (rw [if_pos (by omega)]; with_reducible rfl)
  try simp only [List.getElem_toArray, List.getElem_cons_zero, List.getElem_cons_succ, Act.put, List.setIfInBounds_toArray, List.set_cons_zero, List.set_cons_succ]
  refine wpAnyH_take (i := 9) (v := ?_) rfl (by kernel_rfl) (by kernel_rfl) (by kernel_rfl) (fun _ _ _ h => h) (Or.inl ⟨by rfl, ?_⟩) (by assumption) ?_
  rotate_left 1
  · intro w' hSw
    go_simp
    all_goals first | with_reducible rfl | (rw [if_neg (by omega)]; done) | (rw [if_pos (by omega)]; done) | (rw [if_neg (by omega)]; with_reducible rfl) | (rw [if_pos (by omega)]; with_reducible rfl)
  try simp only [List.getElem_toArray, List.getElem_cons_zero, List.getElem_cons_succ, Act.put, List.setIfInBounds_toArray, List.set_cons_zero, List.set_cons_succ]
  refine wpAnyH_take (i := 10) (v := ?_) rfl (by kernel_rfl) (by kernel_rfl) (by kernel_rfl) (fun _ _ _ h => h) (Or.inl ⟨by rfl, ?_⟩) (by assumption) ?_
  rotate_left 1
  · intro w' hSw
    go_simp
    all_goals first | with_reducible rfl | (rw [if_neg (by omega)]; done) | (rw [if_pos (by omega)]; done) | (rw [if_neg (by omega)]; with_reducible rfl) | (rw [if_pos (by omega)]; with_reducible rfl)
  try simp only [List.getElem_toArray, List.getElem_cons_zero, List.getElem_cons_succ, Act.put, List.setIfInBounds_toArray, List.set_cons_zero, List.set_cons_succ]
  refine wpAnyH_take (i := 13) (v := ?_) rfl (by kernel_rfl) (by kernel_rfl) (by kernel_rfl) (fun _ _ _ h => h) (Or.inl ⟨by rfl, ?_⟩) (by assumption) ?_
  rotate_left 1
  · intro w' hSw
    go_simp
    all_goals first | with_reducible rfl | (rw [if_neg (by omega)]; done) | (rw [if_pos (by omega)]; done) | (rw [if_neg (by omega)]; with_reducible rfl) | (rw [if_pos (by omega)]; with_reducible rfl)
  try simp only [List.getElem_toArray, List.getElem_cons_zero, List.getElem_cons_succ, Act.put, List.setIfInBounds_toArray, List.set_cons_zero, List.set_cons_succ]
  refine wpAnyH_take (i := 14) (v := ?_) rfl (by kernel_rfl) (by kernel_rfl) (by kernel_rfl) (fun _ _ _ h => h) (Or.inl ⟨by rfl, ?_⟩) (by assumption) ?_
  rotate_left 1
  · intro w' hSw
    have x2 : w'.cell? ⟨w.heap.size, 2, none⟩ = some (.slice (some a2) nv c2) := (B1.out.turn hSw (by omega)).cell 2
    go_simp
    all_goals first | with_reducible rfl | (rw [if_neg (by omega)]; done) | (rw [if_pos (by omega)]; done) | (rw [if_neg (by omega)]; with_reducible rfl) | (rw [if_pos (by omega)]; with_reducible rfl)
  try simp only [List.getElem_toArray, List.getElem_cons_zero, List.getElem_cons_succ, Act.put, List.setIfInBounds_toArray, List.set_cons_zero, List.set_cons_succ]
  refine wpAnyH_take (i := 15) (v := ?_) rfl (by kernel_rfl) (by kernel_rfl) (by kernel_rfl) (fun _ _ _ h => h) (Or.inl ⟨by rfl, ?_⟩) (by assumption) ?_
  rotate_left 1
  · intro w' hSw
    go_simp
    all_goals first | with_reducible rfl | (rw [if_neg (by omega)]; done) | (rw [if_pos (by omega)]; done) | (rw [if_neg (by omega)]; with_reducible rfl) | (rw [if_pos (by omega)]; with_reducible rfl)
  try simp only [List.getElem_toArray, List.getElem_cons_zero, List.getElem_cons_succ, Act.put, List.setIfInBounds_toArray, List.set_cons_zero, List.set_cons_succ]
  refine wpAnyH_take (i := 16) (v := ?_) rfl (by kernel_rfl) (by kernel_rfl) (by kernel_rfl) (fun _ _ _ h => h) (Or.inl ⟨by rfl, ?_⟩) (by assumption) ?_
  rotate_left 1
  · intro w' hSw
    go_simp
    all_goals first | with_reducible rfl | (rw [if_neg (by omega)]; done) | (rw [if_pos (by omega)]; done) | (rw [if_neg (by omega)]; with_reducible rfl) | (rw [if_pos (by omega)]; with_reducible rfl)
  try simp only [List.getElem_toArray, List.getElem_cons_zero, List.getElem_cons_succ, Act.put, List.setIfInBounds_toArray, List.set_cons_zero, List.set_cons_succ]
  refine wpAnyH_take (i := 18) (v := ?_) rfl (by kernel_rfl) (by kernel_rfl) (by kernel_rfl) (fun _ _ _ h => h) (Or.inl ⟨by rfl, ?_⟩) (by assumption) ?_
  rotate_left 1
  · intro w' hSw
    go_simp
    all_goals first | with_reducible rfl | (rw [if_neg (by omega)]; done) | (rw [if_pos (by omega)]; done) | (rw [if_neg (by omega)]; with_reducible rfl) | (rw [if_pos (by omega)]; with_reducible rfl)
  try simp only [List.getElem_toArray, List.getElem_cons_zero, List.getElem_cons_succ, Act.put, List.setIfInBounds_toArray, List.set_cons_zero, List.set_cons_succ]
  refine wpAnyH_take (i := 19) (v := ?_) rfl (by kernel_rfl) (by kernel_rfl) (by kernel_rfl) (fun _ _ _ h => h) (Or.inl ⟨by rfl, ?_⟩) (by assumption) ?_
  rotate_left 1
  · intro w' hSw
    have x2 : w'.cell? ⟨w.heap.size, 2, none⟩ = some (.slice (some a2) nv c2) := (B1.out.turn hSw (by omega)).cell 2
    go_simp
    all_goals first | with_reducible rfl | (rw [if_neg (by omega)]; done) | (rw [if_pos (by omega)]; done) | (rw [if_neg (by omega)]; with_reducible rfl) | (rw [if_pos (by omega)]; with_reducible rfl)
  try simp only [List.getElem_toArray, List.getElem_cons_zero, List.getElem_cons_succ, Act.put, List.setIfInBounds_toArray, List.set_cons_zero, List.set_cons_succ]
  refine wpAnyH_take (i := 20) (v := ?_) rfl (by kernel_rfl) (by kernel_rfl) (by kernel_rfl) (fun _ _ _ h => h) (Or.inl ⟨by rfl, ?_⟩) (by assumption) ?_
  rotate_left 1
  · intro w' hSw
    go_simp
    all_goals first | with_reducible rfl | (rw [if_neg (by omega)]; done) | (rw [if_pos (by omega)]; done) | (rw [if_neg (by omega)]; with_reducible rfl) | (rw [if_pos (by omega)]; with_reducible rfl)
  try simp only [List.getElem_toArray, List.getElem_cons_zero, List.getElem_cons_succ, Act.put, List.setIfInBounds_toArray, List.set_cons_zero, List.set_cons_succ]
  refine wpAnyH_take (i := 21) (v := ?_) rfl (by kernel_rfl) (by kernel_rfl) (by kernel_rfl) (fun _ _ _ h => h) (Or.inl ⟨by rfl, ?_⟩) (by assumption) ?_
  rotate_left 1
  · intro w' hSw
    go_simp
    all_goals first | with_reducible rfl | (rw [if_neg (by omega)]; done) | (rw [if_pos (by omega)]; done) | (rw [if_neg (by omega)]; with_reducible rfl) | (rw [if_pos (by omega)]; with_reducible rfl)
  try simp only [List.getElem_toArray, List.getElem_cons_zero, List.getElem_cons_succ, Act.put, List.setIfInBounds_toArray, List.set_cons_zero, List.set_cons_succ]
  refine wpAnyH_take (i := 22) (v := ?_) rfl (by kernel_rfl) (by kernel_rfl) (by kernel_rfl) (fun _ _ _ h => h) (Or.inl ⟨by rfl, ?_⟩) (by assumption) ?_
  rotate_left 1
  · intro w' hSw
    go_simp
    all_goals first | with_reducible rfl | (rw [if_neg (by omega)]; done) | (rw [if_pos (by omega)]; done) | (rw [if_neg (by omega)]; with_reducible rfl) | (rw [if_pos (by omega)]; with_reducible rfl)
  try simp only [List.getElem_toArray, List.getElem_cons_zero, List.getElem_cons_succ, Act.put, List.setIfInBounds_toArray, List.set_cons_zero, List.set_cons_succ]
  refine wpAnyH_ready (rs := [0, 12]) (by kernel_rfl) (by simp) ?_
  refine AllReadyH.cons rfl (fun K hK => ?_) (AllReadyH.cons rfl (fun K hK => ?_) AllReadyH.nil)
  · go_simp
    refine hK.out _ _ ((T0.out.alloc _).mono (T := (fun k => k = w.heap.size + 1)) (fun _ _ h => h.elim)) (fun hHeld => ?_)
    clear hK K
    try simp only [List.getElem_toArray, List.getElem_cons_zero, List.getElem_cons_succ, Act.put, List.setIfInBounds_toArray, List.set_cons_zero, List.set_cons_succ]
    refine wpAnyH_named (fun X1 e => ?_)
    clear hHeld
    have T1 := Lib.hid (T0.out.al e)
    have hH1 := T1.out.mono (T := (fun k => k = w.heap.size + 1)) (fun _ _ h => h.elim)
    have hz1 := size_al e
    have hy1 := T0.out.size
    have B1_4 := Lib.hid (B0_4.out.al e)
    have hm1_4 := B0_4.out.lt
    have R1_17 := Lib.hid (Ro.empS e)
    clear T0 hH0 B0_4 e
    refine wpAnyH_ready (rs := [5, 12]) (by kernel_rfl) (by simp) ?_
    refine AllReadyH.cons rfl (fun K hK => ?_) (AllReadyH.cons rfl (fun K hK => ?_) AllReadyH.nil)
    · refine step_app_strsR rfl _ _ rfl (.slice (some ⟨X0.heap.size, 0, none⟩) 0 0) [] (KL.take i) X0.heap.size (some a1) i c1 i (HM1.out) (HN1.out) rfl rfl R1_17.out (HK1.out.turn T1.out) PK1.out HG1.out ?_
      intro g_2 c_2 X2 hg hr hc ht
      have hw : w1.heap.size ≤ X0.heap.size := by omega
      have T2 := Lib.hid (T1.out.trans_new (S := fun _ => False) ht (fun k hk e => by omega))
      have hH2 := T2.out.mono (T := (fun k => k = w.heap.size + 1)) (fun _ _ h => h.elim)
      have hz2 := ht.size
      have hp := R1_17.out.lt
      have hy2 := T1.out.size
      have hv2 : w1.heap.size ≤ g_2 := by omega
      have hm2_4 := B1_4.out.lt
      have B2_4 := Lib.hid (B1_4.out.turn ht (by omega))
      have hr2_4 : ¬ (w.heap.size + 1) = g_2 := by omega
      have R2_22 := Lib.hid hr
      have P2_22 := Lib.hid hc
      clear T1 hH1 R1_17 B1_4 hr hc ht hg hp hw
      refine hK.out _ _ hH2 (fun hHeld => ?_)
      clear hK K hHeld
      try simp only [List.getElem_toArray, List.getElem_cons_zero, List.getElem_cons_succ, Act.put, List.setIfInBounds_toArray, List.set_cons_zero, List.set_cons_succ]
      refine wpAnyH_ready (rs := [11, 12]) (by kernel_rfl) (by simp) ?_
      refine AllReadyH.cons rfl (fun K hK => ?_) (AllReadyH.cons rfl (fun K hK => ?_) AllReadyH.nil)
      · refine step_app_strsR rfl _ _ rfl (.slice (some ⟨g_2, 0, none⟩) i c_2) ([] ++ (KL.take i)) (KL.drop q) g_2 (if c1 = q then some a1 else some (a1.add q)) (nk - q) (c1 - q) lk (HM2.out) (HN2.out) rfl rfl R2_22.out (HK2.out.turn T2.out) PK2.out HG2.out ?_
        intro g_3 c_3 X3 hg hr hc ht
        have hw : w1.heap.size ≤ g_2 := by omega
        have T3 := Lib.hid (T2.out.trans_new (S := fun _ => False) ht (fun k hk e => by omega))
        have hH3 := T3.out.mono (T := (fun k => k = w.heap.size + 1)) (fun _ _ h => h.elim)
        have hz3 := ht.size
        have hp := R2_22.out.lt
        have hy3 := T2.out.size
        have hv3 : w1.heap.size ≤ g_3 := by omega
        have hm3_4 := B2_4.out.lt
        have B3_4 := Lib.hid (B2_4.out.turn ht (by omega))
        have hr3_4 : ¬ (w.heap.size + 1) = g_3 := by omega
        have R3_28 := Lib.hid hr
        have P3_28 := Lib.hid hc
        clear T2 hH2 R2_22 B2_4 hr hc ht hg hp hw
        refine hK.out _ _ hH3 (fun hHeld => ?_)
        clear hK K hHeld
        try simp only [List.getElem_toArray, List.getElem_cons_zero, List.getElem_cons_succ, Act.put, List.setIfInBounds_toArray, List.set_cons_zero, List.set_cons_succ]
        refine wpAnyH_ready (rs := [12]) (by kernel_rfl) (by simp) ?_
        refine AllReadyH.cons rfl (fun K hK => ?_) AllReadyH.nil
        go_simp
        refine hK.out _ _ ((T3.out.alloc _).mono (T := (fun k => k = w.heap.size + 1)) (fun _ _ h => h.elim)) (fun hHeld => ?_)
        clear hK K
        try simp only [List.getElem_toArray, List.getElem_cons_zero, List.getElem_cons_succ, Act.put, List.setIfInBounds_toArray, List.set_cons_zero, List.set_cons_succ]
        refine wpAnyH_named (fun X4 e => ?_)
        clear hHeld
        have T4 := Lib.hid (T3.out.al e)
        have hH4 := T4.out.mono (T := (fun k => k = w.heap.size + 1)) (fun _ _ h => h.elim)
        have hz4 := size_al e
        have hy4 := T3.out.size
        have R4_28 := Lib.hid (R3_28.out.al e)
        have B4_4 := Lib.hid (B3_4.out.al e)
        have hl4_28 := R3_28.out.lt
        have hm4_4 := B3_4.out.lt
        have R4_29 := Lib.hid (Ro.empS e)
        clear T3 hH3 R3_28 B3_4 e
        refine wpAnyH_ready (rs := [17]) (by kernel_rfl) (by simp) ?_
        refine AllReadyH.cons rfl (fun K hK => ?_) AllReadyH.nil
        refine step_app_strsR rfl _ _ rfl (.slice (some ⟨X3.heap.size, 0, none⟩) 0 0) [] (VL.take i) X3.heap.size (some a2) i c2 i (HM3.out) (HN3.out) rfl rfl R4_29.out (HV1.out.turn T4.out) PV1.out HG3.out ?_
        intro g_5 c_5 X5 hg hr hc ht
        have hw : w1.heap.size ≤ X3.heap.size := by omega
        have T5 := Lib.hid (T4.out.trans_new (S := fun _ => False) ht (fun k hk e => by omega))
        have hH5 := T5.out.mono (T := (fun k => k = w.heap.size + 1)) (fun _ _ h => h.elim)
        have hz5 := ht.size
        have hp := R4_29.out.lt
        have hy5 := T4.out.size
        have hv5 : w1.heap.size ≤ g_5 := by omega
        have hl5_28 := R4_28.out.lt
        have hm5_4 := B4_4.out.lt
        have R5_28 := Lib.hid (R4_28.out.turn ht (by omega))
        have B5_4 := Lib.hid (B4_4.out.turn ht (by omega))
        have hq5_28 : ¬ g_3 = g_5 := by omega
        have hr5_4 : ¬ (w.heap.size + 1) = g_5 := by omega
        have R5_34 := Lib.hid hr
        have P5_34 := Lib.hid hc
        clear T4 hH4 R4_28 R4_29 B4_4 hr hc ht hg hp hw
        refine hK.out _ _ hH5 (fun hHeld => ?_)
        clear hK K hHeld
        try simp only [List.getElem_toArray, List.getElem_cons_zero, List.getElem_cons_succ, Act.put, List.setIfInBounds_toArray, List.set_cons_zero, List.set_cons_succ]
        refine wpAnyH_ready (rs := [23]) (by kernel_rfl) (by simp) ?_
        refine AllReadyH.cons rfl (fun K hK => ?_) AllReadyH.nil
        refine step_app_strsR rfl _ _ rfl (.slice (some ⟨g_5, 0, none⟩) i c_5) ([] ++ (VL.take i)) (VL.drop q) g_5 (if c2 = q then some a2 else some (a2.add q)) (nv - q) (c2 - q) lv (HM4.out) (HN4.out) rfl rfl R5_34.out (HV2.out.turn T5.out) PV2.out HG4.out ?_
        intro g_6 c_6 X6 hg hr hc ht
        have hw : w1.heap.size ≤ g_5 := by omega
        have T6 := Lib.hid (T5.out.trans_new (S := fun _ => False) ht (fun k hk e => by omega))
        have hH6 := T6.out.mono (T := (fun k => k = w.heap.size + 1)) (fun _ _ h => h.elim)
        have hz6 := ht.size
        have hp := R5_34.out.lt
        have hy6 := T5.out.size
        have hv6 : w1.heap.size ≤ g_6 := by omega
        have hl6_28 := R5_28.out.lt
        have hm6_4 := B5_4.out.lt
        have R6_28 := Lib.hid (R5_28.out.turn ht (by omega))
        have B6_4 := Lib.hid (B5_4.out.turn ht (by omega))
        have hq6_28 : ¬ g_3 = g_6 := by omega
        have hr6_4 : ¬ (w.heap.size + 1) = g_6 := by omega
        have R6_40 := Lib.hid hr
        have P6_40 := Lib.hid hc
        clear T5 hH5 R5_28 R5_34 B5_4 hr hc ht hg hp hw
        refine hK.out _ _ hH6 (fun hHeld => ?_)
        clear hK K hHeld
        try simp only [List.getElem_toArray, List.getElem_cons_zero, List.getElem_cons_succ, Act.put, List.setIfInBounds_toArray, List.set_cons_zero, List.set_cons_succ]
        refine wpAnyH_take (i := 24) (v := ?_) rfl (by kernel_rfl) (by kernel_rfl) (by kernel_rfl) (fun _ _ _ h => h) (Or.inl ⟨by rfl, ?_⟩) (by assumption) ?_
        rotate_left 1
        · intro w' hSw
          go_simp
          all_goals first | with_reducible rfl | (rw [if_neg (by omega)]; done) | (rw [if_pos (by omega)]; done) | (rw [if_neg (by omega)]; with_reducible rfl) | (rw [if_pos (by omega)]; with_reducible rfl)
        try simp only [List.getElem_toArray, List.getElem_cons_zero, List.getElem_cons_succ, Act.put, List.setIfInBounds_toArray, List.set_cons_zero, List.set_cons_succ]
        refine wpAnyH_ready (rs := [25]) (by kernel_rfl) (by simp) ?_
        refine AllReadyH.cons rfl (fun K hK => ?_) AllReadyH.nil
        have r0 := B6_4.out.cell 0
        have f0 := B6_4.out.free 0
        have r1 := B6_4.out.cell 1
        have f1 := B6_4.out.free 1
        have r2 := B6_4.out.cell 2
        have f2 := B6_4.out.free 2
        have r3 := B6_4.out.cell 3
        have f3 := B6_4.out.free 3
        simp only [List.getElem?_cons_zero, List.getElem?_cons_succ] at r0 r1 r2 r3
        obtain ⟨hb, hs⟩ := put4 B6_4.out (.bool true) (.slice (some ⟨g_3, 0, none⟩) lk c_3) (.slice (some ⟨g_6, 0, none⟩) lv c_6) (.slice none 0 0)
        have hx := T6.out.size
        have hS := (T6.out.mono (T := (fun k => k = w.heap.size + 1)) (fun _ _ h => h.elim)).trans_new (S := (fun k => k = w.heap.size + 1)) hs (fun k hk e => by omega)
        go_simp
        refine hK.out _ _ hS (fun hHeld => ?_)
        clear hK K
        try simp only [List.getElem_toArray, List.getElem_cons_zero, List.getElem_cons_succ, Act.put, List.setIfInBounds_toArray, List.set_cons_zero, List.set_cons_succ]
        refine wpAnyH_named (fun X7 e => ?_)
        clear hHeld
        have T7 := Lib.hid (e ▸ hS)
        have hH7 := T7.out
        have B7_4 := Lib.hid (e ▸ hb)
        rw [← e] at hs
        have R7_28 := Lib.hid (R6_28.out.turn hs (by omega))
        have R7_40 := Lib.hid (R6_40.out.turn hs (by omega))
        clear T6 hH6 R6_28 R6_40 B6_4 r0 f0 r1 f1 r2 f2 r3 f3 hS hb hs e
        refine wpAnyH_take (i := 26) (v := ?_) rfl (by kernel_rfl) (by kernel_rfl) (by kernel_rfl) (fun _ _ _ h => h) (Or.inl ⟨by rfl, ?_⟩) (by assumption) ?_
        rotate_left 1
        · intro w' hSw
          go_simp
          all_goals first | with_reducible rfl | (rw [if_neg (by omega)]; done) | (rw [if_pos (by omega)]; done) | (rw [if_neg (by omega)]; with_reducible rfl) | (rw [if_pos (by omega)]; with_reducible rfl)
        try simp only [List.getElem_toArray, List.getElem_cons_zero, List.getElem_cons_succ, Act.put, List.setIfInBounds_toArray, List.set_cons_zero, List.set_cons_succ]
        refine wpAnyH_done (by kernel_rfl) ?_ _
        refine NoPanic.normal ?_
        all_goals go_wp2_with fail
        all_goals have e0 := B7_4.out.cell 0
        all_goals have e1 := B7_4.out.cell 1
        all_goals have e2 := B7_4.out.cell 2
        all_goals have e3 := B7_4.out.cell 3
        all_goals simp only [List.getElem?_cons_zero, List.getElem?_cons_succ] at e0 e1 e2 e3
        all_goals have hsr1 := fun X (hX : Turn (fun k => k < w.heap.size) X7 X) => (R7_28.out.turn hX (by omega)).sr
        all_goals have hsr2 := fun X (hX : Turn (fun k => k < w.heap.size) X7 X) => (R7_40.out.turn hX (by omega)).sr
        all_goals have htt := T1.out.trans_new T7.out (fun k hk e => by omega)
        all_goals exact bodyPost_ret (v := .tuple #[.agg #[.bool true, (.slice (some ⟨g_3, 0, none⟩) lk c_3), (.slice (some ⟨g_6, 0, none⟩) lv c_6), .slice none 0 0], .bool true]) (by simp [results, Try.results19, go_sem, e0, e1, e2, e3]) rfl ⟨_, rfl, ⟨some ⟨g_3, 0, none⟩, c_3, some ⟨g_6, 0, none⟩, c_6, none, 0, by rw [HD.out]; simp only [nv8]; rw [HLK.out, HLV.out]; rfl, by rw [HD.out]; rw [HEK.out] at hsr1; rw [HEV.out] at hsr2; exact fun X hX => ⟨hsr1 X hX, hsr2 X hX, nr_nil _ _⟩, by rw [HD.out]; show Cp _ KS.length _ ∧ Cp _ VS.length _ ∧ Cp none 0 0; rw [HLK.out, HLV.out]; exact ⟨P3_28.out, P6_40.out, ⟨Nat.le_refl _, by unfold maxLen; decide, fun _ => rfl⟩⟩⟩, htt⟩
      · go_simp
        refine hK.out _ _ ((T2.out.alloc _).mono (T := (fun k => k = w.heap.size + 1)) (fun _ _ h => h.elim)) (fun hHeld => ?_)
        clear hK K
        try simp only [List.getElem_toArray, List.getElem_cons_zero, List.getElem_cons_succ, Act.put, List.setIfInBounds_toArray, List.set_cons_zero, List.set_cons_succ]
        refine wpAnyH_named (fun X3 e => ?_)
        clear hHeld
        have T3 := Lib.hid (T2.out.al e)
        have hH3 := T3.out.mono (T := (fun k => k = w.heap.size + 1)) (fun _ _ h => h.elim)
        have hz3 := size_al e
        have hy3 := T2.out.size
        have R3_22 := Lib.hid (R2_22.out.al e)
        have B3_4 := Lib.hid (B2_4.out.al e)
        have hl3_22 := R2_22.out.lt
        have hm3_4 := B2_4.out.lt
        have R3_29 := Lib.hid (Ro.empS e)
        clear T2 hH2 R2_22 B2_4 e
        refine wpAnyH_ready (rs := [11]) (by kernel_rfl) (by simp) ?_
        refine AllReadyH.cons rfl (fun K hK => ?_) AllReadyH.nil
        refine step_app_strsR rfl _ _ rfl (.slice (some ⟨g_2, 0, none⟩) i c_2) ([] ++ (KL.take i)) (KL.drop q) g_2 (if c1 = q then some a1 else some (a1.add q)) (nk - q) (c1 - q) lk (HM2.out) (HN2.out) rfl rfl R3_22.out (HK2.out.turn T3.out) PK2.out HG2.out ?_
        intro g_4 c_4 X4 hg hr hc ht
        have hw : w1.heap.size ≤ g_2 := by omega
        have T4 := Lib.hid (T3.out.trans_new (S := fun _ => False) ht (fun k hk e => by omega))
        have hH4 := T4.out.mono (T := (fun k => k = w.heap.size + 1)) (fun _ _ h => h.elim)
        have hz4 := ht.size
        have hp := R3_22.out.lt
        have hy4 := T3.out.size
        have hv4 : w1.heap.size ≤ g_4 := by omega
        have hl4_29 := R3_29.out.lt
        have hm4_4 := B3_4.out.lt
        have R4_29 := Lib.hid (R3_29.out.turn ht (by omega))
        have B4_4 := Lib.hid (B3_4.out.turn ht (by omega))
        have hq4_29 : ¬ X2.heap.size = g_4 := by omega
        have hr4_4 : ¬ (w.heap.size + 1) = g_4 := by omega
        have R4_28 := Lib.hid hr
        have P4_28 := Lib.hid hc
        clear T3 hH3 R3_22 R3_29 B3_4 hr hc ht hg hp hw
        refine hK.out _ _ hH4 (fun hHeld => ?_)
        clear hK K hHeld
        try simp only [List.getElem_toArray, List.getElem_cons_zero, List.getElem_cons_succ, Act.put, List.setIfInBounds_toArray, List.set_cons_zero, List.set_cons_succ]
        refine wpAnyH_ready (rs := [17]) (by kernel_rfl) (by simp) ?_
        refine AllReadyH.cons rfl (fun K hK => ?_) AllReadyH.nil
        refine step_app_strsR rfl _ _ rfl (.slice (some ⟨X2.heap.size, 0, none⟩) 0 0) [] (VL.take i) X2.heap.size (some a2) i c2 i (HM3.out) (HN3.out) rfl rfl R4_29.out (HV1.out.turn T4.out) PV1.out HG3.out ?_
        intro g_5 c_5 X5 hg hr hc ht
        have hw : w1.heap.size ≤ X2.heap.size := by omega
        have T5 := Lib.hid (T4.out.trans_new (S := fun _ => False) ht (fun k hk e => by omega))
        have hH5 := T5.out.mono (T := (fun k => k = w.heap.size + 1)) (fun _ _ h => h.elim)
        have hz5 := ht.size
        have hp := R4_29.out.lt
        have hy5 := T4.out.size
        have hv5 : w1.heap.size ≤ g_5 := by omega
        have hl5_28 := R4_28.out.lt
        have hm5_4 := B4_4.out.lt
        have R5_28 := Lib.hid (R4_28.out.turn ht (by omega))
        have B5_4 := Lib.hid (B4_4.out.turn ht (by omega))
        have hq5_28 : ¬ g_4 = g_5 := by omega
        have hr5_4 : ¬ (w.heap.size + 1) = g_5 := by omega
        have R5_34 := Lib.hid hr
        have P5_34 := Lib.hid hc
        clear T4 hH4 R4_29 R4_28 B4_4 hr hc ht hg hp hw
        refine hK.out _ _ hH5 (fun hHeld => ?_)
        clear hK K hHeld
        try simp only [List.getElem_toArray, List.getElem_cons_zero, List.getElem_cons_succ, Act.put, List.setIfInBounds_toArray, List.set_cons_zero, List.set_cons_succ]
        refine wpAnyH_ready (rs := [23]) (by kernel_rfl) (by simp) ?_
        refine AllReadyH.cons rfl (fun K hK => ?_) AllReadyH.nil
        refine step_app_strsR rfl _ _ rfl (.slice (some ⟨g_5, 0, none⟩) i c_5) ([] ++ (VL.take i)) (VL.drop q) g_5 (if c2 = q then some a2 else some (a2.add q)) (nv - q) (c2 - q) lv (HM4.out) (HN4.out) rfl rfl R5_34.out (HV2.out.turn T5.out) PV2.out HG4.out ?_
        intro g_6 c_6 X6 hg hr hc ht
        have hw : w1.heap.size ≤ g_5 := by omega
        have T6 := Lib.hid (T5.out.trans_new (S := fun _ => False) ht (fun k hk e => by omega))
        have hH6 := T6.out.mono (T := (fun k => k = w.heap.size + 1)) (fun _ _ h => h.elim)
        have hz6 := ht.size
        have hp := R5_34.out.lt
        have hy6 := T5.out.size
        have hv6 : w1.heap.size ≤ g_6 := by omega
        have hl6_28 := R5_28.out.lt
        have hm6_4 := B5_4.out.lt
        have R6_28 := Lib.hid (R5_28.out.turn ht (by omega))
        have B6_4 := Lib.hid (B5_4.out.turn ht (by omega))
        have hq6_28 : ¬ g_4 = g_6 := by omega
        have hr6_4 : ¬ (w.heap.size + 1) = g_6 := by omega
        have R6_40 := Lib.hid hr
        have P6_40 := Lib.hid hc
        clear T5 hH5 R5_28 R5_34 B5_4 hr hc ht hg hp hw
        refine hK.out _ _ hH6 (fun hHeld => ?_)
        clear hK K hHeld
        try simp only [List.getElem_toArray, List.getElem_cons_zero, List.getElem_cons_succ, Act.put, List.setIfInBounds_toArray, List.set_cons_zero, List.set_cons_succ]
        refine wpAnyH_take (i := 24) (v := ?_) rfl (by kernel_rfl) (by kernel_rfl) (by kernel_rfl) (fun _ _ _ h => h) (Or.inl ⟨by rfl, ?_⟩) (by assumption) ?_
        rotate_left 1
        · intro w' hSw
          go_simp
          all_goals first | with_reducible rfl | (rw [if_neg (by omega)]; done) | (rw [if_pos (by omega)]; done) | (rw [if_neg (by omega)]; with_reducible rfl) | (rw [if_pos (by omega)]; with_reducible rfl)
        try simp only [List.getElem_toArray, List.getElem_cons_zero, List.getElem_cons_succ, Act.put, List.setIfInBounds_toArray, List.set_cons_zero, List.set_cons_succ]
        refine wpAnyH_ready (rs := [25]) (by kernel_rfl) (by simp) ?_
        refine AllReadyH.cons rfl (fun K hK => ?_) AllReadyH.nil
        have r0 := B6_4.out.cell 0
        have f0 := B6_4.out.free 0
        have r1 := B6_4.out.cell 1
        have f1 := B6_4.out.free 1
        have r2 := B6_4.out.cell 2
        have f2 := B6_4.out.free 2
        have r3 := B6_4.out.cell 3
        have f3 := B6_4.out.free 3
        simp only [List.getElem?_cons_zero, List.getElem?_cons_succ] at r0 r1 r2 r3
        obtain ⟨hb, hs⟩ := put4 B6_4.out (.bool true) (.slice (some ⟨g_4, 0, none⟩) lk c_4) (.slice (some ⟨g_6, 0, none⟩) lv c_6) (.slice none 0 0)
        have hx := T6.out.size
        have hS := (T6.out.mono (T := (fun k => k = w.heap.size + 1)) (fun _ _ h => h.elim)).trans_new (S := (fun k => k = w.heap.size + 1)) hs (fun k hk e => by omega)
        go_simp
        refine hK.out _ _ hS (fun hHeld => ?_)
        clear hK K
        try simp only [List.getElem_toArray, List.getElem_cons_zero, List.getElem_cons_succ, Act.put, List.setIfInBounds_toArray, List.set_cons_zero, List.set_cons_succ]
        refine wpAnyH_named (fun X7 e => ?_)
        clear hHeld
        have T7 := Lib.hid (e ▸ hS)
        have hH7 := T7.out
        have B7_4 := Lib.hid (e ▸ hb)
        rw [← e] at hs
        have R7_28 := Lib.hid (R6_28.out.turn hs (by omega))
        have R7_40 := Lib.hid (R6_40.out.turn hs (by omega))
        clear T6 hH6 R6_28 R6_40 B6_4 r0 f0 r1 f1 r2 f2 r3 f3 hS hb hs e
        refine wpAnyH_take (i := 26) (v := ?_) rfl (by kernel_rfl) (by kernel_rfl) (by kernel_rfl) (fun _ _ _ h => h) (Or.inl ⟨by rfl, ?_⟩) (by assumption) ?_
        rotate_left 1
        · intro w' hSw
          go_simp
          all_goals first | with_reducible rfl | (rw [if_neg (by omega)]; done) | (rw [if_pos (by omega)]; done) | (rw [if_neg (by omega)]; with_reducible rfl) | (rw [if_pos (by omega)]; with_reducible rfl)
        try simp only [List.getElem_toArray, List.getElem_cons_zero, List.getElem_cons_succ, Act.put, List.setIfInBounds_toArray, List.set_cons_zero, List.set_cons_succ]
        refine wpAnyH_done (by kernel_rfl) ?_ _
        refine NoPanic.normal ?_
        all_goals go_wp2_with fail
        all_goals have e0 := B7_4.out.cell 0
        all_goals have e1 := B7_4.out.cell 1
        all_goals have e2 := B7_4.out.cell 2
        all_goals have e3 := B7_4.out.cell 3
        all_goals simp only [List.getElem?_cons_zero, List.getElem?_cons_succ] at e0 e1 e2 e3
        all_goals have hsr1 := fun X (hX : Turn (fun k => k < w.heap.size) X7 X) => (R7_28.out.turn hX (by omega)).sr
        all_goals have hsr2 := fun X (hX : Turn (fun k => k < w.heap.size) X7 X) => (R7_40.out.turn hX (by omega)).sr
        all_goals have htt := T1.out.trans_new T7.out (fun k hk e => by omega)
        all_goals exact bodyPost_ret (v := .tuple #[.agg #[.bool true, (.slice (some ⟨g_4, 0, none⟩) lk c_4), (.slice (some ⟨g_6, 0, none⟩) lv c_6), .slice none 0 0], .bool true]) (by simp [results, Try.results19, go_sem, e0, e1, e2, e3]) rfl ⟨_, rfl, ⟨some ⟨g_4, 0, none⟩, c_4, some ⟨g_6, 0, none⟩, c_6, none, 0, by rw [HD.out]; simp only [nv8]; rw [HLK.out, HLV.out]; rfl, by rw [HD.out]; rw [HEK.out] at hsr1; rw [HEV.out] at hsr2; exact fun X hX => ⟨hsr1 X hX, hsr2 X hX, nr_nil _ _⟩, by rw [HD.out]; show Cp _ KS.length _ ∧ Cp _ VS.length _ ∧ Cp none 0 0; rw [HLK.out, HLV.out]; exact ⟨P4_28.out, P6_40.out, ⟨Nat.le_refl _, by unfold maxLen; decide, fun _ => rfl⟩⟩⟩, htt⟩
    · go_simp
      refine hK.out _ _ ((T1.out.alloc _).mono (T := (fun k => k = w.heap.size + 1)) (fun _ _ h => h.elim)) (fun hHeld => ?_)
      clear hK K
      try simp only [List.getElem_toArray, List.getElem_cons_zero, List.getElem_cons_succ, Act.put, List.setIfInBounds_toArray, List.set_cons_zero, List.set_cons_succ]
      refine wpAnyH_named (fun X2 e => ?_)
      clear hHeld
      have T2 := Lib.hid (T1.out.al e)
      have hH2 := T2.out.mono (T := (fun k => k = w.heap.size + 1)) (fun _ _ h => h.elim)
      have hz2 := size_al e
      have hy2 := T1.out.size
      have R2_17 := Lib.hid (R1_17.out.al e)
      have B2_4 := Lib.hid (B1_4.out.al e)
      have hl2_17 := R1_17.out.lt
      have hm2_4 := B1_4.out.lt
      have R2_29 := Lib.hid (Ro.empS e)
      clear T1 hH1 R1_17 B1_4 e
      refine wpAnyH_ready (rs := [5]) (by kernel_rfl) (by simp) ?_
      refine AllReadyH.cons rfl (fun K hK => ?_) AllReadyH.nil
      refine step_app_strsR rfl _ _ rfl (.slice (some ⟨X0.heap.size, 0, none⟩) 0 0) [] (KL.take i) X0.heap.size (some a1) i c1 i (HM1.out) (HN1.out) rfl rfl R2_17.out (HK1.out.turn T2.out) PK1.out HG1.out ?_
      intro g_3 c_3 X3 hg hr hc ht
      have hw : w1.heap.size ≤ X0.heap.size := by omega
      have T3 := Lib.hid (T2.out.trans_new (S := fun _ => False) ht (fun k hk e => by omega))
      have hH3 := T3.out.mono (T := (fun k => k = w.heap.size + 1)) (fun _ _ h => h.elim)
      have hz3 := ht.size
      have hp := R2_17.out.lt
      have hy3 := T2.out.size
      have hv3 : w1.heap.size ≤ g_3 := by omega
      have hl3_29 := R2_29.out.lt
      have hm3_4 := B2_4.out.lt
      have R3_29 := Lib.hid (R2_29.out.turn ht (by omega))
      have B3_4 := Lib.hid (B2_4.out.turn ht (by omega))
      have hq3_29 : ¬ X1.heap.size = g_3 := by omega
      have hr3_4 : ¬ (w.heap.size + 1) = g_3 := by omega
      have R3_22 := Lib.hid hr
      have P3_22 := Lib.hid hc
      clear T2 hH2 R2_17 R2_29 B2_4 hr hc ht hg hp hw
      refine hK.out _ _ hH3 (fun hHeld => ?_)
      clear hK K hHeld
      try simp only [List.getElem_toArray, List.getElem_cons_zero, List.getElem_cons_succ, Act.put, List.setIfInBounds_toArray, List.set_cons_zero, List.set_cons_succ]
      refine wpAnyH_ready (rs := [11]) (by kernel_rfl) (by simp) ?_
      refine AllReadyH.cons rfl (fun K hK => ?_) AllReadyH.nil
      refine step_app_strsR rfl _ _ rfl (.slice (some ⟨g_3, 0, none⟩) i c_3) ([] ++ (KL.take i)) (KL.drop q) g_3 (if c1 = q then some a1 else some (a1.add q)) (nk - q) (c1 - q) lk (HM2.out) (HN2.out) rfl rfl R3_22.out (HK2.out.turn T3.out) PK2.out HG2.out ?_
      intro g_4 c_4 X4 hg hr hc ht
      have hw : w1.heap.size ≤ g_3 := by omega
      have T4 := Lib.hid (T3.out.trans_new (S := fun _ => False) ht (fun k hk e => by omega))
      have hH4 := T4.out.mono (T := (fun k => k = w.heap.size + 1)) (fun _ _ h => h.elim)
      have hz4 := ht.size
      have hp := R3_22.out.lt
      have hy4 := T3.out.size
      have hv4 : w1.heap.size ≤ g_4 := by omega
      have hl4_29 := R3_29.out.lt
      have hm4_4 := B3_4.out.lt
      have R4_29 := Lib.hid (R3_29.out.turn ht (by omega))
      have B4_4 := Lib.hid (B3_4.out.turn ht (by omega))
      have hq4_29 : ¬ X1.heap.size = g_4 := by omega
      have hr4_4 : ¬ (w.heap.size + 1) = g_4 := by omega
      have R4_28 := Lib.hid hr
      have P4_28 := Lib.hid hc
      clear T3 hH3 R3_29 R3_22 B3_4 hr hc ht hg hp hw
      refine hK.out _ _ hH4 (fun hHeld => ?_)
      clear hK K hHeld
      try simp only [List.getElem_toArray, List.getElem_cons_zero, List.getElem_cons_succ, Act.put, List.setIfInBounds_toArray, List.set_cons_zero, List.set_cons_succ]
      refine wpAnyH_ready (rs := [17]) (by kernel_rfl) (by simp) ?_
      refine AllReadyH.cons rfl (fun K hK => ?_) AllReadyH.nil
      refine step_app_strsR rfl _ _ rfl (.slice (some ⟨X1.heap.size, 0, none⟩) 0 0) [] (VL.take i) X1.heap.size (some a2) i c2 i (HM3.out) (HN3.out) rfl rfl R4_29.out (HV1.out.turn T4.out) PV1.out HG3.out ?_
      intro g_5 c_5 X5 hg hr hc ht
      have hw : w1.heap.size ≤ X1.heap.size := by omega
      have T5 := Lib.hid (T4.out.trans_new (S := fun _ => False) ht (fun k hk e => by omega))
      have hH5 := T5.out.mono (T := (fun k => k = w.heap.size + 1)) (fun _ _ h => h.elim)
      have hz5 := ht.size
      have hp := R4_29.out.lt
      have hy5 := T4.out.size
      have hv5 : w1.heap.size ≤ g_5 := by omega
      have hl5_28 := R4_28.out.lt
      have hm5_4 := B4_4.out.lt
      have R5_28 := Lib.hid (R4_28.out.turn ht (by omega))
      have B5_4 := Lib.hid (B4_4.out.turn ht (by omega))
      have hq5_28 : ¬ g_4 = g_5 := by omega
      have hr5_4 : ¬ (w.heap.size + 1) = g_5 := by omega
      have R5_34 := Lib.hid hr
      have P5_34 := Lib.hid hc
      clear T4 hH4 R4_29 R4_28 B4_4 hr hc ht hg hp hw
      refine hK.out _ _ hH5 (fun hHeld => ?_)
      clear hK K hHeld
      try simp only [List.getElem_toArray, List.getElem_cons_zero, List.getElem_cons_succ, Act.put, List.setIfInBounds_toArray, List.set_cons_zero, List.set_cons_succ]
      refine wpAnyH_ready (rs := [23]) (by kernel_rfl) (by simp) ?_
      refine AllReadyH.cons rfl (fun K hK => ?_) AllReadyH.nil
      refine step_app_strsR rfl _ _ rfl (.slice (some ⟨g_5, 0, none⟩) i c_5) ([] ++ (VL.take i)) (VL.drop q) g_5 (if c2 = q then some a2 else some (a2.add q)) (nv - q) (c2 - q) lv (HM4.out) (HN4.out) rfl rfl R5_34.out (HV2.out.turn T5.out) PV2.out HG4.out ?_
      intro g_6 c_6 X6 hg hr hc ht
      have hw : w1.heap.size ≤ g_5 := by omega
      have T6 := Lib.hid (T5.out.trans_new (S := fun _ => False) ht (fun k hk e => by omega))
      have hH6 := T6.out.mono (T := (fun k => k = w.heap.size + 1)) (fun _ _ h => h.elim)
      have hz6 := ht.size
      have hp := R5_34.out.lt
      have hy6 := T5.out.size
      have hv6 : w1.heap.size ≤ g_6 := by omega
      have hl6_28 := R5_28.out.lt
      have hm6_4 := B5_4.out.lt
      have R6_28 := Lib.hid (R5_28.out.turn ht (by omega))
      have B6_4 := Lib.hid (B5_4.out.turn ht (by omega))
      have hq6_28 : ¬ g_4 = g_6 := by omega
      have hr6_4 : ¬ (w.heap.size + 1) = g_6 := by omega
      have R6_40 := Lib.hid hr
      have P6_40 := Lib.hid hc
      clear T5 hH5 R5_28 R5_34 B5_4 hr hc ht hg hp hw
      refine hK.out _ _ hH6 (fun hHeld => ?_)
      clear hK K hHeld
      try simp only [List.getElem_toArray, List.getElem_cons_zero, List.getElem_cons_succ, Act.put, List.setIfInBounds_toArray, List.set_cons_zero, List.set_cons_succ]
      refine wpAnyH_take (i := 24) (v := ?_) rfl (by kernel_rfl) (by kernel_rfl) (by kernel_rfl) (fun _ _ _ h => h) (Or.inl ⟨by rfl, ?_⟩) (by assumption) ?_
      rotate_left 1
      · intro w' hSw
        go_simp
        all_goals first | with_reducible rfl | (rw [if_neg (by omega)]; done) | (rw [if_pos (by omega)]; done) | (rw [if_neg (by omega)]; with_reducible rfl) | (rw [if_pos (by omega)]; with_reducible rfl)
      try simp only [List.getElem_toArray, List.getElem_cons_zero, List.getElem_cons_succ, Act.put, List.setIfInBounds_toArray, List.set_cons_zero, List.set_cons_succ]
      refine wpAnyH_ready (rs := [25]) (by kernel_rfl) (by simp) ?_
      refine AllReadyH.cons rfl (fun K hK => ?_) AllReadyH.nil
      have r0 := B6_4.out.cell 0
      have f0 := B6_4.out.free 0
      have r1 := B6_4.out.cell 1
      have f1 := B6_4.out.free 1
      have r2 := B6_4.out.cell 2
      have f2 := B6_4.out.free 2
      have r3 := B6_4.out.cell 3
      have f3 := B6_4.out.free 3
      simp only [List.getElem?_cons_zero, List.getElem?_cons_succ] at r0 r1 r2 r3
      obtain ⟨hb, hs⟩ := put4 B6_4.out (.bool true) (.slice (some ⟨g_4, 0, none⟩) lk c_4) (.slice (some ⟨g_6, 0, none⟩) lv c_6) (.slice none 0 0)
      have hx := T6.out.size
      have hS := (T6.out.mono (T := (fun k => k = w.heap.size + 1)) (fun _ _ h => h.elim)).trans_new (S := (fun k => k = w.heap.size + 1)) hs (fun k hk e => by omega)
      go_simp
      refine hK.out _ _ hS (fun hHeld => ?_)
      clear hK K
      try simp only [List.getElem_toArray, List.getElem_cons_zero, List.getElem_cons_succ, Act.put, List.setIfInBounds_toArray, List.set_cons_zero, List.set_cons_succ]
      refine wpAnyH_named (fun X7 e => ?_)
      clear hHeld
      have T7 := Lib.hid (e ▸ hS)
      have hH7 := T7.out
      have B7_4 := Lib.hid (e ▸ hb)
      rw [← e] at hs
      have R7_28 := Lib.hid (R6_28.out.turn hs (by omega))
      have R7_40 := Lib.hid (R6_40.out.turn hs (by omega))
      clear T6 hH6 R6_28 R6_40 B6_4 r0 f0 r1 f1 r2 f2 r3 f3 hS hb hs e
      refine wpAnyH_take (i := 26) (v := ?_) rfl (by kernel_rfl) (by kernel_rfl) (by kernel_rfl) (fun _ _ _ h => h) (Or.inl ⟨by rfl, ?_⟩) (by assumption) ?_
      rotate_left 1
      · intro w' hSw
        go_simp
        all_goals first | with_reducible rfl | (rw [if_neg (by omega)]; done) | (rw [if_pos (by omega)]; done) | (rw [if_neg (by omega)]; with_reducible rfl) | (rw [if_pos (by omega)]; with_reducible rfl)
      try simp only [List.getElem_toArray, List.getElem_cons_zero, List.getElem_cons_succ, Act.put, List.setIfInBounds_toArray, List.set_cons_zero, List.set_cons_succ]
      refine wpAnyH_done (by kernel_rfl) ?_ _
      refine NoPanic.normal ?_
      all_goals go_wp2_with fail
      all_goals have e0 := B7_4.out.cell 0
      all_goals have e1 := B7_4.out.cell 1
      all_goals have e2 := B7_4.out.cell 2
      all_goals have e3 := B7_4.out.cell 3
      all_goals simp only [List.getElem?_cons_zero, List.getElem?_cons_succ] at e0 e1 e2 e3
      all_goals have hsr1 := fun X (hX : Turn (fun k => k < w.heap.size) X7 X) => (R7_28.out.turn hX (by omega)).sr
      all_goals have hsr2 := fun X (hX : Turn (fun k => k < w.heap.size) X7 X) => (R7_40.out.turn hX (by omega)).sr
      all_goals have htt := T1.out.trans_new T7.out (fun k hk e => by omega)
      all_goals exact bodyPost_ret (v := .tuple #[.agg #[.bool true, (.slice (some ⟨g_4, 0, none⟩) lk c_4), (.slice (some ⟨g_6, 0, none⟩) lv c_6), .slice none 0 0], .bool true]) (by simp [results, Try.results19, go_sem, e0, e1, e2, e3]) rfl ⟨_, rfl, ⟨some ⟨g_4, 0, none⟩, c_4, some ⟨g_6, 0, none⟩, c_6, none, 0, by rw [HD.out]; simp only [nv8]; rw [HLK.out, HLV.out]; rfl, by rw [HD.out]; rw [HEK.out] at hsr1; rw [HEV.out] at hsr2; exact fun X hX => ⟨hsr1 X hX, hsr2 X hX, nr_nil _ _⟩, by rw [HD.out]; show Cp _ KS.length _ ∧ Cp _ VS.length _ ∧ Cp none 0 0; rw [HLK.out, HLV.out]; exact ⟨P4_28.out, P6_40.out, ⟨Nat.le_refl _, by unfold maxLen; decide, fun _ => rfl⟩⟩⟩, htt⟩
  · go_simp
    refine hK.out _ _ ((T0.out.alloc _).mono (T := (fun k => k = w.heap.size + 1)) (fun _ _ h => h.elim)) (fun hHeld => ?_)
    clear hK K
    try simp only [List.getElem_toArray, List.getElem_cons_zero, List.getElem_cons_succ, Act.put, List.setIfInBounds_toArray, List.set_cons_zero, List.set_cons_succ]
    refine wpAnyH_named (fun X1 e => ?_)
    clear hHeld
    have T1 := Lib.hid (T0.out.al e)
    have hH1 := T1.out.mono (T := (fun k => k = w.heap.size + 1)) (fun _ _ h => h.elim)
    have hz1 := size_al e
    have hy1 := T0.out.size
    have B1_4 := Lib.hid (B0_4.out.al e)
    have hm1_4 := B0_4.out.lt
    have R1_29 := Lib.hid (Ro.empS e)
    clear T0 hH0 B0_4 e
    refine wpAnyH_ready (rs := [0]) (by kernel_rfl) (by simp) ?_
    refine AllReadyH.cons rfl (fun K hK => ?_) AllReadyH.nil
    go_simp
    refine hK.out _ _ ((T1.out.alloc _).mono (T := (fun k => k = w.heap.size + 1)) (fun _ _ h => h.elim)) (fun hHeld => ?_)
    clear hK K
    try simp only [List.getElem_toArray, List.getElem_cons_zero, List.getElem_cons_succ, Act.put, List.setIfInBounds_toArray, List.set_cons_zero, List.set_cons_succ]
    refine wpAnyH_named (fun X2 e => ?_)
    clear hHeld
    have T2 := Lib.hid (T1.out.al e)
    have hH2 := T2.out.mono (T := (fun k => k = w.heap.size + 1)) (fun _ _ h => h.elim)
    have hz2 := size_al e
    have hy2 := T1.out.size
    have R2_29 := Lib.hid (R1_29.out.al e)
    have B2_4 := Lib.hid (B1_4.out.al e)
    have hl2_29 := R1_29.out.lt
    have hm2_4 := B1_4.out.lt
    have R2_17 := Lib.hid (Ro.empS e)
    clear T1 hH1 R1_29 B1_4 e
    refine wpAnyH_ready (rs := [5]) (by kernel_rfl) (by simp) ?_
    refine AllReadyH.cons rfl (fun K hK => ?_) AllReadyH.nil
    refine step_app_strsR rfl _ _ rfl (.slice (some ⟨X1.heap.size, 0, none⟩) 0 0) [] (KL.take i) X1.heap.size (some a1) i c1 i (HM1.out) (HN1.out) rfl rfl R2_17.out (HK1.out.turn T2.out) PK1.out HG1.out ?_
    intro g_3 c_3 X3 hg hr hc ht
    have hw : w1.heap.size ≤ X1.heap.size := by omega
    have T3 := Lib.hid (T2.out.trans_new (S := fun _ => False) ht (fun k hk e => by omega))
    have hH3 := T3.out.mono (T := (fun k => k = w.heap.size + 1)) (fun _ _ h => h.elim)
    have hz3 := ht.size
    have hp := R2_17.out.lt
    have hy3 := T2.out.size
    have hv3 : w1.heap.size ≤ g_3 := by omega
    have hl3_29 := R2_29.out.lt
    have hm3_4 := B2_4.out.lt
    have R3_29 := Lib.hid (R2_29.out.turn ht (by omega))
    have B3_4 := Lib.hid (B2_4.out.turn ht (by omega))
    have hq3_29 : ¬ X0.heap.size = g_3 := by omega
    have hr3_4 : ¬ (w.heap.size + 1) = g_3 := by omega
    have R3_22 := Lib.hid hr
    have P3_22 := Lib.hid hc
    clear T2 hH2 R2_29 R2_17 B2_4 hr hc ht hg hp hw
    refine hK.out _ _ hH3 (fun hHeld => ?_)
    clear hK K hHeld
    try simp only [List.getElem_toArray, List.getElem_cons_zero, List.getElem_cons_succ, Act.put, List.setIfInBounds_toArray, List.set_cons_zero, List.set_cons_succ]
    refine wpAnyH_ready (rs := [11]) (by kernel_rfl) (by simp) ?_
    refine AllReadyH.cons rfl (fun K hK => ?_) AllReadyH.nil
    refine step_app_strsR rfl _ _ rfl (.slice (some ⟨g_3, 0, none⟩) i c_3) ([] ++ (KL.take i)) (KL.drop q) g_3 (if c1 = q then some a1 else some (a1.add q)) (nk - q) (c1 - q) lk (HM2.out) (HN2.out) rfl rfl R3_22.out (HK2.out.turn T3.out) PK2.out HG2.out ?_
    intro g_4 c_4 X4 hg hr hc ht
    have hw : w1.heap.size ≤ g_3 := by omega
    have T4 := Lib.hid (T3.out.trans_new (S := fun _ => False) ht (fun k hk e => by omega))
    have hH4 := T4.out.mono (T := (fun k => k = w.heap.size + 1)) (fun _ _ h => h.elim)
    have hz4 := ht.size
    have hp := R3_22.out.lt
    have hy4 := T3.out.size
    have hv4 : w1.heap.size ≤ g_4 := by omega
    have hl4_29 := R3_29.out.lt
    have hm4_4 := B3_4.out.lt
    have R4_29 := Lib.hid (R3_29.out.turn ht (by omega))
    have B4_4 := Lib.hid (B3_4.out.turn ht (by omega))
    have hq4_29 : ¬ X0.heap.size = g_4 := by omega
    have hr4_4 : ¬ (w.heap.size + 1) = g_4 := by omega
    have R4_28 := Lib.hid hr
    have P4_28 := Lib.hid hc
    clear T3 hH3 R3_29 R3_22 B3_4 hr hc ht hg hp hw
    refine hK.out _ _ hH4 (fun hHeld => ?_)
    clear hK K hHeld
    try simp only [List.getElem_toArray, List.getElem_cons_zero, List.getElem_cons_succ, Act.put, List.setIfInBounds_toArray, List.set_cons_zero, List.set_cons_succ]
    refine wpAnyH_ready (rs := [17]) (by kernel_rfl) (by simp) ?_
    refine AllReadyH.cons rfl (fun K hK => ?_) AllReadyH.nil
    refine step_app_strsR rfl _ _ rfl (.slice (some ⟨X0.heap.size, 0, none⟩) 0 0) [] (VL.take i) X0.heap.size (some a2) i c2 i (HM3.out) (HN3.out) rfl rfl R4_29.out (HV1.out.turn T4.out) PV1.out HG3.out ?_
    intro g_5 c_5 X5 hg hr hc ht
    have hw : w1.heap.size ≤ X0.heap.size := by omega
    have T5 := Lib.hid (T4.out.trans_new (S := fun _ => False) ht (fun k hk e => by omega))
    have hH5 := T5.out.mono (T := (fun k => k = w.heap.size + 1)) (fun _ _ h => h.elim)
    have hz5 := ht.size
    have hp := R4_29.out.lt
    have hy5 := T4.out.size
    have hv5 : w1.heap.size ≤ g_5 := by omega
    have hl5_28 := R4_28.out.lt
    have hm5_4 := B4_4.out.lt
    have R5_28 := Lib.hid (R4_28.out.turn ht (by omega))
    have B5_4 := Lib.hid (B4_4.out.turn ht (by omega))
    have hq5_28 : ¬ g_4 = g_5 := by omega
    have hr5_4 : ¬ (w.heap.size + 1) = g_5 := by omega
    have R5_34 := Lib.hid hr
    have P5_34 := Lib.hid hc
    clear T4 hH4 R4_29 R4_28 B4_4 hr hc ht hg hp hw
    refine hK.out _ _ hH5 (fun hHeld => ?_)
    clear hK K hHeld
    try simp only [List.getElem_toArray, List.getElem_cons_zero, List.getElem_cons_succ, Act.put, List.setIfInBounds_toArray, List.set_cons_zero, List.set_cons_succ]
    refine wpAnyH_ready (rs := [23]) (by kernel_rfl) (by simp) ?_
    refine AllReadyH.cons rfl (fun K hK => ?_) AllReadyH.nil
    refine step_app_strsR rfl _ _ rfl (.slice (some ⟨g_5, 0, none⟩) i c_5) ([] ++ (VL.take i)) (VL.drop q) g_5 (if c2 = q then some a2 else some (a2.add q)) (nv - q) (c2 - q) lv (HM4.out) (HN4.out) rfl rfl R5_34.out (HV2.out.turn T5.out) PV2.out HG4.out ?_
    intro g_6 c_6 X6 hg hr hc ht
    have hw : w1.heap.size ≤ g_5 := by omega
    have T6 := Lib.hid (T5.out.trans_new (S := fun _ => False) ht (fun k hk e => by omega))
    have hH6 := T6.out.mono (T := (fun k => k = w.heap.size + 1)) (fun _ _ h => h.elim)
    have hz6 := ht.size
    have hp := R5_34.out.lt
    have hy6 := T5.out.size
    have hv6 : w1.heap.size ≤ g_6 := by omega
    have hl6_28 := R5_28.out.lt
    have hm6_4 := B5_4.out.lt
    have R6_28 := Lib.hid (R5_28.out.turn ht (by omega))
    have B6_4 := Lib.hid (B5_4.out.turn ht (by omega))
    have hq6_28 : ¬ g_4 = g_6 := by omega
    have hr6_4 : ¬ (w.heap.size + 1) = g_6 := by omega
    have R6_40 := Lib.hid hr
    have P6_40 := Lib.hid hc
    clear T5 hH5 R5_28 R5_34 B5_4 hr hc ht hg hp hw
    refine hK.out _ _ hH6 (fun hHeld => ?_)
    clear hK K hHeld
    try simp only [List.getElem_toArray, List.getElem_cons_zero, List.getElem_cons_succ, Act.put, List.setIfInBounds_toArray, List.set_cons_zero, List.set_cons_succ]
    refine wpAnyH_take (i := 24) (v := ?_) rfl (by kernel_rfl) (by kernel_rfl) (by kernel_rfl) (fun _ _ _ h => h) (Or.inl ⟨by rfl, ?_⟩) (by assumption) ?_
    rotate_left 1
    · intro w' hSw
      go_simp
      all_goals first | with_reducible rfl | (rw [if_neg (by omega)]; done) | (rw [if_pos (by omega)]; done) | (rw [if_neg (by omega)]; with_reducible rfl) | (rw [if_pos (by omega)]; with_reducible rfl)
    try simp only [List.getElem_toArray, List.getElem_cons_zero, List.getElem_cons_succ, Act.put, List.setIfInBounds_toArray, List.set_cons_zero, List.set_cons_succ]
    refine wpAnyH_ready (rs := [25]) (by kernel_rfl) (by simp) ?_
    refine AllReadyH.cons rfl (fun K hK => ?_) AllReadyH.nil
    have r0 := B6_4.out.cell 0
    have f0 := B6_4.out.free 0
    have r1 := B6_4.out.cell 1
    have f1 := B6_4.out.free 1
    have r2 := B6_4.out.cell 2
    have f2 := B6_4.out.free 2
    have r3 := B6_4.out.cell 3
    have f3 := B6_4.out.free 3
    simp only [List.getElem?_cons_zero, List.getElem?_cons_succ] at r0 r1 r2 r3
    obtain ⟨hb, hs⟩ := put4 B6_4.out (.bool true) (.slice (some ⟨g_4, 0, none⟩) lk c_4) (.slice (some ⟨g_6, 0, none⟩) lv c_6) (.slice none 0 0)
    have hx := T6.out.size
    have hS := (T6.out.mono (T := (fun k => k = w.heap.size + 1)) (fun _ _ h => h.elim)).trans_new (S := (fun k => k = w.heap.size + 1)) hs (fun k hk e => by omega)
    go_simp
    refine hK.out _ _ hS (fun hHeld => ?_)
    clear hK K
    try simp only [List.getElem_toArray, List.getElem_cons_zero, List.getElem_cons_succ, Act.put, List.setIfInBounds_toArray, List.set_cons_zero, List.set_cons_succ]
    refine wpAnyH_named (fun X7 e => ?_)
    clear hHeld
    have T7 := Lib.hid (e ▸ hS)
    have hH7 := T7.out
    have B7_4 := Lib.hid (e ▸ hb)
    rw [← e] at hs
    have R7_28 := Lib.hid (R6_28.out.turn hs (by omega))
    have R7_40 := Lib.hid (R6_40.out.turn hs (by omega))
    clear T6 hH6 R6_28 R6_40 B6_4 r0 f0 r1 f1 r2 f2 r3 f3 hS hb hs e
    refine wpAnyH_take (i := 26) (v := ?_) rfl (by kernel_rfl) (by kernel_rfl) (by kernel_rfl) (fun _ _ _ h => h) (Or.inl ⟨by rfl, ?_⟩) (by assumption) ?_
    rotate_left 1
    · intro w' hSw
      go_simp
      all_goals first | with_reducible rfl | (rw [if_neg (by omega)]; done) | (rw [if_pos (by omega)]; done) | (rw [if_neg (by omega)]; with_reducible rfl) | (rw [if_pos (by omega)]; with_reducible rfl)
    try simp only [List.getElem_toArray, List.getElem_cons_zero, List.getElem_cons_succ, Act.put, List.setIfInBounds_toArray, List.set_cons_zero, List.set_cons_succ]
    refine wpAnyH_done (by kernel_rfl) ?_ _
    refine NoPanic.normal ?_
    all_goals go_wp2_with fail
    all_goals have e0 := B7_4.out.cell 0
    all_goals have e1 := B7_4.out.cell 1
    all_goals have e2 := B7_4.out.cell 2
    all_goals have e3 := B7_4.out.cell 3
    all_goals simp only [List.getElem?_cons_zero, List.getElem?_cons_succ] at e0 e1 e2 e3
    all_goals have hsr1 := fun X (hX : Turn (fun k => k < w.heap.size) X7 X) => (R7_28.out.turn hX (by omega)).sr
    all_goals have hsr2 := fun X (hX : Turn (fun k => k < w.heap.size) X7 X) => (R7_40.out.turn hX (by omega)).sr
    all_goals have htt := T1.out.trans_new T7.out (fun k hk e => by omega)
    all_goals exact bodyPost_ret (v := .tuple #[.agg #[.bool true, (.slice (some ⟨g_4, 0, none⟩) lk c_4), (.slice (some ⟨g_6, 0, none⟩) lv c_6), .slice none 0 0], .bool true]) (by simp [results, Try.results19, go_sem, e0, e1, e2, e3]) rfl ⟨_, rfl, ⟨some ⟨g_4, 0, none⟩, c_4, some ⟨g_6, 0, none⟩, c_6, none, 0, by rw [HD.out]; simp only [nv8]; rw [HLK.out, HLV.out]; rfl, by rw [HD.out]; rw [HEK.out] at hsr1; rw [HEV.out] at hsr2; exact fun X hX => ⟨hsr1 X hX, hsr2 X hX, nr_nil _ _⟩, by rw [HD.out]; show Cp _ KS.length _ ∧ Cp _ VS.length _ ∧ Cp none 0 0; rw [HLK.out, HLV.out]; exact ⟨P4_28.out, P6_40.out, ⟨Nat.le_refl _, by unfold maxLen; decide, fun _ => rfl⟩⟩⟩, htt⟩
end Go.Proofs.Ytpnnbfojdccfhaa
