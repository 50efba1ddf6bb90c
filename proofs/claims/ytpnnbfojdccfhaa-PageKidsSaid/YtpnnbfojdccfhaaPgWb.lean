/- Layer 8: the document's with. -/
import Derived.Test.YtpnnbfojdccfhaaPgZb
namespace Go.Proofs.Ytpnnbfojdccfhaa
open Go.RowKit
set_option linter.unusedVariables false
set_option maxRecDepth 100000

set_option maxHeartbeats 4000000 in
theorem with_any (L : List ByteArray) (A : Option Addr) (c i : Nat) (s : ByteArray) (w : World) (h : Sr w A L) (hcp : Cp A L.length c) (hi : i ≤ L.length) (hl : L.length ≤ 4000) :
    Calls Try.prog 40 #[.slice A L.length c, .int .i64 i, .string s] w fun e w' => ∃ v, e = .returned v ∧ (∃ g c2, v = .slice (some ⟨g, 0, none⟩) (L.length + 1) c2 ∧ Ro w' 9 (.slice (some ⟨g, 0, none⟩) (L.length + 1) c2) ((chg8 L i 0 [s]).map Value.string) g ∧ w.heap.size ≤ g ∧ Cp (some ⟨g, 0, none⟩) (L.length + 1) c2 ∧ Turn (fun _ => False) w w') := by
  have HS1 := Lib.hid (h.take i)
  have HS2 := Lib.hid (h.drop hcp.le i)
  have P1 := Lib.hid (hcp.take hi)
  have P2 := Lib.hid (hcp.drop hi)
  have HLK : Hid ([] ++ L.take i ++ [s] ++ L.drop i = chg8 L i 0 [s]) := Lib.hid (by unfold chg8; simp)
  have hcl := hcp.le
  have hcm := hcp.cm
  unfold maxLen at hcm
  have hnil := hcp.nil
  obtain ⟨n, hn⟩ : ∃ n, L.length = n := ⟨_, rfl⟩
  have HN1 : Hid (([] ++ L.take i).length = i) := Lib.hid (by simp; omega)
  have HN2 : Hid (([] ++ L.take i ++ [s]).length = i + 1) := Lib.hid (by simp; omega)
  have HN3 : Hid (([] ++ L.take i ++ [s] ++ L.drop i).length = n + 1) := Lib.hid (by simp; omega)
  have HM1 : Hid ((L.take i).length = i) := Lib.hid (by simp; omega)
  have HM2 : Hid ((L.drop i).length = n - i) := Lib.hid (by simp; omega)
  have HG1 : Hid (([] : List ByteArray).length + (L.take i).length ≤ 100000) := Lib.hid (by simp; omega)
  have HG2 : Hid (([] ++ L.take i).length + [s].length ≤ 100000) := Lib.hid (by simp; omega)
  have HG3 : Hid (([] ++ L.take i ++ [s]).length + (L.drop i).length ≤ 100000) := Lib.hid (by simp; omega)
  rw [hn] at hi hl hcl P2 ⊢
  clear h hcp hn
  have z1 : (0 : Int) ≤ (i : Int) := by omega
  have z2 : (i : Int) ≤ (c : Int) := by omega
  have z3 : (i : Int) ≤ (n : Int) := by omega
  have z5 : (n : Int) ≤ (c : Int) := by omega
  cases A with
  | none =>
    obtain rfl : c = 0 := hnil rfl
    obtain rfl : n = 0 := by omega
    obtain rfl : i = 0 := by omega
    clear z1 z2 z3 z5 hnil
    go_enter Try.func40, Try.ntmps40
    go_wp2_with fail
    refine wp_region_noPanic ?_
    refine wp_region_held_drew (S := fun X => Turn (fun _ => False) w X) (by kernel_rfl) ((Turn.refl (fun _ => False) w).drew) (fun hHeld => ?_)
    refine wpAnyH_named (fun X0 hX0 => ?_)
    clear hHeld
    have T0 : Hid (Turn (fun _ => False) w X0) := Lib.hid (by rw [hX0]; exact (Turn.refl (fun _ => False) w).drew)
    have hH0 := T0.out
    clear hX0
    refine wpAnyH_take (i := 1) (v := ?_) rfl (by kernel_rfl) (by kernel_rfl) (by kernel_rfl) (fun _ _ _ h => h) (Or.inl ⟨by rfl, ?_⟩) (by assumption) ?_
    rotate_left 1
    · intro w' hSw
      go_simp
      all_goals first | with_reducible rfl | (rw [if_neg (by omega)]; done) | (rw [if_pos (by omega)]; done) | (rw [if_neg (by omega)]; with_reducible rfl) | (rw [if_pos (by omega)]; with_reducible rfl)
    try simp only [List.getElem_toArray, List.getElem_cons_zero, List.getElem_cons_succ, Act.put, List.setIfInBounds_toArray, List.set_cons_zero, List.set_cons_succ]
    refine wpAnyH_take (i := 2) (v := ?_) rfl (by kernel_rfl) (by kernel_rfl) (by kernel_rfl) (fun _ _ _ h => h) (Or.inl ⟨by rfl, ?_⟩) (by assumption) ?_
    rotate_left 1
    · intro w' hSw
      go_simp
      all_goals first | with_reducible rfl | (rw [if_neg (by omega)]; done) | (rw [if_pos (by omega)]; done) | (rw [if_neg (by omega)]; with_reducible rfl) | (rw [if_pos (by omega)]; with_reducible rfl)
    try simp only [List.getElem_toArray, List.getElem_cons_zero, List.getElem_cons_succ, Act.put, List.setIfInBounds_toArray, List.set_cons_zero, List.set_cons_succ]
    refine wpAnyH_take (i := 3) (v := ?_) rfl (by kernel_rfl) (by kernel_rfl) (by kernel_rfl) (fun _ _ _ h => h) (Or.inl ⟨by rfl, ?_⟩) (by assumption) ?_
    rotate_left 1
    · intro w' hSw
      go_simp
      all_goals first | with_reducible rfl | (rw [if_neg (by omega)]; done) | (rw [if_pos (by omega)]; done) | (rw [if_neg (by omega)]; with_reducible rfl) | (rw [if_pos (by omega)]; with_reducible rfl)
    try simp only [List.getElem_toArray, List.getElem_cons_zero, List.getElem_cons_succ, Act.put, List.setIfInBounds_toArray, List.set_cons_zero, List.set_cons_succ]
    refine wpAnyH_take (i := 5) (v := ?_) rfl (by kernel_rfl) (by kernel_rfl) (by kernel_rfl) (fun _ _ _ h => h) (Or.inl ⟨by rfl, ?_⟩) (by assumption) ?_
    rotate_left 1
    · intro w' hSw
      go_simp
      all_goals first | with_reducible rfl | (rw [if_neg (by omega)]; done) | (rw [if_pos (by omega)]; done) | (rw [if_neg (by omega)]; with_reducible rfl) | (rw [if_pos (by omega)]; with_reducible rfl)
    try simp only [List.getElem_toArray, List.getElem_cons_zero, List.getElem_cons_succ, Act.put, List.setIfInBounds_toArray, List.set_cons_zero, List.set_cons_succ]
    refine wpAnyH_take (i := 8) (v := ?_) rfl (by kernel_rfl) (by kernel_rfl) (by kernel_rfl) (fun _ _ _ h => h) (Or.inl ⟨by rfl, ?_⟩) (by assumption) ?_
    rotate_left 1
    · intro w' hSw
      go_simp
      all_goals first | with_reducible rfl | (rw [if_neg (by omega)]; done) | (rw [if_pos (by omega)]; done) | (rw [if_neg (by omega)]; with_reducible rfl) | (rw [if_pos (by omega)]; with_reducible rfl)
    try simp only [List.getElem_toArray, List.getElem_cons_zero, List.getElem_cons_succ, Act.put, List.setIfInBounds_toArray, List.set_cons_zero, List.set_cons_succ]
    refine wpAnyH_take (i := 9) (v := ?_) rfl (by kernel_rfl) (by kernel_rfl) (by kernel_rfl) (fun _ _ _ h => h) (Or.inl ⟨by rfl, ?_⟩) (by assumption) ?_
    rotate_left 1
    · intro w' hSw
      go_simp
      all_goals first | with_reducible rfl | (rw [if_neg (by omega)]; done) | (rw [if_pos (by omega)]; done) | (rw [if_neg (by omega)]; with_reducible rfl) | (rw [if_pos (by omega)]; with_reducible rfl)
    try simp only [List.getElem_toArray, List.getElem_cons_zero, List.getElem_cons_succ, Act.put, List.setIfInBounds_toArray, List.set_cons_zero, List.set_cons_succ]
    refine wpAnyH_take (i := 10) (v := ?_) rfl (by kernel_rfl) (by kernel_rfl) (by kernel_rfl) (fun _ _ _ h => h) (Or.inl ⟨by rfl, ?_⟩) (by assumption) ?_
    rotate_left 1
    · intro w' hSw
      go_simp
      all_goals first | with_reducible rfl | (rw [if_neg (by omega)]; done) | (rw [if_pos (by omega)]; done) | (rw [if_neg (by omega)]; with_reducible rfl) | (rw [if_pos (by omega)]; with_reducible rfl)
    try simp only [List.getElem_toArray, List.getElem_cons_zero, List.getElem_cons_succ, Act.put, List.setIfInBounds_toArray, List.set_cons_zero, List.set_cons_succ]
    refine wpAnyH_ready (rs := [0, 6]) (by kernel_rfl) (by simp) ?_
    refine AllReadyH.cons rfl (fun K hK => ?_) (AllReadyH.cons rfl (fun K hK => ?_) AllReadyH.nil)
    · go_simp
      refine hK.out _ _ ((T0.out.alloc _)) (fun hHeld => ?_)
      clear hK K
      try simp only [List.getElem_toArray, List.getElem_cons_zero, List.getElem_cons_succ, Act.put, List.setIfInBounds_toArray, List.set_cons_zero, List.set_cons_succ]
      refine wpAnyH_named (fun X1 e => ?_)
      clear hHeld
      have T1 := Lib.hid (T0.out.al e)
      have hH1 := T1.out
      have hz1 := size_al e
      have hy1 := T0.out.size
      have R1_7 := Lib.hid (Ro.empS e)
      clear T0 hH0 e
      refine wpAnyH_ready (rs := [4, 6]) (by kernel_rfl) (by simp) ?_
      refine AllReadyH.cons rfl (fun K hK => ?_) (AllReadyH.cons rfl (fun K hK => ?_) AllReadyH.nil)
      · refine step_app_strsR rfl _ _ rfl (.slice (some ⟨X0.heap.size, 0, none⟩) 0 0) [] (L.take 0) X0.heap.size none 0 0 0 (HM1.out) (HN1.out) rfl rfl R1_7.out (HS1.out.turn T1.out) P1.out HG1.out ?_
        intro g_2 c_2 X2 hg hr hc ht
        have hw : w.heap.size ≤ X0.heap.size := by omega
        have T2 := Lib.hid (T1.out.trans_new (S := fun _ => False) ht (fun k hk e => by omega))
        have hH2 := T2.out
        have hz2 := ht.size
        have hp := R1_7.out.lt
        have hy2 := T1.out.size
        have hv2 : w.heap.size ≤ g_2 := by omega
        have R2_11 := Lib.hid hr
        have P2_11 := Lib.hid hc
        clear T1 hH1 R1_7 hr hc ht hg hp hw
        refine hK.out _ _ hH2 (fun hHeld => ?_)
        clear hK K hHeld
        try simp only [List.getElem_toArray, List.getElem_cons_zero, List.getElem_cons_succ, Act.put, List.setIfInBounds_toArray, List.set_cons_zero, List.set_cons_succ]
        refine wpAnyH_ready (rs := [6]) (by kernel_rfl) (by simp) ?_
        refine AllReadyH.cons rfl (fun K hK => ?_) AllReadyH.nil
        go_simp
        refine hK.out _ _ ((T2.out.alloc _)) (fun hHeld => ?_)
        clear hK K
        try simp only [List.getElem_toArray, List.getElem_cons_zero, List.getElem_cons_succ, Act.put, List.setIfInBounds_toArray, List.set_cons_zero, List.set_cons_succ]
        refine wpAnyH_named (fun X3 e => ?_)
        clear hHeld
        have T3 := Lib.hid (T2.out.al e)
        have hH3 := T3.out
        have hz3 := size_al e
        have hy3 := T2.out.size
        have R3_11 := Lib.hid (R2_11.out.al e)
        have hl3_11 := R2_11.out.lt
        have B3_13 := Lib.hid (Blk.nw (cs := [.string s]) e)
        clear T2 hH2 R2_11 e
        refine wpAnyH_ready (rs := [7]) (by kernel_rfl) (by simp) ?_
        refine AllReadyH.cons rfl (fun K hK => ?_) AllReadyH.nil
        refine step_app_strsR rfl _ _ rfl (.slice (some ⟨g_2, 0, none⟩) 0 c_2) ([] ++ (L.take 0)) [s] g_2 (some ⟨X2.heap.size, 0, none⟩) 1 1 (0 + 1) (rfl) (HN2.out) rfl rfl R3_11.out (sr_of_blk (L := [s]) B3_13.out) ⟨Nat.le_refl _, by unfold maxLen; decide, fun h => by cases h⟩ HG2.out ?_
        intro g_4 c_4 X4 hg hr hc ht
        have hw : w.heap.size ≤ g_2 := by omega
        have T4 := Lib.hid (T3.out.trans_new (S := fun _ => False) ht (fun k hk e => by omega))
        have hH4 := T4.out
        have hz4 := ht.size
        have hp := R3_11.out.lt
        have hy4 := T3.out.size
        have hv4 : w.heap.size ≤ g_4 := by omega
        have hm4_13 := B3_13.out.lt
        have B4_13 := Lib.hid (B3_13.out.turn ht (by omega))
        have hr4_13 : ¬ X2.heap.size = g_4 := by omega
        have R4_14 := Lib.hid hr
        have P4_14 := Lib.hid hc
        clear T3 hH3 R3_11 B3_13 hr hc ht hg hp hw
        refine hK.out _ _ hH4 (fun hHeld => ?_)
        clear hK K hHeld
        try simp only [List.getElem_toArray, List.getElem_cons_zero, List.getElem_cons_succ, Act.put, List.setIfInBounds_toArray, List.set_cons_zero, List.set_cons_succ]
        refine wpAnyH_ready (rs := [11]) (by kernel_rfl) (by simp) ?_
        refine AllReadyH.cons rfl (fun K hK => ?_) AllReadyH.nil
        refine step_app_strsR rfl _ _ rfl (.slice (some ⟨g_4, 0, none⟩) (0 + 1) c_4) (([] ++ (L.take 0)) ++ [s]) (L.drop 0) g_4 none (0 - 0) (0 - 0) (0 + 1) (HM2.out) (HN3.out) rfl rfl R4_14.out (HS2.out.turn T4.out) P2.out HG3.out ?_
        intro g_5 c_5 X5 hg hr hc ht
        have hw : w.heap.size ≤ g_4 := by omega
        have T5 := Lib.hid (T4.out.trans_new (S := fun _ => False) ht (fun k hk e => by omega))
        have hH5 := T5.out
        have hz5 := ht.size
        have hp := R4_14.out.lt
        have hy5 := T4.out.size
        have hv5 : w.heap.size ≤ g_5 := by omega
        have hm5_13 := B4_13.out.lt
        have B5_13 := Lib.hid (B4_13.out.turn ht (by omega))
        have hr5_13 : ¬ X2.heap.size = g_5 := by omega
        have R5_18 := Lib.hid hr
        have P5_18 := Lib.hid hc
        clear T4 hH4 R4_14 B4_13 hr hc ht hg hp hw
        refine hK.out _ _ hH5 (fun hHeld => ?_)
        clear hK K hHeld
        try simp only [List.getElem_toArray, List.getElem_cons_zero, List.getElem_cons_succ, Act.put, List.setIfInBounds_toArray, List.set_cons_zero, List.set_cons_succ]
        refine wpAnyH_take (i := 12) (v := ?_) rfl (by kernel_rfl) (by kernel_rfl) (by kernel_rfl) (fun _ _ _ h => h) (Or.inl ⟨by rfl, ?_⟩) (by assumption) ?_
        rotate_left 1
        · intro w' hSw
          go_simp
          all_goals first | with_reducible rfl | (rw [if_neg (by omega)]; done) | (rw [if_pos (by omega)]; done) | (rw [if_neg (by omega)]; with_reducible rfl) | (rw [if_pos (by omega)]; with_reducible rfl)
        try simp only [List.getElem_toArray, List.getElem_cons_zero, List.getElem_cons_succ, Act.put, List.setIfInBounds_toArray, List.set_cons_zero, List.set_cons_succ]
        refine wpAnyH_done (by kernel_rfl) ?_ _
        refine NoPanic.normal ?_
        go_wp2_with fail
        all_goals go_ret
        all_goals exact ⟨_, rfl, g_5, c_5, rfl, by rw [← HLK.out]; exact R5_18.out, by omega, P5_18.out, T5.out⟩
      · go_simp
        refine hK.out _ _ ((T1.out.alloc _)) (fun hHeld => ?_)
        clear hK K
        try simp only [List.getElem_toArray, List.getElem_cons_zero, List.getElem_cons_succ, Act.put, List.setIfInBounds_toArray, List.set_cons_zero, List.set_cons_succ]
        refine wpAnyH_named (fun X2 e => ?_)
        clear hHeld
        have T2 := Lib.hid (T1.out.al e)
        have hH2 := T2.out
        have hz2 := size_al e
        have hy2 := T1.out.size
        have R2_7 := Lib.hid (R1_7.out.al e)
        have hl2_7 := R1_7.out.lt
        have B2_13 := Lib.hid (Blk.nw (cs := [.string s]) e)
        clear T1 hH1 R1_7 e
        refine wpAnyH_ready (rs := [4]) (by kernel_rfl) (by simp) ?_
        refine AllReadyH.cons rfl (fun K hK => ?_) AllReadyH.nil
        refine step_app_strsR rfl _ _ rfl (.slice (some ⟨X0.heap.size, 0, none⟩) 0 0) [] (L.take 0) X0.heap.size none 0 0 0 (HM1.out) (HN1.out) rfl rfl R2_7.out (HS1.out.turn T2.out) P1.out HG1.out ?_
        intro g_3 c_3 X3 hg hr hc ht
        have hw : w.heap.size ≤ X0.heap.size := by omega
        have T3 := Lib.hid (T2.out.trans_new (S := fun _ => False) ht (fun k hk e => by omega))
        have hH3 := T3.out
        have hz3 := ht.size
        have hp := R2_7.out.lt
        have hy3 := T2.out.size
        have hv3 : w.heap.size ≤ g_3 := by omega
        have hm3_13 := B2_13.out.lt
        have B3_13 := Lib.hid (B2_13.out.turn ht (by omega))
        have hr3_13 : ¬ X1.heap.size = g_3 := by omega
        have R3_11 := Lib.hid hr
        have P3_11 := Lib.hid hc
        clear T2 hH2 R2_7 B2_13 hr hc ht hg hp hw
        refine hK.out _ _ hH3 (fun hHeld => ?_)
        clear hK K hHeld
        try simp only [List.getElem_toArray, List.getElem_cons_zero, List.getElem_cons_succ, Act.put, List.setIfInBounds_toArray, List.set_cons_zero, List.set_cons_succ]
        refine wpAnyH_ready (rs := [7]) (by kernel_rfl) (by simp) ?_
        refine AllReadyH.cons rfl (fun K hK => ?_) AllReadyH.nil
        refine step_app_strsR rfl _ _ rfl (.slice (some ⟨g_3, 0, none⟩) 0 c_3) ([] ++ (L.take 0)) [s] g_3 (some ⟨X1.heap.size, 0, none⟩) 1 1 (0 + 1) (rfl) (HN2.out) rfl rfl R3_11.out (sr_of_blk (L := [s]) B3_13.out) ⟨Nat.le_refl _, by unfold maxLen; decide, fun h => by cases h⟩ HG2.out ?_
        intro g_4 c_4 X4 hg hr hc ht
        have hw : w.heap.size ≤ g_3 := by omega
        have T4 := Lib.hid (T3.out.trans_new (S := fun _ => False) ht (fun k hk e => by omega))
        have hH4 := T4.out
        have hz4 := ht.size
        have hp := R3_11.out.lt
        have hy4 := T3.out.size
        have hv4 : w.heap.size ≤ g_4 := by omega
        have hm4_13 := B3_13.out.lt
        have B4_13 := Lib.hid (B3_13.out.turn ht (by omega))
        have hr4_13 : ¬ X1.heap.size = g_4 := by omega
        have R4_14 := Lib.hid hr
        have P4_14 := Lib.hid hc
        clear T3 hH3 R3_11 B3_13 hr hc ht hg hp hw
        refine hK.out _ _ hH4 (fun hHeld => ?_)
        clear hK K hHeld
        try simp only [List.getElem_toArray, List.getElem_cons_zero, List.getElem_cons_succ, Act.put, List.setIfInBounds_toArray, List.set_cons_zero, List.set_cons_succ]
        refine wpAnyH_ready (rs := [11]) (by kernel_rfl) (by simp) ?_
        refine AllReadyH.cons rfl (fun K hK => ?_) AllReadyH.nil
        refine step_app_strsR rfl _ _ rfl (.slice (some ⟨g_4, 0, none⟩) (0 + 1) c_4) (([] ++ (L.take 0)) ++ [s]) (L.drop 0) g_4 none (0 - 0) (0 - 0) (0 + 1) (HM2.out) (HN3.out) rfl rfl R4_14.out (HS2.out.turn T4.out) P2.out HG3.out ?_
        intro g_5 c_5 X5 hg hr hc ht
        have hw : w.heap.size ≤ g_4 := by omega
        have T5 := Lib.hid (T4.out.trans_new (S := fun _ => False) ht (fun k hk e => by omega))
        have hH5 := T5.out
        have hz5 := ht.size
        have hp := R4_14.out.lt
        have hy5 := T4.out.size
        have hv5 : w.heap.size ≤ g_5 := by omega
        have hm5_13 := B4_13.out.lt
        have B5_13 := Lib.hid (B4_13.out.turn ht (by omega))
        have hr5_13 : ¬ X1.heap.size = g_5 := by omega
        have R5_18 := Lib.hid hr
        have P5_18 := Lib.hid hc
        clear T4 hH4 R4_14 B4_13 hr hc ht hg hp hw
        refine hK.out _ _ hH5 (fun hHeld => ?_)
        clear hK K hHeld
        try simp only [List.getElem_toArray, List.getElem_cons_zero, List.getElem_cons_succ, Act.put, List.setIfInBounds_toArray, List.set_cons_zero, List.set_cons_succ]
        refine wpAnyH_take (i := 12) (v := ?_) rfl (by kernel_rfl) (by kernel_rfl) (by kernel_rfl) (fun _ _ _ h => h) (Or.inl ⟨by rfl, ?_⟩) (by assumption) ?_
        rotate_left 1
        · intro w' hSw
          go_simp
          all_goals first | with_reducible rfl | (rw [if_neg (by omega)]; done) | (rw [if_pos (by omega)]; done) | (rw [if_neg (by omega)]; with_reducible rfl) | (rw [if_pos (by omega)]; with_reducible rfl)
        try simp only [List.getElem_toArray, List.getElem_cons_zero, List.getElem_cons_succ, Act.put, List.setIfInBounds_toArray, List.set_cons_zero, List.set_cons_succ]
        refine wpAnyH_done (by kernel_rfl) ?_ _
        refine NoPanic.normal ?_
        go_wp2_with fail
        all_goals go_ret
        all_goals exact ⟨_, rfl, g_5, c_5, rfl, by rw [← HLK.out]; exact R5_18.out, by omega, P5_18.out, T5.out⟩
    · go_simp
      refine hK.out _ _ ((T0.out.alloc _)) (fun hHeld => ?_)
      clear hK K
      try simp only [List.getElem_toArray, List.getElem_cons_zero, List.getElem_cons_succ, Act.put, List.setIfInBounds_toArray, List.set_cons_zero, List.set_cons_succ]
      refine wpAnyH_named (fun X1 e => ?_)
      clear hHeld
      have T1 := Lib.hid (T0.out.al e)
      have hH1 := T1.out
      have hz1 := size_al e
      have hy1 := T0.out.size
      have B1_13 := Lib.hid (Blk.nw (cs := [.string s]) e)
      clear T0 hH0 e
      refine wpAnyH_ready (rs := [0]) (by kernel_rfl) (by simp) ?_
      refine AllReadyH.cons rfl (fun K hK => ?_) AllReadyH.nil
      go_simp
      refine hK.out _ _ ((T1.out.alloc _)) (fun hHeld => ?_)
      clear hK K
      try simp only [List.getElem_toArray, List.getElem_cons_zero, List.getElem_cons_succ, Act.put, List.setIfInBounds_toArray, List.set_cons_zero, List.set_cons_succ]
      refine wpAnyH_named (fun X2 e => ?_)
      clear hHeld
      have T2 := Lib.hid (T1.out.al e)
      have hH2 := T2.out
      have hz2 := size_al e
      have hy2 := T1.out.size
      have B2_13 := Lib.hid (B1_13.out.al e)
      have hm2_13 := B1_13.out.lt
      have R2_7 := Lib.hid (Ro.empS e)
      clear T1 hH1 B1_13 e
      refine wpAnyH_ready (rs := [4]) (by kernel_rfl) (by simp) ?_
      refine AllReadyH.cons rfl (fun K hK => ?_) AllReadyH.nil
      refine step_app_strsR rfl _ _ rfl (.slice (some ⟨X1.heap.size, 0, none⟩) 0 0) [] (L.take 0) X1.heap.size none 0 0 0 (HM1.out) (HN1.out) rfl rfl R2_7.out (HS1.out.turn T2.out) P1.out HG1.out ?_
      intro g_3 c_3 X3 hg hr hc ht
      have hw : w.heap.size ≤ X1.heap.size := by omega
      have T3 := Lib.hid (T2.out.trans_new (S := fun _ => False) ht (fun k hk e => by omega))
      have hH3 := T3.out
      have hz3 := ht.size
      have hp := R2_7.out.lt
      have hy3 := T2.out.size
      have hv3 : w.heap.size ≤ g_3 := by omega
      have hm3_13 := B2_13.out.lt
      have B3_13 := Lib.hid (B2_13.out.turn ht (by omega))
      have hr3_13 : ¬ X0.heap.size = g_3 := by omega
      have R3_11 := Lib.hid hr
      have P3_11 := Lib.hid hc
      clear T2 hH2 R2_7 B2_13 hr hc ht hg hp hw
      refine hK.out _ _ hH3 (fun hHeld => ?_)
      clear hK K hHeld
      try simp only [List.getElem_toArray, List.getElem_cons_zero, List.getElem_cons_succ, Act.put, List.setIfInBounds_toArray, List.set_cons_zero, List.set_cons_succ]
      refine wpAnyH_ready (rs := [7]) (by kernel_rfl) (by simp) ?_
      refine AllReadyH.cons rfl (fun K hK => ?_) AllReadyH.nil
      refine step_app_strsR rfl _ _ rfl (.slice (some ⟨g_3, 0, none⟩) 0 c_3) ([] ++ (L.take 0)) [s] g_3 (some ⟨X0.heap.size, 0, none⟩) 1 1 (0 + 1) (rfl) (HN2.out) rfl rfl R3_11.out (sr_of_blk (L := [s]) B3_13.out) ⟨Nat.le_refl _, by unfold maxLen; decide, fun h => by cases h⟩ HG2.out ?_
      intro g_4 c_4 X4 hg hr hc ht
      have hw : w.heap.size ≤ g_3 := by omega
      have T4 := Lib.hid (T3.out.trans_new (S := fun _ => False) ht (fun k hk e => by omega))
      have hH4 := T4.out
      have hz4 := ht.size
      have hp := R3_11.out.lt
      have hy4 := T3.out.size
      have hv4 : w.heap.size ≤ g_4 := by omega
      have hm4_13 := B3_13.out.lt
      have B4_13 := Lib.hid (B3_13.out.turn ht (by omega))
      have hr4_13 : ¬ X0.heap.size = g_4 := by omega
      have R4_14 := Lib.hid hr
      have P4_14 := Lib.hid hc
      clear T3 hH3 R3_11 B3_13 hr hc ht hg hp hw
      refine hK.out _ _ hH4 (fun hHeld => ?_)
      clear hK K hHeld
      try simp only [List.getElem_toArray, List.getElem_cons_zero, List.getElem_cons_succ, Act.put, List.setIfInBounds_toArray, List.set_cons_zero, List.set_cons_succ]
      refine wpAnyH_ready (rs := [11]) (by kernel_rfl) (by simp) ?_
      refine AllReadyH.cons rfl (fun K hK => ?_) AllReadyH.nil
      refine step_app_strsR rfl _ _ rfl (.slice (some ⟨g_4, 0, none⟩) (0 + 1) c_4) (([] ++ (L.take 0)) ++ [s]) (L.drop 0) g_4 none (0 - 0) (0 - 0) (0 + 1) (HM2.out) (HN3.out) rfl rfl R4_14.out (HS2.out.turn T4.out) P2.out HG3.out ?_
      intro g_5 c_5 X5 hg hr hc ht
      have hw : w.heap.size ≤ g_4 := by omega
      have T5 := Lib.hid (T4.out.trans_new (S := fun _ => False) ht (fun k hk e => by omega))
      have hH5 := T5.out
      have hz5 := ht.size
      have hp := R4_14.out.lt
      have hy5 := T4.out.size
      have hv5 : w.heap.size ≤ g_5 := by omega
      have hm5_13 := B4_13.out.lt
      have B5_13 := Lib.hid (B4_13.out.turn ht (by omega))
      have hr5_13 : ¬ X0.heap.size = g_5 := by omega
      have R5_18 := Lib.hid hr
      have P5_18 := Lib.hid hc
      clear T4 hH4 R4_14 B4_13 hr hc ht hg hp hw
      refine hK.out _ _ hH5 (fun hHeld => ?_)
      clear hK K hHeld
      try simp only [List.getElem_toArray, List.getElem_cons_zero, List.getElem_cons_succ, Act.put, List.setIfInBounds_toArray, List.set_cons_zero, List.set_cons_succ]
      refine wpAnyH_take (i := 12) (v := ?_) rfl (by kernel_rfl) (by kernel_rfl) (by kernel_rfl) (fun _ _ _ h => h) (Or.inl ⟨by rfl, ?_⟩) (by assumption) ?_
      rotate_left 1
      · intro w' hSw
        go_simp
        all_goals first | with_reducible rfl | (rw [if_neg (by omega)]; done) | (rw [if_pos (by omega)]; done) | (rw [if_neg (by omega)]; with_reducible rfl) | (rw [if_pos (by omega)]; with_reducible rfl)
      try simp only [List.getElem_toArray, List.getElem_cons_zero, List.getElem_cons_succ, Act.put, List.setIfInBounds_toArray, List.set_cons_zero, List.set_cons_succ]
      refine wpAnyH_done (by kernel_rfl) ?_ _
      refine NoPanic.normal ?_
      go_wp2_with fail
      all_goals go_ret
      all_goals exact ⟨_, rfl, g_5, c_5, rfl, by rw [← HLK.out]; exact R5_18.out, by omega, P5_18.out, T5.out⟩
  | some ad =>
    clear hnil
    unfold off8 at HS2 P2
    simp only at HS2 P2
    go_enter Try.func40, Try.ntmps40
    go_wp2_with fail
    refine wp_region_noPanic ?_
    refine wp_region_held_drew (S := fun X => Turn (fun _ => False) w X) (by kernel_rfl) ((Turn.refl (fun _ => False) w).drew) (fun hHeld => ?_)
    refine wpAnyH_named (fun X0 hX0 => ?_)
    clear hHeld
    have T0 : Hid (Turn (fun _ => False) w X0) := Lib.hid (by rw [hX0]; exact (Turn.refl (fun _ => False) w).drew)
    have hH0 := T0.out
    clear hX0
    refine wpAnyH_take (i := 1) (v := ?_) rfl (by kernel_rfl) (by kernel_rfl) (by kernel_rfl) (fun _ _ _ h => h) (Or.inl ⟨by rfl, ?_⟩) (by assumption) ?_
    rotate_left 1
    · intro w' hSw
      go_simp
      all_goals first | with_reducible rfl | (rw [if_neg (by omega)]; done) | (rw [if_pos (by omega)]; done) | (rw [if_neg (by omega)]; with_reducible rfl) | (rw [if_pos (by omega)]; with_reducible rfl)
    try simp only [List.getElem_toArray, List.getElem_cons_zero, List.getElem_cons_succ, Act.put, List.setIfInBounds_toArray, List.set_cons_zero, List.set_cons_succ]
    refine wpAnyH_take (i := 2) (v := ?_) rfl (by kernel_rfl) (by kernel_rfl) (by kernel_rfl) (fun _ _ _ h => h) (Or.inl ⟨by rfl, ?_⟩) (by assumption) ?_
    rotate_left 1
    · intro w' hSw
      go_simp
      all_goals first | with_reducible rfl | (rw [if_neg (by omega)]; done) | (rw [if_pos (by omega)]; done) | (rw [if_neg (by omega)]; with_reducible rfl) | (rw [if_pos (by omega)]; with_reducible rfl)
    try simp only [List.getElem_toArray, List.getElem_cons_zero, List.getElem_cons_succ, Act.put, List.setIfInBounds_toArray, List.set_cons_zero, List.set_cons_succ]
    refine wpAnyH_take (i := 3) (v := ?_) rfl (by kernel_rfl) (by kernel_rfl) (by kernel_rfl) (fun _ _ _ h => h) (Or.inl ⟨by rfl, ?_⟩) (by assumption) ?_
    rotate_left 1
    · intro w' hSw
      go_simp
      all_goals first | with_reducible rfl | (rw [if_neg (by omega)]; done) | (rw [if_pos (by omega)]; done) | (rw [if_neg (by omega)]; with_reducible rfl) | (rw [if_pos (by omega)]; with_reducible rfl)
    try simp only [List.getElem_toArray, List.getElem_cons_zero, List.getElem_cons_succ, Act.put, List.setIfInBounds_toArray, List.set_cons_zero, List.set_cons_succ]
    refine wpAnyH_take (i := 5) (v := ?_) rfl (by kernel_rfl) (by kernel_rfl) (by kernel_rfl) (fun _ _ _ h => h) (Or.inl ⟨by rfl, ?_⟩) (by assumption) ?_
    rotate_left 1
    · intro w' hSw
      go_simp
      all_goals first | with_reducible rfl | (rw [if_neg (by omega)]; done) | (rw [if_pos (by omega)]; done) | (rw [if_neg (by omega)]; with_reducible rfl) | (rw [if_pos (by omega)]; with_reducible rfl)
    try simp only [List.getElem_toArray, List.getElem_cons_zero, List.getElem_cons_succ, Act.put, List.setIfInBounds_toArray, List.set_cons_zero, List.set_cons_succ]
    refine wpAnyH_take (i := 8) (v := ?_) rfl (by kernel_rfl) (by kernel_rfl) (by kernel_rfl) (fun _ _ _ h => h) (Or.inl ⟨by rfl, ?_⟩) (by assumption) ?_
    rotate_left 1
    · intro w' hSw
      go_simp
      all_goals first | with_reducible rfl | (rw [if_neg (by omega)]; done) | (rw [if_pos (by omega)]; done) | (rw [if_neg (by omega)]; with_reducible rfl) | (rw [if_pos (by omega)]; with_reducible rfl)
    try simp only [List.getElem_toArray, List.getElem_cons_zero, List.getElem_cons_succ, Act.put, List.setIfInBounds_toArray, List.set_cons_zero, List.set_cons_succ]
    refine wpAnyH_take (i := 9) (v := ?_) rfl (by kernel_rfl) (by kernel_rfl) (by kernel_rfl) (fun _ _ _ h => h) (Or.inl ⟨by rfl, ?_⟩) (by assumption) ?_
    rotate_left 1
    · intro w' hSw
      go_simp
      all_goals first | with_reducible rfl | (rw [if_neg (by omega)]; done) | (rw [if_pos (by omega)]; done) | (rw [if_neg (by omega)]; with_reducible rfl) | (rw [if_pos (by omega)]; with_reducible rfl)
    try simp only [List.getElem_toArray, List.getElem_cons_zero, List.getElem_cons_succ, Act.put, List.setIfInBounds_toArray, List.set_cons_zero, List.set_cons_succ]
    refine wpAnyH_take (i := 10) (v := ?_) rfl (by kernel_rfl) (by kernel_rfl) (by kernel_rfl) (fun _ _ _ h => h) (Or.inl ⟨by rfl, ?_⟩) (by assumption) ?_
    rotate_left 1
    · intro w' hSw
      go_simp
      all_goals first | with_reducible rfl | (rw [if_neg (by omega)]; done) | (rw [if_pos (by omega)]; done) | (rw [if_neg (by omega)]; with_reducible rfl) | (rw [if_pos (by omega)]; with_reducible rfl)
    try simp only [List.getElem_toArray, List.getElem_cons_zero, List.getElem_cons_succ, Act.put, List.setIfInBounds_toArray, List.set_cons_zero, List.set_cons_succ]
    refine wpAnyH_ready (rs := [0, 6]) (by kernel_rfl) (by simp) ?_
    refine AllReadyH.cons rfl (fun K hK => ?_) (AllReadyH.cons rfl (fun K hK => ?_) AllReadyH.nil)
    · go_simp
      refine hK.out _ _ ((T0.out.alloc _)) (fun hHeld => ?_)
      clear hK K
      try simp only [List.getElem_toArray, List.getElem_cons_zero, List.getElem_cons_succ, Act.put, List.setIfInBounds_toArray, List.set_cons_zero, List.set_cons_succ]
      refine wpAnyH_named (fun X1 e => ?_)
      clear hHeld
      have T1 := Lib.hid (T0.out.al e)
      have hH1 := T1.out
      have hz1 := size_al e
      have hy1 := T0.out.size
      have R1_7 := Lib.hid (Ro.empS e)
      clear T0 hH0 e
      refine wpAnyH_ready (rs := [4, 6]) (by kernel_rfl) (by simp) ?_
      refine AllReadyH.cons rfl (fun K hK => ?_) (AllReadyH.cons rfl (fun K hK => ?_) AllReadyH.nil)
      · refine step_app_strsR rfl _ _ rfl (.slice (some ⟨X0.heap.size, 0, none⟩) 0 0) [] (L.take i) X0.heap.size (some ad) i c i (HM1.out) (HN1.out) rfl rfl R1_7.out (HS1.out.turn T1.out) P1.out HG1.out ?_
        intro g_2 c_2 X2 hg hr hc ht
        have hw : w.heap.size ≤ X0.heap.size := by omega
        have T2 := Lib.hid (T1.out.trans_new (S := fun _ => False) ht (fun k hk e => by omega))
        have hH2 := T2.out
        have hz2 := ht.size
        have hp := R1_7.out.lt
        have hy2 := T1.out.size
        have hv2 : w.heap.size ≤ g_2 := by omega
        have R2_11 := Lib.hid hr
        have P2_11 := Lib.hid hc
        clear T1 hH1 R1_7 hr hc ht hg hp hw
        refine hK.out _ _ hH2 (fun hHeld => ?_)
        clear hK K hHeld
        try simp only [List.getElem_toArray, List.getElem_cons_zero, List.getElem_cons_succ, Act.put, List.setIfInBounds_toArray, List.set_cons_zero, List.set_cons_succ]
        refine wpAnyH_ready (rs := [6]) (by kernel_rfl) (by simp) ?_
        refine AllReadyH.cons rfl (fun K hK => ?_) AllReadyH.nil
        go_simp
        refine hK.out _ _ ((T2.out.alloc _)) (fun hHeld => ?_)
        clear hK K
        try simp only [List.getElem_toArray, List.getElem_cons_zero, List.getElem_cons_succ, Act.put, List.setIfInBounds_toArray, List.set_cons_zero, List.set_cons_succ]
        refine wpAnyH_named (fun X3 e => ?_)
        clear hHeld
        have T3 := Lib.hid (T2.out.al e)
        have hH3 := T3.out
        have hz3 := size_al e
        have hy3 := T2.out.size
        have R3_11 := Lib.hid (R2_11.out.al e)
        have hl3_11 := R2_11.out.lt
        have B3_13 := Lib.hid (Blk.nw (cs := [.string s]) e)
        clear T2 hH2 R2_11 e
        refine wpAnyH_ready (rs := [7]) (by kernel_rfl) (by simp) ?_
        refine AllReadyH.cons rfl (fun K hK => ?_) AllReadyH.nil
        refine step_app_strsR rfl _ _ rfl (.slice (some ⟨g_2, 0, none⟩) i c_2) ([] ++ (L.take i)) [s] g_2 (some ⟨X2.heap.size, 0, none⟩) 1 1 (i + 1) (rfl) (HN2.out) rfl rfl R3_11.out (sr_of_blk (L := [s]) B3_13.out) ⟨Nat.le_refl _, by unfold maxLen; decide, fun h => by cases h⟩ HG2.out ?_
        intro g_4 c_4 X4 hg hr hc ht
        have hw : w.heap.size ≤ g_2 := by omega
        have T4 := Lib.hid (T3.out.trans_new (S := fun _ => False) ht (fun k hk e => by omega))
        have hH4 := T4.out
        have hz4 := ht.size
        have hp := R3_11.out.lt
        have hy4 := T3.out.size
        have hv4 : w.heap.size ≤ g_4 := by omega
        have hm4_13 := B3_13.out.lt
        have B4_13 := Lib.hid (B3_13.out.turn ht (by omega))
        have hr4_13 : ¬ X2.heap.size = g_4 := by omega
        have R4_14 := Lib.hid hr
        have P4_14 := Lib.hid hc
        clear T3 hH3 R3_11 B3_13 hr hc ht hg hp hw
        refine hK.out _ _ hH4 (fun hHeld => ?_)
        clear hK K hHeld
        try simp only [List.getElem_toArray, List.getElem_cons_zero, List.getElem_cons_succ, Act.put, List.setIfInBounds_toArray, List.set_cons_zero, List.set_cons_succ]
        refine wpAnyH_ready (rs := [11]) (by kernel_rfl) (by simp) ?_
        refine AllReadyH.cons rfl (fun K hK => ?_) AllReadyH.nil
        refine step_app_strsR rfl _ _ rfl (.slice (some ⟨g_4, 0, none⟩) (i + 1) c_4) (([] ++ (L.take i)) ++ [s]) (L.drop i) g_4 (if c = i then some ad else some (ad.add i)) (n - i) (c - i) (n + 1) (HM2.out) (HN3.out) rfl rfl R4_14.out (HS2.out.turn T4.out) P2.out HG3.out ?_
        intro g_5 c_5 X5 hg hr hc ht
        have hw : w.heap.size ≤ g_4 := by omega
        have T5 := Lib.hid (T4.out.trans_new (S := fun _ => False) ht (fun k hk e => by omega))
        have hH5 := T5.out
        have hz5 := ht.size
        have hp := R4_14.out.lt
        have hy5 := T4.out.size
        have hv5 : w.heap.size ≤ g_5 := by omega
        have hm5_13 := B4_13.out.lt
        have B5_13 := Lib.hid (B4_13.out.turn ht (by omega))
        have hr5_13 : ¬ X2.heap.size = g_5 := by omega
        have R5_18 := Lib.hid hr
        have P5_18 := Lib.hid hc
        clear T4 hH4 R4_14 B4_13 hr hc ht hg hp hw
        refine hK.out _ _ hH5 (fun hHeld => ?_)
        clear hK K hHeld
        try simp only [List.getElem_toArray, List.getElem_cons_zero, List.getElem_cons_succ, Act.put, List.setIfInBounds_toArray, List.set_cons_zero, List.set_cons_succ]
        refine wpAnyH_take (i := 12) (v := ?_) rfl (by kernel_rfl) (by kernel_rfl) (by kernel_rfl) (fun _ _ _ h => h) (Or.inl ⟨by rfl, ?_⟩) (by assumption) ?_
        rotate_left 1
        · intro w' hSw
          go_simp
          all_goals first | with_reducible rfl | (rw [if_neg (by omega)]; done) | (rw [if_pos (by omega)]; done) | (rw [if_neg (by omega)]; with_reducible rfl) | (rw [if_pos (by omega)]; with_reducible rfl)
        try simp only [List.getElem_toArray, List.getElem_cons_zero, List.getElem_cons_succ, Act.put, List.setIfInBounds_toArray, List.set_cons_zero, List.set_cons_succ]
        refine wpAnyH_done (by kernel_rfl) ?_ _
        refine NoPanic.normal ?_
        go_wp2_with fail
        all_goals go_ret
        all_goals exact ⟨_, rfl, g_5, c_5, rfl, by rw [← HLK.out]; exact R5_18.out, by omega, P5_18.out, T5.out⟩
      · go_simp
        refine hK.out _ _ ((T1.out.alloc _)) (fun hHeld => ?_)
        clear hK K
        try simp only [List.getElem_toArray, List.getElem_cons_zero, List.getElem_cons_succ, Act.put, List.setIfInBounds_toArray, List.set_cons_zero, List.set_cons_succ]
        refine wpAnyH_named (fun X2 e => ?_)
        clear hHeld
        have T2 := Lib.hid (T1.out.al e)
        have hH2 := T2.out
        have hz2 := size_al e
        have hy2 := T1.out.size
        have R2_7 := Lib.hid (R1_7.out.al e)
        have hl2_7 := R1_7.out.lt
        have B2_13 := Lib.hid (Blk.nw (cs := [.string s]) e)
        clear T1 hH1 R1_7 e
        refine wpAnyH_ready (rs := [4]) (by kernel_rfl) (by simp) ?_
        refine AllReadyH.cons rfl (fun K hK => ?_) AllReadyH.nil
        refine step_app_strsR rfl _ _ rfl (.slice (some ⟨X0.heap.size, 0, none⟩) 0 0) [] (L.take i) X0.heap.size (some ad) i c i (HM1.out) (HN1.out) rfl rfl R2_7.out (HS1.out.turn T2.out) P1.out HG1.out ?_
        intro g_3 c_3 X3 hg hr hc ht
        have hw : w.heap.size ≤ X0.heap.size := by omega
        have T3 := Lib.hid (T2.out.trans_new (S := fun _ => False) ht (fun k hk e => by omega))
        have hH3 := T3.out
        have hz3 := ht.size
        have hp := R2_7.out.lt
        have hy3 := T2.out.size
        have hv3 : w.heap.size ≤ g_3 := by omega
        have hm3_13 := B2_13.out.lt
        have B3_13 := Lib.hid (B2_13.out.turn ht (by omega))
        have hr3_13 : ¬ X1.heap.size = g_3 := by omega
        have R3_11 := Lib.hid hr
        have P3_11 := Lib.hid hc
        clear T2 hH2 R2_7 B2_13 hr hc ht hg hp hw
        refine hK.out _ _ hH3 (fun hHeld => ?_)
        clear hK K hHeld
        try simp only [List.getElem_toArray, List.getElem_cons_zero, List.getElem_cons_succ, Act.put, List.setIfInBounds_toArray, List.set_cons_zero, List.set_cons_succ]
        refine wpAnyH_ready (rs := [7]) (by kernel_rfl) (by simp) ?_
        refine AllReadyH.cons rfl (fun K hK => ?_) AllReadyH.nil
        refine step_app_strsR rfl _ _ rfl (.slice (some ⟨g_3, 0, none⟩) i c_3) ([] ++ (L.take i)) [s] g_3 (some ⟨X1.heap.size, 0, none⟩) 1 1 (i + 1) (rfl) (HN2.out) rfl rfl R3_11.out (sr_of_blk (L := [s]) B3_13.out) ⟨Nat.le_refl _, by unfold maxLen; decide, fun h => by cases h⟩ HG2.out ?_
        intro g_4 c_4 X4 hg hr hc ht
        have hw : w.heap.size ≤ g_3 := by omega
        have T4 := Lib.hid (T3.out.trans_new (S := fun _ => False) ht (fun k hk e => by omega))
        have hH4 := T4.out
        have hz4 := ht.size
        have hp := R3_11.out.lt
        have hy4 := T3.out.size
        have hv4 : w.heap.size ≤ g_4 := by omega
        have hm4_13 := B3_13.out.lt
        have B4_13 := Lib.hid (B3_13.out.turn ht (by omega))
        have hr4_13 : ¬ X1.heap.size = g_4 := by omega
        have R4_14 := Lib.hid hr
        have P4_14 := Lib.hid hc
        clear T3 hH3 R3_11 B3_13 hr hc ht hg hp hw
        refine hK.out _ _ hH4 (fun hHeld => ?_)
        clear hK K hHeld
        try simp only [List.getElem_toArray, List.getElem_cons_zero, List.getElem_cons_succ, Act.put, List.setIfInBounds_toArray, List.set_cons_zero, List.set_cons_succ]
        refine wpAnyH_ready (rs := [11]) (by kernel_rfl) (by simp) ?_
        refine AllReadyH.cons rfl (fun K hK => ?_) AllReadyH.nil
        refine step_app_strsR rfl _ _ rfl (.slice (some ⟨g_4, 0, none⟩) (i + 1) c_4) (([] ++ (L.take i)) ++ [s]) (L.drop i) g_4 (if c = i then some ad else some (ad.add i)) (n - i) (c - i) (n + 1) (HM2.out) (HN3.out) rfl rfl R4_14.out (HS2.out.turn T4.out) P2.out HG3.out ?_
        intro g_5 c_5 X5 hg hr hc ht
        have hw : w.heap.size ≤ g_4 := by omega
        have T5 := Lib.hid (T4.out.trans_new (S := fun _ => False) ht (fun k hk e => by omega))
        have hH5 := T5.out
        have hz5 := ht.size
        have hp := R4_14.out.lt
        have hy5 := T4.out.size
        have hv5 : w.heap.size ≤ g_5 := by omega
        have hm5_13 := B4_13.out.lt
        have B5_13 := Lib.hid (B4_13.out.turn ht (by omega))
        have hr5_13 : ¬ X1.heap.size = g_5 := by omega
        have R5_18 := Lib.hid hr
        have P5_18 := Lib.hid hc
        clear T4 hH4 R4_14 B4_13 hr hc ht hg hp hw
        refine hK.out _ _ hH5 (fun hHeld => ?_)
        clear hK K hHeld
        try simp only [List.getElem_toArray, List.getElem_cons_zero, List.getElem_cons_succ, Act.put, List.setIfInBounds_toArray, List.set_cons_zero, List.set_cons_succ]
        refine wpAnyH_take (i := 12) (v := ?_) rfl (by kernel_rfl) (by kernel_rfl) (by kernel_rfl) (fun _ _ _ h => h) (Or.inl ⟨by rfl, ?_⟩) (by assumption) ?_
        rotate_left 1
        · intro w' hSw
          go_simp
          all_goals first | with_reducible rfl | (rw [if_neg (by omega)]; done) | (rw [if_pos (by omega)]; done) | (rw [if_neg (by omega)]; with_reducible rfl) | (rw [if_pos (by omega)]; with_reducible rfl)
        try simp only [List.getElem_toArray, List.getElem_cons_zero, List.getElem_cons_succ, Act.put, List.setIfInBounds_toArray, List.set_cons_zero, List.set_cons_succ]
        refine wpAnyH_done (by kernel_rfl) ?_ _
        refine NoPanic.normal ?_
        go_wp2_with fail
        all_goals go_ret
        all_goals exact ⟨_, rfl, g_5, c_5, rfl, by rw [← HLK.out]; exact R5_18.out, by omega, P5_18.out, T5.out⟩
    · go_simp
      refine hK.out _ _ ((T0.out.alloc _)) (fun hHeld => ?_)
      clear hK K
      try simp only [List.getElem_toArray, List.getElem_cons_zero, List.getElem_cons_succ, Act.put, List.setIfInBounds_toArray, List.set_cons_zero, List.set_cons_succ]
      refine wpAnyH_named (fun X1 e => ?_)
      clear hHeld
      have T1 := Lib.hid (T0.out.al e)
      have hH1 := T1.out
      have hz1 := size_al e
      have hy1 := T0.out.size
      have B1_13 := Lib.hid (Blk.nw (cs := [.string s]) e)
      clear T0 hH0 e
      refine wpAnyH_ready (rs := [0]) (by kernel_rfl) (by simp) ?_
      refine AllReadyH.cons rfl (fun K hK => ?_) AllReadyH.nil
      go_simp
      refine hK.out _ _ ((T1.out.alloc _)) (fun hHeld => ?_)
      clear hK K
      try simp only [List.getElem_toArray, List.getElem_cons_zero, List.getElem_cons_succ, Act.put, List.setIfInBounds_toArray, List.set_cons_zero, List.set_cons_succ]
      refine wpAnyH_named (fun X2 e => ?_)
      clear hHeld
      have T2 := Lib.hid (T1.out.al e)
      have hH2 := T2.out
      have hz2 := size_al e
      have hy2 := T1.out.size
      have B2_13 := Lib.hid (B1_13.out.al e)
      have hm2_13 := B1_13.out.lt
      have R2_7 := Lib.hid (Ro.empS e)
      clear T1 hH1 B1_13 e
      refine wpAnyH_ready (rs := [4]) (by kernel_rfl) (by simp) ?_
      refine AllReadyH.cons rfl (fun K hK => ?_) AllReadyH.nil
      refine step_app_strsR rfl _ _ rfl (.slice (some ⟨X1.heap.size, 0, none⟩) 0 0) [] (L.take i) X1.heap.size (some ad) i c i (HM1.out) (HN1.out) rfl rfl R2_7.out (HS1.out.turn T2.out) P1.out HG1.out ?_
      intro g_3 c_3 X3 hg hr hc ht
      have hw : w.heap.size ≤ X1.heap.size := by omega
      have T3 := Lib.hid (T2.out.trans_new (S := fun _ => False) ht (fun k hk e => by omega))
      have hH3 := T3.out
      have hz3 := ht.size
      have hp := R2_7.out.lt
      have hy3 := T2.out.size
      have hv3 : w.heap.size ≤ g_3 := by omega
      have hm3_13 := B2_13.out.lt
      have B3_13 := Lib.hid (B2_13.out.turn ht (by omega))
      have hr3_13 : ¬ X0.heap.size = g_3 := by omega
      have R3_11 := Lib.hid hr
      have P3_11 := Lib.hid hc
      clear T2 hH2 R2_7 B2_13 hr hc ht hg hp hw
      refine hK.out _ _ hH3 (fun hHeld => ?_)
      clear hK K hHeld
      try simp only [List.getElem_toArray, List.getElem_cons_zero, List.getElem_cons_succ, Act.put, List.setIfInBounds_toArray, List.set_cons_zero, List.set_cons_succ]
      refine wpAnyH_ready (rs := [7]) (by kernel_rfl) (by simp) ?_
      refine AllReadyH.cons rfl (fun K hK => ?_) AllReadyH.nil
      refine step_app_strsR rfl _ _ rfl (.slice (some ⟨g_3, 0, none⟩) i c_3) ([] ++ (L.take i)) [s] g_3 (some ⟨X0.heap.size, 0, none⟩) 1 1 (i + 1) (rfl) (HN2.out) rfl rfl R3_11.out (sr_of_blk (L := [s]) B3_13.out) ⟨Nat.le_refl _, by unfold maxLen; decide, fun h => by cases h⟩ HG2.out ?_
      intro g_4 c_4 X4 hg hr hc ht
      have hw : w.heap.size ≤ g_3 := by omega
      have T4 := Lib.hid (T3.out.trans_new (S := fun _ => False) ht (fun k hk e => by omega))
      have hH4 := T4.out
      have hz4 := ht.size
      have hp := R3_11.out.lt
      have hy4 := T3.out.size
      have hv4 : w.heap.size ≤ g_4 := by omega
      have hm4_13 := B3_13.out.lt
      have B4_13 := Lib.hid (B3_13.out.turn ht (by omega))
      have hr4_13 : ¬ X0.heap.size = g_4 := by omega
      have R4_14 := Lib.hid hr
      have P4_14 := Lib.hid hc
      clear T3 hH3 R3_11 B3_13 hr hc ht hg hp hw
      refine hK.out _ _ hH4 (fun hHeld => ?_)
      clear hK K hHeld
      try simp only [List.getElem_toArray, List.getElem_cons_zero, List.getElem_cons_succ, Act.put, List.setIfInBounds_toArray, List.set_cons_zero, List.set_cons_succ]
      refine wpAnyH_ready (rs := [11]) (by kernel_rfl) (by simp) ?_
      refine AllReadyH.cons rfl (fun K hK => ?_) AllReadyH.nil
      refine step_app_strsR rfl _ _ rfl (.slice (some ⟨g_4, 0, none⟩) (i + 1) c_4) (([] ++ (L.take i)) ++ [s]) (L.drop i) g_4 (if c = i then some ad else some (ad.add i)) (n - i) (c - i) (n + 1) (HM2.out) (HN3.out) rfl rfl R4_14.out (HS2.out.turn T4.out) P2.out HG3.out ?_
      intro g_5 c_5 X5 hg hr hc ht
      have hw : w.heap.size ≤ g_4 := by omega
      have T5 := Lib.hid (T4.out.trans_new (S := fun _ => False) ht (fun k hk e => by omega))
      have hH5 := T5.out
      have hz5 := ht.size
      have hp := R4_14.out.lt
      have hy5 := T4.out.size
      have hv5 : w.heap.size ≤ g_5 := by omega
      have hm5_13 := B4_13.out.lt
      have B5_13 := Lib.hid (B4_13.out.turn ht (by omega))
      have hr5_13 : ¬ X0.heap.size = g_5 := by omega
      have R5_18 := Lib.hid hr
      have P5_18 := Lib.hid hc
      clear T4 hH4 R4_14 B4_13 hr hc ht hg hp hw
      refine hK.out _ _ hH5 (fun hHeld => ?_)
      clear hK K hHeld
      try simp only [List.getElem_toArray, List.getElem_cons_zero, List.getElem_cons_succ, Act.put, List.setIfInBounds_toArray, List.set_cons_zero, List.set_cons_succ]
      refine wpAnyH_take (i := 12) (v := ?_) rfl (by kernel_rfl) (by kernel_rfl) (by kernel_rfl) (fun _ _ _ h => h) (Or.inl ⟨by rfl, ?_⟩) (by assumption) ?_
      rotate_left 1
      · intro w' hSw
        go_simp
        all_goals first | with_reducible rfl | (rw [if_neg (by omega)]; done) | (rw [if_pos (by omega)]; done) | (rw [if_neg (by omega)]; with_reducible rfl) | (rw [if_pos (by omega)]; with_reducible rfl)
      try simp only [List.getElem_toArray, List.getElem_cons_zero, List.getElem_cons_succ, Act.put, List.setIfInBounds_toArray, List.set_cons_zero, List.set_cons_succ]
      refine wpAnyH_done (by kernel_rfl) ?_ _
      refine NoPanic.normal ?_
      go_wp2_with fail
      all_goals go_ret
      all_goals exact ⟨_, rfl, g_5, c_5, rfl, by rw [← HLK.out]; exact R5_18.out, by omega, P5_18.out, T5.out⟩
end Go.Proofs.Ytpnnbfojdccfhaa
