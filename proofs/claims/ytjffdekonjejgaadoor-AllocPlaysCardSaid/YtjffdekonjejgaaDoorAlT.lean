/- Layer 7: an alloc behind calls. -/
import Derived.Test.YtjffdekonjejgaaDoorAlS
import Derived.Test.YtjffdekonjejgaaDoorFrameG
namespace Go.Proofs.YtjffdekonjejgaaDoor
open Go.RowKit
set_option linter.unusedVariables false
set_option maxRecDepth 100000

theorem len_tak7 (l : List Bool) (k : Int) : (tak7 l k).1.length = l.length := by
  unfold tak7
  split
  · rfl
  · split
    · rw [len_flip]
    · rfl
theorem len_clm7 (l : List Bool) (k : Int) : (clm7 l k).1.length = l.length := by
  unfold clm7
  split
  · rfl
  · split
    · rw [len_flip]
    · rfl
theorem len_giv7 (l : List Bool) (i k : Int) : (giv7 l i k).1.length = l.length := by
  unfold giv7
  split
  · rfl
  · split
    · rfl
    · split
      · rfl
      · rw [len_flip]
set_option maxHeartbeats 4000000 in
theorem begun7 (v : Value) (qs : List Ac) (w : World) (hq : Acs w.heap.size w v qs) (hT : Tb w) :
    Calls Tryd.prog 18 #[v] w fun r w' => ∃ p g l, r = .returned (.pointer (some ⟨p, 0, none⟩)) ∧ Al w' p g l ∧ l.length = 100 ∧ w.heap.size ≤ p ∧ w.heap.size ≤ g ∧ Turn (fun _ => False) w w' := by
  obtain ⟨A, cap, rfl, hql, hx⟩ := hq
  have HX := Lib.hid hx
  have HN := Lib.hid (new7_ok 100 (by decide) (by decide) w hT)
  obtain ⟨n, hn⟩ : ∃ n, n = qs.length := ⟨_, rfl⟩
  have HQN := Lib.hid hn
  rw [← hn] at hql ⊢
  clear hx hT hn
  go_enter Tryd.func18, Tryd.ntmps18
  go_wp2_with (go_at_call 8; refine HN.out.mono ?_; rintro e w1 ⟨p, g, rfl, ha1, hp, hg, ht1⟩)
  have A1 := Lib.hid ha1
  have T1 := Lib.hid ht1
  clear ha1 ht1
  go_loopw [5] (fun v5 wr => ∃ (k : Nat) (l : List Bool), k ≤ n ∧ k ≤ 300 ∧ v5 = .int .i64 k ∧ l.length = 100 ∧ Al wr p g l ∧ Turn (fun _ => False) w wr) (fun v5 _ => 300 - (intOf v5).toNat)
  case atStart => exact ⟨0, _, Nat.zero_le _, by decide, rfl, by simp, A1.out, T1.out⟩
  case round =>
    obtain ⟨k, l, hk, hk3, rfl, hl, ha, ht⟩ := hrel
    have HA := Lib.hid ha
    have HT := Lib.hid ht
    have HL := Lib.hid hl
    clear ha ht hl
    by_cases h1 : k < n
    · have h1i : (k : Int) < (n : Int) := by omega
      by_cases h2 : k < 300
      · have h2i : (k : Int) < 300 := by omega
        obtain ⟨b, o, rfl, hb, hc⟩ := HX.out (by rw [← HQN.out]; omega)
        obtain ⟨q, hqk⟩ : ∃ q, qs[k]? = some q := ⟨_, List.getElem?_eq_getElem (by rw [← HQN.out]; exact h1)⟩
        obtain ⟨⟨c0, c1, c2⟩, bi, bc⟩ := hc k q hqk
        rw [← Nat.add_assoc] at c1 c2
        have q0 := (World.cell?_of_block (w := w) (a := ⟨b, o + k * 3, none⟩) (HT.out.block b hb (fun h => h))).trans c0
        have q1 := (World.cell?_of_block (w := w) (a := ⟨b, o + k * 3 + 1, none⟩) (HT.out.block b hb (fun h => h))).trans c1
        have q2 := (World.cell?_of_block (w := w) (a := ⟨b, o + k * 3 + 2, none⟩) (HT.out.block b hb (fun h => h))).trans c2
        have e1 := wrap_of ((k : Int) + 1) (by omega) (by omega)
        obtain ⟨qk, qi, qc⟩ := q
        simp only at q0 q1 q2 bi bc
        clear hc hqk c0 c1 c2
        have HTK := Lib.hid (take7 HA.out qc bc.2)
        have HCL := Lib.hid (claim7 HA.out qi)
        have HGV := Lib.hid (fun w h => give7 (w := w) (p := p) (g := g) (l := l) h qi qc bi bc)
        have L1 := Lib.hid (len_tak7 l qc)
        have L2 := Lib.hid (len_clm7 l qi)
        have L3 := Lib.hid (len_giv7 l qi qc)
        generalize tak7 l qc = X1 at *
        generalize clm7 l qi = X2 at *
        generalize giv7 l qi qc = X3 at *
        have D1 : Hid (wr.drew.cell? ⟨b, o + k * 3 + 1, none⟩ = some (.int .i64 qi) ∧ wr.drew.cell? ⟨b, o + k * 3 + 2, none⟩ = some (.int .i64 qc)) := Lib.hid ⟨q1, q2⟩
        have hbw : b < wr.heap.size := Nat.lt_of_lt_of_le hb HT.out.size
        rcases (by by_cases h : qk = 1; exact .inl h; by_cases h2 : qk = 2; exact .inr (.inl h2); exact .inr (.inr ⟨h, h2⟩) : qk = 1 ∨ qk = 2 ∨ (¬ qk = 1 ∧ ¬ qk = 2)) with rfl | rfl | ⟨hk1, hk2⟩
        · go_wp2_with (go_at_call 22; refine HCL.out.mono ?_; rintro e w2 ⟨rfl, ha2, ht2⟩)
          go_roundw
          case rel => exact ⟨k + 1, X2.1, h1, h2, by simp, by rw [L2.out, HL.out], ha2, HT.out.trans_new ht2 (fun j hj h => by omega)⟩
          case measure => simp [intOf]; omega
        · go_wp2_with fail
          refine wp_region_noPanic ?_
          refine wp_region_held_drew (S := fun X => X.cell? ⟨b, o + k * 3 + 1, none⟩ = some (.int .i64 qi) ∧ X.cell? ⟨b, o + k * 3 + 2, none⟩ = some (.int .i64 qc)) (by kernel_rfl) D1.out (fun hHeld => ?_)
          -- region
          refine wpAnyH_take (i := 0) (v := ?_) rfl (by kernel_rfl) (by kernel_rfl) (by kernel_rfl) (fun _ _ _ h => h) (Or.inl ⟨by rfl, ?_⟩) (by assumption) ?_
          rotate_left 1
          · intro w' hSw
            go_simp
            all_goals first | with_reducible rfl | (rw [if_neg (by omega)]; done) | (rw [if_pos (by omega)]; done) | (rw [if_neg (by omega)]; with_reducible rfl) | (rw [if_pos (by omega)]; with_reducible rfl)
          try simp only [List.getElem_toArray, List.getElem_cons_zero, Act.put, List.setIfInBounds_toArray, List.set_cons_zero, List.set_cons_succ]
          refine wpAnyH_take (i := 1) (v := ?_) rfl (by kernel_rfl) (by kernel_rfl) (by kernel_rfl) (fun _ _ _ h => h) (Or.inl ⟨by rfl, ?_⟩) (by assumption) ?_
          rotate_left 1
          · intro w' hSw
            go_simp
            all_goals first | with_reducible rfl | (rw [if_neg (by omega)]; done) | (rw [if_pos (by omega)]; done) | (rw [if_neg (by omega)]; with_reducible rfl) | (rw [if_pos (by omega)]; with_reducible rfl)
          try simp only [List.getElem_toArray, List.getElem_cons_zero, List.getElem_cons_succ, Act.put, List.setIfInBounds_toArray, List.set_cons_zero, List.set_cons_succ]
          refine wpAnyH_take (i := 2) (v := ?_) rfl (by kernel_rfl) (by kernel_rfl) (by kernel_rfl) (fun _ _ _ h => h) (Or.inl ⟨by rfl, ?_⟩) (by assumption) ?_
          rotate_left 1
          · intro w' hSw
            go_simp
            all_goals first | with_reducible rfl | (rw [if_neg (by omega)]; done) | (rw [if_pos (by omega)]; done) | (rw [if_neg (by omega)]; with_reducible rfl) | (rw [if_pos (by omega)]; with_reducible rfl)
          try simp only [List.getElem_toArray, List.getElem_cons_zero, List.getElem_cons_succ, Act.put, List.setIfInBounds_toArray, List.set_cons_zero, List.set_cons_succ]
          refine wpAnyH_take (i := 3) (v := ?_) rfl (by kernel_rfl) (by kernel_rfl) (by kernel_rfl) (fun _ _ _ h => h) (Or.inl ⟨by rfl, ?_⟩) (by assumption) ?_
          rotate_left 1
          · intro w' hSw
            go_simp
            all_goals first | with_reducible rfl | (rw [if_neg (by omega)]; done) | (rw [if_pos (by omega)]; done) | (rw [if_neg (by omega)]; with_reducible rfl) | (rw [if_pos (by omega)]; with_reducible rfl)
          try simp only [List.getElem_toArray, List.getElem_cons_zero, List.getElem_cons_succ, Act.put, List.setIfInBounds_toArray, List.set_cons_zero, List.set_cons_succ]
          refine wpAnyH_take (i := 4) (v := ?_) rfl (by kernel_rfl) (by kernel_rfl) (by kernel_rfl) (fun _ _ _ h => h) (Or.inl ⟨by rfl, ?_⟩) (by assumption) ?_
          rotate_left 1
          · intro w' hSw
            go_simp
            all_goals first | with_reducible rfl | (rw [if_neg (by omega)]; done) | (rw [if_pos (by omega)]; done) | (rw [if_neg (by omega)]; with_reducible rfl) | (rw [if_pos (by omega)]; with_reducible rfl)
          try simp only [List.getElem_toArray, List.getElem_cons_zero, List.getElem_cons_succ, Act.put, List.setIfInBounds_toArray, List.set_cons_zero, List.set_cons_succ]
          refine wpAnyH_take (i := 5) (v := ?_) rfl (by kernel_rfl) (by kernel_rfl) (by kernel_rfl) (fun _ _ _ h => h) (Or.inl ⟨by rfl, ?_⟩) (by assumption) ?_
          rotate_left 1
          · intro w' hSw
            obtain ⟨p0, p1⟩ := hSw
            go_simp
            all_goals first | with_reducible rfl | (rw [if_neg (by omega)]; done) | (rw [if_pos (by omega)]; done) | (rw [if_neg (by omega)]; with_reducible rfl) | (rw [if_pos (by omega)]; with_reducible rfl)
          try simp only [List.getElem_toArray, List.getElem_cons_zero, List.getElem_cons_succ, Act.put, List.setIfInBounds_toArray, List.set_cons_zero, List.set_cons_succ]
          refine wpAnyH_take (i := 6) (v := ?_) rfl (by kernel_rfl) (by kernel_rfl) (by kernel_rfl) (fun _ _ _ h => h) (Or.inl ⟨by rfl, ?_⟩) (by assumption) ?_
          rotate_left 1
          · intro w' hSw
            go_simp
            all_goals first | with_reducible rfl | (rw [if_neg (by omega)]; done) | (rw [if_pos (by omega)]; done) | (rw [if_neg (by omega)]; with_reducible rfl) | (rw [if_pos (by omega)]; with_reducible rfl)
          try simp only [List.getElem_toArray, List.getElem_cons_zero, List.getElem_cons_succ, Act.put, List.setIfInBounds_toArray, List.set_cons_zero, List.set_cons_succ]
          refine wpAnyH_take (i := 7) (v := ?_) rfl (by kernel_rfl) (by kernel_rfl) (by kernel_rfl) (fun _ _ _ h => h) (Or.inl ⟨by rfl, ?_⟩) (by assumption) ?_
          rotate_left 1
          · intro w' hSw
            go_simp
            all_goals first | with_reducible rfl | (rw [if_neg (by omega)]; done) | (rw [if_pos (by omega)]; done) | (rw [if_neg (by omega)]; with_reducible rfl) | (rw [if_pos (by omega)]; with_reducible rfl)
          try simp only [List.getElem_toArray, List.getElem_cons_zero, List.getElem_cons_succ, Act.put, List.setIfInBounds_toArray, List.set_cons_zero, List.set_cons_succ]
          refine wpAnyH_take (i := 8) (v := ?_) rfl (by kernel_rfl) (by kernel_rfl) (by kernel_rfl) (fun _ _ _ h => h) (Or.inl ⟨by rfl, ?_⟩) (by assumption) ?_
          rotate_left 1
          · intro w' hSw
            go_simp
            all_goals first | with_reducible rfl | (rw [if_neg (by omega)]; done) | (rw [if_pos (by omega)]; done) | (rw [if_neg (by omega)]; with_reducible rfl) | (rw [if_pos (by omega)]; with_reducible rfl)
          try simp only [List.getElem_toArray, List.getElem_cons_zero, List.getElem_cons_succ, Act.put, List.setIfInBounds_toArray, List.set_cons_zero, List.set_cons_succ]
          refine wpAnyH_take (i := 9) (v := ?_) rfl (by kernel_rfl) (by kernel_rfl) (by kernel_rfl) (fun _ _ _ h => h) (Or.inl ⟨by rfl, ?_⟩) (by assumption) ?_
          rotate_left 1
          · intro w' hSw
            go_simp
            all_goals first | with_reducible rfl | (rw [if_neg (by omega)]; done) | (rw [if_pos (by omega)]; done) | (rw [if_neg (by omega)]; with_reducible rfl) | (rw [if_pos (by omega)]; with_reducible rfl)
          try simp only [List.getElem_toArray, List.getElem_cons_zero, List.getElem_cons_succ, Act.put, List.setIfInBounds_toArray, List.set_cons_zero, List.set_cons_succ]
          refine wpAnyH_take (i := 10) (v := ?_) rfl (by kernel_rfl) (by kernel_rfl) (by kernel_rfl) (fun _ _ _ h => h) (Or.inl ⟨by rfl, ?_⟩) (by assumption) ?_
          rotate_left 1
          · intro w' hSw
            obtain ⟨p0, p1⟩ := hSw
            go_simp
            all_goals first | with_reducible rfl | (rw [if_neg (by omega)]; done) | (rw [if_pos (by omega)]; done) | (rw [if_neg (by omega)]; with_reducible rfl) | (rw [if_pos (by omega)]; with_reducible rfl)
          try simp only [List.getElem_toArray, List.getElem_cons_zero, List.getElem_cons_succ, Act.put, List.setIfInBounds_toArray, List.set_cons_zero, List.set_cons_succ]
          refine wpAnyH_ready (rs := [11]) (by kernel_rfl) (by simp) ?_
          refine AllReadyH.cons rfl (fun K hK => ?_) AllReadyH.nil
          refine step_call rfl 21 Tryd.f21 _ _ rfl Tryd.func21 (by kernel_rfl) (by kernel_rfl) _ _ ((HGV.out _ HA.out.drew).mono (fun e w' h => (⟨_, h.1, rfl, h.2⟩ : ∃ v, e = .returned v ∧ (v = .int .i64 X3.2 ∧ Al w' p g X3.1 ∧ Turn (· = g) wr.drew w')))) (by go_simp) ?_
          rintro v11 w11 ⟨rfl, ha11, ht11⟩
          have A3 := Lib.hid ha11
          have T3 := Lib.hid (HT.out.drew.trans_new ht11 (fun j hj h => by omega))
          have hbg : ¬ b = g := by omega
          refine hK.out _ _ ⟨(World.cell?_of_block (w := wr.drew) (a := ⟨b, o + k * 3 + 1, none⟩) (ht11.block b hbw hbg)).trans D1.out.1, (World.cell?_of_block (w := wr.drew) (a := ⟨b, o + k * 3 + 2, none⟩) (ht11.block b hbw hbg)).trans D1.out.2⟩ (fun hHeld => ?_)
          clear hK K
          try simp only [List.getElem_toArray, List.getElem_cons_zero, List.getElem_cons_succ, Act.put, List.setIfInBounds_toArray, List.set_cons_zero, List.set_cons_succ]
          refine wpAnyH_done (by kernel_rfl) ?_ _
          refine NoPanic.normal ?_
          -- region end
          clear hHeld
          go_wp2
          go_roundw
          case rel => exact ⟨k + 1, X3.1, h1, h2, by simp, by rw [L3.out, HL.out], A3.out, T3.out⟩
          case measure => simp [intOf]; omega
        · have hk1b : (qk == 1) = false := by simpa using hk1
          have hk2b : (qk == 2) = false := by simpa using hk2
          clear hk1 hk2
          go_wp2_with (go_at_call 20; refine HTK.out.mono ?_; rintro e w2 ⟨rfl, ha2, ht2⟩)
          go_roundw
          case rel => exact ⟨k + 1, X1.1, h1, h2, by simp, by rw [L1.out, HL.out], ha2, HT.out.trans_new ht2 (fun j hj h => by omega)⟩
          case measure => simp [intOf]; omega
      · have h2b : decide (k < 300) = false := by simpa using h2
        have h2i : (300 : Int) ≤ (k : Int) := by omega
        go_wp2
        go_ret
        exact ⟨p, g, l, rfl, HA.out, HL.out, hp, hg, HT.out⟩
    · have h1b : decide (k < n) = false := by simpa using h1
      have h1i : (n : Int) ≤ (k : Int) := by omega
      go_wp2
      go_ret
      exact ⟨p, g, l, rfl, HA.out, HL.out, hp, hg, HT.out⟩
end Go.Proofs.YtjffdekonjejgaaDoor
