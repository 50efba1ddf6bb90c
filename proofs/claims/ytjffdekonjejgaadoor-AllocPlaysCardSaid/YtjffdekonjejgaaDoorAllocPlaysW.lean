/- AllocPlays: its walk. -/
import Derived.Test.YtjffdekonjejgaaDoorAlAa
import Derived.Deep.CutRange
import Derived.Deep.DeepCutAuto
namespace Go.Proofs.YtjffdekonjejgaaDoor
open Go.RowKit
set_option linter.unusedVariables false
set_option maxRecDepth 100000

theorem blk_apart2 {W : World} {t q : Nat} {cs : List Value} {l' : List Bool} {p g : Nat} (hb : Blk W q t cs) (ha : Al W p g l') (ht : t ≠ 55) : ¬ p = q := by
  obtain ⟨c2, rest, h1, _⟩ := ha
  intro e
  subst e
  exact ht (hb.same h1).1
theorem allocPlays_bad (n : Int) (v : Value) (qs : List Ac) (i : Int) (w : World) (hn : n < 1 ∨ 16384 < n) (hq : Acs w.heap.size w v qs) (hT : Tb w) :
    Calls Tryd.prog 3 #[.int .i64 n, v, .int .i64 i] w fun r w' => r = .returned (.bool true) ∧ Below w.heap.size w w' := by
  obtain ⟨A, c, rfl, hql, _⟩ := hq
  have HN := Lib.hid (new7_bad n hn w)
  have HR := Lib.hid (fun w => refNew7_bad n hn w)
  have HL := Lib.hid (fun w h => lives7 w h)
  have HT := Lib.hid hT
  obtain ⟨m, hm⟩ : ∃ m, m = qs.length := ⟨_, rfl⟩
  rw [← hm] at hql ⊢
  clear hT hn hm
  by_cases h3 : (300 : Int) < (m : Int)
  · go_enter Tryd.func3, Tryd.ntmps3
    go_wp2_with (go_at_call 8; refine HN.out.mono ?_; rintro e w1 ⟨rfl, rfl⟩)
    refine (HR.out _).mono ?_
    rintro e w2 ⟨rfl, ht2⟩
    have T2 := Lib.hid (ht2.alloc (.cells #[.slice none 0 0] 29))
    have HLL := Lib.hid (HL.out _ (HT.out.turn T2.out (fun h => h)))
    clear ht2
    go_wp2_with fail
    refine HLL.out.mono ?_
    rintro e w3 ⟨rfl, ht3⟩
    go_wp2_with fail
    go_ret
    exact ⟨rfl, (T2.out.trans ht3).below (Nat.le_refl _) (fun _ h => h.elim)⟩
  · go_enter Tryd.func3, Tryd.ntmps3
    go_wp2_with (go_at_call 8; refine HN.out.mono ?_; rintro e w1 ⟨rfl, rfl⟩)
    refine (HR.out _).mono ?_
    rintro e w2 ⟨rfl, ht2⟩
    have T2 := Lib.hid (ht2.alloc (.cells #[.slice none 0 0] 29))
    have HLL := Lib.hid (HL.out _ (HT.out.turn T2.out (fun h => h)))
    clear ht2
    go_wp2_with fail
    go_loop [7, 11] (fun v7 v11 => v7 = .pointer none ∧ v11 = .int .i64 0) (fun _ _ => 0)
    case atStart => exact ⟨rfl, rfl⟩
    case round =>
      obtain ⟨rfl, rfl⟩ := hrel
      have hm : (decide (0 < m) = true ∧ (0 : Int) < (m : Int)) ∨ (decide (0 < m) = false ∧ (m : Int) ≤ 0) := by
        by_cases h : 0 < m
        · exact .inl ⟨by simpa using h, by omega⟩
        · exact .inr ⟨by simpa using h, by omega⟩
      rcases hm with ⟨d1, d2⟩ | ⟨d1, d2⟩
      all_goals
        go_wp2_with fail
        refine HLL.out.mono ?_
        rintro e w3 ⟨rfl, ht3⟩
        go_wp2_with fail
        go_ret
        exact ⟨rfl, (T2.out.trans ht3).below (Nat.le_refl _) (fun _ h => h.elim)⟩
set_option maxHeartbeats 8000000 in
theorem allocPlays_good (n : Nat) (v : Value) (qs : List Ac) (i : Int) (w : World) (h1 : 1 ≤ n) (h2 : n ≤ 16384) (hq : Acs w.heap.size w v qs) (hi : -9223372036854775808 ≤ i ∧ i ≤ 9223372036854775807) (hT : Tb w) :
    Calls Tryd.prog 3 #[.int .i64 n, v, .int .i64 i] w fun r w' => r = .returned (.bool true) ∧ Below w.heap.size w w' := by
  obtain ⟨A, c, rfl, hql, hx⟩ := hq
  have HX := Lib.hid hx
  have HN := Lib.hid (new7_ok n h1 h2 w hT)
  have HR := Lib.hid (fun w => refNew7_ok n h1 h2 w)
  have HL := Lib.hid (fun w h => lives7 w h)
  have HT := Lib.hid hT
  obtain ⟨m, hm⟩ : ∃ m, m = qs.length := ⟨_, rfl⟩
  have HM := Lib.hid hm
  rw [← hm] at hql ⊢
  clear hT hm hx
  by_cases h3 : (300 : Int) < (m : Int)
  · go_enter Tryd.func3, Tryd.ntmps3
    go_wp2_with (go_at_call 8; refine HN.out.mono ?_; rintro e w1 ⟨p, g, rfl, ha1, hp, hg, ht1⟩)
    refine (HR.out _).mono ?_
    rintro e w2 ⟨v2, rfl, hv2, ht2⟩
    obtain ⟨b2, c2, hc2⟩ := hv2.sl
    rw [List.length_replicate] at hc2
    subst hc2
    have T2 := Lib.hid ((ht1.trans ht2).alloc (.cells #[.slice (some ⟨b2, 0, none⟩) n c2] 29))
    have HLL := Lib.hid (HL.out _ (HT.out.turn T2.out (fun h => h)))
    clear ht2 ha1 hv2 ht1
    go_wp2_with fail
    refine HLL.out.mono ?_
    rintro e w3 ⟨rfl, ht3⟩
    go_wp2_with fail
    go_ret
    exact ⟨rfl, (T2.out.trans ht3).below (Nat.le_refl _) (fun _ h => h.elim)⟩
  · go_enter Tryd.func3, Tryd.ntmps3
    go_wp2_with (go_at_call 8; refine HN.out.mono ?_; rintro e w1 ⟨p, g, rfl, ha1, hp, hg, ht1⟩)
    refine (HR.out _).mono ?_
    rintro e w2 ⟨v2, rfl, hv2, ht2⟩
    obtain ⟨b2, c2, hc2⟩ := hv2.sl
    rw [List.length_replicate] at hc2
    subst hc2
    have T2 := Lib.hid ((ht1.trans ht2).alloc (.cells #[.slice (some ⟨b2, 0, none⟩) n c2] 29))
    have A2 := Lib.hid ((ha1.still ht2).still ((Turn.refl (fun _ => False) w2).alloc (.cells #[.slice (some ⟨b2, 0, none⟩) n c2] 29)))
    have V2 := Lib.hid (hv2.still ((Turn.refl (fun _ => False) w2).alloc (.cells #[.slice (some ⟨b2, 0, none⟩) n c2] 29)))
    have M2 := Lib.hid (Blk.new w2 29 [.slice (some ⟨b2, 0, none⟩) n c2])
    have hs2 : w.heap.size ≤ w2.heap.size := Nat.le_trans ht1.size ht2.size
    have HLN : Hid ((List.replicate n true).length = n) := Lib.hid (by simp)
    obtain ⟨l0, hl0⟩ : ∃ l0, l0 = List.replicate n true := ⟨_, rfl⟩
    rw [← hl0] at A2 V2 HLN
    clear hl0
    clear ht2 ha1 hv2 ht1
    go_wp2_with fail
    go_loopw [7, 11] (fun v7 v11 wr => ∃ (k p g : Nat) (vv : Value) (l : List Bool), k ≤ m ∧ v11 = .int .i64 k ∧ v7 = .pointer (some ⟨p, 0, none⟩) ∧ Al wr p g l ∧ Tf wr vv l ∧ Blk wr w2.heap.size 29 [vv] ∧ l.length = n ∧ w.heap.size ≤ p ∧ w.heap.size ≤ g ∧ Below w.heap.size w wr) (fun _ v11 _ => m - (intOf v11).toNat)
    case atStart => exact ⟨0, p, g, _, l0, Nat.zero_le _, rfl, rfl, A2.out, V2.out, M2.out, HLN.out, hp, hg, T2.out.below (Nat.le_refl _) (fun _ h => h.elim)⟩
    case round =>
      clear hp hg A2 V2 M2 T2
      obtain ⟨k, p, g, vv, l, hk, rfl, rfl, ha, hv, hM, hl, hp, hg, hbw⟩ := hrel
      obtain ⟨b4, c4, rfl⟩ := hv.sl
      have HA := Lib.hid ha
      have HV := Lib.hid hv
      have HMB := Lib.hid hM
      have HLE := Lib.hid hl
      have HBW := Lib.hid hbw
      rw [hl] at HMB HV
      have y0 := HMB.out.cell 0
      have y1 := HMB.out.free 0
      simp only [List.getElem?_cons_zero] at y0
      have e1 := wrap_of ((k : Int) + 1) (by omega) (by omega)
      clear ha hv hM hl hbw
      by_cases hlt : k < m
      · have hlti : (k : Int) < (m : Int) := by omega
        obtain ⟨b, o, rfl, hb, hcc⟩ := HX.out (by rw [← HM.out]; omega)
        obtain ⟨q, hqk⟩ : ∃ q, qs[k]? = some q := ⟨_, List.getElem?_eq_getElem (by rw [← HM.out]; exact hlt)⟩
        obtain ⟨⟨d0, d1, d2⟩, bi, bc⟩ := hcc k q hqk
        rw [← Nat.add_assoc] at d1 d2
        have q0 := (HBW.out.cell (p := ⟨b, o + k * 3, none⟩) hb).trans d0
        have q1 := (HBW.out.cell (p := ⟨b, o + k * 3 + 1, none⟩) hb).trans d1
        have q2 := (HBW.out.cell (p := ⟨b, o + k * 3 + 2, none⟩) hb).trans d2
        have HQ := Lib.hid (show wr.drew.cell? ⟨b, o + k * 3, none⟩ = some (.int .i64 q.k) ∧ wr.drew.cell? ⟨b, o + k * 3 + 1, none⟩ = some (.int .i64 q.i) ∧ wr.drew.cell? ⟨b, o + k * 3 + 2, none⟩ = some (.int .i64 q.c) from ⟨q0, q1, q2⟩)
        have HST := Lib.hid (fun W (hW : Turn (fun _ => False) wr W) => HLE.out ▸ step7_any (HA.out.still hW) (HV.out.still hW) q bi bc)
        have hgM := Lib.hid (blk_apart HMB.out (by decide) HA.out)
        have hgb : Hid (¬ b = g) := Lib.hid (by omega)
        have hwr := HBW.out.size
        have hbr : b < wr.heap.size := by omega
        have hpos : 0 < wr.heap.size := by omega
        have hMl : w2.heap.size < wr.heap.size := HMB.out.lt
        have hgl := HA.out.ltg
        clear hcc hqk d0 d1 d2 q0 q1 q2
        go_wp2_with fail
        go_cut [12, 13, 14] from 46 to 89 (fun a12 a13 a14 wx => ∃ (p6 g6 Y c6 b6 : Nat) (l6 : List Bool), a12 = .pointer (some ⟨p6, 0, none⟩) ∧ a13 = .pointer (some ⟨Y, 0, none⟩) ∧ a14 = .bool true ∧ Al wx p6 g6 l6 ∧ Tf wx (.slice (some ⟨b6, 0, none⟩) n c6) l6 ∧ Blk wx Y 29 [.slice (some ⟨b6, 0, none⟩) n c6] ∧ Blk wx w2.heap.size 29 [.slice (some ⟨b4, 0, none⟩) n c4] ∧ ¬ w2.heap.size = Y ∧ l6.length = n ∧ w.heap.size ≤ p6 ∧ w.heap.size ≤ g6 ∧ Below w.heap.size w wx)
        case first =>
          refine wp_region_noPanic ?_
          refine wp_region_held_drew (S := fun Y => Y.cell? ⟨w2.heap.size, 0, none⟩ = some (.slice (some ⟨b4, 0, none⟩) n c4) ∧ Y.cell? ⟨b, o + k * 3, none⟩ = some (.int .i64 q.k) ∧ Y.cell? ⟨b, o + k * 3 + 1, none⟩ = some (.int .i64 q.i) ∧ Y.cell? ⟨b, o + k * 3 + 2, none⟩ = some (.int .i64 q.c)) (by kernel_rfl) ⟨HMB.out.drew.cell 0, HQ.out⟩ (fun hHeld => ?_)
          -- region 8
          refine wpAnyH_take (i := 0) (v := ?_) rfl (by kernel_rfl) (by kernel_rfl) (by kernel_rfl) (fun _ _ _ h => h) (Or.inl ⟨by rfl, ?_⟩) (by assumption) ?_
          rotate_left 1
          · intro w' hSw
            go_simp
            all_goals first | with_reducible rfl | (rw [if_neg (by omega)]; done) | (rw [if_pos (by omega)]; done) | (rw [if_neg (by omega)]; with_reducible rfl) | (rw [if_pos (by omega)]; with_reducible rfl)
          try simp only [List.getElem_toArray, List.getElem_cons_zero, List.getElem_cons_succ, Act.put, List.setIfInBounds_toArray, List.set_cons_zero, List.set_cons_succ]
          refine wpAnyH_take (i := 1) (v := ?_) rfl (by kernel_rfl) (by kernel_rfl) (by kernel_rfl) (fun _ _ _ h => h) (Or.inl ⟨by rfl, ?_⟩) (by assumption) ?_
          rotate_left 1
          · intro w' hSw
            obtain ⟨s0, s1, s2, s3⟩ := hSw
            go_simp
            all_goals first | with_reducible rfl | (rw [if_neg (by omega)]; done) | (rw [if_pos (by omega)]; done) | (rw [if_neg (by omega)]; with_reducible rfl) | (rw [if_pos (by omega)]; with_reducible rfl)
          try simp only [List.getElem_toArray, List.getElem_cons_zero, List.getElem_cons_succ, Act.put, List.setIfInBounds_toArray, List.set_cons_zero, List.set_cons_succ]
          refine wpAnyH_take (i := 2) (v := ?_) rfl (by kernel_rfl) (by kernel_rfl) (by kernel_rfl) (fun _ _ _ h => h) (Or.inl ⟨by rfl, ?_⟩) (by assumption) ?_
          rotate_left 1
          · intro w' hSw
            go_simp
            all_goals first | with_reducible rfl | (rw [if_neg (by omega)]; done) | (rw [if_pos (by omega)]; done) | (rw [if_neg (by omega)]; with_reducible rfl) | (rw [if_pos (by omega)]; with_reducible rfl)
          try simp only [List.getElem_toArray, List.getElem_cons_zero, List.getElem_cons_succ, Act.put, List.setIfInBounds_toArray, List.set_cons_zero, List.set_cons_succ]
          refine wpAnyH_take (i := 3) (v := ?_) rfl (by kernel_rfl) (by kernel_rfl) (by kernel_rfl) (fun _ _ _ h => h) (Or.inl ⟨by rfl, ?_⟩) (by assumption) ?_
          rotate_left 1
          · intro w' hSw
            go_simp
            all_goals first | with_reducible rfl | (rw [if_neg (by omega)]; done) | (rw [if_pos (by omega)]; done) | (rw [if_neg (by omega)]; with_reducible rfl) | (rw [if_pos (by omega)]; with_reducible rfl)
          try simp only [List.getElem_toArray, List.getElem_cons_zero, List.getElem_cons_succ, Act.put, List.setIfInBounds_toArray, List.set_cons_zero, List.set_cons_succ]
          refine wpAnyH_take (i := 4) (v := ?_) rfl (by kernel_rfl) (by kernel_rfl) (by kernel_rfl) (fun _ _ _ h => h) (Or.inl ⟨by rfl, ?_⟩) (by assumption) ?_
          rotate_left 1
          · intro w' hSw
            go_simp
            all_goals first | with_reducible rfl | (rw [if_neg (by omega)]; done) | (rw [if_pos (by omega)]; done) | (rw [if_neg (by omega)]; with_reducible rfl) | (rw [if_pos (by omega)]; with_reducible rfl)
          try simp only [List.getElem_toArray, List.getElem_cons_zero, List.getElem_cons_succ, Act.put, List.setIfInBounds_toArray, List.set_cons_zero, List.set_cons_succ]
          refine wpAnyH_take (i := 5) (v := ?_) rfl (by kernel_rfl) (by kernel_rfl) (by kernel_rfl) (fun _ _ _ h => h) (Or.inl ⟨by rfl, ?_⟩) (by assumption) ?_
          rotate_left 1
          · intro w' hSw
            obtain ⟨s0, s1, s2, s3⟩ := hSw
            go_simp
            all_goals first | with_reducible rfl | (rw [if_neg (by omega)]; done) | (rw [if_pos (by omega)]; done) | (rw [if_neg (by omega)]; with_reducible rfl) | (rw [if_pos (by omega)]; with_reducible rfl)
          try simp only [List.getElem_toArray, List.getElem_cons_zero, List.getElem_cons_succ, Act.put, List.setIfInBounds_toArray, List.set_cons_zero, List.set_cons_succ]
          refine wpAnyH_ready (rs := [6, 11]) (by kernel_rfl) (by simp) ?_
          refine AllReadyH.cons rfl (fun K hK => ?_) (AllReadyH.cons rfl (fun K hK => ?_) AllReadyH.nil)
          · refine step_call rfl 11 Tryd.f11 _ _ rfl Tryd.func11 (by kernel_rfl) (by kernel_rfl) _ _ ((HST.out _ ((Turn.refl (fun _ => False) wr).drew)).mono (fun e w' h => (by obtain ⟨p', g', v', l', he, hr⟩ := h; exact ⟨_, he, p', g', v', l', rfl, hr⟩ : ∃ v, e = .returned v ∧ ∃ p' g' v' l', v = .tuple #[.pointer (some ⟨p', 0, none⟩), .agg #[v'], .bool true] ∧ Al w' p' g' l' ∧ Tf w' v' l' ∧ l'.length = n ∧ (wr.drew.heap.size ≤ p' ∨ p' = p) ∧ (wr.drew.heap.size ≤ g' ∨ g' = g) ∧ Turn (· = g) wr.drew w'))) (by go_simp) ?_
            rintro v6 w6 ⟨p6, g6, v6', l6, rfl, ha6, hv6, hl6, hp6, hg6, ht6⟩
            obtain ⟨b6, c6, hvv⟩ := hv6.sl
            rw [hl6] at hvv
            subst hvv
            have A6 := Lib.hid ha6
            have V6 := Lib.hid hv6
            have L6 := Lib.hid hl6
            have T6 := Lib.hid ((((Turn.refl (fun _ => False) wr).drew)).mono (T := fun j => j = g) (fun _ _ h => h.elim) |>.trans ht6)
            have hs6 := T6.out.size
            have hbs := (((Turn.refl (fun _ => False) wr).drew)).size
            have P6 : Hid (w.heap.size ≤ p6 ∧ w.heap.size ≤ g6) := Lib.hid ⟨by rcases hp6 with h | h <;> omega, by rcases hg6 with h | h <;> omega⟩
            clear hbs
            have M6 := Lib.hid (HMB.out.turn T6.out hgM.out)
            clear ha6 hv6 ht6 hp6 hg6 hl6
            refine hK.out _ _ ⟨M6.out.cell 0, (World.cell?_of_block (w := wr) (a := ⟨b, o + k * 3, none⟩) (T6.out.block b hbr hgb.out)).trans HQ.out.1, (World.cell?_of_block (w := wr) (a := ⟨b, o + k * 3 + 1, none⟩) (T6.out.block b hbr hgb.out)).trans HQ.out.2.1, (World.cell?_of_block (w := wr) (a := ⟨b, o + k * 3 + 2, none⟩) (T6.out.block b hbr hgb.out)).trans HQ.out.2.2⟩ (fun hHeld => ?_)
            clear hK K
            try simp only [List.getElem_toArray, List.getElem_cons_zero, List.getElem_cons_succ, Act.put, List.setIfInBounds_toArray, List.set_cons_zero, List.set_cons_succ]
            refine wpAnyH_take (i := 7) (v := ?_) rfl (by kernel_rfl) (by kernel_rfl) (by kernel_rfl) (fun _ _ _ h => h) (Or.inl ⟨by rfl, ?_⟩) (by assumption) ?_
            rotate_left 1
            · intro w' hSw
              go_simp
              all_goals first | with_reducible rfl | (rw [if_neg (by omega)]; done) | (rw [if_pos (by omega)]; done) | (rw [if_neg (by omega)]; with_reducible rfl) | (rw [if_pos (by omega)]; with_reducible rfl)
            try simp only [List.getElem_toArray, List.getElem_cons_zero, List.getElem_cons_succ, Act.put, List.setIfInBounds_toArray, List.set_cons_zero, List.set_cons_succ]
            refine wpAnyH_take (i := 8) (v := ?_) rfl (by kernel_rfl) (by kernel_rfl) (by kernel_rfl) (fun _ _ _ h => h) (Or.inl ⟨by rfl, ?_⟩) (by assumption) ?_
            rotate_left 1
            · intro w' hSw
              go_simp
              all_goals first | with_reducible rfl | (rw [if_neg (by omega)]; done) | (rw [if_pos (by omega)]; done) | (rw [if_neg (by omega)]; with_reducible rfl) | (rw [if_pos (by omega)]; with_reducible rfl)
            try simp only [List.getElem_toArray, List.getElem_cons_zero, List.getElem_cons_succ, Act.put, List.setIfInBounds_toArray, List.set_cons_zero, List.set_cons_succ]
            refine wpAnyH_take (i := 9) (v := ?_) rfl (by kernel_rfl) (by kernel_rfl) (by kernel_rfl) (fun _ _ _ h => h) (Or.inl ⟨by rfl, ?_⟩) (by assumption) ?_
            rotate_left 1
            · intro w' hSw
              go_simp
              all_goals first | with_reducible rfl | (rw [if_neg (by omega)]; done) | (rw [if_pos (by omega)]; done) | (rw [if_neg (by omega)]; with_reducible rfl) | (rw [if_pos (by omega)]; with_reducible rfl)
            try simp only [List.getElem_toArray, List.getElem_cons_zero, List.getElem_cons_succ, Act.put, List.setIfInBounds_toArray, List.set_cons_zero, List.set_cons_succ]
            refine wpAnyH_take (i := 10) (v := ?_) rfl (by kernel_rfl) (by kernel_rfl) (by kernel_rfl) (fun _ _ _ h => h) (Or.inl ⟨by rfl, ?_⟩) (by assumption) ?_
            rotate_left 1
            · intro w' hSw
              go_simp
              all_goals first | with_reducible rfl | (rw [if_neg (by omega)]; done) | (rw [if_pos (by omega)]; done) | (rw [if_neg (by omega)]; with_reducible rfl) | (rw [if_pos (by omega)]; with_reducible rfl)
            try simp only [List.getElem_toArray, List.getElem_cons_zero, List.getElem_cons_succ, Act.put, List.setIfInBounds_toArray, List.set_cons_zero, List.set_cons_succ]
            refine wpAnyH_ready (rs := [11]) (by kernel_rfl) (by simp) ?_
            refine AllReadyH.cons rfl (fun K hK => ?_) AllReadyH.nil
            go_simp
            have NY := Lib.hid (Blk.new w6 29 [.slice none 0 0])
            have yc := NY.out.cell 0
            have yf := NY.out.free 0
            simp only [List.getElem?_cons_zero] at yc
            have T7 := Lib.hid (T6.out.alloc (.cells #[.slice none 0 0] 29))
            have M7 := Lib.hid (M6.out.alloc (.cells #[.slice none 0 0] 29))
            refine hK.out _ _ ⟨M7.out.cell 0, (World.cell?_of_block (w := wr) (a := ⟨b, o + k * 3, none⟩) (T7.out.block b hbr hgb.out)).trans HQ.out.1, (World.cell?_of_block (w := wr) (a := ⟨b, o + k * 3 + 1, none⟩) (T7.out.block b hbr hgb.out)).trans HQ.out.2.1, (World.cell?_of_block (w := wr) (a := ⟨b, o + k * 3 + 2, none⟩) (T7.out.block b hbr hgb.out)).trans HQ.out.2.2⟩ (fun hHeld => ?_)
            clear hK K
            try simp only [List.getElem_toArray, List.getElem_cons_zero, List.getElem_cons_succ, Act.put, List.setIfInBounds_toArray, List.set_cons_zero, List.set_cons_succ]
            refine wpAnyH_take (i := 12) (v := ?_) rfl (by kernel_rfl) (by kernel_rfl) (by kernel_rfl) (fun _ _ _ h => h) (Or.inl ⟨by rfl, ?_⟩) (by assumption) ?_
            rotate_left 1
            · intro w' hSw
              go_simp
              all_goals first | with_reducible rfl | (rw [if_neg (by omega)]; done) | (rw [if_pos (by omega)]; done) | (rw [if_neg (by omega)]; with_reducible rfl) | (rw [if_pos (by omega)]; with_reducible rfl)
            try simp only [List.getElem_toArray, List.getElem_cons_zero, List.getElem_cons_succ, Act.put, List.setIfInBounds_toArray, List.set_cons_zero, List.set_cons_succ]
            refine wpAnyH_ready (rs := [13]) (by kernel_rfl) (by simp) ?_
            refine AllReadyH.cons rfl (fun K hK => ?_) AllReadyH.nil
            go_simp
            have T9 := Lib.hid (T6.out.alloc (.cells #[.slice (some ⟨b6, 0, none⟩) n c6] 29))
            have M9 := Lib.hid (M6.out.alloc (.cells #[.slice (some ⟨b6, 0, none⟩) n c6] 29))
            have N9 := Lib.hid (Blk.new w6 29 [.slice (some ⟨b6, 0, none⟩) n c6])
            refine hK.out _ _ ⟨M9.out.cell 0, (World.cell?_of_block (w := wr) (a := ⟨b, o + k * 3, none⟩) (T9.out.block b hbr hgb.out)).trans HQ.out.1, (World.cell?_of_block (w := wr) (a := ⟨b, o + k * 3 + 1, none⟩) (T9.out.block b hbr hgb.out)).trans HQ.out.2.1, (World.cell?_of_block (w := wr) (a := ⟨b, o + k * 3 + 2, none⟩) (T9.out.block b hbr hgb.out)).trans HQ.out.2.2⟩ (fun hHeld => ?_)
            clear hK K
            try simp only [List.getElem_toArray, List.getElem_cons_zero, List.getElem_cons_succ, Act.put, List.setIfInBounds_toArray, List.set_cons_zero, List.set_cons_succ]
            refine wpAnyH_take (i := 14) (v := ?_) rfl (by kernel_rfl) (by kernel_rfl) (by kernel_rfl) (fun _ _ _ h => h) (Or.inl ⟨by rfl, ?_⟩) (by assumption) ?_
            rotate_left 1
            · intro w' hSw
              go_simp
              all_goals first | with_reducible rfl | (rw [if_neg (by omega)]; done) | (rw [if_pos (by omega)]; done) | (rw [if_neg (by omega)]; with_reducible rfl) | (rw [if_pos (by omega)]; with_reducible rfl)
            try simp only [List.getElem_toArray, List.getElem_cons_zero, List.getElem_cons_succ, Act.put, List.setIfInBounds_toArray, List.set_cons_zero, List.set_cons_succ]
            refine wpAnyH_done (by kernel_rfl) ?_ _
            refine NoPanic.normal ?_
            clear hHeld
            go_wp2_with fail
            go_meet
            exact ⟨p6, g6, w6.heap.size, c6, b6, l6, rfl, rfl, rfl, A6.out.still ((Turn.refl (fun _ => False) w6).alloc (.cells #[.slice (some ⟨b6, 0, none⟩) n c6] 29)), V6.out.still ((Turn.refl (fun _ => False) w6).alloc (.cells #[.slice (some ⟨b6, 0, none⟩) n c6] 29)), N9.out, M9.out, by omega, L6.out, P6.out.1, P6.out.2, HBW.out.trans (T9.out.below hwr (fun j h => by rw [h]; exact hg))⟩
          · go_simp
            have NY : Hid (Blk (wr.drew.alloc (.cells #[.slice none 0 0] 29)) wr.heap.size 29 [.slice none 0 0]) := Lib.hid (Blk.new wr.drew 29 [.slice none 0 0])
            have hgY : Hid (¬ wr.heap.size = g) := Lib.hid (by have := HA.out.ltg; omega)
            refine hK.out _ _ ⟨(HMB.out.drew.alloc (.cells #[.slice none 0 0] 29)).cell 0, (World.cell?_of_block (w := wr) (a := ⟨b, o + k * 3, none⟩) (((Turn.refl (fun _ => False) wr).drew.alloc (.cells #[.slice none 0 0] 29)).block b hbr (fun h => h))).trans HQ.out.1, (World.cell?_of_block (w := wr) (a := ⟨b, o + k * 3 + 1, none⟩) (((Turn.refl (fun _ => False) wr).drew.alloc (.cells #[.slice none 0 0] 29)).block b hbr (fun h => h))).trans HQ.out.2.1, (World.cell?_of_block (w := wr) (a := ⟨b, o + k * 3 + 2, none⟩) (((Turn.refl (fun _ => False) wr).drew.alloc (.cells #[.slice none 0 0] 29)).block b hbr (fun h => h))).trans HQ.out.2.2⟩ (fun hHeld => ?_)
            clear hK K
            try simp only [List.getElem_toArray, List.getElem_cons_zero, List.getElem_cons_succ, Act.put, List.setIfInBounds_toArray, List.set_cons_zero, List.set_cons_succ]
            refine wpAnyH_ready (rs := [6]) (by kernel_rfl) (by simp) ?_
            refine AllReadyH.cons rfl (fun K hK => ?_) AllReadyH.nil
            refine step_call rfl 11 Tryd.f11 _ _ rfl Tryd.func11 (by kernel_rfl) (by kernel_rfl) _ _ ((HST.out _ (((Turn.refl (fun _ => False) wr).drew).alloc (.cells #[.slice none 0 0] 29))).mono (fun e w' h => (by obtain ⟨p', g', v', l', he, hr⟩ := h; exact ⟨_, he, p', g', v', l', rfl, hr⟩ : ∃ v, e = .returned v ∧ ∃ p' g' v' l', v = .tuple #[.pointer (some ⟨p', 0, none⟩), .agg #[v'], .bool true] ∧ Al w' p' g' l' ∧ Tf w' v' l' ∧ l'.length = n ∧ ((wr.drew.alloc (.cells #[.slice none 0 0] 29)).heap.size ≤ p' ∨ p' = p) ∧ ((wr.drew.alloc (.cells #[.slice none 0 0] 29)).heap.size ≤ g' ∨ g' = g) ∧ Turn (· = g) (wr.drew.alloc (.cells #[.slice none 0 0] 29)) w'))) (by go_simp) ?_
            rintro v6 w6 ⟨p6, g6, v6', l6, rfl, ha6, hv6, hl6, hp6, hg6, ht6⟩
            obtain ⟨b6, c6, hvv⟩ := hv6.sl
            rw [hl6] at hvv
            subst hvv
            have A6 := Lib.hid ha6
            have V6 := Lib.hid hv6
            have L6 := Lib.hid hl6
            have T6 := Lib.hid (((((Turn.refl (fun _ => False) wr).drew).alloc (.cells #[.slice none 0 0] 29))).mono (T := fun j => j = g) (fun _ _ h => h.elim) |>.trans ht6)
            have hs6 := T6.out.size
            have hbs := ((((Turn.refl (fun _ => False) wr).drew).alloc (.cells #[.slice none 0 0] 29))).size
            have P6 : Hid (w.heap.size ≤ p6 ∧ w.heap.size ≤ g6) := Lib.hid ⟨by rcases hp6 with h | h <;> omega, by rcases hg6 with h | h <;> omega⟩
            clear hbs
            have M6 := Lib.hid (HMB.out.turn T6.out hgM.out)
            have Y6 := Lib.hid (NY.out.turn ht6 (fun e => hgY.out e))
            have yc := Y6.out.cell 0
            have yf := Y6.out.free 0
            simp only [List.getElem?_cons_zero] at yc
            clear ha6 hv6 ht6 hp6 hg6 hl6
            refine hK.out _ _ ⟨M6.out.cell 0, (World.cell?_of_block (w := wr) (a := ⟨b, o + k * 3, none⟩) (T6.out.block b hbr hgb.out)).trans HQ.out.1, (World.cell?_of_block (w := wr) (a := ⟨b, o + k * 3 + 1, none⟩) (T6.out.block b hbr hgb.out)).trans HQ.out.2.1, (World.cell?_of_block (w := wr) (a := ⟨b, o + k * 3 + 2, none⟩) (T6.out.block b hbr hgb.out)).trans HQ.out.2.2⟩ (fun hHeld => ?_)
            clear hK K
            try simp only [List.getElem_toArray, List.getElem_cons_zero, List.getElem_cons_succ, Act.put, List.setIfInBounds_toArray, List.set_cons_zero, List.set_cons_succ]
            refine wpAnyH_take (i := 7) (v := ?_) rfl (by kernel_rfl) (by kernel_rfl) (by kernel_rfl) (fun _ _ _ h => h) (Or.inl ⟨by rfl, ?_⟩) (by assumption) ?_
            rotate_left 1
            · intro w' hSw
              go_simp
              all_goals first | with_reducible rfl | (rw [if_neg (by omega)]; done) | (rw [if_pos (by omega)]; done) | (rw [if_neg (by omega)]; with_reducible rfl) | (rw [if_pos (by omega)]; with_reducible rfl)
            try simp only [List.getElem_toArray, List.getElem_cons_zero, List.getElem_cons_succ, Act.put, List.setIfInBounds_toArray, List.set_cons_zero, List.set_cons_succ]
            refine wpAnyH_take (i := 8) (v := ?_) rfl (by kernel_rfl) (by kernel_rfl) (by kernel_rfl) (fun _ _ _ h => h) (Or.inl ⟨by rfl, ?_⟩) (by assumption) ?_
            rotate_left 1
            · intro w' hSw
              go_simp
              all_goals first | with_reducible rfl | (rw [if_neg (by omega)]; done) | (rw [if_pos (by omega)]; done) | (rw [if_neg (by omega)]; with_reducible rfl) | (rw [if_pos (by omega)]; with_reducible rfl)
            try simp only [List.getElem_toArray, List.getElem_cons_zero, List.getElem_cons_succ, Act.put, List.setIfInBounds_toArray, List.set_cons_zero, List.set_cons_succ]
            refine wpAnyH_take (i := 9) (v := ?_) rfl (by kernel_rfl) (by kernel_rfl) (by kernel_rfl) (fun _ _ _ h => h) (Or.inl ⟨by rfl, ?_⟩) (by assumption) ?_
            rotate_left 1
            · intro w' hSw
              go_simp
              all_goals first | with_reducible rfl | (rw [if_neg (by omega)]; done) | (rw [if_pos (by omega)]; done) | (rw [if_neg (by omega)]; with_reducible rfl) | (rw [if_pos (by omega)]; with_reducible rfl)
            try simp only [List.getElem_toArray, List.getElem_cons_zero, List.getElem_cons_succ, Act.put, List.setIfInBounds_toArray, List.set_cons_zero, List.set_cons_succ]
            refine wpAnyH_take (i := 10) (v := ?_) rfl (by kernel_rfl) (by kernel_rfl) (by kernel_rfl) (fun _ _ _ h => h) (Or.inl ⟨by rfl, ?_⟩) (by assumption) ?_
            rotate_left 1
            · intro w' hSw
              go_simp
              all_goals first | with_reducible rfl | (rw [if_neg (by omega)]; done) | (rw [if_pos (by omega)]; done) | (rw [if_neg (by omega)]; with_reducible rfl) | (rw [if_pos (by omega)]; with_reducible rfl)
            try simp only [List.getElem_toArray, List.getElem_cons_zero, List.getElem_cons_succ, Act.put, List.setIfInBounds_toArray, List.set_cons_zero, List.set_cons_succ]
            refine wpAnyH_take (i := 12) (v := ?_) rfl (by kernel_rfl) (by kernel_rfl) (by kernel_rfl) (fun _ _ _ h => h) (Or.inl ⟨by rfl, ?_⟩) (by assumption) ?_
            rotate_left 1
            · intro w' hSw
              go_simp
              all_goals first | with_reducible rfl | (rw [if_neg (by omega)]; done) | (rw [if_pos (by omega)]; done) | (rw [if_neg (by omega)]; with_reducible rfl) | (rw [if_pos (by omega)]; with_reducible rfl)
            try simp only [List.getElem_toArray, List.getElem_cons_zero, List.getElem_cons_succ, Act.put, List.setIfInBounds_toArray, List.set_cons_zero, List.set_cons_succ]
            refine wpAnyH_ready (rs := [13]) (by kernel_rfl) (by simp) ?_
            refine AllReadyH.cons rfl (fun K hK => ?_) AllReadyH.nil
            go_simp
            have TS := Lib.hid ((Turn.refl (fun j => j = wr.heap.size) w6).setCell (p := ⟨wr.heap.size, 0, none⟩) (.inl rfl) (.slice (some ⟨b6, 0, none⟩) n c6))
            have T9 := Lib.hid (T6.out.trans_new TS.out (fun j hj h => by omega))
            have M9 := Lib.hid (M6.out.turn TS.out (by omega))
            have N9 := Lib.hid (Y6.out.put 0 (.slice (some ⟨b6, 0, none⟩) n c6))
            refine hK.out _ _ ⟨M9.out.cell 0, (World.cell?_of_block (w := wr) (a := ⟨b, o + k * 3, none⟩) (T9.out.block b hbr hgb.out)).trans HQ.out.1, (World.cell?_of_block (w := wr) (a := ⟨b, o + k * 3 + 1, none⟩) (T9.out.block b hbr hgb.out)).trans HQ.out.2.1, (World.cell?_of_block (w := wr) (a := ⟨b, o + k * 3 + 2, none⟩) (T9.out.block b hbr hgb.out)).trans HQ.out.2.2⟩ (fun hHeld => ?_)
            clear hK K
            try simp only [List.getElem_toArray, List.getElem_cons_zero, List.getElem_cons_succ, Act.put, List.setIfInBounds_toArray, List.set_cons_zero, List.set_cons_succ]
            refine wpAnyH_take (i := 14) (v := ?_) rfl (by kernel_rfl) (by kernel_rfl) (by kernel_rfl) (fun _ _ _ h => h) (Or.inl ⟨by rfl, ?_⟩) (by assumption) ?_
            rotate_left 1
            · intro w' hSw
              go_simp
              all_goals first | with_reducible rfl | (rw [if_neg (by omega)]; done) | (rw [if_pos (by omega)]; done) | (rw [if_neg (by omega)]; with_reducible rfl) | (rw [if_pos (by omega)]; with_reducible rfl)
            try simp only [List.getElem_toArray, List.getElem_cons_zero, List.getElem_cons_succ, Act.put, List.setIfInBounds_toArray, List.set_cons_zero, List.set_cons_succ]
            refine wpAnyH_done (by kernel_rfl) ?_ _
            refine NoPanic.normal ?_
            clear hHeld
            go_wp2_with fail
            go_meet
            exact ⟨p6, g6, wr.heap.size, c6, b6, l6, rfl, rfl, rfl, A6.out.turn TS.out (fun e => blk_apart2 Y6.out A6.out (by decide) e) (fun e => blk_apart Y6.out (by decide) A6.out e.symm) (by omega), V6.out.turn TS.out (tf_far V6.out Y6.out), N9.out, M9.out, by omega, L6.out, P6.out.1, P6.out.2, HBW.out.trans (T9.out.below hwr (fun j h => by rw [h]; exact hg))⟩
          -- region 8 end
        case rest =>
          obtain ⟨p6, g6, Y, c6, b6, l6, rfl, rfl, rfl, ha6, hv6, hY6, hM6, hYM, hl6, hp6, hg6, hb6⟩ := hcut
          have A6 := Lib.hid ha6
          have V6 := Lib.hid hv6
          have Y6 := Lib.hid hY6
          have M6 := Lib.hid hM6
          have B6 := Lib.hid hb6
          have L6 := Lib.hid hl6
          have HRF := Lib.hid (fun W (hW : Turn (fun _ => False) wc W) => refFree7 _ l6 (by rw [L6.out]; exact h2) W (V6.out.still hW))
          have HRR := Lib.hid (fun W (hW : Turn (fun _ => False) wc W) => refRows7 _ l6 (by rw [L6.out]; exact h2) W (V6.out.still hW))
          have hr6 : (rows7 l6).length ≤ 1000000 := by
            have hrn := rows7_len (l6 ++ [false]) 0 0
            rw [List.length_append, hl6] at hrn
            simp only [List.length_cons, List.length_nil] at hrn
            unfold rows7
            omega
          clear ha6 hv6 hY6 hM6 hb6 hl6
          go_wp2_with fail
          refine wp_region_noPanic ?_
          refine wp_region_held_drew (S := fun W => W.cell? ⟨Y, 0, none⟩ = some (.slice (some ⟨b6, 0, none⟩) n c6)) (by kernel_rfl) (Y6.out.drew.cell 0) (fun hHeld => ?_)
          -- region 9
          refine wpAnyH_take (i := 0) (v := ?_) rfl (by kernel_rfl) (by kernel_rfl) (by kernel_rfl) (fun _ _ _ h => h) (Or.inl ⟨by rfl, ?_⟩) (by assumption) ?_
          rotate_left 1
          · intro w' hSw
            go_simp
            all_goals first | with_reducible rfl | (rw [if_neg (by omega)]; done) | (rw [if_pos (by omega)]; done) | (rw [if_neg (by omega)]; with_reducible rfl) | (rw [if_pos (by omega)]; with_reducible rfl)
          try simp only [List.getElem_toArray, List.getElem_cons_zero, List.getElem_cons_succ, Act.put, List.setIfInBounds_toArray, List.set_cons_zero, List.set_cons_succ]
          refine wpAnyH_take (i := 1) (v := ?_) rfl (by kernel_rfl) (by kernel_rfl) (by kernel_rfl) (fun _ _ _ h => h) (Or.inl ⟨by rfl, ?_⟩) (by assumption) ?_
          rotate_left 1
          · intro w' hSw
            go_simp
            all_goals first | with_reducible rfl | (rw [if_neg (by omega)]; done) | (rw [if_pos (by omega)]; done) | (rw [if_neg (by omega)]; with_reducible rfl) | (rw [if_pos (by omega)]; with_reducible rfl)
          try simp only [List.getElem_toArray, List.getElem_cons_zero, List.getElem_cons_succ, Act.put, List.setIfInBounds_toArray, List.set_cons_zero, List.set_cons_succ]
          refine wpAnyH_take (i := 2) (v := ?_) rfl (by kernel_rfl) (by kernel_rfl) (by kernel_rfl) (fun _ _ _ h => h) (Or.inl ⟨by rfl, ?_⟩) (by assumption) ?_
          rotate_left 1
          · intro w' hSw
            go_simp
            all_goals first | with_reducible rfl | (rw [if_neg (by omega)]; done) | (rw [if_pos (by omega)]; done) | (rw [if_neg (by omega)]; with_reducible rfl) | (rw [if_pos (by omega)]; with_reducible rfl)
          try simp only [List.getElem_toArray, List.getElem_cons_zero, List.getElem_cons_succ, Act.put, List.setIfInBounds_toArray, List.set_cons_zero, List.set_cons_succ]
          refine wpAnyH_take (i := 3) (v := ?_) rfl (by kernel_rfl) (by kernel_rfl) (by kernel_rfl) (fun _ _ _ h => h) (Or.inl ⟨by rfl, ?_⟩) (by assumption) ?_
          rotate_left 1
          · intro w' hSw
            go_simp
            all_goals first | with_reducible rfl | (rw [if_neg (by omega)]; done) | (rw [if_pos (by omega)]; done) | (rw [if_neg (by omega)]; with_reducible rfl) | (rw [if_pos (by omega)]; with_reducible rfl)
          try simp only [List.getElem_toArray, List.getElem_cons_zero, List.getElem_cons_succ, Act.put, List.setIfInBounds_toArray, List.set_cons_zero, List.set_cons_succ]
          refine wpAnyH_take (i := 4) (v := ?_) rfl (by kernel_rfl) (by kernel_rfl) (by kernel_rfl) (fun _ _ _ h => h) (Or.inl ⟨by rfl, ?_⟩) (by assumption) ?_
          rotate_left 1
          · intro w' hSw
            go_simp
            all_goals first | with_reducible rfl | (rw [if_neg (by omega)]; done) | (rw [if_pos (by omega)]; done) | (rw [if_neg (by omega)]; with_reducible rfl) | (rw [if_pos (by omega)]; with_reducible rfl)
          try simp only [List.getElem_toArray, List.getElem_cons_zero, List.getElem_cons_succ, Act.put, List.setIfInBounds_toArray, List.set_cons_zero, List.set_cons_succ]
          refine wpAnyH_take (i := 5) (v := ?_) rfl (by kernel_rfl) (by kernel_rfl) (by kernel_rfl) (fun _ _ _ h => h) (Or.inl ⟨by rfl, ?_⟩) (by assumption) ?_
          rotate_left 1
          · intro w' hSw
            go_simp
            all_goals first | with_reducible rfl | (rw [if_neg (by omega)]; done) | (rw [if_pos (by omega)]; done) | (rw [if_neg (by omega)]; with_reducible rfl) | (rw [if_pos (by omega)]; with_reducible rfl)
          try simp only [List.getElem_toArray, List.getElem_cons_zero, List.getElem_cons_succ, Act.put, List.setIfInBounds_toArray, List.set_cons_zero, List.set_cons_succ]
          refine wpAnyH_take (i := 6) (v := ?_) rfl (by kernel_rfl) (by kernel_rfl) (by kernel_rfl) (fun _ _ _ h => h) (Or.inl ⟨by rfl, ?_⟩) (by assumption) ?_
          rotate_left 1
          · intro w' hSw
            go_simp
            all_goals first | with_reducible rfl | (rw [if_neg (by omega)]; done) | (rw [if_pos (by omega)]; done) | (rw [if_neg (by omega)]; with_reducible rfl) | (rw [if_pos (by omega)]; with_reducible rfl)
          try simp only [List.getElem_toArray, List.getElem_cons_zero, List.getElem_cons_succ, Act.put, List.setIfInBounds_toArray, List.set_cons_zero, List.set_cons_succ]
          refine wpAnyH_take (i := 7) (v := ?_) rfl (by kernel_rfl) (by kernel_rfl) (by kernel_rfl) (fun _ _ _ h => h) (Or.inl ⟨by rfl, ?_⟩) (by assumption) ?_
          rotate_left 1
          · intro w' hSw
            go_simp
            all_goals first | with_reducible rfl | (rw [if_neg (by omega)]; done) | (rw [if_pos (by omega)]; done) | (rw [if_neg (by omega)]; with_reducible rfl) | (rw [if_pos (by omega)]; with_reducible rfl)
          try simp only [List.getElem_toArray, List.getElem_cons_zero, List.getElem_cons_succ, Act.put, List.setIfInBounds_toArray, List.set_cons_zero, List.set_cons_succ]
          refine wpAnyH_take (i := 9) (v := ?_) rfl (by kernel_rfl) (by kernel_rfl) (by kernel_rfl) (fun _ _ _ h => h) (Or.inl ⟨by rfl, ?_⟩) (by assumption) ?_
          rotate_left 1
          · intro w' hSw
            obtain p0 := hSw
            go_simp
            all_goals first | with_reducible rfl | (rw [if_neg (by omega)]; done) | (rw [if_pos (by omega)]; done) | (rw [if_neg (by omega)]; with_reducible rfl) | (rw [if_pos (by omega)]; with_reducible rfl)
          try simp only [List.getElem_toArray, List.getElem_cons_zero, List.getElem_cons_succ, Act.put, List.setIfInBounds_toArray, List.set_cons_zero, List.set_cons_succ]
          refine wpAnyH_ready (rs := [8]) (by kernel_rfl) (by simp) ?_
          refine AllReadyH.cons rfl (fun K hK => ?_) AllReadyH.nil
          refine step_call_on 12 Tryd.f12 _ _ rfl Tryd.func12 (by kernel_rfl) (by kernel_rfl) _ _ ((freeCount7 A6.out.drew).mono (fun e w' h => (⟨_, h.1, rfl, h.2⟩ : ∃ v, e = .returned v ∧ (v = .int .i64 (free7 l6) ∧ w' = wc.drew)))) (by go_simp) (by rfl) ?_
          rintro v8 w8 ⟨rfl, rfl⟩
          refine hK.out _ _ (Y6.out.drew.cell 0) (fun hHeld => ?_)
          clear hK K
          try simp only [List.getElem_toArray, List.getElem_cons_zero, List.getElem_cons_succ, Act.put, List.setIfInBounds_toArray, List.set_cons_zero, List.set_cons_succ]
          refine wpAnyH_ready (rs := [10]) (by kernel_rfl) (by simp) ?_
          refine AllReadyH.cons rfl (fun K hK => ?_) AllReadyH.nil
          refine step_call_on 13 Tryd.f13 _ _ rfl Tryd.func13 (by kernel_rfl) (by kernel_rfl) _ _ ((HRF.out _ ((Turn.refl _ _).drew)).mono (fun e w' h => (⟨_, h.1, rfl, h.2⟩ : ∃ v, e = .returned v ∧ (v = .int .i64 (free7 l6) ∧ Turn (fun _ => False) wc.drew w')))) (by go_simp) (by rfl) ?_
          rintro v10 w10 ⟨rfl, ht10⟩
          have T10 := Lib.hid ((Turn.refl (fun _ => False) wc).drew.trans ht10)
          clear ht10
          refine hK.out _ _ ((Y6.out.turn T10.out (fun h => h)).cell 0) (fun hHeld => ?_)
          clear hK K
          try simp only [List.getElem_toArray, List.getElem_cons_zero, List.getElem_cons_succ, Act.put, List.setIfInBounds_toArray, List.set_cons_zero, List.set_cons_succ]
          refine wpAnyH_take (i := 11) (v := ?_) rfl (by kernel_rfl) (by kernel_rfl) (by kernel_rfl) (fun _ _ _ h => h) (Or.inl ⟨by rfl, ?_⟩) (by assumption) ?_
          rotate_left 1
          · intro w' hSw
            go_simp
            all_goals first | with_reducible rfl | (rw [if_neg (by omega)]; done) | (rw [if_pos (by omega)]; done) | (rw [if_neg (by omega)]; with_reducible rfl) | (rw [if_pos (by omega)]; with_reducible rfl)
          try simp only [List.getElem_toArray, List.getElem_cons_zero, List.getElem_cons_succ, Act.put, List.setIfInBounds_toArray, List.set_cons_zero, List.set_cons_succ]
          refine wpAnyH_take (i := 12) (v := ?_) rfl (by kernel_rfl) (by kernel_rfl) (by kernel_rfl) (fun _ _ _ h => h) (Or.inl ⟨by rfl, ?_⟩) (by assumption) ?_
          rotate_left 1
          · intro w' hSw
            go_simp
            all_goals first | with_reducible rfl | (rw [if_neg (by omega)]; done) | (rw [if_pos (by omega)]; done) | (rw [if_neg (by omega)]; with_reducible rfl) | (rw [if_pos (by omega)]; with_reducible rfl)
          try simp only [List.getElem_toArray, List.getElem_cons_zero, List.getElem_cons_succ, Act.put, List.setIfInBounds_toArray, List.set_cons_zero, List.set_cons_succ]
          refine wpAnyH_take (i := 13) (v := ?_) rfl (by kernel_rfl) (by kernel_rfl) (by kernel_rfl) (fun _ _ _ h => h) (Or.inl ⟨by rfl, ?_⟩) (by assumption) ?_
          rotate_left 1
          · intro w' hSw
            go_simp
            all_goals first | with_reducible rfl | (rw [if_neg (by omega)]; done) | (rw [if_pos (by omega)]; done) | (rw [if_neg (by omega)]; with_reducible rfl) | (rw [if_pos (by omega)]; with_reducible rfl)
          try simp only [List.getElem_toArray, List.getElem_cons_zero, List.getElem_cons_succ, Act.put, List.setIfInBounds_toArray, List.set_cons_zero, List.set_cons_succ]
          refine wpAnyH_take (i := 14) (v := ?_) rfl (by kernel_rfl) (by kernel_rfl) (by kernel_rfl) (fun _ _ _ h => h) (Or.inl ⟨by rfl, ?_⟩) (by assumption) ?_
          rotate_left 1
          · intro w' hSw
            go_simp
            all_goals first | with_reducible rfl | (rw [if_neg (by omega)]; done) | (rw [if_pos (by omega)]; done) | (rw [if_neg (by omega)]; with_reducible rfl) | (rw [if_pos (by omega)]; with_reducible rfl)
          try simp only [List.getElem_toArray, List.getElem_cons_zero, List.getElem_cons_succ, Act.put, List.setIfInBounds_toArray, List.set_cons_zero, List.set_cons_succ]
          refine wpAnyH_take (i := 16) (v := ?_) rfl (by kernel_rfl) (by kernel_rfl) (by kernel_rfl) (fun _ _ _ h => h) (Or.inl ⟨by rfl, ?_⟩) (by assumption) ?_
          rotate_left 1
          · intro w' hSw
            obtain p0 := hSw
            go_simp
            all_goals first | with_reducible rfl | (rw [if_neg (by omega)]; done) | (rw [if_pos (by omega)]; done) | (rw [if_neg (by omega)]; with_reducible rfl) | (rw [if_pos (by omega)]; with_reducible rfl)
          try simp only [List.getElem_toArray, List.getElem_cons_zero, List.getElem_cons_succ, Act.put, List.setIfInBounds_toArray, List.set_cons_zero, List.set_cons_succ]
          refine wpAnyH_ready (rs := [15]) (by kernel_rfl) (by simp) ?_
          refine AllReadyH.cons rfl (fun K hK => ?_) AllReadyH.nil
          refine step_call_on 15 Tryd.f15 _ _ rfl Tryd.func15 (by kernel_rfl) (by kernel_rfl) _ _ ((rowsList7 (A6.out.still T10.out)).mono (fun e w' h => (by obtain ⟨v, h1, h2, h3⟩ := h; exact ⟨_, h1, h2, h3⟩ : ∃ v, e = .returned v ∧ (w'.ownsRow w10.heap.size 52 2 v (rows7 l6).length ((rows7 l6).flatMap rc7) ∧ Turn (fun _ => False) w10 w')))) (by go_simp) (by rfl) ?_
          rintro v15 w15 ⟨ho15, ht15⟩
          have P15 := Lib.hid (pr_own ho15)
          obtain ⟨A15, c15, rfl⟩ := own_slice7 ho15
          have T15 := Lib.hid (T10.out.trans ht15)
          clear ho15 ht15
          refine hK.out _ _ ((Y6.out.turn T15.out (fun h => h)).cell 0) (fun hHeld => ?_)
          clear hK K
          try simp only [List.getElem_toArray, List.getElem_cons_zero, List.getElem_cons_succ, Act.put, List.setIfInBounds_toArray, List.set_cons_zero, List.set_cons_succ]
          refine wpAnyH_ready (rs := [17]) (by kernel_rfl) (by simp) ?_
          refine AllReadyH.cons rfl (fun K hK => ?_) AllReadyH.nil
          refine step_call_on 16 Tryd.f16 _ _ rfl Tryd.func16 (by kernel_rfl) (by kernel_rfl) _ _ ((HRR.out _ T15.out).mono (fun e w' h => (by obtain ⟨v, h1, h2, h3⟩ := h; exact ⟨_, h1, h2, h3⟩ : ∃ v, e = .returned v ∧ (w'.ownsRow w15.heap.size 52 2 v (rows7 l6).length ((rows7 l6).flatMap rc7) ∧ Turn (fun _ => False) w15 w')))) (by go_simp) (by rfl) ?_
          rintro v17 w17 ⟨ho17, ht17⟩
          have P17 := Lib.hid (pr_own ho17)
          obtain ⟨A17, c17, rfl⟩ := own_slice7 ho17
          have T17 := Lib.hid (T15.out.trans ht17)
          have P16 := Lib.hid (P15.out.still ht17)
          clear ho17 ht17
          refine hK.out _ _ ((Y6.out.turn T17.out (fun h => h)).cell 0) (fun hHeld => ?_)
          clear hK K
          try simp only [List.getElem_toArray, List.getElem_cons_zero, List.getElem_cons_succ, Act.put, List.setIfInBounds_toArray, List.set_cons_zero, List.set_cons_succ]
          refine wpAnyH_ready (rs := [18]) (by kernel_rfl) (by simp) ?_
          refine AllReadyH.cons rfl (fun K hK => ?_) AllReadyH.nil
          refine step_call_on 14 Tryd.f14 _ _ rfl Tryd.func14 (by kernel_rfl) (by kernel_rfl) _ _ ((same7 (rows7 l6) (rows7 l6) _ _ w17 P16.out P17.out hr6 hr6).mono (fun e w' h => (⟨_, h.1, rfl, h.2⟩ : ∃ v, e = .returned v ∧ (v = .bool (decide (rows7 l6 = rows7 l6)) ∧ Turn (fun _ => False) w17 w')))) (by go_simp) (by rfl) ?_
          rintro v18 w18 ⟨rfl, ht18⟩
          rw [decide_eq_true rfl]
          have T18 := Lib.hid (T17.out.trans ht18)
          clear ht18
          refine hK.out _ _ ((Y6.out.turn T18.out (fun h => h)).cell 0) (fun hHeld => ?_)
          clear hK K
          try simp only [List.getElem_toArray, List.getElem_cons_zero, List.getElem_cons_succ, Act.put, List.setIfInBounds_toArray, List.set_cons_zero, List.set_cons_succ]
          refine wpAnyH_take (i := 19) (v := ?_) rfl (by kernel_rfl) (by kernel_rfl) (by kernel_rfl) (fun _ _ _ h => h) (Or.inl ⟨by rfl, ?_⟩) (by assumption) ?_
          rotate_left 1
          · intro w' hSw
            go_simp
            all_goals first | with_reducible rfl | (rw [if_neg (by omega)]; done) | (rw [if_pos (by omega)]; done) | (rw [if_neg (by omega)]; with_reducible rfl) | (rw [if_pos (by omega)]; with_reducible rfl)
          try simp only [List.getElem_toArray, List.getElem_cons_zero, List.getElem_cons_succ, Act.put, List.setIfInBounds_toArray, List.set_cons_zero, List.set_cons_succ]
          refine wpAnyH_take (i := 20) (v := ?_) rfl (by kernel_rfl) (by kernel_rfl) (by kernel_rfl) (fun _ _ _ h => h) (Or.inl ⟨by rfl, ?_⟩) (by assumption) ?_
          rotate_left 1
          · intro w' hSw
            go_simp
            all_goals first | with_reducible rfl | (rw [if_neg (by omega)]; done) | (rw [if_pos (by omega)]; done) | (rw [if_neg (by omega)]; with_reducible rfl) | (rw [if_pos (by omega)]; with_reducible rfl)
          try simp only [List.getElem_toArray, List.getElem_cons_zero, List.getElem_cons_succ, Act.put, List.setIfInBounds_toArray, List.set_cons_zero, List.set_cons_succ]
          refine wpAnyH_done (by kernel_rfl) ?_ _
          refine NoPanic.normal ?_
          -- region 9 end
          clear hHeld
          have A18 := Lib.hid (A6.out.still T18.out)
          have V18 := Lib.hid (V6.out.still T18.out)
          have Y18 := Lib.hid (Y6.out.turn T18.out (fun h => h))
          have M18 := Lib.hid (M6.out.turn T18.out (fun h => h))
          have B18 := Lib.hid (B6.out.trans (T18.out.below B6.out.size (fun _ h => h.elim)))
          have mc := M18.out.drew.cell 0
          have mf := M18.out.drew.free 0
          simp only [List.getElem?_cons_zero] at mc
          go_wp2_with fail
          refine wp_region_noPanic ?_
          refine wp_region_held_drew (S := fun W => W.cell? ⟨Y, 0, none⟩ = some (.slice (some ⟨b6, 0, none⟩) n c6)) (by kernel_rfl) (Y18.out.drew.cell 0) (fun hHeld => ?_)
          -- region 11
          refine wpAnyH_take (i := 0) (v := ?_) rfl (by kernel_rfl) (by kernel_rfl) (by kernel_rfl) (fun _ _ _ h => h) (Or.inl ⟨by rfl, ?_⟩) (by assumption) ?_
          rotate_left 1
          · intro w' hSw
            go_simp
            all_goals first | with_reducible rfl | (rw [if_neg (by omega)]; done) | (rw [if_pos (by omega)]; done) | (rw [if_neg (by omega)]; with_reducible rfl) | (rw [if_pos (by omega)]; with_reducible rfl)
          try simp only [List.getElem_toArray, List.getElem_cons_zero, List.getElem_cons_succ, Act.put, List.setIfInBounds_toArray, List.set_cons_zero, List.set_cons_succ]
          refine wpAnyH_take (i := 1) (v := ?_) rfl (by kernel_rfl) (by kernel_rfl) (by kernel_rfl) (fun _ _ _ h => h) (Or.inl ⟨by rfl, ?_⟩) (by assumption) ?_
          rotate_left 1
          · intro w' hSw
            obtain p0 := hSw
            go_simp
            all_goals first | with_reducible rfl | (rw [if_neg (by omega)]; done) | (rw [if_pos (by omega)]; done) | (rw [if_neg (by omega)]; with_reducible rfl) | (rw [if_pos (by omega)]; with_reducible rfl)
          try simp only [List.getElem_toArray, List.getElem_cons_zero, List.getElem_cons_succ, Act.put, List.setIfInBounds_toArray, List.set_cons_zero, List.set_cons_succ]
          refine wpAnyH_take (i := 2) (v := ?_) rfl (by kernel_rfl) (by kernel_rfl) (by kernel_rfl) (fun _ _ _ h => h) (Or.inl ⟨by rfl, ?_⟩) (by assumption) ?_
          rotate_left 1
          · intro w' hSw
            go_simp
            all_goals first | with_reducible rfl | (rw [if_neg (by omega)]; done) | (rw [if_pos (by omega)]; done) | (rw [if_neg (by omega)]; with_reducible rfl) | (rw [if_pos (by omega)]; with_reducible rfl)
          try simp only [List.getElem_toArray, List.getElem_cons_zero, List.getElem_cons_succ, Act.put, List.setIfInBounds_toArray, List.set_cons_zero, List.set_cons_succ]
          refine wpAnyH_ready (rs := [3]) (by kernel_rfl) (by simp) ?_
          refine AllReadyH.cons rfl (fun K hK => ?_) AllReadyH.nil
          go_simp
          have TS := Lib.hid ((Turn.refl (fun j => j = w2.heap.size) w18.drew).setCell (p := ⟨w2.heap.size, 0, none⟩) (.inl rfl) (.slice (some ⟨b6, 0, none⟩) n c6))
          refine hK.out _ _ ((Y18.out.drew.turn TS.out (fun e => hYM e.symm)).cell 0) (fun hHeld => ?_)
          clear hK K
          try simp only [List.getElem_toArray, List.getElem_cons_zero, List.getElem_cons_succ, Act.put, List.setIfInBounds_toArray, List.set_cons_zero, List.set_cons_succ]
          refine wpAnyH_done (by kernel_rfl) ?_ _
          refine NoPanic.normal ?_
          -- region 11 end
          clear hHeld
          go_wp2_with fail
          go_roundw
          case rel => exact ⟨k + 1, p6, g6, _, l6, hlt, by simp, rfl, A18.out.drew.turn TS.out (fun e => blk_apart2 M18.out A18.out (by decide) e) (fun e => blk_apart M18.out (by decide) A18.out e.symm) (by omega), (V18.out.still ((Turn.refl _ _).drew)).turn TS.out (tf_far (V18.out.still ((Turn.refl _ _).drew)) M18.out.drew), M18.out.drew.put 0 (.slice (some ⟨b6, 0, none⟩) n c6), L6.out, hp6, hg6, (B18.out.drew).trans (TS.out.below (Nat.le_trans B18.out.size (Nat.le_refl _)) (fun j h => by rw [h]; exact hs2))⟩
          case measure => (simp [intOf]; try omega)
      · obtain rfl : k = m := by omega
        have hex : ¬ (k : Int) < (k : Int) := by omega
        have HH := Lib.hid (hasPage7 HA.out i)
        have fin : ∀ W, Turn (fun _ => False) wr W → Hid (Calls Tryd.prog 10 #[] W fun r w' => r = .returned (.bool true) ∧ Turn (fun _ => False) W w') := fun W hW => Lib.hid (HL.out W (HA.out.still hW).tb)
        have HFN := Lib.hid fin
        have HVC := Lib.hid (fun W (hW : Turn (fun _ => False) wr W) => HMB.out.turn hW (fun h => h))
        have HBLK : Hid (∀ W, Turn (fun _ => False) wr W → ∀ j, j < n → W.cell? ⟨b4, j, none⟩ = some (.bool (!l.getD j false))) := Lib.hid (fun W hW j hj => by
          obtain ⟨b5, c5, r5, e5, hb5⟩ := HV.out
          injection e5 with e6
          injection e6 with e6
          injection e6 with e6
          subst e6
          have := (hb5.turn hW (fun h => h)).cell j
          rw [List.getElem?_append_left (by rw [len_tb, HLE.out]; exact hj), tb_at l j (by rw [HLE.out]; exact hj)] at this
          exact this)
        clear fin
        by_cases h0 : 0 ≤ i ∧ i < n
        · obtain ⟨I, rfl⟩ : ∃ I : Nat, i = (I : Int) := ⟨i.toNat, by omega⟩
          have hI : I < n := by omega
          have hIi : (I : Int) < (n : Int) := by omega
          have hI0 : (0 : Int) ≤ (I : Int) := by omega
          have hh : has7 l I = !l.getD I false := by
            unfold has7
            rw [Int.toNat_natCast, HLE.out, decide_eq_true (by omega), Bool.true_and]
          rw [hh] at HH
          have HBI := Lib.hid (fun W hW => HBLK.out W hW I hI)
          generalize (!l.getD I false) = bb at *
          clear hh h0
          go_wp2_with fail
          refine HH.out.mono ?_
          rintro e w4 ⟨rfl, ht4⟩
          have m4 := (HVC.out _ ht4).cell 0
          simp only [List.getElem?_cons_zero] at m4
          have i4 := HBI.out _ ht4
          have HT4 := Lib.hid ht4
          have HFF := HFN.out _ ht4
          clear ht4
          cases bb
          all_goals
            go_wp2_with fail
            refine HFF.out.mono ?_
            rintro e w5 ⟨rfl, ht5⟩
            go_wp2_with fail
            go_ret
            exact ⟨rfl, HBW.out.trans ((HT4.out.trans ht5).below HBW.out.size (fun _ h => h.elim))⟩
        · have hh : has7 l i = false := by
            unfold has7
            rw [HLE.out, decide_eq_false h0, Bool.false_and]
          rw [hh] at HH
          have hc : (i < 0) ∨ (0 ≤ i ∧ (n : Int) ≤ i) := by omega
          clear hh h0
          rcases hc with h0 | ⟨h0, h0b⟩
          all_goals
            go_wp2_with fail
            refine HH.out.mono ?_
            rintro e w4 ⟨rfl, ht4⟩
            have HT4 := Lib.hid ht4
            have HFF := HFN.out _ ht4
            clear ht4
            go_wp2_with fail
            refine HFF.out.mono ?_
            rintro e w5 ⟨rfl, ht5⟩
            go_wp2_with fail
            go_ret
            exact ⟨rfl, HBW.out.trans ((HT4.out.trans ht5).below HBW.out.size (fun _ h => h.elim))⟩
theorem allocPlays_walk (n : Int) (v : Value) (qs : List Ac) (i : Int) (w : World) (hn : -9223372036854775808 ≤ n ∧ n ≤ 9223372036854775807) (hq : Acs w.heap.size w v qs) (hi : -9223372036854775808 ≤ i ∧ i ≤ 9223372036854775807) (hT : Tb w) :
    Calls Tryd.prog 3 #[.int .i64 n, v, .int .i64 i] w fun r w' => r = .returned (.bool true) ∧ Below w.heap.size w w' := by
  by_cases h : n < 1 ∨ 16384 < n
  · exact allocPlays_bad n v qs i w h hq hT
  · obtain ⟨N, rfl⟩ : ∃ N : Nat, n = (N : Int) := ⟨n.toNat, by omega⟩
    exact allocPlays_good N v qs i w (by omega) (by omega) hq hi hT
end Go.Proofs.YtjffdekonjejgaaDoor
