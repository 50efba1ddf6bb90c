/- The walk of ambrylaw11.SuperEither. -/
import Derived.Test.YtcjoinahelmmpaaSuJ
import Derived.Test.YtcjoinahelmmpaaFrameV
import Derived.Deep.CutRange
namespace Go.Proofs.Ytcjoinahelmmpaa
open Go.RowKit
set_option linter.unusedVariables false
set_option maxRecDepth 100000

theorem sup_same (s : Sup) : (s.g == s.g) = true ∧ (s.r == s.r) = true ∧ (s.t == s.t) = true ∧ (s.e == s.e) = true ∧ (s.l == s.l) = true ∧ (s.m == s.m) = true := ⟨by simp, by simp, by simp, by simp, by simp, by simp⟩
theorem two_right {K : List (List UInt8)} {s : Sup} (h : Two K (some s)) : rU s = true := by
  rcases h with ⟨_, h, _⟩ | ⟨_, h, _⟩
  · exact (readU_is h).1
  · exact (readU_is h).1
theorem Lv11.put6 {w W : World} {p : Nat} {S : Nat → Prop} {D : Dsk} (h : Lv11 w p S W D) {b : Nat} (hb : w.heap.size ≤ b) (hn : ¬ S b) (a1 a2 a3 a4 a5 a6 : Value) : Lv11 w p S (put6 W b a1 a2 a3 a4 a5 a6) D :=
  ⟨h.dq.turn ((Turn.refl (fun k => k = b) W).put6 (.inl rfl) a1 a2 a3 a4 a5 a6) (fun k hk e => hn (e ▸ hk)), h.t.put6 (.inr hb) a1 a2 a3 a4 a5 a6, h.s⟩
theorem cell_keep {w W : World} (ht : Turn (fun _ => False) w W) {b o : Nat} {v : Value} (hb : b < w.heap.size) (h : w.cell? ⟨b, o, none⟩ = some v) : W.cell? ⟨b, o, none⟩ = some v :=
  (World.cell?_of_block (w := w) (a := ⟨b, o, none⟩) (ht.block b hb (fun h => h))).trans h
theorem arm_F (K : List (List UInt8)) (n : Int) (h : -1 ≤ n) : (dskF K (-1)).arm n = (dskF K n, 0) := by
  unfold Dsk.arm
  rw [if_neg (by simp [dskF])]
  simp [dskF]; omega
set_option maxHeartbeats 4000000 in
theorem superEither_walk (v0 : Value) (l : List Sup) (v1 : Value) (fu : List UInt8) (v2 : Value) (kp : List (Value × List Int)) (w : World) (h0 : Sups w.heap.size w v0 l) (h1 : Sl w w.heap.size v1 fu) (hb1 : fu.length ≤ 140737488351232) (h2 : Ivs w.heap.size w v2 kp) :
    Calls Try.prog 8 #[v0, v1, v2] w fun e w' => e = .returned (.bool true) ∧ Below w.heap.size w w' := by
  have HL := Lib.hid lives11_any
  have HN : Hid (Calls Try.prog 17 #[.int .i64 4] w fun e w' => ∃ p S, e = .returned (.tuple #[.pointer (some ⟨p, 0, none⟩), .int .i64 0]) ∧ Lv11 w p S w' (dskF (List.replicate 4 zeros) (-1))) := Lib.hid ((new_dq 4 (by decide) (by decide) w).mono (fun e w' ⟨p, S, h1, h2, h3, h4⟩ => ⟨p, S, h1, h2, h4, h3⟩))
  obtain ⟨A0, c0, rfl, hm0, hr0⟩ := h0
  obtain ⟨A1, c1, rfl, hr1, hm1, hn1, hl1⟩ := h1
  obtain ⟨A2, c2, rfl, hm2, hr2⟩ := h2
  have R0 := Lib.hid hr0
  have R1 := Lib.hid hr1
  have R2 := Lib.hid hr2
  clear hr0 hr1 hr2 hn1
  obtain ⟨n, hn⟩ : ∃ n, l.length = n := ⟨_, rfl⟩
  obtain ⟨nf, hnf⟩ : ∃ n, fu.length = n := ⟨_, rfl⟩
  obtain ⟨nk, hnk⟩ : ∃ n, kp.length = n := ⟨_, rfl⟩
  have HNL := Lib.hid hn
  have HNF := Lib.hid hnf
  have HNK := Lib.hid hnk
  rw [hn] at hm0 R0 ⊢
  rw [hnf] at hb1 hl1 ⊢
  rw [hnk] at hm2 R2 ⊢
  clear hn hnf hnk
  by_cases hbig : 50 < n
  · have hbig' : (50 : Int) < (n : Int) := by omega
    go_enter Try.func8, Try.ntmps8
    go_wp2_with (first
      | (go_at_call 17; refine HN.out.mono ?_; rintro e w1 ⟨p, S, rfl, hl⟩; have L1 := Lib.hid hl; clear hl)
      | (go_at_call 14; refine (HL.out _).mono ?_; rintro e2 w2 ⟨rfl, ht⟩))
    go_ret
    exact ⟨rfl, (L1.out.t.trans ht).below (Nat.le_refl _) (fun k h => h.elim)⟩
  have hbig' : ¬ (50 : Int) < (n : Int) := by omega
  have hbig2 : (n : Int) ≤ 50 := by omega
  have hbig3 : decide ((50 : Int) < (n : Int)) = false := decide_eq_false hbig'
  clear hbig
  go_enter Try.func8, Try.ntmps8
  go_wp2_with fail
  refine HN.out.mono ?_
  rintro e w1 ⟨p, S1, rfl, hl⟩
  have L1 := Lib.hid (hl.still ((Turn.refl _ _).alloc (.cells #[.int .i64 0, .int .i64 0, .int .i64 0, .int .i64 0, .int .i64 0, .int .i64 0] 23)))
  have B1 := Lib.hid (Bx.new hl zU)
  have hb9 : w.heap.size ≤ w1.heap.size := hl.t.size
  obtain ⟨b9, hb⟩ : ∃ b, w1.heap.size = b := ⟨_, rfl⟩
  have HB9 := Lib.hid hb
  clear hl
  go_wp2_with fail
  rw [hb] at hb9 B1
  clear hb
  go_loopw [10, 11] (fun hd i W => ∃ (k : Nat) (K : List (List UInt8)) (o : Option Sup) (S : Nat → Prop), k ≤ n ∧ i = .int .i64 k ∧ hd = .bool o.isSome ∧ K.length = 4 ∧ Two K o ∧ (∀ s, o = some s → s.g < k) ∧ Lv11 w p S W (dskF K (-1)) ∧ Bx S W b9 (o.getD zU)) (fun _ i _ => n - (intOf i).toNat)
  case atStart => exact ⟨0, _, none, S1, by omega, rfl, rfl, by simp, (two_fresh 4).resolve_right (by decide), (fun s h => by cases h), L1.out, B1.out⟩
  case round =>
    obtain ⟨k, K, o, S, hkn, rfl, rfl, hK4, h2, hog, hlv, hbx⟩ := hrel
    have HK4 := Lib.hid hK4
    have H2 := Lib.hid h2
    have HOG := Lib.hid hog
    have LV := Lib.hid hlv
    have BX := Lib.hid hbx
    clear hK4 h2 hog hlv hbx
    by_cases hk : k < n
    · have hk' : (k : Int) < (n : Int) := by omega
      have hk0 : (0 : Int) ≤ (k : Int) := by omega
      obtain ⟨b0, o0, rfl, hb0, hc0⟩ := R0.out (by omega)
      obtain ⟨s, hs⟩ : ∃ s, l[k]? = some s := ⟨_, List.getElem?_eq_getElem (by rw [HNL.out]; exact hk)⟩
      have HCL : Hid (∀ W, Turn (fun _ => False) w W → W.cell? ⟨b0, o0 + k * 6, none⟩ = some (.int .i64 s.g) ∧ W.cell? ⟨b0, o0 + k * 6 + 1, none⟩ = some (.int .i64 s.r) ∧ W.cell? ⟨b0, o0 + k * 6 + 2, none⟩ = some (.int .i64 s.t) ∧ W.cell? ⟨b0, o0 + k * 6 + 3, none⟩ = some (.int .i64 s.e) ∧ W.cell? ⟨b0, o0 + k * 6 + 4, none⟩ = some (.int .i64 s.l) ∧ W.cell? ⟨b0, o0 + k * 6 + 5, none⟩ = some (.int .i64 s.m)) := Lib.hid (fun W ht => by
        obtain ⟨a1, a2, a3, a4, a5, a6⟩ := hc0 k s hs
        exact ⟨cell_keep ht hb0 a1, cell_keep ht hb0 a2, cell_keep ht hb0 a3, cell_keep ht hb0 a4, cell_keep ht hb0 a5, cell_keep ht hb0 a6⟩)
      clear hc0 hs
      have HCK : Hid (∀ W, Calls Try.prog 12 #[uv s] W fun e w' => e = .returned (.int .i64 (if rU s then 0 else 2)) ∧ Turn (fun _ => False) W w') := Lib.hid (fun W => (checkU s W).mono (by rintro _ _ ⟨rfl, rfl⟩; exact ⟨rfl, (Turn.refl _ _).alloc _⟩))
      have HSD := Lib.hid (fun (S' : Nat → Prop) W F (h : Lv11 w p S' W (dskF K F)) => save_dq h.dq s (by simp [dskF]))
      obtain ⟨g, r, t, e, lm, m⟩ := s
      unfold uv at *
      simp only at HCL HCK HSD
      obtain ⟨q0, q1, q2, q3, q4, q5⟩ := HCL.out _ LV.out.t
      cases hr : rU ⟨g, r, t, e, lm, m⟩ with
      | false =>
        rw [hr] at HCK
        have HCK2 : Hid (∀ W, Calls Try.prog 12 #[.agg #[.int .i64 g, .int .i64 r, .int .i64 t, .int .i64 e, .int .i64 lm, .int .i64 m]] W fun e w' => e = .returned (.int .i64 2) ∧ Turn (fun _ => False) W w') := Lib.hid (fun W => HCK.out W)
        clear hr HCK
        go_wp2_with (go_at_call 12; refine (HCK2.out _).mono ?_; rintro e2 w2 ⟨rfl, ht⟩; have T2 := Lib.hid ht; clear ht)
        go_roundw
        case rel => exact ⟨k + 1, K, o, S, by omega, by go_num, rfl, HK4.out, H2.out, fun s hs => by have := HOG.out s hs; omega, LV.out.still T2.out, BX.out.still T2.out⟩
        case measure => simp [intOf]; omega
      | true =>
        rw [hr] at HCK
        have HCK2 : Hid (∀ W, Calls Try.prog 12 #[.agg #[.int .i64 g, .int .i64 r, .int .i64 t, .int .i64 e, .int .i64 lm, .int .i64 m]] W fun e w' => e = .returned (.int .i64 0) ∧ Turn (fun _ => False) W w') := Lib.hid (fun W => HCK.out W)
        have HR := Lib.hid hr
        clear hr HCK
        go_upto_if 51 with (go_at_call 12; refine (HCK2.out _).mono ?_; rintro e2 w2 ⟨rfl, ht⟩; have L2 := Lib.hid (LV.out.still ht); have B2 := Lib.hid (BX.out.still ht); clear ht)
        go_cut [] from 36 to 150 (fun wx => ∃ (S' : Nat → Prop) (F : Int), -1 ≤ F ∧ Lv11 w p S' wx (dskF K F) ∧ Bx S' wx b9 (o.getD zU))
        case first =>
          by_cases hf : k < nf
          · have hf' : (k : Int) < (nf : Int) := by omega
            obtain ⟨ad, rfl, hsp, hbl, hcc⟩ := R1.out (by rw [HNF.out]; omega)
            obtain ⟨b1, o1, sp⟩ := ad
            simp only at hsp hbl
            subst hsp
            obtain ⟨c, hc⟩ : ∃ c, fu[k]? = some c := ⟨_, List.getElem?_eq_getElem (by rw [HNF.out]; exact hf)⟩
            have hcell := hcc k c hc
            rw [Addr.add_mid] at hcell
            have hcell2 := cell_keep L2.out.t hbl hcell
            unfold u8v at hcell2
            have hc0 : (0 : Int) ≤ (c.toNat : Int) := by omega
            have hc1 : (c.toNat : Int) < 256 := by have := c.toNat_lt; omega
            have HAR : Hid (∀ m : Int, -1 ≤ m → m ≤ 100 → Calls Try.prog 24 #[.pointer (some ⟨p, 0, none⟩), .int .i64 m] w2 fun r w' => r = .returned (.int .i64 0) ∧ ∃ S', Lv11 w p S' w' (dskF K m) ∧ Bx S' w' b9 (o.getD zU)) := Lib.hid (fun m hm hm2 => by
              have := arm_dq L2.out.dq m (by omega)
              rw [arm_F K m hm] at this
              exact this.mono (fun r w' ⟨h1, S', h2, h3⟩ => ⟨h1, S', L2.out.step h2 h3, B2.out.step h3⟩))
            clear hcell hcc hc
            go_wp2_with (go_at_call 24; refine (HAR.out _ (by omega) (by omega)).mono ?_; rintro e3 w3 ⟨rfl, S3, hl3, hb3⟩; have L3 := Lib.hid hl3; have B3 := Lib.hid hb3; clear hl3 hb3)
            go_meet
            exact ⟨S3, _, by omega, L3.out, B3.out⟩
          · have hf' : decide ((k : Int) < (nf : Int)) = false := by simp; omega
            have hf2 : (nf : Int) ≤ (k : Int) := by omega
            go_wp2
            go_meet
            exact ⟨S, -1, by omega, L2.out, B2.out⟩
        case rest =>
          obtain ⟨S3, F, hF, hl3, hb3⟩ := hcut
          have L3 := Lib.hid hl3
          have B3 := Lib.hid hb3
          have HF := Lib.hid hF
          clear hl3 hb3 q0 q1 q2 q3 q4 q5 L2 B2 hF
          obtain ⟨q0, q1, q2, q3, q4, q5⟩ := HCL.out _ L3.out.t
          have SV := Lib.hid (HSD.out S3 _ F L3.out)
          obtain ⟨X, hX⟩ : ∃ X, (dskF K F).save ⟨g, r, t, e, lm, m⟩ = X := ⟨_, rfl⟩
          have HX := Lib.hid hX
          rw [hX] at SV
          clear hX
          obtain ⟨D1, sv, er⟩ := X
          obtain ⟨sg, sr, st, se, sl, sm⟩ := sv
          simp only at SV
          go_upto_if 73 with (go_at_call 28; refine SV.out.mono ?_; rintro e4 w4 ⟨rfl, S4, hq, hs⟩; have L4 := Lib.hid (L3.out.step hq hs); have B4 := Lib.hid (B3.out.step hs); clear hq hs)
          have TA := (Turn.refl (fun _ => False) w4).alloc (.cells #[.int .i64 sg, .int .i64 sr, .int .i64 st, .int .i64 se, .int .i64 sl, .int .i64 sm] 23)
          have L5 := Lib.hid (L4.out.still TA)
          have B5 := Lib.hid (B4.out.still TA)
          have X5 := Lib.hid (Bx.new L4.out ⟨sg, sr, st, se, sl, sm⟩)
          simp only at X5
          obtain ⟨b12, hb12⟩ : ∃ b, w4.heap.size = b := ⟨_, rfl⟩
          have hb12n : b9 ≠ b12 := by have := B4.out.1.lt; omega
          rw [hb12] at X5
          clear TA q0 q1 q2 q3 q4 q5 SV L3 B3 L4 B4
          generalize w4.alloc (.cells #[.int .i64 sg, .int .i64 sr, .int .i64 st, .int .i64 se, .int .i64 sl, .int .i64 sm] 23) = w5 at *
          rw [hb12]
          clear hb12
          go_cut [14] from 36 to 150 (fun v wx => wx = w5 ∧ ∃ (zs : List Int) (A3 : Option Addr) (c3 : Nat), v = .slice A3 zs.length c3 ∧ IvB w.heap.size w (.slice A3 zs.length c3) zs)
          case first =>
            by_cases hf : k < nk
            · have hf' : (k : Int) < (nk : Int) := by omega
              obtain ⟨b2, o2, rfl, hbl, hcc⟩ := R2.out (by omega)
              obtain ⟨q, hq⟩ : ∃ q, kp[k]? = some q := ⟨_, List.getElem?_eq_getElem (by rw [HNK.out]; exact hf)⟩
              obtain ⟨hcell, hiv⟩ := hcc k q hq
              have hcell2 := cell_keep L5.out.t hbl hcell
              have HIV := Lib.hid hiv
              obtain ⟨A3, c3, hv3, _⟩ := hiv
              have HV3 := Lib.hid hv3
              rw [hv3] at hcell2 HIV
              clear hcell hcc hq hv3
              go_wp2
              go_meet
              exact ⟨rfl, q.2, A3, c3, rfl, HIV.out⟩
            · have hf' : decide ((k : Int) < (nk : Int)) = false := by simp; omega
              have hf2 : (nk : Int) ≤ (k : Int) := by omega
              go_wp2
              go_meet
              exact ⟨rfl, [], none, 0, rfl, none, 0, rfl, by simp, fun h => by simp at h⟩
          case rest =>
            obtain ⟨rfl, zs, A3, c3, rfl, hiv⟩ := hcut
            have HIV := Lib.hid hiv
            have hzl := hiv.len
            clear hiv
            by_cases hz : 100 < zs.length
            · have hz' : (100 : Int) < (zs.length : Int) := by omega
              go_wp2_with (go_at_call 14; refine (HL.out _).mono ?_; rintro e7 w7 ⟨rfl, ht⟩)
              go_ret
              exact ⟨rfl, (L5.out.t.trans ht).below (Nat.le_refl _) (fun k h => h.elim)⟩
            have hz' : (zs.length : Int) ≤ 100 := by omega
            have hz2 : decide ((100 : Int) < (zs.length : Int)) = false := by simp; omega
            clear hz
            have HGO : Hid (∀ s0, o = some s0 → 0 ≤ s0.g ∧ s0.g < k) := Lib.hid (fun s0 h => ⟨(rU_yes (two_right (h ▸ H2.out))).1, HOG.out s0 h⟩)
            have HGN : Hid (0 ≤ gnx o ∧ gnx o ≤ k) := Lib.hid (by
              cases o with
              | none => simp [gnx]
              | some s0 => have := HGO.out s0 rfl; simp only [gnx]; omega)
            obtain ⟨D', K', o', sv', e', hsv, hpl, hcr, hK', h2', hout⟩ := save_either H2.out (by rw [HK4.out]; decide) (fun s0 h => ⟨two_right (h ▸ H2.out), by have := HGO.out s0 h; omega⟩) ⟨g, r, t, e, lm, m⟩ HR.out (by have := HGN.out; omega) F HF.out zs
            rw [HX.out] at hsv
            injection hsv with hd1 hsv2
            injection hsv2 with hs1 he1
            subst hd1 hs1 he1
            rw [HK4.out] at hK'
            have HK' := Lib.hid hK'
            have H2' := Lib.hid h2'
            have HFD := Lib.hid (find_two h2' (-1) (by rw [hK']; decide))
            have HCR : Hid (Calls Try.prog 22 #[.pointer (some ⟨p, 0, none⟩), .slice A3 zs.length c3] wc fun r w' => r = .returned (.int .i64 0) ∧ ∃ S', Lv11 w p S' w' (dskF K' (-1)) ∧ Bx S' w' b9 (o.getD zU) ∧ Bx S' w' b12 ⟨sg, sr, st, se, sl, sm⟩) := Lib.hid (by
              have hiv := HIV.out.below (L5.out.t.below (B := w.heap.size) (Nat.le_refl _) (fun k h => h.elim)) (Nat.le_refl _)
              have := crash_dq L5.out.dq (by omega) _ zs hzl (hiv.iv L5.out.t.size L5.out.s)
              rw [hcr] at this
              exact this.mono (fun r w' ⟨h1, S', h2, h3⟩ => ⟨h1, S', L5.out.step h2 h3, B5.out.step h3, X5.out.step h3⟩))
            have HFC : Hid (∀ W S', Lv11 w p S' W (dskF K' (-1)) → Calls Try.prog 25 #[.pointer (some ⟨p, 0, none⟩)] W fun r w' => r = .returned (fdv (fdo o')) ∧ Turn (fun _ => False) W w') := Lib.hid (fun W S' h => by
              have := find_dq h.dq
              rw [HFD.out] at this
              exact this)
            clear hcr hpl hK' h2' HX HSD HCK2 HFD HIV
            obtain ⟨y1, y2, y3, y4, y5, y6⟩ := sup_same ⟨g, r, t, e, lm, m⟩
            simp only at y1 y2 y3 y4 y5 y6
            cases o with
            | none =>
              have hout : (er = 0 ∧ (⟨sg, sr, st, se, sl, sm⟩ : Sup) = ⟨0, r, t, e, lm, m⟩ ∧ o' = some ⟨0, r, t, e, lm, m⟩) ∨ (er = 20 ∧ (⟨sg, sr, st, se, sl, sm⟩ : Sup) = zU ∧ (o' = none ∨ o' = some ⟨0, r, t, e, lm, m⟩)) := hout
              unfold zU at hout
              rcases hout with ⟨rfl, hs, rfl⟩ | ⟨rfl, hs, rfl | rfl⟩
              all_goals
                injection hs with s1 s2 s3 s4 s5 s6
                replace s1 := s1.symm
                replace s2 := s2.symm
                replace s3 := s3.symm
                replace s4 := s4.symm
                replace s5 := s5.symm
                replace s6 := s6.symm
                subst s1 s2 s3 s4 s5 s6
              · skip
                have FX : Hid (∀ W S', Lv11 w p S' W (dskF K' (-1)) → Calls Try.prog 25 #[.pointer (some ⟨p, 0, none⟩)] W fun rr w' => rr = .returned (.tuple #[.agg #[.int .i64 0, .int .i64 r, .int .i64 t, .int .i64 e, .int .i64 lm, .int .i64 m], .int .i64 0, .int .i64 0]) ∧ Turn (fun _ => False) W w') := Lib.hid (fun W S' h => HFC.out W S' h)
                clear HFC
                go_wp2_with (first
                  | (go_at_call 22; refine HCR.out.mono ?_; rintro e5 w5 ⟨rfl, S5, hl5, hb5, hx5⟩; have L6 := Lib.hid hl5; have B6 := Lib.hid hb5; have X6 := Lib.hid hx5; clear hl5 hb5 hx5)
                  | (go_at_call 25; refine (FX.out _ _ L6.out).mono ?_; rintro e6 w6 ⟨rfl, ht6⟩; have L7 := Lib.hid (L6.out.still ht6); have B7 := Lib.hid (B6.out.still ht6); have X7 := Lib.hid (X6.out.still ht6); clear ht6; obtain ⟨q0, q1, q2, q3, q4, q5⟩ := HCL.out _ L7.out.t; obtain ⟨⟨p0, p1, p2, p3, p4, p5⟩, f0, f1, f2, f3, f4, f5⟩ := blk6 B7.out.1; obtain ⟨x0, x1, x2, x3, x4, x5⟩ := (blk6 X7.out.1).1; have hz6 : b9 < w6.heap.size := B7.out.1.lt; have hz7 : b12 < w6.heap.size := X7.out.1.lt; have hz8 : b0 < w6.heap.size := Nat.lt_of_lt_of_le hb0 L7.out.t.size))
                go_roundw
                case rel => exact ⟨k + 1, K', some ⟨0, r, t, e, lm, m⟩, S5, by omega, by go_num, rfl, HK'.out, H2'.out, (fun s hs => (by cases hs; first | (simp; done) | (simp; omega))), (L7.out.put6 (b := b9) hb9 B7.out.2 (.int .i64 (0)) (.int .i64 (r)) (.int .i64 (t)) (.int .i64 (e)) (.int .i64 (lm)) (.int .i64 (m))).still (((Turn.refl _ _).alloc _).alloc _), Bx.still (S := S5) ⟨B7.out.1.put6, B7.out.2⟩ (((Turn.refl _ _).alloc _).alloc _)⟩
                case measure => simp [intOf]; omega
              · skip
                have FX : Hid (∀ W S', Lv11 w p S' W (dskF K' (-1)) → Calls Try.prog 25 #[.pointer (some ⟨p, 0, none⟩)] W fun rr w' => rr = .returned (.tuple #[.agg #[.int .i64 0, .int .i64 0, .int .i64 0, .int .i64 0, .int .i64 0, .int .i64 0], .int .i64 0, .int .i64 4]) ∧ Turn (fun _ => False) W w') := Lib.hid (fun W S' h => HFC.out W S' h)
                clear HFC
                go_wp2_with (first
                  | (go_at_call 22; refine HCR.out.mono ?_; rintro e5 w5 ⟨rfl, S5, hl5, hb5, hx5⟩; have L6 := Lib.hid hl5; have B6 := Lib.hid hb5; have X6 := Lib.hid hx5; clear hl5 hb5 hx5)
                  | (go_at_call 25; refine (FX.out _ _ L6.out).mono ?_; rintro e6 w6 ⟨rfl, ht6⟩; have L7 := Lib.hid (L6.out.still ht6); have B7 := Lib.hid (B6.out.still ht6); have X7 := Lib.hid (X6.out.still ht6); clear ht6; obtain ⟨q0, q1, q2, q3, q4, q5⟩ := HCL.out _ L7.out.t; obtain ⟨⟨p0, p1, p2, p3, p4, p5⟩, f0, f1, f2, f3, f4, f5⟩ := blk6 B7.out.1; obtain ⟨x0, x1, x2, x3, x4, x5⟩ := (blk6 X7.out.1).1; have hz6 : b9 < w6.heap.size := B7.out.1.lt; have hz7 : b12 < w6.heap.size := X7.out.1.lt; have hz8 : b0 < w6.heap.size := Nat.lt_of_lt_of_le hb0 L7.out.t.size))
                go_roundw
                case rel => exact ⟨k + 1, K', none, S5, by omega, by go_num, rfl, HK'.out, H2'.out, (fun s hs => by cases hs), L7.out.still (((Turn.refl _ _).alloc _).alloc _), B7.out.still (((Turn.refl _ _).alloc _).alloc _)⟩
                case measure => simp [intOf]; omega
              · skip
                have FX : Hid (∀ W S', Lv11 w p S' W (dskF K' (-1)) → Calls Try.prog 25 #[.pointer (some ⟨p, 0, none⟩)] W fun rr w' => rr = .returned (.tuple #[.agg #[.int .i64 0, .int .i64 r, .int .i64 t, .int .i64 e, .int .i64 lm, .int .i64 m], .int .i64 0, .int .i64 0]) ∧ Turn (fun _ => False) W w') := Lib.hid (fun W S' h => HFC.out W S' h)
                clear HFC
                go_wp2_with (first
                  | (go_at_call 22; refine HCR.out.mono ?_; rintro e5 w5 ⟨rfl, S5, hl5, hb5, hx5⟩; have L6 := Lib.hid hl5; have B6 := Lib.hid hb5; have X6 := Lib.hid hx5; clear hl5 hb5 hx5)
                  | (go_at_call 25; refine (FX.out _ _ L6.out).mono ?_; rintro e6 w6 ⟨rfl, ht6⟩; have L7 := Lib.hid (L6.out.still ht6); have B7 := Lib.hid (B6.out.still ht6); have X7 := Lib.hid (X6.out.still ht6); clear ht6; obtain ⟨q0, q1, q2, q3, q4, q5⟩ := HCL.out _ L7.out.t; obtain ⟨⟨p0, p1, p2, p3, p4, p5⟩, f0, f1, f2, f3, f4, f5⟩ := blk6 B7.out.1; obtain ⟨x0, x1, x2, x3, x4, x5⟩ := (blk6 X7.out.1).1; have hz6 : b9 < w6.heap.size := B7.out.1.lt; have hz7 : b12 < w6.heap.size := X7.out.1.lt; have hz8 : b0 < w6.heap.size := Nat.lt_of_lt_of_le hb0 L7.out.t.size))
                go_roundw
                case rel => exact ⟨k + 1, K', some ⟨0, r, t, e, lm, m⟩, S5, by omega, by go_num, rfl, HK'.out, H2'.out, (fun s hs => (by cases hs; first | (simp; done) | (simp; omega))), (L7.out.put6 (b := b9) hb9 B7.out.2 (.int .i64 (0)) (.int .i64 (r)) (.int .i64 (t)) (.int .i64 (e)) (.int .i64 (lm)) (.int .i64 (m))).still (((Turn.refl _ _).alloc _).alloc _), Bx.still (S := S5) ⟨B7.out.1.put6, B7.out.2⟩ (((Turn.refl _ _).alloc _).alloc _)⟩
                case measure => simp [intOf]; omega
            | some s0 =>
              obtain ⟨g0, r0, t0, e0, l0, m0⟩ := s0
              have hg0 := HGO.out _ rfl
              simp only at hg0
              obtain ⟨hg1, hg2⟩ := hg0
              have hout : (er = 0 ∧ (⟨sg, sr, st, se, sl, sm⟩ : Sup) = ⟨g0 + 1, r, t, e, lm, m⟩ ∧ o' = some ⟨g0 + 1, r, t, e, lm, m⟩) ∨ (er = 20 ∧ (⟨sg, sr, st, se, sl, sm⟩ : Sup) = zU ∧ (o' = some ⟨g0, r0, t0, e0, l0, m0⟩ ∨ o' = some ⟨g0 + 1, r, t, e, lm, m⟩)) := hout
              unfold zU at hout
              have hne : (g0 == g0 + 1) = false := by rw [beq_eq_false_iff_ne]; omega
              obtain ⟨v1, v2, v3, v4, v5, v6⟩ := sup_same ⟨g0, r0, t0, e0, l0, m0⟩
              simp only at v1 v2 v3 v4 v5 v6
              have v7 : (g0 + 1 == g0 + 1) = true := by simp
              rcases hout with ⟨rfl, hs, rfl⟩ | ⟨rfl, hs, rfl | rfl⟩
              all_goals
                injection hs with s1 s2 s3 s4 s5 s6
                replace s1 := s1.symm
                replace s2 := s2.symm
                replace s3 := s3.symm
                replace s4 := s4.symm
                replace s5 := s5.symm
                replace s6 := s6.symm
                subst s1 s2 s3 s4 s5 s6
              · skip
                have FX : Hid (∀ W S', Lv11 w p S' W (dskF K' (-1)) → Calls Try.prog 25 #[.pointer (some ⟨p, 0, none⟩)] W fun rr w' => rr = .returned (.tuple #[.agg #[.int .i64 (g0 + 1), .int .i64 r, .int .i64 t, .int .i64 e, .int .i64 lm, .int .i64 m], .int .i64 ((g0 + 1) % 2), .int .i64 0]) ∧ Turn (fun _ => False) W w') := Lib.hid (fun W S' h => HFC.out W S' h)
                clear HFC
                go_wp2_with (first
                  | (go_at_call 22; refine HCR.out.mono ?_; rintro e5 w5 ⟨rfl, S5, hl5, hb5, hx5⟩; have L6 := Lib.hid hl5; have B6 := Lib.hid hb5; have X6 := Lib.hid hx5; clear hl5 hb5 hx5)
                  | (go_at_call 25; refine (FX.out _ _ L6.out).mono ?_; rintro e6 w6 ⟨rfl, ht6⟩; have L7 := Lib.hid (L6.out.still ht6); have B7 := Lib.hid (B6.out.still ht6); have X7 := Lib.hid (X6.out.still ht6); clear ht6; obtain ⟨q0, q1, q2, q3, q4, q5⟩ := HCL.out _ L7.out.t; obtain ⟨⟨p0, p1, p2, p3, p4, p5⟩, f0, f1, f2, f3, f4, f5⟩ := blk6 B7.out.1; obtain ⟨x0, x1, x2, x3, x4, x5⟩ := (blk6 X7.out.1).1; have hz6 : b9 < w6.heap.size := B7.out.1.lt; have hz7 : b12 < w6.heap.size := X7.out.1.lt; have hz8 : b0 < w6.heap.size := Nat.lt_of_lt_of_le hb0 L7.out.t.size))
                go_roundw
                case rel => exact ⟨k + 1, K', some ⟨g0 + 1, r, t, e, lm, m⟩, S5, by omega, by go_num, rfl, HK'.out, H2'.out, (fun s hs => (by cases hs; have := HGO.out _ rfl; simp at this ⊢; omega)), (L7.out.put6 (b := b9) hb9 B7.out.2 (.int .i64 (g0 + 1)) (.int .i64 (r)) (.int .i64 (t)) (.int .i64 (e)) (.int .i64 (lm)) (.int .i64 (m))).still (((Turn.refl _ _).alloc _).alloc _), Bx.still (S := S5) ⟨B7.out.1.put6, B7.out.2⟩ (((Turn.refl _ _).alloc _).alloc _)⟩
                case measure => simp [intOf]; omega
              · skip
                have FX : Hid (∀ W S', Lv11 w p S' W (dskF K' (-1)) → Calls Try.prog 25 #[.pointer (some ⟨p, 0, none⟩)] W fun rr w' => rr = .returned (.tuple #[.agg #[.int .i64 g0, .int .i64 r0, .int .i64 t0, .int .i64 e0, .int .i64 l0, .int .i64 m0], .int .i64 (g0 % 2), .int .i64 0]) ∧ Turn (fun _ => False) W w') := Lib.hid (fun W S' h => HFC.out W S' h)
                clear HFC
                go_wp2_with (first
                  | (go_at_call 22; refine HCR.out.mono ?_; rintro e5 w5 ⟨rfl, S5, hl5, hb5, hx5⟩; have L6 := Lib.hid hl5; have B6 := Lib.hid hb5; have X6 := Lib.hid hx5; clear hl5 hb5 hx5)
                  | (go_at_call 25; refine (FX.out _ _ L6.out).mono ?_; rintro e6 w6 ⟨rfl, ht6⟩; have L7 := Lib.hid (L6.out.still ht6); have B7 := Lib.hid (B6.out.still ht6); have X7 := Lib.hid (X6.out.still ht6); clear ht6; obtain ⟨q0, q1, q2, q3, q4, q5⟩ := HCL.out _ L7.out.t; obtain ⟨⟨p0, p1, p2, p3, p4, p5⟩, f0, f1, f2, f3, f4, f5⟩ := blk6 B7.out.1; obtain ⟨x0, x1, x2, x3, x4, x5⟩ := (blk6 X7.out.1).1; have hz6 : b9 < w6.heap.size := B7.out.1.lt; have hz7 : b12 < w6.heap.size := X7.out.1.lt; have hz8 : b0 < w6.heap.size := Nat.lt_of_lt_of_le hb0 L7.out.t.size))
                go_roundw
                case rel => exact ⟨k + 1, K', some ⟨g0, r0, t0, e0, l0, m0⟩, S5, by omega, by go_num, rfl, HK'.out, H2'.out, (fun s hs => (by cases hs; have := HGO.out _ rfl; simp at this ⊢; omega)), (L7.out.put6 (b := b9) hb9 B7.out.2 (.int .i64 (g0)) (.int .i64 (r0)) (.int .i64 (t0)) (.int .i64 (e0)) (.int .i64 (l0)) (.int .i64 (m0))).still (((Turn.refl _ _).alloc _).alloc _), Bx.still (S := S5) ⟨B7.out.1.put6, B7.out.2⟩ (((Turn.refl _ _).alloc _).alloc _)⟩
                case measure => simp [intOf]; omega
              · skip
                have FX : Hid (∀ W S', Lv11 w p S' W (dskF K' (-1)) → Calls Try.prog 25 #[.pointer (some ⟨p, 0, none⟩)] W fun rr w' => rr = .returned (.tuple #[.agg #[.int .i64 (g0 + 1), .int .i64 r, .int .i64 t, .int .i64 e, .int .i64 lm, .int .i64 m], .int .i64 ((g0 + 1) % 2), .int .i64 0]) ∧ Turn (fun _ => False) W w') := Lib.hid (fun W S' h => HFC.out W S' h)
                clear HFC
                go_wp2_with (first
                  | (go_at_call 22; refine HCR.out.mono ?_; rintro e5 w5 ⟨rfl, S5, hl5, hb5, hx5⟩; have L6 := Lib.hid hl5; have B6 := Lib.hid hb5; have X6 := Lib.hid hx5; clear hl5 hb5 hx5)
                  | (go_at_call 25; refine (FX.out _ _ L6.out).mono ?_; rintro e6 w6 ⟨rfl, ht6⟩; have L7 := Lib.hid (L6.out.still ht6); have B7 := Lib.hid (B6.out.still ht6); have X7 := Lib.hid (X6.out.still ht6); clear ht6; obtain ⟨q0, q1, q2, q3, q4, q5⟩ := HCL.out _ L7.out.t; obtain ⟨⟨p0, p1, p2, p3, p4, p5⟩, f0, f1, f2, f3, f4, f5⟩ := blk6 B7.out.1; obtain ⟨x0, x1, x2, x3, x4, x5⟩ := (blk6 X7.out.1).1; have hz6 : b9 < w6.heap.size := B7.out.1.lt; have hz7 : b12 < w6.heap.size := X7.out.1.lt; have hz8 : b0 < w6.heap.size := Nat.lt_of_lt_of_le hb0 L7.out.t.size))
                go_roundw
                case rel => exact ⟨k + 1, K', some ⟨g0 + 1, r, t, e, lm, m⟩, S5, by omega, by go_num, rfl, HK'.out, H2'.out, (fun s hs => (by cases hs; have := HGO.out _ rfl; simp at this ⊢; omega)), (L7.out.put6 (b := b9) hb9 B7.out.2 (.int .i64 (g0 + 1)) (.int .i64 (r)) (.int .i64 (t)) (.int .i64 (e)) (.int .i64 (lm)) (.int .i64 (m))).still (((Turn.refl _ _).alloc _).alloc _), Bx.still (S := S5) ⟨B7.out.1.put6, B7.out.2⟩ (((Turn.refl _ _).alloc _).alloc _)⟩
                case measure => simp [intOf]; omega
    · obtain rfl : k = n := by omega
      go_wp2_with (go_at_call 14; refine (HL.out _).mono ?_; rintro e2 w2 ⟨rfl, ht⟩)
      go_ret
      exact ⟨rfl, (LV.out.t.trans ht).below (Nat.le_refl _) (fun k h => h.elim)⟩
end Go.Proofs.Ytcjoinahelmmpaa
