/- The walk of ambrylaw11.SuperPlays (made by mkSP.py). -/
import Derived.Test.YtcjoinahelmmpaaSuN
import Derived.Test.YtcjoinahelmmpaaFrameW
import Derived.Deep.CutRange
import Derived.Deep.QuietTactic
import Derived.BigQuiet
namespace Go.Proofs.Ytcjoinahelmmpaa
open Go.RowKit
set_option linter.unusedVariables false
set_option maxRecDepth 100000

theorem ten {w : World} {g : Nat} {t : TypeId} {a b c d e f h i j k : Value} (H : Blk w g t [a, b, c, d, e, f, h, i, j, k]) :
    w.cell? ⟨g, 0, none⟩ = some a ∧ w.cell? ⟨g, 1, none⟩ = some b ∧ w.cell? ⟨g, 2, none⟩ = some c ∧ w.cell? ⟨g, 3, none⟩ = some d ∧ w.cell? ⟨g, 4, none⟩ = some e ∧ w.cell? ⟨g, 5, none⟩ = some f ∧ w.cell? ⟨g, 6, none⟩ = some h ∧ w.cell? ⟨g, 7, none⟩ = some i ∧ w.cell? ⟨g, 8, none⟩ = some j ∧ w.cell? ⟨g, 9, none⟩ = some k :=
  ⟨H.cell 0, H.cell 1, H.cell 2, H.cell 3, H.cell 4, H.cell 5, H.cell 6, H.cell 7, H.cell 8, H.cell 9⟩
theorem cell_keepP {w W : World} (ht : Turn (fun _ => False) w W) {b o : Nat} {v : Value} (hb : b < w.heap.size) (h : w.cell? ⟨b, o, none⟩ = some v) : W.cell? ⟨b, o, none⟩ = some v :=
  (World.cell?_of_block (w := w) (a := ⟨b, o, none⟩) (ht.block b hb (fun h => h))).trans h
theorem sup_sameP (s : Sup) : (s.g == s.g) = true ∧ (s.r == s.r) = true ∧ (s.t == s.t) = true ∧ (s.e == s.e) = true ∧ (s.l == s.l) = true ∧ (s.m == s.m) = true := ⟨by simp, by simp, by simp, by simp, by simp, by simp⟩
theorem superPlays_none (n : Int) (v : Value) (qs : List Acw) (w : World) (hq : Acts11 w.heap.size w v qs) (h : n < 1 ∨ (1 ≤ n ∧ 20 < n) ∨ ((1 ≤ n ∧ n ≤ 20) ∧ 100 < qs.length)) :
    Calls Try.prog 5 #[.int .i64 n, v] w fun e w' => e = .returned (.bool true) ∧ Below w.heap.size w w' := by
  have HL := Lib.hid lives11_any
  obtain ⟨A, c, rfl, _⟩ := hq
  have key : n < 1 ∨ (1 ≤ n ∧ 20 < n) ∨ ((1 ≤ n ∧ n ≤ 20) ∧ (100 : Int) < (qs.length : Int)) := by omega
  clear h
  rcases key with h | ⟨h, h2⟩ | ⟨⟨h, h2⟩, h3⟩
  all_goals
    go_enter Try.func5, Try.ntmps5
    go_wp2_with (go_at_call 14; refine (HL.out _).mono ?_; rintro e2 w2 ⟨rfl, ht⟩)
    go_ret
    exact ⟨rfl, ht.below (Nat.le_refl _) (fun k h => h.elim)⟩
set_option maxHeartbeats 8000000 in
theorem superPlays_in (n : Nat) (v : Value) (qs : List Acw) (w : World) (hq : Acts11 w.heap.size w v qs) (h1 : 1 ≤ n) (h2 : n ≤ 20) (h3 : qs.length ≤ 100) :
    Calls Try.prog 5 #[.int .i64 n, v] w fun e w' => e = .returned (.bool true) ∧ Below w.heap.size w w' := by
  have HL := Lib.hid lives11_any
  obtain ⟨A0, c0, rfl, _, hr0⟩ := hq
  have R0 := Lib.hid hr0
  have HN : Hid (Calls Try.prog 17 #[.int .i64 n] w fun e w' => ∃ p S, e = .returned (.tuple #[.pointer (some ⟨p, 0, none⟩), .int .i64 0]) ∧ Lv11 w p S w' (fresh n)) := Lib.hid ((new_dq n (by omega) (by omega) w).mono (fun e w' ⟨p, S, h1, h2, h3, h4⟩ => ⟨p, S, h1, h2, h4, h3⟩))
  have HM : Hid (∀ W, Calls Try.prog 18 #[.int .i64 n] W fun e w' => ∃ q, W.heap.size ≤ q ∧ e = .returned (.tuple #[.agg #[.int .i64 n, .slice (some ⟨q, 0, none⟩) n n, .slice none 0 0, .int .i64 (-1), .bool false], .int .i64 0]) ∧ Rm w' (fresh n) (List.replicate n []) (some ⟨q, 0, none⟩) n none 0 ∧ Turn (fun _ => False) W w') := Lib.hid (fun W => newRef_r n (by omega) (by omega) W)
  obtain ⟨nl, hnl⟩ : ∃ x, qs.length = x := ⟨_, rfl⟩
  have HNL := Lib.hid hnl
  rw [hnl] at h3 R0 ⊢
  clear hr0 hnl
  have i1 : ((n : Int) < 1) = False := by simp; omega
  have i2 : (1 : Int) ≤ (n : Int) := by omega
  have i3 : (n : Int) ≤ 20 := by omega
  have i4 : (nl : Int) ≤ 100 := by omega
  have i5 : decide ((20 : Int) < (n : Int)) = false := by simp; omega
  have i6 : decide ((100 : Int) < (nl : Int)) = false := by simp; omega
  clear i1
  go_enter Try.func5, Try.ntmps5
  go_wp2_with fail
  refine HN.out.mono ?_
  rintro e w1 ⟨p, S1, rfl, hl⟩
  have L1 := Lib.hid hl
  clear hl
  go_wp2_with fail
  refine (HM.out _).mono ?_
  rintro e w2 ⟨q, hqz, rfl, hm, ht⟩
  have hTA := (Turn.refl (fun _ => False) w2).alloc (.cells #[.int .i64 n, .slice (some ⟨q, 0, none⟩) n n, .slice none 0 0, .int .i64 (-1), .bool false] 46)
  have hq2 : q < w2.heap.size := by
    rcases hm.kept.2 with ⟨h, _⟩ | ⟨g, cap, cur, e, _, hh, _⟩
    · cases h
    · injection e with e _ _
      injection e with e
      injection e with e _
      subst e
      exact (Array.getElem?_eq_some_iff.1 hh).1
  have hwz : w.heap.size ≤ w2.heap.size := (L1.out.still ht).t.size
  have hlt := (L1.out.still ht).dq.lt
  have RI : Hid (Rd11 w p w2.heap.size S1 (w2.alloc (.cells #[.int .i64 n, .slice (some ⟨q, 0, none⟩) n n, .slice none 0 0, .int .i64 (-1), .bool false] 46)) (fresh n) (fresh n) (List.replicate n []) (some ⟨q, 0, none⟩) n none 0) := Lib.hid (by
    refine ⟨(L1.out.still ht).still hTA, ⟨hm.still hTA, fun b hb e => ?_, fun b hb e => ?_⟩, ?_, fun e => ?_, hwz⟩
    · injection hb with hb
      subst hb
      replace e : S1 q ∨ q = w2.heap.size := e
      rcases e with e | e
      · have := L1.out.dq.lt _ e; omega
      · omega
    · cases hb
    · have hb := Blk.new w2 46 [.int .i64 n, .slice (some ⟨q, 0, none⟩) n n, .slice none 0 0, .int .i64 (-1), .bool false]
      unfold rdc
      simpa [fresh] using hb
    · have := hlt _ e; omega)
  obtain ⟨b7, hb7⟩ : ∃ b, w2.heap.size = b := ⟨_, rfl⟩
  rw [hb7] at RI
  clear hm ht hTA hq2 hwz hlt L1 hqz
  go_wp2_with fail
  clear hb7
  go_loopw [9] (fun i W => ∃ (k : Nat) (D : Dsk) (S : Nat → Prop) (ks : List (List UInt8)) (A : Option Addr) (c : Nat) (B : Option Addr) (d : Nat), k ≤ nl ∧ i = .int .i64 k ∧ D.pend.length ≤ k ∧ Rd11 w p b7 S W D D ks A c B d) (fun i _ => nl - (intOf i).toNat)
  case atStart => exact ⟨0, fresh n, S1, _, _, _, _, _, by omega, rfl, by simp [fresh], RI.out⟩
  case round =>
    obtain ⟨k, D, S, ks, A, c, B, d, hkn, rfl, hpd, hR⟩ := hrel
    have RR := Lib.hid hR
    have HPD := Lib.hid hpd
    clear hR hpd
    obtain ⟨wx, rfl⟩ : ∃ W, W = wr := ⟨_, rfl⟩
    by_cases hk : k < nl
    · have hk' : (k : Int) < (nl : Int) := by omega
      have hk0 : (0 : Int) ≤ (k : Int) := by omega
      obtain ⟨b0, o0, rfl, hb0, hc0⟩ := R0.out (by omega)
      obtain ⟨s, hs⟩ : ∃ s, qs[k]? = some s := ⟨_, List.getElem?_eq_getElem (by rw [HNL.out]; exact hk)⟩
      obtain ⟨hcs, hiv, hi1, hi2⟩ := hc0 k s hs
      obtain ⟨ak, ai, as_, av, zs, g, r, t, e, lm, m⟩ := s
      simp only [Acw.cs] at hcs hiv hi1 hi2
      have HIV := Lib.hid hiv
      have hzl := hiv.len
      obtain ⟨A3, c3, hv3, _⟩ := hiv
      subst hv3
      have q0 := cell_keepP RR.out.lv.t hb0 (hcs 0 _ rfl)
      have q1 := cell_keepP RR.out.lv.t hb0 (hcs 1 _ rfl)
      have q2 := cell_keepP RR.out.lv.t hb0 (hcs 2 _ rfl)
      have q3 := cell_keepP RR.out.lv.t hb0 (hcs 3 _ rfl)
      have q4 := cell_keepP RR.out.lv.t hb0 (hcs 4 _ rfl)
      have q5 := cell_keepP RR.out.lv.t hb0 (hcs 5 _ rfl)
      have q6 := cell_keepP RR.out.lv.t hb0 (hcs 6 _ rfl)
      have q7 := cell_keepP RR.out.lv.t hb0 (hcs 7 _ rfl)
      have q8 := cell_keepP RR.out.lv.t hb0 (hcs 8 _ rfl)
      have q9 := cell_keepP RR.out.lv.t hb0 (hcs 9 _ rfl)
      rw [Nat.add_zero] at q0
      clear hcs hc0 hs
      have TA := (Turn.refl (fun _ => False) wx).alloc (.cells #[.int .i64 ak, .int .i64 ai, .string as_, .slice A3 zs.length c3, .int .i64 g, .int .i64 r, .int .i64 t, .int .i64 e, .int .i64 lm, .int .i64 m] 51)
      have R1 := Lib.hid (RR.out.still TA)
      have Z1 := Lib.hid (Bz.new RR.out.lv 51 [.int .i64 ak, .int .i64 ai, .string as_, .slice A3 zs.length c3, .int .i64 g, .int .i64 r, .int .i64 t, .int .i64 e, .int .i64 lm, .int .i64 m])
      obtain ⟨b10, hb10⟩ : ∃ b, b = wx.heap.size := ⟨_, rfl⟩
      have hb710 : b7 < b10 := by have := RR.out.bx.lt; omega
      have hzx : b0 < wx.heap.size := Nat.lt_of_lt_of_le hb0 RR.out.lv.t.size
      rw [← hb10] at Z1
      clear TA
      by_cases hs5 : 500 < as_.size ∨ 100 < zs.length
      · have hs5' : (500 : Int) < (as_.size : Int) ∨ ((as_.size : Int) ≤ 500 ∧ decide ((500 : Int) < (as_.size : Int)) = false ∧ (100 : Int) < (zs.length : Int)) := by
          by_cases h : 500 < as_.size
          · exact .inl (by omega)
          · exact .inr ⟨by omega, by simp; omega, by rcases hs5 with h' | h'; exact absurd h' h; omega⟩
        clear hs5 hb10
        rcases hs5' with hs5 | ⟨hs5, hs6, hs7⟩
        all_goals
          go_wp2_with (go_at_call 14; refine (HL.out _).mono ?_; rintro e2 w3 ⟨rfl, ht⟩)
          go_ret
          exact ⟨rfl, (R1.out.lv.t.trans ht).below (Nat.le_refl _) (fun k h => h.elim)⟩
      have z5 : (as_.size : Int) ≤ 500 := by omega
      have z6 : decide ((500 : Int) < (as_.size : Int)) = false := by simp; omega
      have z7 : (zs.length : Int) ≤ 100 := by omega
      have z8 : decide ((100 : Int) < (zs.length : Int)) = false := by simp; omega
      have hzs : zs.length ≤ 100 := by omega
      clear hs5
      go_upto_region 13 with fail
      rw [← hb10]
      clear q0 q1 q2 q3 q4 q5 q6 q7 q8 q9
      generalize wx.alloc (.cells #[.int .i64 ak, .int .i64 ai, .string as_, .slice A3 zs.length c3, .int .i64 g, .int .i64 r, .int .i64 t, .int .i64 e, .int .i64 lm, .int .i64 m] 51) = w1_ at *
      clear hb10 hzx
      obtain ⟨w1, rfl⟩ : ∃ W, W = w1_ := ⟨_, rfl⟩
      obtain ⟨y1, y2, y3, y4, y5, y6⟩ := sup_sameP ⟨g, r, t, e, lm, m⟩
      simp only at y1 y2 y3 y4 y5 y6
      by_cases hk1 : ak = 1
      · subst hk1
        obtain ⟨⟨m0, m1, m2, m3, m4⟩, n0, n1, n2, n3, n4⟩ := blk5 R1.out.bx
        have hzb : b7 < w1.heap.size := R1.out.bx.lt
        obtain ⟨a0, a1, a2, a3, a4, a5, a6, a7, a8, a9⟩ := ten Z1.out.1
        have hza : b10 < w1.heap.size := Z1.out.1.lt
        have WR := Lib.hid (write_rg R1.out.lt R1.out.rg R1.out.lv.dq.1 (by have := HPD.out; omega) ai as_)
        obtain ⟨X, hX⟩ : ∃ X, D.write ai as_.data.toList = X := ⟨_, rfl⟩
        have HX := Lib.hid hX
        rw [hX] at WR
        have HPF : X.1.pend.length ≤ k + 1 := by rw [← hX]; have := write_pend D ai as_.data.toList; have := HPD.out; omega
        clear hX
        obtain ⟨DF, f1⟩ := X
        simp only [rd] at WR HPF
        go_wp2_with fail
        refine WR.out.mono ?_
        rintro e2 w2 ⟨B2, d2, rfl, hg2, ht⟩
        have TA := (Turn.refl (fun _ => False) w2).alloc (.cells #[.int .i64 (DF.kept.length : Int), .slice A ks.length c, .slice B2 DF.pend.length d2, .int .i64 DF.fuse, .bool DF.dead] 46)
        have R2 := Lib.hid ((R1.out.still ht).still TA)
        have G2 := Lib.hid (hg2.still TA)
        have Z2 := Lib.hid ((Z1.out.still ht).still TA)
        have Y2 := Lib.hid (Bz.new (R1.out.still ht).lv 46 [.int .i64 (DF.kept.length : Int), .slice A ks.length c, .slice B2 DF.pend.length d2, .int .i64 DF.fuse, .bool DF.dead])
        have hz2 : b7 < w2.heap.size := (R1.out.still ht).bx.lt
        have hz3 : b10 < w2.heap.size := (Z1.out.still ht).1.lt
        clear m0 m1 m2 m3 m4 n0 n1 n2 n3 n4 hzb
        clear a0 a1 a2 a3 a4 a5 a6 a7 a8 a9 hza
        obtain ⟨a0, a1, a2, a3, a4, a5, a6, a7, a8, a9⟩ := ten (Z1.out.still ht).1
        clear hg2 ht TA
        have HWD : Hid (∀ W v, Turn (fun _ => False) (w2.alloc (.cells #[.int .i64 (DF.kept.length : Int), .slice A ks.length c, .slice B2 DF.pend.length d2, .int .i64 DF.fuse, .bool DF.dead] 46)) W → By S W v as_.data.toList → Calls Try.prog 20 #[.pointer (some ⟨p, 0, none⟩), .int .i64 ai, v] W fun e w' => e = .returned (.int .i64 f1) ∧ ∃ S', Dq S' w' p DF ∧ Stp S W S' w') := Lib.hid (fun W v ht hb => by
          have := write_dq (R2.out.lv.dq.still ht) ai v _ hb (by have := HPD.out; omega)
          rw [HX.out] at this
          exact this)
        have hzS : ∀ k, S k → k < (w2.alloc (.cells #[.int .i64 (DF.kept.length : Int), .slice A ks.length c, .slice B2 DF.pend.length d2, .int .i64 DF.fuse, .bool DF.dead] 46)).heap.size := R2.out.lv.dq.lt
        have HZS := Lib.hid hzS
        clear hzS
        have hf1 : (f1 != f1) = false := by simp
        obtain ⟨b11, hb11⟩ : ∃ b, w2.heap.size = b := ⟨_, rfl⟩
        have HB11 := Lib.hid hb11
        rw [hb11] at Y2
        clear hb11
        go_wp2_with (first
          | (refine wpList_conv_by rfl _ rfl S as_ rfl HZS.out ?_; intro v9 w9 hby ht9; have HBY := Lib.hid hby; have T9 := Lib.hid ht9; clear hby ht9)
          | (go_at_call 20; (with_reducible refine (HWD.out _ _ T9.out HBY.out).mono ?_); rintro e5 w5 ⟨rfl, S5, hq5, hs5⟩; have R5 := Lib.hid ((R2.out.still T9.out).step hq5 hs5); have G5 := Lib.hid ((G2.out.still T9.out).stp (hs5.plus b7)); have Y5 := Lib.hid ((Y2.out.still T9.out).step hs5); clear hq5 hs5; obtain ⟨⟨c0, c1, c2, c3, c4⟩, _⟩ := blk5 (HB11.out ▸ Y5.out.1); obtain ⟨⟨m0, m1, m2, m3, m4⟩, n0, n1, n2, n3, n4⟩ := blk5 R5.out.bx; have hzb : b7 < w5.heap.size := R5.out.bx.lt))
        rw [pu5_eq]
        have RF := Lib.hid (R5.out.store G5.out)
        clear m0 m1 m2 m3 m4 n0 n1 n2 n3 n4 hzb c0 c1 c2 c3 c4 a0 a1 a2 a3 a4 a5 a6 a7 a8 a9
        generalize pu5 w5 b7 (.int .i64 (DF.kept.length : Int)) (.slice A ks.length c) (.slice B2 DF.pend.length d2) (.int .i64 DF.fuse) (.bool DF.dead) = WF at *
        have HPF := Lib.hid HPF
        have HPC : Hid (∀ W, Turn (fun _ => False) WF W → Calls Try.prog 29 #[.pointer (some ⟨p, 0, none⟩)] W fun e w' => e = .returned (.int .i64 (DF.pend.length : Int)) ∧ w' = W) := Lib.hid (fun W ht => (pending_dq (RF.out.lv.dq.still ht)).mono (fun _ _ h => ⟨h.1, h.2.symm⟩))
        have HDC : Hid (∀ W, Turn (fun _ => False) WF W → Calls Try.prog 30 #[.pointer (some ⟨p, 0, none⟩)] W fun e w' => e = .returned (.bool DF.dead) ∧ w' = W) := Lib.hid (fun W ht => (dead_dq (RF.out.lv.dq.still ht)).mono (fun _ _ h => ⟨h.1, h.2.symm⟩))
        obtain ⟨⟨m0, m1, m2, m3, m4⟩, n0, n1, n2, n3, n4⟩ := blk5 RF.out.bx
        have hq1 : ((DF.pend.length : Int) != (DF.pend.length : Int)) = false := by simp
        have hq2 : (DF.dead != DF.dead) = false := by simp
        go_wp2_with fail
        go_quiet ((first | (go_at_call 29; exact Calls.quiet_of_same (HPC.out _ ((Turn.refl _ _).drewN _))) | (go_at_call 30; exact Calls.quiet_of_same (HDC.out _ ((Turn.refl _ _).drewN _)))))
        clear m0 m1 m2 m3 m4 n0 n1 n2 n3 n4
        go_wp2_with fail
        go_roundw
        case rel => exact ⟨k + 1, DF, _, _, _, _, _, _, by omega, by go_num, HPF.out, RF.out.still ((Turn.refl _ _).drewN _)⟩
        case measure => simp [intOf]; omega
      have hb1 : (ak == 1) = false := by rw [beq_eq_false_iff_ne]; exact hk1
      by_cases hk2 : ak = 2
      · subst hk2
        obtain ⟨⟨m0, m1, m2, m3, m4⟩, n0, n1, n2, n3, n4⟩ := blk5 R1.out.bx
        have hzb : b7 < w1.heap.size := R1.out.bx.lt
        obtain ⟨a0, a1, a2, a3, a4, a5, a6, a7, a8, a9⟩ := ten Z1.out.1
        have hza : b10 < w1.heap.size := Z1.out.1.lt
        have WR := Lib.hid (crash_rg R1.out.lt R1.out.rg R1.out.lv.dq.1 (by have := HPD.out; omega) (.slice A3 zs.length c3) zs hzl ((HIV.out.below (R1.out.lv.t.below (B := w.heap.size) (Nat.le_refl _) (fun k h => h.elim)) (Nat.le_refl _)).iv (S := fun _ => False) R1.out.lv.t.size (fun k h => h.elim)))
        have HCR := Lib.hid (fun S' W v (h : Dq S' W p D) (hv : Iv S' W v zs) => crash_dq h (by have := HPD.out; omega) v zs hzl hv)
        have HPF : Hid ((D.crashed zs).pend.length ≤ k + 1) := Lib.hid (by simp [Dsk.crashed, Dsk.lost])
        obtain ⟨DF, hDF⟩ : ∃ X, D.crashed zs = X := ⟨_, rfl⟩
        rw [hDF] at WR HCR HPF
        clear hDF
        simp only [rd] at WR
        go_upto_region 26 with (go_at_call 21; (with_reducible refine WR.out.mono ?_); rintro e2 w2 ⟨ks2, A2, c2, B2, d2, rfl, hg2, ht⟩; have R2 := Lib.hid (R1.out.still ht); have G2 := Lib.hid hg2; have Z2 := Lib.hid (Z1.out.still ht); clear hg2 ht; clear m0 m1 m2 m3 m4 n0 n1 n2 n3 n4 hzb; clear a0 a1 a2 a3 a4 a5 a6 a7 a8 a9 hza; obtain ⟨⟨m0, m1, m2, m3, m4⟩, n0, n1, n2, n3, n4⟩ := blk5 R2.out.bx; have hzb : b7 < w2.heap.size := R2.out.bx.lt)
        rw [pu5_eq]
        have R3 := Lib.hid (R2.out.store G2.out)
        have Z3 := Lib.hid (Z2.out.pu5 (g := b7) (by omega) (.int .i64 (DF.kept.length : Int)) (.slice A2 ks2.length c2) (.slice B2 DF.pend.length d2) (.int .i64 DF.fuse) (.bool DF.dead))
        clear m0 m1 m2 m3 m4 n0 n1 n2 n3 n4 hzb
        generalize pu5 w2 b7 (.int .i64 (DF.kept.length : Int)) (.slice A2 ks2.length c2) (.slice B2 DF.pend.length d2) (.int .i64 DF.fuse) (.bool DF.dead) = w3 at *
        have TA := (Turn.refl (fun _ => False) w3).alloc (.cells #[] 3)
        have R4 := Lib.hid (R3.out.still TA)
        obtain ⟨a0, a1, a2, a3, a4, a5, a6, a7, a8, a9⟩ := ten Z3.out.1
        have hza : b10 < w3.heap.size := Z3.out.1.lt
        clear TA
        obtain ⟨j0, hj, hjz, hjs, hjb⟩ := info_parts_ Try.infoIntN
        have HIF : Hid (Iv (fun _ => False) (w3.alloc (.cells #[] 3)) (.slice A3 zs.length c3) zs) := Lib.hid ((HIV.out.below (R4.out.lv.t.below (B := w.heap.size) (Nat.le_refl _) (fun k h => h.elim)) (Nat.le_refl _)).iv (S := fun _ => False) R4.out.lv.t.size (fun k h => h.elim))
        go_wp2_with (first
          | (at_builtin; refine wpList_app_intsN rfl _ _ 49 rfl 3 j0 Try.underlying49 hj hjz hjs hjb w3.heap.size zs.length c3 A3 zs rfl rfl rfl HIF.out (by omega) ?_; rintro v5 w5 ⟨A5, c5, rfl, hiv5⟩ ht5; have R5 := Lib.hid (R4.out.still ht5); have HV5 := Lib.hid (hiv5 S R4.out.lv.dq.lt); clear hiv5 ht5)
          | (go_at_call 22; (with_reducible refine (HCR.out _ _ _ R5.out.lv.dq HV5.out).mono ?_); rintro e6 WF ⟨rfl, S6, hq6, hs6⟩; have RF := Lib.hid (R5.out.step hq6 hs6); clear hq6 hs6; clear a0 a1 a2 a3 a4 a5 a6 a7 a8 a9 hza; clear hj hjz hjs hjb))
        have HPC : Hid (∀ W, Turn (fun _ => False) WF W → Calls Try.prog 29 #[.pointer (some ⟨p, 0, none⟩)] W fun e w' => e = .returned (.int .i64 (DF.pend.length : Int)) ∧ w' = W) := Lib.hid (fun W ht => (pending_dq (RF.out.lv.dq.still ht)).mono (fun _ _ h => ⟨h.1, h.2.symm⟩))
        have HDC : Hid (∀ W, Turn (fun _ => False) WF W → Calls Try.prog 30 #[.pointer (some ⟨p, 0, none⟩)] W fun e w' => e = .returned (.bool DF.dead) ∧ w' = W) := Lib.hid (fun W ht => (dead_dq (RF.out.lv.dq.still ht)).mono (fun _ _ h => ⟨h.1, h.2.symm⟩))
        obtain ⟨⟨m0, m1, m2, m3, m4⟩, n0, n1, n2, n3, n4⟩ := blk5 RF.out.bx
        have hq1 : ((DF.pend.length : Int) != (DF.pend.length : Int)) = false := by simp
        have hq2 : (DF.dead != DF.dead) = false := by simp
        go_wp2_with fail
        go_quiet ((first | (go_at_call 29; exact Calls.quiet_of_same (HPC.out _ ((Turn.refl _ _).drewN _))) | (go_at_call 30; exact Calls.quiet_of_same (HDC.out _ ((Turn.refl _ _).drewN _)))))
        clear m0 m1 m2 m3 m4 n0 n1 n2 n3 n4
        go_wp2_with fail
        go_roundw
        case rel => exact ⟨k + 1, DF, _, _, _, _, _, _, by omega, by go_num, HPF.out, RF.out.still ((Turn.refl _ _).drewN _)⟩
        case measure => simp [intOf]; omega
      have hb2 : (ak == 2) = false := by rw [beq_eq_false_iff_ne]; exact hk2
      by_cases hk3 : ak = 3
      · subst hk3
        obtain ⟨⟨m0, m1, m2, m3, m4⟩, n0, n1, n2, n3, n4⟩ := blk5 R1.out.bx
        have hzb : b7 < w1.heap.size := R1.out.bx.lt
        obtain ⟨a0, a1, a2, a3, a4, a5, a6, a7, a8, a9⟩ := ten Z1.out.1
        have hza : b10 < w1.heap.size := Z1.out.1.lt
        have WR := Lib.hid (fun (ra : Rg (fun k => S k ∨ k = b7) w1 D ks A c B d) => arm_rg ra ai)
        have HAR := Lib.hid (fun S' W (h : Dq S' W p D) => arm_dq h ai hi2)
        have HPF : Hid ((D.arm ai).1.pend.length ≤ k + 1) := Lib.hid (by rw [arm_pend]; have := HPD.out; omega)
        obtain ⟨X, hX⟩ : ∃ X, D.arm ai = X := ⟨_, rfl⟩
        rw [hX] at WR HAR HPF
        clear hX
        obtain ⟨DF, f1⟩ := X
        simp only [rd] at WR HAR HPF
        have WR := Lib.hid (WR.out R1.out.rg)
        go_upto_region 29 with (go_at_call 23; (with_reducible refine WR.out.mono ?_); rintro e2 w2 ⟨rfl, hg2, ht⟩; have R2 := Lib.hid (R1.out.still ht); have G2 := Lib.hid hg2; have Z2 := Lib.hid (Z1.out.still ht); clear hg2 ht; clear m0 m1 m2 m3 m4 n0 n1 n2 n3 n4 hzb; clear a0 a1 a2 a3 a4 a5 a6 a7 a8 a9 hza; obtain ⟨⟨m0, m1, m2, m3, m4⟩, n0, n1, n2, n3, n4⟩ := blk5 R2.out.bx; have hzb : b7 < w2.heap.size := R2.out.bx.lt)
        rw [pu5_eq]
        have R3 := Lib.hid (R2.out.store G2.out)
        have Z3 := Lib.hid (Z2.out.pu5 (g := b7) (by omega) (.int .i64 (DF.kept.length : Int)) (.slice A ks.length c) (.slice B DF.pend.length d) (.int .i64 DF.fuse) (.bool DF.dead))
        clear m0 m1 m2 m3 m4 n0 n1 n2 n3 n4 hzb
        generalize pu5 w2 b7 (.int .i64 (DF.kept.length : Int)) (.slice A ks.length c) (.slice B DF.pend.length d) (.int .i64 DF.fuse) (.bool DF.dead) = w3 at *
        obtain ⟨a0, a1, a2, a3, a4, a5, a6, a7, a8, a9⟩ := ten Z3.out.1
        have hza : b10 < w3.heap.size := Z3.out.1.lt
        go_wp2_with (go_at_call 24; (with_reducible refine (HAR.out _ _ R3.out.lv.dq).mono ?_); rintro e6 WF ⟨rfl, S6, hq6, hs6⟩; have RF := Lib.hid (R3.out.step hq6 hs6); clear hq6 hs6; clear a0 a1 a2 a3 a4 a5 a6 a7 a8 a9 hza)
        have HPC : Hid (∀ W, Turn (fun _ => False) WF W → Calls Try.prog 29 #[.pointer (some ⟨p, 0, none⟩)] W fun e w' => e = .returned (.int .i64 (DF.pend.length : Int)) ∧ w' = W) := Lib.hid (fun W ht => (pending_dq (RF.out.lv.dq.still ht)).mono (fun _ _ h => ⟨h.1, h.2.symm⟩))
        have HDC : Hid (∀ W, Turn (fun _ => False) WF W → Calls Try.prog 30 #[.pointer (some ⟨p, 0, none⟩)] W fun e w' => e = .returned (.bool DF.dead) ∧ w' = W) := Lib.hid (fun W ht => (dead_dq (RF.out.lv.dq.still ht)).mono (fun _ _ h => ⟨h.1, h.2.symm⟩))
        obtain ⟨⟨m0, m1, m2, m3, m4⟩, n0, n1, n2, n3, n4⟩ := blk5 RF.out.bx
        have hq1 : ((DF.pend.length : Int) != (DF.pend.length : Int)) = false := by simp
        have hq2 : (DF.dead != DF.dead) = false := by simp
        go_wp2_with fail
        go_quiet ((first | (go_at_call 29; exact Calls.quiet_of_same (HPC.out _ ((Turn.refl _ _).drewN _))) | (go_at_call 30; exact Calls.quiet_of_same (HDC.out _ ((Turn.refl _ _).drewN _)))))
        clear m0 m1 m2 m3 m4 n0 n1 n2 n3 n4
        go_wp2_with fail
        go_roundw
        case rel => exact ⟨k + 1, DF, _, _, _, _, _, _, by omega, by go_num, HPF.out, RF.out.still ((Turn.refl _ _).drewN _)⟩
        case measure => simp [intOf]; omega
      have hb3 : (ak == 3) = false := by rw [beq_eq_false_iff_ne]; exact hk3
      by_cases hk4 : ak = 4
      · subst hk4
        obtain ⟨⟨m0, m1, m2, m3, m4⟩, n0, n1, n2, n3, n4⟩ := blk5 R1.out.bx
        have hzb : b7 < w1.heap.size := R1.out.bx.lt
        obtain ⟨a0, a1, a2, a3, a4, a5, a6, a7, a8, a9⟩ := ten Z1.out.1
        have hza : b10 < w1.heap.size := Z1.out.1.lt
        have HF1 := Lib.hid (find_dq R1.out.lv.dq)
        have HF2 : Hid (∀ W, Turn (fun _ => False) w1 W → Calls Try.prog 26 #[rd D ks A c B d] W fun r w' => r = .returned (fdv D.find) ∧ Turn (fun _ => False) W w') := Lib.hid (fun W ht => refFind_rm (R1.out.rg.m.still ht) R1.out.lv.dq.1 (by have := HPD.out; omega))
        obtain ⟨X, hX⟩ : ∃ X, D.find = X := ⟨_, rfl⟩
        rw [hX] at HF1 HF2
        clear hX
        obtain ⟨⟨xg, xr, xt, xe, xl, xm⟩, at_, f1⟩ := X
        simp only [rd, fdv, uv] at HF1 HF2
        obtain ⟨v1, v2, v3, v4, v5, v6⟩ := sup_sameP ⟨xg, xr, xt, xe, xl, xm⟩
        simp only at v1 v2 v3 v4 v5 v6
        have hf1 : (f1 != f1) = false := by simp
        have hf2 : (at_ != at_) = false := by simp
        go_wp2_with fail
        refine HF1.out.mono ?_
        rintro e2 w2 ⟨rfl, ht⟩
        have TA := ht.alloc (.cells #[.int .i64 xg, .int .i64 xr, .int .i64 xt, .int .i64 xe, .int .i64 xl, .int .i64 xm] 23)
        have R2 := Lib.hid (R1.out.still TA)
        have HT2 := Lib.hid TA
        have Y2 := Lib.hid (Blk.new w2 23 [.int .i64 xg, .int .i64 xr, .int .i64 xt, .int .i64 xe, .int .i64 xl, .int .i64 xm])
        have hzb2 : b7 < w2.heap.size := (R1.out.still ht).bx.lt
        clear m0 m1 m2 m3 m4 n0 n1 n2 n3 n4 hzb
        clear a0 a1 a2 a3 a4 a5 a6 a7 a8 a9 hza
        obtain ⟨⟨m0, m1, m2, m3, m4⟩, n0, n1, n2, n3, n4⟩ := blk5 (R1.out.still ht).bx
        clear ht TA
        go_wp2_with fail
        refine (HF2.out _ HT2.out).mono ?_
        rintro e3 w3 ⟨rfl, ht⟩
        have TA := ht.alloc (.cells #[.int .i64 xg, .int .i64 xr, .int .i64 xt, .int .i64 xe, .int .i64 xl, .int .i64 xm] 23)
        have RF := Lib.hid (R2.out.still TA)
        have Y3 := Lib.hid (Y2.out.turn TA (fun h => h))
        clear ht TA m0 m1 m2 m3 m4 n0 n1 n2 n3 n4 hzb2
        obtain ⟨p0, p1, p2, p3, p4, p5⟩ := (blk6 Y3.out).1
        go_upto_region 35 with fail
        clear p0 p1 p2 p3 p4 p5 Y2 HF1 HF2
        generalize w3.alloc (.cells #[.int .i64 xg, .int .i64 xr, .int .i64 xt, .int .i64 xe, .int .i64 xl, .int .i64 xm] 23) = WF at *
        obtain ⟨DF, hDF⟩ : ∃ X, X = D := ⟨_, rfl⟩
        rw [← hDF] at RF
        have HPF : Hid (DF.pend.length ≤ k + 1) := Lib.hid (by rw [hDF]; have := HPD.out; omega)
        clear hDF
        have HPC : Hid (∀ W, Turn (fun _ => False) WF W → Calls Try.prog 29 #[.pointer (some ⟨p, 0, none⟩)] W fun e w' => e = .returned (.int .i64 (DF.pend.length : Int)) ∧ w' = W) := Lib.hid (fun W ht => (pending_dq (RF.out.lv.dq.still ht)).mono (fun _ _ h => ⟨h.1, h.2.symm⟩))
        have HDC : Hid (∀ W, Turn (fun _ => False) WF W → Calls Try.prog 30 #[.pointer (some ⟨p, 0, none⟩)] W fun e w' => e = .returned (.bool DF.dead) ∧ w' = W) := Lib.hid (fun W ht => (dead_dq (RF.out.lv.dq.still ht)).mono (fun _ _ h => ⟨h.1, h.2.symm⟩))
        obtain ⟨⟨m0, m1, m2, m3, m4⟩, n0, n1, n2, n3, n4⟩ := blk5 RF.out.bx
        have hq1 : ((DF.pend.length : Int) != (DF.pend.length : Int)) = false := by simp
        have hq2 : (DF.dead != DF.dead) = false := by simp
        go_wp2_with fail
        go_quiet ((first | (go_at_call 29; exact Calls.quiet_of_same (HPC.out _ ((Turn.refl _ _).drewN _))) | (go_at_call 30; exact Calls.quiet_of_same (HDC.out _ ((Turn.refl _ _).drewN _)))))
        clear m0 m1 m2 m3 m4 n0 n1 n2 n3 n4
        go_wp2_with fail
        go_roundw
        case rel => exact ⟨k + 1, DF, _, _, _, _, _, _, by omega, by go_num, HPF.out, RF.out.still ((Turn.refl _ _).drewN _)⟩
        case measure => simp [intOf]; omega
      have hb4 : (ak == 4) = false := by rw [beq_eq_false_iff_ne]; exact hk4
      obtain ⟨⟨m0, m1, m2, m3, m4⟩, n0, n1, n2, n3, n4⟩ := blk5 R1.out.bx
      have hzb : b7 < w1.heap.size := R1.out.bx.lt
      obtain ⟨a0, a1, a2, a3, a4, a5, a6, a7, a8, a9⟩ := ten Z1.out.1
      have hza : b10 < w1.heap.size := Z1.out.1.lt
      have HS1 := Lib.hid (refSave_rg R1.out.lt R1.out.rg R1.out.lv.dq.1 (by have := HPD.out; omega) ⟨g, r, t, e, lm, m⟩)
      have HS2 := Lib.hid (fun S' W (h : Dq S' W p D) => save_dq h ⟨g, r, t, e, lm, m⟩ (by have := HPD.out; omega))
      have HPF : Hid ((D.save ⟨g, r, t, e, lm, m⟩).1.pend.length ≤ k + 1) := Lib.hid (by have := save_pend D ⟨g, r, t, e, lm, m⟩; have := HPD.out; omega)
      obtain ⟨X, hX⟩ : ∃ X, D.save ⟨g, r, t, e, lm, m⟩ = X := ⟨_, rfl⟩
      rw [hX] at HS1 HS2 HPF
      clear hX
      obtain ⟨DF, ⟨xg, xr, xt, xe, xl, xm⟩, f1⟩ := X
      simp only [rd, uv] at HS1 HS2 HPF
      obtain ⟨v1, v2, v3, v4, v5, v6⟩ := sup_sameP ⟨xg, xr, xt, xe, xl, xm⟩
      simp only at v1 v2 v3 v4 v5 v6
      have hf1 : (f1 != f1) = false := by simp
      go_wp2_with fail
      refine HS1.out.mono ?_
      rintro e2 w2 ⟨ks2, A2, c2, B2, d2, rfl, hg2, ht⟩
      have TB := (Turn.refl (fun _ => False) w2).alloc (.cells #[.int .i64 (DF.kept.length : Int), .slice A2 ks2.length c2, .slice B2 DF.pend.length d2, .int .i64 DF.fuse, .bool DF.dead] 46)
      have TC := TB.alloc (.cells #[.int .i64 xg, .int .i64 xr, .int .i64 xt, .int .i64 xe, .int .i64 xl, .int .i64 xm] 23)
      have R2 := Lib.hid ((R1.out.still ht).still TC)
      have G2 := Lib.hid (hg2.still TC)
      have Z2 := Lib.hid ((Z1.out.still ht).still TC)
      have Y2 := Lib.hid (((Bz.new (R1.out.still ht).lv 46 [.int .i64 (DF.kept.length : Int), .slice A2 ks2.length c2, .slice B2 DF.pend.length d2, .int .i64 DF.fuse, .bool DF.dead]).still ((Turn.refl _ _).alloc (.cells #[.int .i64 xg, .int .i64 xr, .int .i64 xt, .int .i64 xe, .int .i64 xl, .int .i64 xm] 23))))
      have U2 := Lib.hid (Bz.new ((R1.out.still ht).still TB).lv 23 [.int .i64 xg, .int .i64 xr, .int .i64 xt, .int .i64 xe, .int .i64 xl, .int .i64 xm])
      have hzb2 : b7 < w2.heap.size := (R1.out.still ht).bx.lt
      have HZ27 := Lib.hid hzb2
      have hza2 : b10 < w2.heap.size := (Z1.out.still ht).1.lt
      clear m0 m1 m2 m3 m4 n0 n1 n2 n3 n4 hzb
      clear a0 a1 a2 a3 a4 a5 a6 a7 a8 a9 hza
      obtain ⟨a0, a1, a2, a3, a4, a5, a6, a7, a8, a9⟩ := ten (Z1.out.still ht).1
      clear ht TB TC hg2
      rw [World.size_alloc] at U2
      obtain ⟨b19, hb19⟩ : ∃ b, w2.heap.size = b := ⟨_, rfl⟩
      have H19 := Lib.hid hb19
      rw [hb19] at Y2 U2
      clear hb19
      go_wp2_with fail
      refine (HS2.out _ _ R2.out.lv.dq).mono ?_
      rintro e3 w3 ⟨rfl, S3, hq3, hs3⟩
      have R3 := Lib.hid (R2.out.step hq3 hs3)
      have G3 := Lib.hid (G2.out.stp (hs3.plus b7))
      have Y3 := Lib.hid (Y2.out.step hs3)
      have U3 := Lib.hid (U2.out.step hs3)
      clear hq3 hs3 a0 a1 a2 a3 a4 a5 a6 a7 a8 a9 hza2 hzb2
      obtain ⟨⟨m0, m1, m2, m3, m4⟩, n0, n1, n2, n3, n4⟩ := blk5 R3.out.bx
      obtain ⟨⟨c0_, c1_, c2_, c3_, c4_⟩, _⟩ := blk5 (H19.out ▸ Y3.out.1)
      obtain ⟨p0, p1, p2, p3, p4, p5⟩ := (blk6 (H19.out ▸ U3.out.1)).1
      have hzb : b7 < w3.heap.size := R3.out.bx.lt
      have hzy : w2.heap.size < w3.heap.size := (H19.out ▸ Y3.out.1 : Blk w3 w2.heap.size _ _).lt
      have hzu : w2.heap.size + 1 < w3.heap.size := (H19.out ▸ U3.out.1 : Blk w3 (w2.heap.size + 1) _ _).lt
      have hz7 : b7 < w2.heap.size := HZ27.out
      go_upto_region 35 with fail
      rw [pu5_eq]
      have RF := Lib.hid ((R3.out.store G3.out).still ((Turn.refl _ _).alloc (.cells #[.int .i64 xg, .int .i64 xr, .int .i64 xt, .int .i64 xe, .int .i64 xl, .int .i64 xm] 23)))
      clear m0 m1 m2 m3 m4 n0 n1 n2 n3 n4 hzb
      clear c0_ c1_ c2_ c3_ c4_ p0 p1 p2 p3 p4 p5 hzy hzu
      generalize (pu5 w3 b7 (.int .i64 (DF.kept.length : Int)) (.slice A2 ks2.length c2) (.slice B2 DF.pend.length d2) (.int .i64 DF.fuse) (.bool DF.dead)).alloc (.cells #[.int .i64 xg, .int .i64 xr, .int .i64 xt, .int .i64 xe, .int .i64 xl, .int .i64 xm] 23) = WF at *
      have HPC : Hid (∀ W, Turn (fun _ => False) WF W → Calls Try.prog 29 #[.pointer (some ⟨p, 0, none⟩)] W fun e w' => e = .returned (.int .i64 (DF.pend.length : Int)) ∧ w' = W) := Lib.hid (fun W ht => (pending_dq (RF.out.lv.dq.still ht)).mono (fun _ _ h => ⟨h.1, h.2.symm⟩))
      have HDC : Hid (∀ W, Turn (fun _ => False) WF W → Calls Try.prog 30 #[.pointer (some ⟨p, 0, none⟩)] W fun e w' => e = .returned (.bool DF.dead) ∧ w' = W) := Lib.hid (fun W ht => (dead_dq (RF.out.lv.dq.still ht)).mono (fun _ _ h => ⟨h.1, h.2.symm⟩))
      obtain ⟨⟨m0, m1, m2, m3, m4⟩, n0, n1, n2, n3, n4⟩ := blk5 RF.out.bx
      have hq1 : ((DF.pend.length : Int) != (DF.pend.length : Int)) = false := by simp
      have hq2 : (DF.dead != DF.dead) = false := by simp
      go_wp2_with fail
      go_quiet ((first | (go_at_call 29; exact Calls.quiet_of_same (HPC.out _ ((Turn.refl _ _).drewN _))) | (go_at_call 30; exact Calls.quiet_of_same (HDC.out _ ((Turn.refl _ _).drewN _)))))
      clear m0 m1 m2 m3 m4 n0 n1 n2 n3 n4
      go_wp2_with fail
      go_roundw
      case rel => exact ⟨k + 1, DF, _, _, _, _, _, _, by omega, by go_num, HPF.out, RF.out.still ((Turn.refl _ _).drewN _)⟩
      case measure => simp [intOf]; omega
    · obtain rfl : k = nl := by omega
      go_wp2_with (go_at_call 14; refine (HL.out _).mono ?_; rintro e2 w2 ⟨rfl, ht⟩)
      go_ret
      exact ⟨rfl, (RR.out.lv.t.trans ht).below (Nat.le_refl _) (fun k h => h.elim)⟩
theorem superPlays_walk (n : Int) (v : Value) (qs : List Acw) (w : World) (_ : (Lit.int .i64 n).wf = true) (hq : Acts11 w.heap.size w v qs) :
    Calls Try.prog 5 #[.int .i64 n, v] w fun e w' => e = .returned (.bool true) ∧ Below w.heap.size w w' := by
  by_cases h : (1 ≤ n ∧ n ≤ 20) ∧ qs.length ≤ 100
  · obtain ⟨n, rfl⟩ : ∃ k : Nat, n = k := ⟨n.toNat, by omega⟩
    exact superPlays_in n v qs w hq (by omega) (by omega) h.2
  · exact superPlays_none n v qs w hq (by omega)
end Go.Proofs.Ytcjoinahelmmpaa
