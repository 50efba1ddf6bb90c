/- Layer 6: the chapter's example, walked. -/
import Derived.Test.YthhmodbggngelaaRnI
import Derived.Test.YthhmodbggngelaaBlkP
namespace Go.Proofs.Ythhmodbggngelaa
open Go.RowKit
set_option linter.unusedVariables false
set_option maxRecDepth 100000

theorem Rk.low {S : Nat → Prop} {p : Nat} {vR : Value} {B : Nat} (hS : ∀ k, S k → B ≤ k) (hp : B ≤ p) (hv : ∀ k, vR.ownBlock = some k → B ≤ k) : ∀ k, Rk S p vR k → B ≤ k := fun k h => by
  rcases h with h | h | h
  · exact hS k h
  · omega
  · exact hv k h
/-- The ring's disk as it stands, with what it leans on low. -/
theorem open6 {S : Nat → Prop} {w : World} {d : Nat} {D : Dsk} (hd : Dq S w d D) (hdead : D.dead = false) (hl : D.kept.length = 5) (hm : top5 D 1 4 0 0 < 2147483647) :
    Calls Try.prog 8 #[.pointer (some ⟨d, 0, none⟩), .int .i64 1, .int .i64 4, .int .i64 0, .int .i64 0] w fun r w' => ∃ p vR L n E, r = .returned (.tuple #[.pointer (some ⟨p, 0, none⟩), .int .i64 0]) ∧ Opn D 1 4 0 0 L n E ∧ RD S vR w' p d 1 4 0 n E L D ∧
      w.heap.size ≤ p ∧ (∀ k, vR.ownBlock = some k → w.heap.size ≤ k) ∧ Turn (fun _ => False) w w' :=
  open_any hd hdead 1 4 0 (by omega) (by decide) (by decide) (by decide) 0 ⟨by decide, by decide⟩ hm
theorem app6 {S : Nat → Prop} {vR : Value} {w : World} {p d n : Nat} {L : List Rc} {D D' : Dsk} (h : RD S vR w p d 1 4 0 n 1 L D) (hn : n ≤ 3) (hL : L.length ≤ 1000000) (hpd : D.pend.length < 900000000) (T : ByteArray) (s : St) (hT : mk5 (raw5 1 n (pcs5 T)) = [s] ∧ (pcs5 T).length = 1) (hz : T.size = 1) (hput : puts 1 4 D [s] = (D', 0)) :
    Calls Try.prog 9 #[.pointer (some ⟨p, 0, none⟩), .string T] w fun r w' => r = .returned (.int .i64 0) ∧ ∃ S' vR', Stp (Rk S p vR) w (Rk S' p vR') w' ∧ RD S' vR' w' p d 1 4 0 (n + 1) 1 (L ++ [⟨n, (n : Int) + 1, T⟩]) D' := by
  have hC : Cuts T (1 : Nat) (n : Nat) := ⟨by omega, by decide, by decide, by omega, by rw [hT.2]; omega⟩
  have H := append_put h (by decide) (by decide) (by decide) (by decide) (by omega) hL hpd T hC (by rw [hT.2]; omega)
  have e1 : mk5 (raw5 ((1 : Nat) : Int) (n : Int) (pcs5 T)) = [s] := hT.1
  rw [e1, hput] at H
  refine H.mono ?_
  rintro r w' ⟨rfl, S', vR', hs, ⟨h1, _⟩ | ⟨_, h2⟩⟩
  · exact absurd rfl h1
  · rw [hT.2] at h2
    exact ⟨rfl, S', vR', hs, h2⟩
set_option maxHeartbeats 4000000 in
theorem lives6_any (w : World) : Calls Try.prog 7 #[] w fun e w' => e = .returned (.bool true) ∧ Below w.heap.size w w' := by
  have HN : Hid (∀ (w : World), Calls Try.prog 6 #[.int .i64 5] w fun e w' => ∃ p S, e = .returned (.tuple #[.pointer (some ⟨p, 0, none⟩), .int .i64 0]) ∧ Dq S w' p K0 ∧ (∀ k, S k → w.heap.size ≤ k) ∧ Turn (fun _ => False) w w') :=
    Lib.hid (fun w => new_dq 5 (by decide) (by decide) w)
  have HO0 := Lib.hid (fun (S : Nat → Prop) (w : World) (d : Nat) (h : Dq S w d K0) => open6 h rfl rfl (by rw [top_0]; decide))
  have HO3 := Lib.hid (fun (S : Nat → Prop) (w : World) (d : Nat) (h : Dq S w d K3) => open6 h rfl rfl (by rw [top_3]; decide))
  have HO6 := Lib.hid (fun (S : Nat → Prop) (w : World) (d : Nat) (h : Dq S w d K6) => open6 h rfl rfl (by rw [top_6]; decide))
  have HA := Lib.hid (fun (S : Nat → Prop) (vR : Value) (w : World) (p d : Nat) (h : RD S vR w p d 1 4 0 0 1 [] K0) => app6 h (by decide) (by decide) (by decide) ⟨#[97]⟩ a6 m_a6 rfl K_1)
  have HB := Lib.hid (fun (S : Nat → Prop) (vR : Value) (w : World) (p d : Nat) (L : List Rc) (hL : L.length = 1) (h : RD S vR w p d 1 4 0 1 1 L K1) => app6 h (by decide) (by omega) (by decide) ⟨#[98]⟩ b6 m_b6 rfl K_2)
  have HC := Lib.hid (fun (S : Nat → Prop) (vR : Value) (w : World) (p d : Nat) (L : List Rc) (hL : L.length = 2) (h : RD S vR w p d 1 4 0 2 1 L K3) => app6 h (by decide) (by omega) (by decide) ⟨#[99]⟩ c6 m_c6 rfl K_4)
  have HS : Hid (∀ (S : Nat → Prop) (vR : Value) (w : World) (p d n : Nat) (L : List Rc), RD S vR w p d 1 4 0 n 1 L K2 → Calls Try.prog 10 #[.pointer (some ⟨p, 0, none⟩)] w fun r w' => r = .returned (.int .i64 0) ∧ ∃ S', Dq S' w' d K3 ∧ Stp S w S' w') := Lib.hid (fun S vR w p d n L h => by
    have H := ringSync S p d K2 1 4 0 n 1 vR w h.blk h.disk (by decide)
    rw [K_3] at H
    exact H)
  have HY : Hid (∀ (S : Nat → Prop) (w : World) (p : Nat), Dq S w p K4 → Calls Try.prog 20 #[.pointer (some ⟨p, 0, none⟩)] w fun e w' => ∃ p' S', e = .returned (.pointer (some ⟨p', 0, none⟩)) ∧ Dq S' w' p' K4 ∧ (∀ k, S' k → w.heap.size ≤ k) ∧ Turn (fun _ => False) w w') := Lib.hid (fun S w p h => copy_dq h (by decide))
  have HX1 : Hid (∀ (S : Nat → Prop) (w : World) (p : Nat) (v : Value), Dq S w p K4 → Iv S w v [] → Calls Try.prog 11 #[.pointer (some ⟨p, 0, none⟩), v] w fun e w' => e = .returned (.int .i64 0) ∧ ∃ S', Dq S' w' p K3 ∧ Stp S w S' w') :=
    Lib.hid (fun S w p v h hv => (crash_dq h (by decide) v [] (by decide) hv).mono (fun e w' hh => by rw [K_5] at hh; exact hh))
  have HX2 : Hid (∀ (S : Nat → Prop) (w : World) (p : Nat) (v : Value), Dq S w p K4 → Iv S w v [0] → Calls Try.prog 11 #[.pointer (some ⟨p, 0, none⟩), v] w fun e w' => e = .returned (.int .i64 0) ∧ ∃ S', Dq S' w' p K6 ∧ Stp S w S' w') :=
    Lib.hid (fun S w p v h hv => (crash_dq h (by decide) v [0] (by decide) hv).mono (fun e w' hh => by rw [K_6] at hh; exact hh))
  go_enter Try.func7, Try.ntmps7
  go_wp2_with fail
  refine (HN.out _).mono ?_
  rintro e w0 ⟨d, S0, rfl, hd, hS, ht⟩
  have Q0 := Lib.hid hd
  have V0 : Hid (Lv w.heap.size w S0 w0) := Lib.hid ⟨ht.below (Nat.le_refl _) (fun _ h => h.elim), ht.size, hS⟩
  clear hd hS ht
  go_wp2_with fail
  refine (HO0.out S0 w0 d Q0.out).mono ?_
  rintro e w1 ⟨p, vR, L, n, E, rfl, hop, hr, hp, hv, ht⟩
  obtain ⟨rfl, rfl, rfl⟩ := opn_0 hop
  have R1 := Lib.hid hr
  have V1 : Hid (Lv w.heap.size w (Rk S0 p vR) w1) := Lib.hid ⟨(V0.out.still ht).1, (V0.out.still ht).2.1, Rk.low V0.out.2.2 (Nat.le_trans V0.out.2.1 hp) (fun k hk => Nat.le_trans V0.out.2.1 (hv k hk))⟩
  clear hop hr hp hv ht
  go_wp2_with fail
  refine (HA.out S0 vR w1 p d R1.out).mono ?_
  rintro e w2 ⟨rfl, S2, v2, hs, hr⟩
  have R2 := Lib.hid hr
  have V2 := Lib.hid (V1.out.step hs)
  clear hs hr
  go_wp2_with fail
  refine (HB.out S2 v2 w2 p d _ rfl R2.out).mono ?_
  rintro e w3 ⟨rfl, S3, v3, hs, hr⟩
  have R3 := Lib.hid hr
  have V3 := Lib.hid (V2.out.step hs)
  clear hs hr
  go_wp2_with fail
  refine (HS.out S3 v3 w3 p d _ _ R3.out).mono ?_
  rintro e w4 ⟨rfl, S4, hd, hs⟩
  have R4 := Lib.hid (R3.out.step hs hd)
  have V4 := Lib.hid (V3.out.step (Rk.step hs))
  clear hs hd
  go_wp2_with fail
  refine (HC.out S4 v3 w4 p d _ rfl R4.out).mono ?_
  rintro e w5 ⟨rfl, S5, v5, hs, hr⟩
  have V5 := Lib.hid (V4.out.step hs)
  have Q5 := Lib.hid hr.disk
  clear hs hr
  go_wp2_with fail
  refine (HY.out S5 w5 d Q5.out).mono ?_
  rintro e w6 ⟨c, T6, rfl, hc, hT, ht⟩
  have V6 := Lib.hid (V5.out.still ht)
  have Q6 := Lib.hid (Q5.out.still ht)
  have C6 := Lib.hid hc
  have A6 : Hid (∀ k, S5 k → ¬ T6 k) := Lib.hid (fun k hk h => by have := Q5.out.lt k hk; have := hT k h; omega)
  have T6l : Hid (∀ k, T6 k → w.heap.size ≤ k) := Lib.hid (fun k h => by have := V5.out.2.1; have := hT k h; omega)
  clear hc hT ht
  go_wp2_with fail
  refine (HX1.out S5 w6 d _ Q6.out (iv_nil _ _)).mono ?_
  rintro e w7 ⟨rfl, S7, hd, hs⟩
  have Q7 := Lib.hid hd
  have C7 := Lib.hid (C6.out.turn hs.1 (fun k hk h => A6.out k h hk))
  have A7 : Hid (∀ k, S7 k → ¬ T6 k) := Lib.hid (fun k hk h => (hs.2 k hk).elim (fun h1 => A6.out k h1 h) (fun h1 => by have := C6.out.lt k h; omega))
  have V7 : Hid (Lv w.heap.size w (Rk S7 p v5) w7) := Lib.hid (V6.out.step (Rk.step hs))
  clear hd hs
  go_wp2_with fail
  refine (HX2.out T6 _ c _ (C7.out.still ((Turn.refl _ _).alloc _)) (iv_new w7 C7.out.lt [0] 1 _ rfl rfl)).mono ?_
  rintro e w8 ⟨rfl, T8, hc, hs0⟩
  have hs : Stp T6 w7 T8 w8 := (Stp.quiet ((Turn.refl _ _).alloc _)).trans hs0
  have C8 := Lib.hid hc
  have Q8 := Lib.hid (Q7.out.turn hs.1 A7.out)
  have B8 : Hid (Below w.heap.size w w8) := Lib.hid (V7.out.1.trans (hs.1.below V7.out.2.1 T6l.out))
  have Z8 : Hid (w.heap.size ≤ w8.heap.size) := Lib.hid (Nat.le_trans V7.out.2.1 hs.1.size)
  clear hc hs hs0
  go_wp2_with fail
  refine (HO3.out S7 w8 d Q8.out).mono ?_
  rintro e w9 ⟨px, vX, LX, nX, EX, rfl, hop, hr, hp, hv, ht⟩
  obtain ⟨rfl, rfl, rfl⟩ := opn_3 hop
  have X9 := Lib.hid hr
  have C9 := Lib.hid (C8.out.still ht)
  have B9 : Hid (Below w.heap.size w w9) := Lib.hid (B8.out.trans (ht.below Z8.out (fun _ h => h.elim)))
  have Z9 : Hid (w.heap.size ≤ w9.heap.size) := Lib.hid (Nat.le_trans Z8.out ht.size)
  clear hop hr hp hv ht
  go_wp2_with fail
  refine (HO6.out T8 w9 c C9.out).mono ?_
  rintro e w10 ⟨py, vY, LY, nY, EY, rfl, hop, hr, hp, hv, ht⟩
  obtain ⟨rfl, rfl, rfl⟩ := opn_6 hop
  have X10 := Lib.hid (X9.out.quiet ht)
  have Y10 := Lib.hid hr
  have B10 : Hid (Below w.heap.size w w10) := Lib.hid (B9.out.trans (ht.below Z9.out (fun _ h => h.elim)))
  have Z10 : Hid (w.heap.size ≤ w10.heap.size) := Lib.hid (Nat.le_trans Z9.out ht.size)
  clear hop hr hp hv ht
  have HR : Hid (∀ (n : Nat) (S : Nat → Prop) (vR : Value) (p d n1 e1 : Nat) (D : Dsk) (L : List Rc), L.length = n → n ≤ 1000 → (∀ x ∈ L, x.d.size ≤ 281474976710656) → ∀ W, RD S vR W p d 1 4 0 n1 e1 L D → Calls Try.prog 12 #[.pointer (some ⟨p, 0, none⟩)] W fun r w' => ∃ A c, r = .returned (.slice A n c) ∧ Turn (fun _ => False) W w') := Lib.hid (fun n S vR p d n1 e1 D L hL hn hd W h => (ringRecords h (by omega) hd).mono (by
    rintro r w' ⟨v', rfl, ho, ht⟩
    rw [hL] at ho
    rcases ho.2 with ⟨h1, h2⟩ | ⟨b, cc, cur, h1, _⟩
    · exact ⟨none, 0, by rw [h1, h2], ht⟩
    · exact ⟨_, _, by rw [h1], ht⟩))
  have HNX := Lib.hid (fun (S : Nat → Prop) (vR : Value) (p d n1 e1 : Nat) (D : Dsk) (L : List Rc) W (h : RD S vR W p d 1 4 0 n1 e1 L D) => ringNext p d 1 4 0 n1 e1 vR W h.blk)
  have HEP := Lib.hid (fun (S : Nat → Prop) (vR : Value) (p d n1 e1 : Nat) (D : Dsk) (L : List Rc) W (h : RD S vR W p d 1 4 0 n1 e1 L D) => ringEpoch p d 1 4 0 n1 e1 vR W h.blk)
  have HRM : Hid (∀ (S : Nat → Prop) (vR : Value) (p d : Nat) (D : Dsk) (L : List Rc) W, RD S vR W p d 1 4 0 3 2 L D → Calls Try.prog 16 #[.pointer (some ⟨p, 0, none⟩)] W fun r w' => r = .returned (.int .i64 1) ∧ w' = W.drew) := Lib.hid (fun S vR p d D L W h => ringRoom p d 1 4 0 3 2 (by decide) (by decide) (by decide) vR W h.blk)
  have HFL : Hid (∀ (S : Nat → Prop) (vR : Value) (p d : Nat) (D : Dsk) (L : List Rc) W, RD S vR W p d 1 4 0 3 2 L D → Calls Try.prog 9 #[.pointer (some ⟨p, 0, none⟩), .string z300] W fun r w' => r = .returned (.int .i64 11) ∧ Turn (fun _ => False) W w') := Lib.hid (fun S vR p d D L W h => append_full h (by decide) (by decide) (by decide) z300 ⟨by rw [len_z300]; decide, by decide, by decide, by decide, by rw [pcs_z300]; decide⟩ (by rw [pcs_z300]; decide))
  go_wp2_with fail
  refine (HR.out 2 _ _ _ _ _ _ _ _ rfl (by decide) (by decide +kernel) w10 X10.out).mono ?_
  rintro e w11 ⟨A11, c11, rfl, t11⟩
  have X11 := Lib.hid (X10.out.quiet t11)
  have Y11 := Lib.hid (Y10.out.quiet t11)
  have B11 : Hid (Below w.heap.size w w11) := Lib.hid (B10.out.trans (t11.below Z10.out (fun _ h => h.elim)))
  have Z11 : Hid (w.heap.size ≤ w11.heap.size) := Lib.hid (Nat.le_trans Z10.out t11.size)
  clear t11
  go_wp2_with fail
  refine (HNX.out _ _ _ _ _ _ _ _ w11 X11.out).mono ?_
  rintro e w12 ⟨rfl, rfl⟩
  go_wp2_with fail
  refine (HEP.out _ _ _ _ _ _ _ _ w12 X11.out).mono ?_
  rintro e w13 ⟨rfl, rfl⟩
  go_wp2_with fail
  refine (HR.out 3 _ _ _ _ _ _ _ _ rfl (by decide) (by decide +kernel) w13 Y11.out).mono ?_
  rintro e w14 ⟨A14, c14, rfl, t14⟩
  have Y14 := Lib.hid (Y11.out.quiet t14)
  have B14 : Hid (Below w.heap.size w w14) := Lib.hid (B11.out.trans (t14.below Z11.out (fun _ h => h.elim)))
  have Z14 : Hid (w.heap.size ≤ w14.heap.size) := Lib.hid (Nat.le_trans Z11.out t14.size)
  clear t14
  obtain ⟨Z, hZ⟩ : ∃ Z : Array Value, (bv (List.replicate 300 0)).toArray = Z := ⟨_, rfl⟩
  have mk : (Instr.makeSlice 53 (.int .i64 300) (.int .i64 300)).run Try.prog w14 = .ok (.slice (some ⟨w14.heap.size, 0, none⟩) 300 300) (w14.alloc (.cells Z 5)) := by rw [← hZ]; exact make_bytes5 300 (by decide) w14
  have cv := conv_blk5 (w := w14.alloc (.cells Z 5)) (t := 5) (g := w14.heap.size) (l := List.replicate 300 0) (Z := z300) (by rw [← hZ]; exact Blk.new _ _ _) 300 300 ⟨by decide, rfl⟩
  have Y15 := Lib.hid (Y14.out.quiet ((Turn.refl _ w14).alloc (.cells Z 5)))
  clear hZ
  generalize z300 = s300 at *
  go_wp2_with fail
  refine (HFL.out _ _ _ _ _ _ _ Y15.out).mono ?_
  rintro e w16 ⟨rfl, t16⟩
  have Y16 := Lib.hid (Y15.out.quiet t16)
  have t17 : Turn (fun _ => False) w14 w16 := ((Turn.refl _ w14).alloc (.cells Z 5)).trans t16
  have B16 : Hid (Below w.heap.size w w16) := Lib.hid (B14.out.trans (t17.below Z14.out (fun _ h => h.elim)))
  clear t16 t17 mk cv
  go_wp2_with fail
  refine (HRM.out _ _ _ _ _ _ w16 Y16.out).mono ?_
  rintro e w17 ⟨rfl, rfl⟩
  go_wp2_with fail
  go_ret
  exact ⟨rfl, B16.out.drew⟩
end Go.Proofs.Ythhmodbggngelaa
