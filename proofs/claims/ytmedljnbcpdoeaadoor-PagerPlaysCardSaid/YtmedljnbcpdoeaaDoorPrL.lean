/- Layer 9: the chapter's example. -/
import Derived.Test.YtmedljnbcpdoeaaDoorPrK
import Derived.Deep.RegionHeld3
import Derived.Deep.CutRange
import Derived.Deep.DeepCutAuto
namespace Go.Proofs.YtmedljnbcpdoeaaDoor
open Go.RowKit
set_option linter.unusedVariables false
set_option linter.unusedSimpArgs false
set_option maxRecDepth 100000

def d9a : Dsk := (putk 8 (fresh 30) ((2 + 8 * 0 : Nat) : Int) [97]).1
def d9b : Dsk := (putk 8 d9a ((2 + 8 * 1 : Nat) : Int) [98]).1
def d9c : Dsk := (putk 8 d9b ((2 + 8 * 2 : Nat) : Int) [99]).1
def d9e : Dsk := (putk 8 d9c ((2 + 8 * 2 : Nat) : Int) [101]).1
def d9f : Dsk := (putk 8 d9e ((2 + 8 * 0 : Nat) : Int) [102]).1
theorem d9_at : (pgs9 d9f 10 8)[0]? = some 98 := by decide +kernel
theorem d9a_pl : d9a.pend.length ≤ 8 := by decide +kernel
theorem d9b_pl : d9b.pend.length ≤ 16 := by decide +kernel
theorem d9c_pl : d9c.pend.length ≤ 24 := by decide +kernel
theorem d9e_pl : d9e.pend.length ≤ 32 := by decide +kernel
theorem Rk.irn {S : Nat → Prop} {w : World} {v : Value} {L : List Int} (h : Rk S w v L) (n : Nat) (hn : L.length = n) : ∃ A c, v = .slice A n c ∧ Ir w A L := by
  obtain ⟨A, c, rfl, hi⟩ := h.ir
  exact ⟨A, c, by rw [hn], hi⟩
theorem sameV9 (A1 : Option Addr) (c1 : Nat) (A2 : Option Addr) (c2 : Nat) (L : List Int) (n : Nat) (hn : L.length = n) (w : World) (h1 : Ir w A1 L) (h2 : Ir w A2 L) (hl : n ≤ 1000000) :
    Calls Tryd.prog 31 #[.slice A1 n c1, .slice A2 n c2] w fun r w' => ∃ v, r = .returned v ∧ (v = .bool true ∧ Turn (fun _ => False) w w') := by
  subst hn
  exact (same9_any A1 c1 A2 c2 L w h1 h2 hl).mono fun e w' h => ⟨_, h.1, rfl, h.2⟩
set_option maxHeartbeats 4000000 in
theorem lives9 (w : World) (hT : Tb w) : Calls Tryd.prog 5 #[] w fun r w' => r = .returned (.bool true) ∧ Turn (fun _ => False) w w' := by
  have HN0 := Lib.hid (new_dq 30 (by decide) (by decide) w)
  rw [show ((30 : Nat) : Int) = 30 from rfl] at HN0
  have HT := Lib.hid hT
  have h0 := hT.lt
  have kc := fun (w : World) (C : Array Value) (n c : Nat) => Lib.run_convert_bytes_const (P := Tryd.prog) w 47 5 C n c Tryd.underlying47 Tryd.underlying5
  clear hT
  go_enter Tryd.func5, Tryd.ntmps5
  go_wp2_with fail
  refine HN0.out.mono ?_
  rintro e w0 ⟨pd, SD, rfl, hd, hS, ht⟩
  have HNP := Lib.hid (new9_ok hd (fun k hk e => by have := hS k hk; omega) (HT.out.turn ht (fun h => h)) 2 3 (by decide) (by show 2 + 8 * 3 ≤ (List.replicate 30 zeros).length; rw [List.length_replicate]; decide))
  rw [show ((2 : Nat) : Int) = 2 from rfl, show ((3 : Nat) : Int) = 3 from rfl] at HNP
  have T0 := Lib.hid ht
  have HS0 := Lib.hid hS
  have hz0 := ht.size
  clear hd hS ht
  go_wp2_with fail
  refine HNP.out.mono ?_
  rintro e w1 ⟨p, S1, rfl, hq, hS1, hp, ht1⟩
  have V1 : Hid (Lv9 w S1 w1 p pd [0, 0, 0] (fresh 30)) := Lib.hid ⟨hq, fun k hk => by rcases hS1 k hk with h | h; exact HS0.out k h; omega, T0.out.trans ht1, ⟨rfl, rfl⟩, by show (List.replicate 30 zeros).length = 30; rw [List.length_replicate], Nat.zero_le _⟩
  clear hq hS1 hp ht1
  go_wp2_with fail
  refine (V1.out.write [97] 1 _ _ rfl rfl (by decide) 0 0 rfl (by decide) (by decide) (Nat.zero_le _)).mono ?_
  rintro e w2 ⟨rfl, S2, hv, hs⟩
  have V2 : Hid (Lv9 w S2 w2 p pd [2, 0, 0] d9a) := Lib.hid hv
  clear hv hs V1
  go_wp2_with fail
  refine (V2.out.write [98] 1 _ _ rfl rfl (by decide) 1 1 rfl (by decide) (by decide) (Nat.le_trans d9a_pl (by decide))).mono ?_
  rintro e w3 ⟨rfl, S3, hv, hs⟩
  have V3 : Hid (Lv9 w S3 w3 p pd [2, 2, 0] d9b) := Lib.hid hv
  clear hv hs V2
  go_wp2_with fail
  refine (V3.out.settle).mono ?_
  rintro e w4 ⟨rfl, S4, hv, hs⟩
  have V4 : Hid (Lv9 w S4 w4 p pd [1, 1, 0] d9b) := Lib.hid hv
  clear hv hs V3
  go_wp2_with fail
  refine (V4.out.release 0).mono ?_
  rintro e w5 ⟨rfl, S5, hv, hs⟩
  have V5 : Hid (Lv9 w S5 w5 p pd [3, 1, 0] d9b) := Lib.hid hv
  clear hv hs V4
  go_wp2_with fail
  refine (V5.out.write [99] 1 _ _ rfl rfl (by decide) 2 2 rfl (by decide) (by decide) (Nat.le_trans d9b_pl (by decide))).mono ?_
  rintro e w6 ⟨rfl, S6, hv, hs⟩
  have V6 : Hid (Lv9 w S6 w6 p pd [3, 1, 2] d9c) := Lib.hid hv
  clear hv hs V5
  go_wp2_with fail
  refine (V6.out.full [100] 1 _ _ rfl rfl (by decide) (by decide)).mono ?_
  rintro e w7 ⟨rfl, S7, hv, hs⟩
  have V7 : Hid (Lv9 w S7 w7 p pd [3, 1, 2] d9c) := Lib.hid hv
  clear hv hs V6
  go_wp2_with fail
  refine (V7.out.pages).mono ?_
  rintro e w8 ⟨v7x, v7y, v7z, rfl, r1, r2, r3, hv, ht⟩
  rw [show pk9 1 [3, 1, 2] = [1] by decide] at r1
  have X8 := Lib.hid r1
  rw [show pk9 2 [3, 1, 2] = [2] by decide] at r2
  have Y8 := Lib.hid r2
  rw [show pk9 3 [3, 1, 2] = [0] by decide] at r3
  have Z8 := Lib.hid r3
  have V8 := Lib.hid hv
  clear hv ht r1 r2 r3 V7
  go_wp2_with fail
  refine (V8.out.undo).mono ?_
  rintro e w9 ⟨rfl, S9, hv, hs⟩
  have V9 : Hid (Lv9 w S9 w9 p pd [1, 1, 0] d9c) := Lib.hid hv
  have X9 := Lib.hid (X8.out.step hs)
  have Y9 := Lib.hid (Y8.out.step hs)
  have Z9 := Lib.hid (Z8.out.step hs)
  clear hv hs X8 Y8 Z8 V8
  go_wp2_with fail
  refine (V9.out.pages).mono ?_
  rintro e w10 ⟨v9x, v9y, v9z, rfl, r1, r2, r3, hv, ht⟩
  rw [show pk9 1 [1, 1, 0] = [0, 1] by decide] at r1
  have U10 := Lib.hid r1
  have X10 := Lib.hid (X9.out.step (Stp.quiet ht))
  have Y10 := Lib.hid (Y9.out.step (Stp.quiet ht))
  have Z10 := Lib.hid (Z9.out.step (Stp.quiet ht))
  have V10 := Lib.hid hv
  clear hv ht r1 r2 r3 V9 X9 Y9 Z9
  go_wp2_with fail
  refine (V10.out.write [101] 1 _ _ rfl rfl (by decide) 2 2 rfl (by decide) (by decide) (Nat.le_trans d9c_pl (by decide))).mono ?_
  rintro e w11 ⟨rfl, S11, hv, hs⟩
  have V11 : Hid (Lv9 w S11 w11 p pd [1, 1, 2] d9e) := Lib.hid hv
  have X11 := Lib.hid (X10.out.step ((Stp.quiet ((Turn.refl _ _).alloc _)).trans hs))
  have Y11 := Lib.hid (Y10.out.step ((Stp.quiet ((Turn.refl _ _).alloc _)).trans hs))
  have Z11 := Lib.hid (Z10.out.step ((Stp.quiet ((Turn.refl _ _).alloc _)).trans hs))
  have U11 := Lib.hid (U10.out.step ((Stp.quiet ((Turn.refl _ _).alloc _)).trans hs))
  clear hv hs X10 Y10 Z10 U10 V10
  go_wp2_with fail
  refine (V11.out.release 0).mono ?_
  rintro e w12 ⟨rfl, S12, hv, hs⟩
  have V12 : Hid (Lv9 w S12 w12 p pd [3, 1, 2] d9e) := Lib.hid hv
  have X12 := Lib.hid (X11.out.step hs)
  have Y12 := Lib.hid (Y11.out.step hs)
  have Z12 := Lib.hid (Z11.out.step hs)
  have U12 := Lib.hid (U11.out.step hs)
  clear hv hs X11 Y11 Z11 U11 V11
  go_wp2_with fail
  refine (V12.out.settle).mono ?_
  rintro e w13 ⟨rfl, S13, hv, hs⟩
  have V13 : Hid (Lv9 w S13 w13 p pd [0, 1, 1] d9e) := Lib.hid hv
  have X13 := Lib.hid (X12.out.step hs)
  have Y13 := Lib.hid (Y12.out.step hs)
  have Z13 := Lib.hid (Z12.out.step hs)
  have U13 := Lib.hid (U12.out.step hs)
  clear hv hs X12 Y12 Z12 U12 V12
  go_wp2_with fail
  refine (V13.out.write [102] 1 _ _ rfl rfl (by decide) 0 0 rfl (by decide) (by decide) (Nat.le_trans d9e_pl (by decide))).mono ?_
  rintro e w14 ⟨rfl, S14, hv, hs⟩
  have V14 : Hid (Lv9 w S14 w14 p pd [2, 1, 1] d9f) := Lib.hid hv
  have X14 := Lib.hid (X13.out.step ((Stp.quiet ((Turn.refl _ _).alloc _)).trans hs))
  have Y14 := Lib.hid (Y13.out.step ((Stp.quiet ((Turn.refl _ _).alloc _)).trans hs))
  have Z14 := Lib.hid (Z13.out.step ((Stp.quiet ((Turn.refl _ _).alloc _)).trans hs))
  have U14 := Lib.hid (U13.out.step ((Stp.quiet ((Turn.refl _ _).alloc _)).trans hs))
  clear hv hs X13 Y13 Z13 U13 V13
  go_wp2_with fail
  have HRD := Lib.hid (read9_ok V14.out.q 1 (by decide) (by decide) V14.out.good.1)
  rw [show ((1 : Nat) : Int) = 1 from rfl] at HRD
  refine HRD.out.mono ?_
  rintro e w15 ⟨vt, rfl, ho, ht⟩
  have hl : (pgs9 d9f (2 + 8 * 1) 8).length = 1024 := by
    obtain ⟨_, _, _, _, _, hD, _⟩ := V14.out.q
    exact len_pgs9 hD.1 (2 + 8 * 1) 8 (by rw [V14.out.kl]; decide)
  rw [hl] at ho
  obtain ⟨AT, cT, rfl⟩ := own_slice9 ho
  obtain ⟨gt, rfl, _, hgl, hgc⟩ := own_at9 ho 0 (u8v 98) (by unfold bv; rw [List.getElem?_map, show (pgs9 d9f (2 + 8 * 1) 8)[0]? = some 98 from d9_at]; rfl)
  have GB : Hid (∀ W, Turn (fun _ => False) w15 W → W.cell? ⟨gt, 0, none⟩ = some (.int .u8 98)) := Lib.hid (fun W hW => (World.cell?_of_block (w := w15) (a := ⟨gt, 0, none⟩) (hW.block gt hgl (fun h => h))).trans hgc)
  have TN := Lib.hid (V14.out.tn.trans ht)
  have X15 := X14.out.step (Stp.quiet ht)
  obtain ⟨AX, cX, rfl, IX0⟩ := X15.irn 1 rfl
  have IX := Lib.hid IX0
  have Y15 := Y14.out.step (Stp.quiet ht)
  obtain ⟨AY, cY, rfl, IY0⟩ := Y15.irn 1 rfl
  have IY := Lib.hid IY0
  have Z15 := Z14.out.step (Stp.quiet ht)
  obtain ⟨AZ, cZ, rfl, IZ0⟩ := Z15.irn 1 rfl
  have IZ := Lib.hid IZ0
  have U15 := U14.out.step (Stp.quiet ht)
  obtain ⟨AU, cU, rfl, IU0⟩ := U15.irn 2 rfl
  have IU := Lib.hid IU0
  clear ho ht hl hgc HRD X15 X14 IX0 Y15 Y14 IY0 Z15 Z14 IZ0 U15 U14 IU0 V14
  go_wp2_with fail
  refine ((sameV9 AX cX _ 1 [1] 1 rfl _ (IX.out.still ((Turn.refl (fun _ => False) w15).alloc _)) (ir_blk (L := [1]) (Blk.new w15 3 (([1] : List Int).map (Value.int .i64)))) (by decide))).mono ?_
  rintro e x0 ⟨_, rfl, rfl, ht⟩
  have R1 : Hid (Turn (fun _ => False) w15 x0) := Lib.hid (((Turn.refl (fun _ => False) w15).alloc _).trans ht)
  clear ht
  go_wp2_with fail
  refine ((sameV9 AY cY _ 1 [2] 1 rfl _ (IY.out.still (R1.out.alloc _)) (ir_blk (L := [2]) (Blk.new x0 3 (([2] : List Int).map (Value.int .i64)))) (by decide))).mono ?_
  rintro e x1 ⟨_, rfl, rfl, ht⟩
  have R2 : Hid (Turn (fun _ => False) w15 x1) := Lib.hid ((R1.out.alloc _).trans ht)
  clear ht
  go_wp2_with fail
  refine ((sameV9 AZ cZ _ 1 [0] 1 rfl _ (IZ.out.still (R2.out.alloc _)) (ir_blk (L := [0]) (Blk.new x1 3 (([0] : List Int).map (Value.int .i64)))) (by decide))).mono ?_
  rintro e x2 ⟨_, rfl, rfl, ht⟩
  have R3 : Hid (Turn (fun _ => False) w15 x2) := Lib.hid ((R2.out.alloc _).trans ht)
  clear ht
  go_wp2_with fail
  refine ((sameV9 AU cU _ 2 [0, 1] 2 rfl _ (IU.out.still (R3.out.alloc _)) (ir_blk (L := [0, 1]) (Blk.new x2 3 (([0, 1] : List Int).map (Value.int .i64)))) (by decide))).mono ?_
  rintro e x3 ⟨_, rfl, rfl, ht⟩
  have R4 : Hid (Turn (fun _ => False) w15 x3) := Lib.hid ((R3.out.alloc _).trans ht)
  have hgx := GB.out x3 R4.out
  clear ht
  go_wp2_with fail
  go_ret
  exact ⟨rfl, TN.out.trans R4.out⟩
end Go.Proofs.YtmedljnbcpdoeaaDoor
