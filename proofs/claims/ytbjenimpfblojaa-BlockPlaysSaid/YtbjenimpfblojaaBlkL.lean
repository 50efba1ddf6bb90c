/- Layer 4: the chapter's example, walked. -/
import Derived.Test.YtbjenimpfblojaaBlkK
import Derived.Lib.SlBytesConst
namespace Go.Proofs.Ytbjenimpfblojaa
open Go.RowKit Go.Maps
set_option linter.unusedVariables false

/-- All that has turned since w0 lies from block B on, the disk's blocks too. -/
def Lv (B : Nat) (w0 : World) (S : Nat → Prop) (w : World) : Prop := Below B w0 w ∧ B ≤ w.heap.size ∧ ∀ k, S k → B ≤ k
theorem Lv.step {B : Nat} {w0 a b : World} {S S' : Nat → Prop} (h : Lv B w0 S a) (hs : Stp S a S' b) : Lv B w0 S' b :=
  ⟨h.1.trans (hs.1.below h.2.1 h.2.2), Nat.le_trans h.2.1 hs.1.size, fun k hk => (hs.2 k hk).elim (h.2.2 k) (fun e => Nat.le_trans h.2.1 e)⟩
theorem Lv.still {B : Nat} {w0 a b : World} {S : Nat → Prop} (h : Lv B w0 S a) (ht : Turn (fun _ => False) a b) : Lv B w0 S b := h.step (Stp.quiet ht)
theorem far_step {S S' : Nat → Prop} {a b : World} {g t : Nat} {cs : List Value} (h : Stp S a S' b) (hb : Blk a g t cs) (hn : ¬ S g) : Blk b g t cs ∧ ¬ S' g :=
  ⟨hb.turn h.1 hn, fun hk => (h.2 g hk).elim hn (fun e => by have := hb.lt; omega)⟩
theorem far_still {S : Nat → Prop} {a b : World} {g t : Nat} {cs : List Value} (h : Turn (fun _ => False) a b) (hb : Blk a g t cs) (hn : ¬ S g) : Blk b g t cs ∧ ¬ S g := ⟨hb.turn h (fun h => h), hn⟩
theorem by_mark {S : Nat → Prop} (w : World) (hS : ∀ k, S k → k < w.heap.size) (l : List UInt8) (n : Nat) (C : Array Value) (fr : Nat × Nat) (hC : C = (bv l).toArray) (hn : l.length = n) :
    By S (w.alloc (.cells C 5 fr)) (.slice (some ⟨w.heap.size, 0, none⟩) n n) l := by
  subst hn hC
  refine ⟨_, _, rfl, fun _ => ⟨_, rfl, by simp, fun h => absurd (hS _ h) (by simp), fun j c hj => ?_⟩⟩
  rw [Addr.add_mid, Nat.zero_add, World.cell?_alloc_mark]
  rw [List.getElem?_toArray, bv_at, hj]; rfl
theorem iv_new {S : Nat → Prop} (w : World) (hS : ∀ k, S k → k < w.heap.size) (zs : List Int) (n : Nat) (C : Array Value) (hC : C = (zs.map (Value.int .i64)).toArray) (hn : zs.length = n) :
    Iv S (w.alloc (.cells C 3)) (.slice (some ⟨w.heap.size, 0, none⟩) n n) zs := by
  subst hn hC
  refine ⟨_, _, rfl, fun _ => ⟨_, _, rfl, by simp, fun h => absurd (hS _ h) (by simp), fun j z hj => ?_⟩⟩
  have := (Blk.new w 3 (zs.map (Value.int .i64))).cell j
  rw [Nat.zero_add]
  refine this.trans ?_
  rw [List.getElem?_map, hj]; rfl
theorem iv_nil (S : Nat → Prop) (w : World) : Iv S w (.slice none 0 0) [] := ⟨_, _, rfl, fun h => absurd h (by simp)⟩
def tA : List UInt8 := full [97]
def tB : List UInt8 := full [98]
def tC : List UInt8 := full [99]
def tQ : List UInt8 := full [113]
def L0 : Dsk := fresh 2
def L1 : Dsk := { kept := [zeros, zeros], pend := [(0, tA)], fuse := -1, dead := false }
def L2 : Dsk := { kept := [zeros, zeros], pend := [(0, tA), (0, tB)], fuse := -1, dead := false }
def L3 : Dsk := { kept := [zeros, zeros], pend := [(0, tA), (0, tB), (1, tC)], fuse := -1, dead := false }
def L4 : Dsk := { kept := [tA, tC], pend := [], fuse := -1, dead := false }
def L5 : Dsk := { kept := [tA, tC], pend := [], fuse := 1, dead := false }
def L6 : Dsk := { kept := [tA, tC], pend := [(1, tQ)], fuse := 0, dead := false }
def L7 : Dsk := { kept := [tA, tC], pend := [(1, tQ)], fuse := 0, dead := true }
theorem L_1 : L0.write 0 [97] = (L1, 0) := rfl
theorem L_2 : L1.write 0 [98] = (L2, 0) := rfl
theorem L_3 : L2.write 1 [99] = (L3, 0) := rfl
theorem L_4 : L3.crashed [0, 2] = L4 := rfl
theorem L_5 : L4.arm 1 = (L5, 0) := rfl
theorem L_6 : L5.write 1 [113] = (L6, 0) := rfl
theorem L_7 : L6.flush = (L7, 20) := rfl
theorem L_8 : L7.crashed [] = L4 := rfl
theorem R_3 : L3.has 0 = tB := rfl
theorem R_40 : L4.has 0 = tA := rfl
theorem R_41 : L4.has 1 = tC := rfl
set_option maxRecDepth 100000 in
set_option maxHeartbeats 4000000 in
theorem lives4_any (w : World) : Calls Try.prog 13 #[] w fun e w' => e = .returned (.bool true) ∧ Below w.heap.size w w' := by
  have HC1 : Hid (∀ (S : Nat → Prop) (p : Nat) (w : World) (vb : Value), Dq S w p L0 → By S w vb [97] → Calls Try.prog 32 #[.pointer (some ⟨p, 0, none⟩), .int .i64 0, vb] w fun e w' => e = .returned (.int .i64 0) ∧ ∃ S', Dq S' w' p L1 ∧ Stp S w S' w') :=
    Lib.hid (fun S p w vb h hb => (write_dq h 0 vb [97] hb (by decide)).mono (fun e w' hh => by rw [L_1] at hh; exact hh))
  have HC2 : Hid (∀ (S : Nat → Prop) (p : Nat) (w : World) (vb : Value), Dq S w p L1 → By S w vb [98] → Calls Try.prog 32 #[.pointer (some ⟨p, 0, none⟩), .int .i64 0, vb] w fun e w' => e = .returned (.int .i64 0) ∧ ∃ S', Dq S' w' p L2 ∧ Stp S w S' w') :=
    Lib.hid (fun S p w vb h hb => (write_dq h 0 vb [98] hb (by decide)).mono (fun e w' hh => by rw [L_2] at hh; exact hh))
  have HC3 : Hid (∀ (S : Nat → Prop) (p : Nat) (w : World) (vb : Value), Dq S w p L2 → By S w vb [99] → Calls Try.prog 32 #[.pointer (some ⟨p, 0, none⟩), .int .i64 1, vb] w fun e w' => e = .returned (.int .i64 0) ∧ ∃ S', Dq S' w' p L3 ∧ Stp S w S' w') :=
    Lib.hid (fun S p w vb h hb => (write_dq h 1 vb [99] hb (by decide)).mono (fun e w' hh => by rw [L_3] at hh; exact hh))
  have HC4 : Hid (∀ (S : Nat → Prop) (p : Nat) (w : World), Dq S w p L3 → Calls Try.prog 18 #[.pointer (some ⟨p, 0, none⟩), .int .i64 0] w fun e w' => e = .returned (.tuple #[.slice (some ⟨w.heap.size, 0, none⟩) 128 128, .int .i64 0]) ∧ Blk w' w.heap.size 88 (bv tB) ∧ Turn (fun _ => False) w w') :=
    Lib.hid (fun S p w h => (read_dq h 0 (by decide) rfl).mono (fun e w' hh => by rw [R_3] at hh; exact hh))
  have HC5 : Hid (∀ (S : Nat → Prop) (p : Nat) (w : World) (v : Value), Dq S w p L3 → Iv S w v [0, 2] → Calls Try.prog 33 #[.pointer (some ⟨p, 0, none⟩), v] w fun e w' => e = .returned (.int .i64 0) ∧ ∃ S', Dq S' w' p L4 ∧ Stp S w S' w') :=
    Lib.hid (fun S p w v h hv => (crash_dq h (by decide) v [0, 2] (by decide) hv).mono (fun e w' hh => by rw [L_4] at hh; exact hh))
  have HC6 : Hid (∀ (S : Nat → Prop) (p : Nat) (w : World), Dq S w p L4 → Calls Try.prog 18 #[.pointer (some ⟨p, 0, none⟩), .int .i64 0] w fun e w' => e = .returned (.tuple #[.slice (some ⟨w.heap.size, 0, none⟩) 128 128, .int .i64 0]) ∧ Blk w' w.heap.size 88 (bv tA) ∧ Turn (fun _ => False) w w') :=
    Lib.hid (fun S p w h => (read_dq h 0 (by decide) rfl).mono (fun e w' hh => by rw [R_40] at hh; exact hh))
  have HC7 : Hid (∀ (S : Nat → Prop) (p : Nat) (w : World), Dq S w p L4 → Calls Try.prog 18 #[.pointer (some ⟨p, 0, none⟩), .int .i64 1] w fun e w' => e = .returned (.tuple #[.slice (some ⟨w.heap.size, 0, none⟩) 128 128, .int .i64 0]) ∧ Blk w' w.heap.size 88 (bv tC) ∧ Turn (fun _ => False) w w') :=
    Lib.hid (fun S p w h => (read_dq h 1 (by decide) rfl).mono (fun e w' hh => by rw [R_41] at hh; exact hh))
  have HC8 : Hid (∀ (S : Nat → Prop) (p : Nat) (w : World), Dq S w p L4 → Calls Try.prog 34 #[.pointer (some ⟨p, 0, none⟩), .int .i64 1] w fun e w' => e = .returned (.int .i64 0) ∧ ∃ S', Dq S' w' p L5 ∧ Stp S w S' w') :=
    Lib.hid (fun S p w h => (arm_dq h 1 (by decide)).mono (fun e w' hh => by rw [L_5] at hh; exact hh))
  have HC9 : Hid (∀ (S : Nat → Prop) (p : Nat) (w : World) (vb : Value), Dq S w p L5 → By S w vb [113] → Calls Try.prog 32 #[.pointer (some ⟨p, 0, none⟩), .int .i64 1, vb] w fun e w' => e = .returned (.int .i64 0) ∧ ∃ S', Dq S' w' p L6 ∧ Stp S w S' w') :=
    Lib.hid (fun S p w vb h hb => (write_dq h 1 vb [113] hb (by decide)).mono (fun e w' hh => by rw [L_6] at hh; exact hh))
  have HC10 : Hid (∀ (S : Nat → Prop) (p : Nat) (w : World), Dq S w p L6 → Calls Try.prog 35 #[.pointer (some ⟨p, 0, none⟩)] w fun e w' => e = .returned (.int .i64 20) ∧ ∃ S', Dq S' w' p L7 ∧ Stp S w S' w') :=
    Lib.hid (fun S p w h => (flush_dq h (by decide)).mono (fun e w' hh => by rw [L_7] at hh; exact hh))
  have HC11 : Hid (∀ (S : Nat → Prop) (p : Nat) (w : World), Dq S w p L7 → Calls Try.prog 18 #[.pointer (some ⟨p, 0, none⟩), .int .i64 1] w fun e w' => e = .returned (.tuple #[.slice none 0 0, .int .i64 20]) ∧ w = w') :=
    Lib.hid (fun S p w h => readErr_dq h 1 (.inl rfl))
  have HC12 : Hid (∀ (S : Nat → Prop) (p : Nat) (w : World) (v : Value), Dq S w p L7 → Iv S w v [] → Calls Try.prog 33 #[.pointer (some ⟨p, 0, none⟩), v] w fun e w' => e = .returned (.int .i64 0) ∧ ∃ S', Dq S' w' p L4 ∧ Stp S w S' w') :=
    Lib.hid (fun S p w v h hv => (crash_dq h (by decide) v [] (by decide) hv).mono (fun e w' hh => by rw [L_8] at hh; exact hh))
  have HC0 : Hid (∀ (w : World), Calls Try.prog 10 #[.int .i64 2] w fun e w' => ∃ p S, e = .returned (.tuple #[.pointer (some ⟨p, 0, none⟩), .int .i64 0]) ∧ Dq S w' p L0 ∧ (∀ k, S k → w.heap.size ≤ k) ∧ Turn (fun _ => False) w w') :=
    Lib.hid (fun w => new_dq 2 (by decide) (by decide) w)
  go_enter Try.func13, Try.ntmps13
  have kc := fun (w : World) (C : Array Value) (n c : Nat) => Lib.run_convert_bytes_const (P := Try.prog) w 41 5 C n c Try.underlying41 Try.underlying5
  go_wp2_with fail
  refine (HC0.out _).mono ?_
  rintro e w0 ⟨p, S0, rfl, hd, hS, ht⟩
  have Q0 := Lib.hid hd
  have V0 : Hid (Lv w.heap.size w S0 w0) := Lib.hid ⟨ht.below (Nat.le_refl _) (fun _ h => h.elim), ht.size, hS⟩
  clear hd hS ht
  go_wp2_with fail
  refine (HC1.out S0 p _ _ (Q0.out.still ((Turn.refl _ _).alloc _)) (by_mark w0 Q0.out.lt [97] 1 _ _ rfl rfl)).mono ?_
  rintro e w1 ⟨rfl, S1, hd, hs⟩
  have Q1 := Lib.hid hd
  have G1 : Hid (Stp S0 w0 S1 w1) := Lib.hid ((Stp.quiet ((Turn.refl _ _).alloc _)).trans hs)
  have V1 := Lib.hid (V0.out.step G1.out)
  clear hd hs
  go_wp2_with fail
  refine (HC2.out S1 p _ _ (Q1.out.still ((Turn.refl _ _).alloc _)) (by_mark w1 Q1.out.lt [98] 1 _ _ rfl rfl)).mono ?_
  rintro e w2 ⟨rfl, S2, hd, hs⟩
  have Q2 := Lib.hid hd
  have G2 : Hid (Stp S1 w1 S2 w2) := Lib.hid ((Stp.quiet ((Turn.refl _ _).alloc _)).trans hs)
  have V2 := Lib.hid (V1.out.step G2.out)
  clear hd hs
  go_wp2_with fail
  refine (HC3.out S2 p _ _ (Q2.out.still ((Turn.refl _ _).alloc _)) (by_mark w2 Q2.out.lt [99] 1 _ _ rfl rfl)).mono ?_
  rintro e w3 ⟨rfl, S3, hd, hs⟩
  have Q3 := Lib.hid hd
  have G3 : Hid (Stp S2 w2 S3 w3) := Lib.hid ((Stp.quiet ((Turn.refl _ _).alloc _)).trans hs)
  have V3 := Lib.hid (V2.out.step G3.out)
  clear hd hs
  go_wp2_with fail
  refine (HC4.out S3 p _ Q3.out).mono ?_
  rintro e w4 ⟨rfl, hb, ht⟩
  obtain ⟨S4, hSk⟩ : ∃ S, S = S3 := ⟨_, rfl⟩
  have Q4 := Lib.hid (Q3.out.still ht)
  have V4 := Lib.hid (V3.out.still ht)
  have X4 : Hid (Blk w4 w3.heap.size 88 (bv tB) ∧ ¬ S3 w3.heap.size) := Lib.hid ⟨hb, fun h => absurd (Q3.out.lt _ h) (Nat.lt_irrefl _)⟩
  rw [← hSk] at Q4 V4 X4
  clear hb ht hSk
  go_wp2_with fail
  refine (HC5.out S4 p _ _ (Q4.out.still ((Turn.refl _ _).alloc _)) (iv_new w4 Q4.out.lt [0, 2] 2 _ rfl rfl)).mono ?_
  rintro e w5 ⟨rfl, S5, hd, hs⟩
  have Q5 := Lib.hid hd
  have G5 : Hid (Stp S4 w4 S5 w5) := Lib.hid ((Stp.quiet ((Turn.refl _ _).alloc _)).trans hs)
  have V5 := Lib.hid (V4.out.step G5.out)
  clear hd hs
  have X5 := Lib.hid (far_step G5.out X4.out.1 X4.out.2)
  go_wp2_with fail
  refine (HC6.out S5 p _ Q5.out).mono ?_
  rintro e w6 ⟨rfl, hb, ht⟩
  obtain ⟨S6, hSk⟩ : ∃ S, S = S5 := ⟨_, rfl⟩
  have Q6 := Lib.hid (Q5.out.still ht)
  have V6 := Lib.hid (V5.out.still ht)
  have X6 := Lib.hid (far_still ht X5.out.1 X5.out.2)
  have Y6 : Hid (Blk w6 w5.heap.size 88 (bv tA) ∧ ¬ S5 w5.heap.size) := Lib.hid ⟨hb, fun h => absurd (Q5.out.lt _ h) (Nat.lt_irrefl _)⟩
  rw [← hSk] at Q6 V6 Y6 X6
  clear hb ht hSk
  go_wp2_with fail
  refine (HC7.out S6 p _ Q6.out).mono ?_
  rintro e w7 ⟨rfl, hb, ht⟩
  obtain ⟨S7, hSk⟩ : ∃ S, S = S6 := ⟨_, rfl⟩
  have Q7 := Lib.hid (Q6.out.still ht)
  have V7 := Lib.hid (V6.out.still ht)
  have X7 := Lib.hid (far_still ht X6.out.1 X6.out.2)
  have Y7 := Lib.hid (far_still ht Y6.out.1 Y6.out.2)
  have Z7 : Hid (Blk w7 w6.heap.size 88 (bv tC) ∧ ¬ S6 w6.heap.size) := Lib.hid ⟨hb, fun h => absurd (Q6.out.lt _ h) (Nat.lt_irrefl _)⟩
  rw [← hSk] at Q7 V7 Z7 X7 Y7
  clear hb ht hSk
  go_wp2_with fail
  refine (HC8.out S7 p _ Q7.out).mono ?_
  rintro e w8 ⟨rfl, S8, hd, hs⟩
  have Q8 := Lib.hid hd
  have G8 : Hid (Stp S7 w7 S8 w8) := Lib.hid ((Stp.quiet (Turn.refl _ _)).trans hs)
  have V8 := Lib.hid (V7.out.step G8.out)
  clear hd hs
  have X8 := Lib.hid (far_step G8.out X7.out.1 X7.out.2)
  have Y8 := Lib.hid (far_step G8.out Y7.out.1 Y7.out.2)
  have Z8 := Lib.hid (far_step G8.out Z7.out.1 Z7.out.2)
  go_wp2_with fail
  refine (HC9.out S8 p _ _ (Q8.out.still ((Turn.refl _ _).alloc _)) (by_mark w8 Q8.out.lt [113] 1 _ _ rfl rfl)).mono ?_
  rintro e w9 ⟨rfl, S9, hd, hs⟩
  have Q9 := Lib.hid hd
  have G9 : Hid (Stp S8 w8 S9 w9) := Lib.hid ((Stp.quiet ((Turn.refl _ _).alloc _)).trans hs)
  have V9 := Lib.hid (V8.out.step G9.out)
  clear hd hs
  have X9 := Lib.hid (far_step G9.out X8.out.1 X8.out.2)
  have Y9 := Lib.hid (far_step G9.out Y8.out.1 Y8.out.2)
  have Z9 := Lib.hid (far_step G9.out Z8.out.1 Z8.out.2)
  go_wp2_with fail
  refine (HC10.out S9 p _ Q9.out).mono ?_
  rintro e w10 ⟨rfl, S10, hd, hs⟩
  have Q10 := Lib.hid hd
  have G10 : Hid (Stp S9 w9 S10 w10) := Lib.hid ((Stp.quiet (Turn.refl _ _)).trans hs)
  have V10 := Lib.hid (V9.out.step G10.out)
  clear hd hs
  have X10 := Lib.hid (far_step G10.out X9.out.1 X9.out.2)
  have Y10 := Lib.hid (far_step G10.out Y9.out.1 Y9.out.2)
  have Z10 := Lib.hid (far_step G10.out Z9.out.1 Z9.out.2)
  go_wp2_with fail
  refine (HC11.out S10 p _ Q10.out).mono ?_
  rintro e w11 ⟨rfl, rfl⟩
  go_wp2_with fail
  refine (HC12.out S10 p _ _ Q10.out (iv_nil _ _)).mono ?_
  rintro e w11 ⟨rfl, S11, hd, hs⟩
  have Q11 := Lib.hid hd
  have V11 := Lib.hid (V10.out.step hs)
  have X11 := Lib.hid (far_step hs X10.out.1 X10.out.2)
  have Y11 := Lib.hid (far_step hs Y10.out.1 Y10.out.2)
  have Z11 := Lib.hid (far_step hs Z10.out.1 Z10.out.2)
  clear hd hs
  go_wp2_with fail
  refine (HC7.out S11 p _ Q11.out).mono ?_
  rintro e w12 ⟨rfl, hb, ht⟩
  obtain ⟨S12, hSk⟩ : ∃ S, S = S11 := ⟨_, rfl⟩
  have Q12 := Lib.hid (Q11.out.still ht)
  have V12 := Lib.hid (V11.out.still ht)
  have X12 := Lib.hid (far_still ht X11.out.1 X11.out.2)
  have Y12 := Lib.hid (far_still ht Y11.out.1 Y11.out.2)
  have Z12 := Lib.hid (far_still ht Z11.out.1 Z11.out.2)
  have U12 : Hid (Blk w12 w11.heap.size 88 (bv tC) ∧ ¬ S11 w11.heap.size) := Lib.hid ⟨hb, fun h => absurd (Q11.out.lt _ h) (Nat.lt_irrefl _)⟩
  rw [← hSk] at Q12 V12 U12 X12 Y12 Z12
  clear hb ht hSk
  have x0 : w12.cell? ⟨w3.heap.size, 0, none⟩ = some (.int .u8 98) := X12.out.1.cell 0
  have y0 : w12.cell? ⟨w5.heap.size, 0, none⟩ = some (.int .u8 97) := Y12.out.1.cell 0
  have z0 : w12.cell? ⟨w6.heap.size, 0, none⟩ = some (.int .u8 99) := Z12.out.1.cell 0
  have u0 : w12.cell? ⟨w11.heap.size, 0, none⟩ = some (.int .u8 99) := U12.out.1.cell 0
  go_wp2_with fail
  go_ret
  exact ⟨rfl, V12.out.1⟩
end Go.Proofs.Ytbjenimpfblojaa
