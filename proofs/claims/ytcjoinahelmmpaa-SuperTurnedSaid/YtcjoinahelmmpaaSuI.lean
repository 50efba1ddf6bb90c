/- Layer 11: the chapter's example. -/
import Derived.Test.YtcjoinahelmmpaaSuH
namespace Go.Proofs.Ytcjoinahelmmpaa
open Go.RowKit
set_option linter.unusedVariables false
set_option linter.unusedSimpArgs false
set_option maxRecDepth 100000

/-- A disk that the call made, at a world. -/
structure Lv11 (w : World) (p : Nat) (S : Nat → Prop) (W : World) (D : Dsk) : Prop where
  dq : Dq S W p D
  t : Turn (fun _ => False) w W
  s : ∀ k, S k → w.heap.size ≤ k
theorem Lv11.still {w W W' : World} {p : Nat} {S : Nat → Prop} {D : Dsk} (h : Lv11 w p S W D) (ht : Turn (fun _ => False) W W') : Lv11 w p S W' D := ⟨h.dq.still ht, h.t.trans ht, h.s⟩
theorem Lv11.step {w W W' : World} {p : Nat} {S S' : Nat → Prop} {D D' : Dsk} (h : Lv11 w p S W D) (hq : Dq S' W' p D') (hs : Stp S W S' W') : Lv11 w p S' W' D' :=
  ⟨hq, h.t.trans_new hs.1 (fun k hk e => by have := h.s k e; omega), fun k hk => by
    rcases hs.2 k hk with h1 | h1
    · exact h.s k h1
    · have := h.t.size; omega⟩
/-- A box of the call's own, apart from the disk. -/
def Bx (S : Nat → Prop) (W : World) (b : Nat) (s : Sup) : Prop := Blk W b 23 [.int .i64 s.g, .int .i64 s.r, .int .i64 s.t, .int .i64 s.e, .int .i64 s.l, .int .i64 s.m] ∧ ¬ S b
theorem Bx.still {S : Nat → Prop} {W W' : World} {b : Nat} {s : Sup} (h : Bx S W b s) (ht : Turn (fun _ => False) W W') : Bx S W' b s := ⟨h.1.turn ht (fun h => h), h.2⟩
theorem Bx.step {S S' : Nat → Prop} {W W' : World} {b : Nat} {s : Sup} (h : Bx S W b s) (hs : Stp S W S' W') : Bx S' W' b s :=
  ⟨h.1.turn hs.1 h.2, fun hk => by
    rcases hs.2 b hk with h1 | h1
    · exact h.2 h1
    · have := h.1.lt; omega⟩
theorem Bx.new {w : World} {p : Nat} {S : Nat → Prop} {W : World} {D : Dsk} (h : Lv11 w p S W D) (s : Sup) : Bx S (W.alloc (.cells #[.int .i64 s.g, .int .i64 s.r, .int .i64 s.t, .int .i64 s.e, .int .i64 s.l, .int .i64 s.m] 23)) W.heap.size s :=
  ⟨Blk.new _ _ _, fun hk => by have := h.dq.lt _ hk; omega⟩
/-- A disk on which nothing is pending. -/
def dskK (K : List (List UInt8)) : Dsk := ⟨K, [], -1, false⟩
theorem full_put (s : Sup) : full (putU s) = putU s := by simp [full, len_putU]
theorem wf_K (K : List (List UInt8)) (i : Nat) (hi : i < K.length) (s : Sup) : (dskK K).wf i (putU s) = (dskK (K.set i (putU s)), 0) := by
  have h1 : (dskK K).write i (putU s) = ((dskK K).wrote i (putU s), 0) := by
    unfold Dsk.write
    rw [if_neg (by simp [dskK]), if_neg (by simp [dskK]; omega), if_neg (by rw [len_putU]; decide), if_neg (by simp [dskK])]
    simp
  unfold Dsk.wf
  rw [h1]
  simp only [if_true]
  have h2 : (dskK K).wrote i (putU s) = ⟨K, [(i, putU s)], -1, false⟩ := by
    unfold Dsk.wrote Dsk.burnt
    rw [if_neg (by simp [dskK]), if_neg (by simp [dskK])]
    simp [dskK, full_put]
  rw [h2]
  unfold Dsk.flush Dsk.flushed Dsk.burnt
  simp [Dsk.keepAll, Dsk.keepW, Dsk.lost, dskK]
def s1U : Sup := ⟨0, 5, 0, 0, 0, 0⟩
def s2U : Sup := ⟨1, 6, 0, 0, 0, 0⟩
theorem rd_s1 : readU (putU s1U) = some s1U := readU_put (by decide)
theorem rd_s2 : readU (putU s2U) = some s2U := readU_put (by decide)
theorem rd_zeros : readU zeros = none := testsU_no zeros rfl (.inl (by decide))
def L0U : Dsk := dskK [zeros, zeros]
def L1U : Dsk := dskK [putU s1U, zeros]
def L2U : Dsk := dskK [putU s1U, putU s2U]
def L3U : Dsk := { L2U with fuse := 0 }
def L4U : Dsk := { L3U with dead := true }
theorem fresh_L0 : fresh 2 = L0U := rfl
theorem find_K (a b : List UInt8) (F : Int) : (⟨[a, b], [], F, false⟩ : Dsk).find = ((⟨zU, 0, 4⟩ : Fd).upd 0 (readU a)).upd 1 (readU b) := by
  unfold Dsk.find
  rw [if_neg (by simp), if_neg (by simp)]
  rfl
theorem f_L0 : L0U.find = ⟨zU, 0, 4⟩ := by
  show (⟨[zeros, zeros], [], -1, false⟩ : Dsk).find = _
  rw [find_K, rd_zeros]; rfl
theorem f_L1 : L1U.find = ⟨s1U, 0, 0⟩ := by
  show (⟨[putU s1U, zeros], [], -1, false⟩ : Dsk).find = _
  rw [find_K, rd_zeros, rd_s1]; decide
theorem f_L2 : L2U.find = ⟨s2U, 1, 0⟩ := by
  show (⟨[putU s1U, putU s2U], [], -1, false⟩ : Dsk).find = _
  rw [find_K, rd_s1, rd_s2]; decide
theorem f_L3 : L3U.find = ⟨s2U, 1, 0⟩ := by
  show (⟨[putU s1U, putU s2U], [], 0, false⟩ : Dsk).find = _
  rw [find_K, rd_s1, rd_s2]; decide
theorem sv_L0 : L0U.save ⟨0, 5, 0, 0, 0, 0⟩ = (L1U, s1U, 0) := by
  unfold Dsk.save
  rw [f_L0]
  have hn : nxt ⟨zU, 0, 4⟩ = (0, 0) := by decide
  rw [hn]
  have hg : Sup.gen ⟨0, 5, 0, 0, 0, 0⟩ 0 = s1U := rfl
  simp only [hg]
  rw [if_pos trivial, if_pos (by decide)]
  have := wf_K [zeros, zeros] 0 (by decide) s1U
  rw [show (0 : Int) % 2 = ((0 : Nat) : Int) from rfl, show L0U = dskK [zeros, zeros] from rfl, this]
  rfl
theorem sv_L1 : L1U.save ⟨0, 6, 0, 0, 0, 0⟩ = (L2U, s2U, 0) := by
  unfold Dsk.save
  rw [f_L1]
  have hn : nxt ⟨s1U, 0, 0⟩ = (1, 0) := by decide
  rw [hn]
  have hg : Sup.gen ⟨0, 6, 0, 0, 0, 0⟩ 1 = s2U := rfl
  simp only [hg]
  rw [if_pos trivial, if_pos (by decide)]
  have := wf_K [putU s1U, zeros] 1 (by simp) s2U
  rw [show (1 : Int) % 2 = ((1 : Nat) : Int) from rfl, show L1U = dskK [putU s1U, zeros] from rfl, this]
  rfl
theorem sv_L3 : L3U.save ⟨0, 7, 0, 0, 0, 0⟩ = (L4U, zU, 20) := by
  unfold Dsk.save
  rw [f_L3]
  have hn : nxt ⟨s2U, 1, 0⟩ = (2, 0) := by decide
  rw [hn]
  have hg : Sup.gen ⟨0, 7, 0, 0, 0, 0⟩ 2 = ⟨2, 7, 0, 0, 0, 0⟩ := rfl
  simp only [hg]
  rw [if_pos trivial, if_pos (by decide)]
  have h1 : L3U.write (2 % 2) (putU ⟨2, 7, 0, 0, 0, 0⟩) = (L4U, 20) := by
    unfold Dsk.write
    rw [if_neg (by simp [L3U, L2U, dskK]), if_neg (by simp [L3U, L2U, dskK]), if_neg (by rw [len_putU]; decide), if_pos (by simp [L3U])]
    unfold Dsk.burnt
    rw [if_pos (by simp [L3U])]
    rfl
  unfold Dsk.wf
  rw [h1]
  rfl
theorem cr_L4 : L4U.crashed [] = L2U := rfl
theorem lives11_any (w : World) : Calls Try.prog 14 #[] w fun e w' => e = .returned (.bool true) ∧ Turn (fun _ => False) w w' := by
  have HN : Hid (Calls Try.prog 17 #[.int .i64 2] w fun e w' => ∃ p S, e = .returned (.tuple #[.pointer (some ⟨p, 0, none⟩), .int .i64 0]) ∧ Lv11 w p S w' L0U) := Lib.hid ((new_dq 2 (by decide) (by decide) w).mono (fun e w' ⟨p, S, h1, h2, h3, h4⟩ => ⟨p, S, h1, h2, h4, h3⟩))
  have HF : Hid (∀ p S W D x, D.find = x → Lv11 w p S W D → Calls Try.prog 25 #[.pointer (some ⟨p, 0, none⟩)] W fun r w' => r = .returned (fdv x) ∧ Turn (fun _ => False) W w' ∧ Lv11 w p S w' D) := Lib.hid (fun p S W D x hx h => by
    have := find_dq h.dq
    rw [hx] at this
    exact this.mono (fun r w' ⟨h1, h2⟩ => ⟨h1, h2, h.still h2⟩))
  have HS : Hid (∀ p S W D s D' s' e', D.save s = (D', s', e') → D.pend = [] → Lv11 w p S W D → Calls Try.prog 28 #[.pointer (some ⟨p, 0, none⟩), uv s] W fun r w' => r = .returned (.tuple #[uv s', .int .i64 e']) ∧ ∃ S', Stp S W S' w' ∧ Lv11 w p S' w' D') := Lib.hid (fun p S W D s D' s' e' hx hp h => by
    have := save_dq h.dq s (by rw [hp]; decide)
    rw [hx] at this
    exact this.mono (fun r w' ⟨h1, S', h2, h3⟩ => ⟨h1, S', h3, h.step h2 h3⟩))
  have HA : Hid (∀ p S W, Lv11 w p S W L2U → Calls Try.prog 24 #[.pointer (some ⟨p, 0, none⟩), .int .i64 0] W fun r w' => r = .returned (.int .i64 0) ∧ ∃ S', Stp S W S' w' ∧ Lv11 w p S' w' L3U) := Lib.hid (fun p S W h => (arm_dq h.dq 0 (by decide)).mono (fun r w' ⟨h1, S', h2, h3⟩ => ⟨h1, S', h3, h.step h2 h3⟩))
  have HC : Hid (∀ p S W, Lv11 w p S W L4U → Calls Try.prog 22 #[.pointer (some ⟨p, 0, none⟩), .slice none 0 0] W fun r w' => r = .returned (.int .i64 0) ∧ ∃ S', Stp S W S' w' ∧ Lv11 w p S' w' L2U) := Lib.hid (fun p S W h => (crash_dq h.dq (by decide) (.slice none 0 0) [] (by decide) ⟨none, 0, rfl, fun h => absurd h (by simp)⟩).mono (fun r w' ⟨h1, S', h2, h3⟩ => ⟨h1, S', h3, h.step h2 h3⟩))
  go_enter Try.func14, Try.ntmps14
  go_wp2_with fail
  refine HN.out.mono ?_
  rintro e w1 ⟨p, S1, rfl, hl⟩
  have L1 := Lib.hid hl
  clear hl
  go_wp2_with fail
  refine (HF.out _ _ _ _ _ f_L0 L1.out).mono ?_
  rintro e w2 ⟨rfl, ht, hl⟩
  simp only [fdv, uv, zU, s1U, s2U]
  have L2 := Lib.hid (hl.still ((Turn.refl _ _).alloc (.cells #[.int .i64 0, .int .i64 0, .int .i64 0, .int .i64 0, .int .i64 0, .int .i64 0] 23)))
  clear hl ht
  go_wp2_with fail
  refine (HS.out _ _ _ _ _ _ _ _ sv_L0 rfl L2.out).mono ?_
  rintro e w3 ⟨rfl, S3, hs, hl⟩
  simp only [fdv, uv, zU, s1U, s2U]
  have A6 := Lib.hid (Bx.new hl s1U)
  have L3 := Lib.hid (hl.still ((Turn.refl _ _).alloc (.cells #[.int .i64 0, .int .i64 5, .int .i64 0, .int .i64 0, .int .i64 0, .int .i64 0] 23)))
  clear hl hs
  go_wp2_with fail
  refine (HS.out _ _ _ _ _ _ _ _ sv_L1 rfl L3.out).mono ?_
  rintro e w4 ⟨rfl, S4, hs, hl⟩
  simp only [fdv, uv, zU, s1U, s2U]
  have T4 := (Turn.refl (fun _ => False) w4).alloc (.cells #[.int .i64 1, .int .i64 6, .int .i64 0, .int .i64 0, .int .i64 0, .int .i64 0] 23)
  have B6 := Lib.hid ((A6.out.step hs).still T4)
  have B8 := Lib.hid (Bx.new hl s2U)
  have L4 := Lib.hid (hl.still T4)
  clear hl hs T4 A6
  go_wp2_with fail
  refine (HF.out _ _ _ _ _ f_L2 L4.out).mono ?_
  rintro e w5 ⟨rfl, ht, hl⟩
  simp only [fdv, uv, zU, s1U, s2U]
  have T5 := (Turn.refl (fun _ => False) w5).alloc (.cells #[.int .i64 1, .int .i64 6, .int .i64 0, .int .i64 0, .int .i64 0, .int .i64 0] 23)
  have C6 := Lib.hid ((B6.out.still ht).still T5)
  have C8 := Lib.hid ((B8.out.still ht).still T5)
  have C10 := Lib.hid (Bx.new hl s2U)
  have L5 := Lib.hid (hl.still T5)
  clear hl ht T5 B6 B8
  go_wp2_with fail
  refine (HA.out _ _ _ L5.out).mono ?_
  rintro e w6 ⟨rfl, S6, hs, hl⟩
  have D6 := Lib.hid (C6.out.step hs)
  have D8 := Lib.hid (C8.out.step hs)
  have D10 := Lib.hid (C10.out.step hs)
  have L6 := Lib.hid hl
  clear hl hs C6 C8 C10
  go_wp2_with fail
  refine (HS.out _ _ _ _ _ _ _ _ sv_L3 rfl L6.out).mono ?_
  rintro e w7 ⟨rfl, S7, hs, hl⟩
  simp only [fdv, uv, zU, s1U, s2U]
  have T7 := (Turn.refl (fun _ => False) w7).alloc (.cells #[.int .i64 0, .int .i64 0, .int .i64 0, .int .i64 0, .int .i64 0, .int .i64 0] 23)
  have E6 := Lib.hid ((D6.out.step hs).still T7)
  have E8 := Lib.hid ((D8.out.step hs).still T7)
  have E10 := Lib.hid ((D10.out.step hs).still T7)
  have L7 := Lib.hid (hl.still T7)
  clear hl hs T7 D6 D8 D10
  go_wp2_with fail
  refine (HC.out _ _ _ L7.out).mono ?_
  rintro e w8 ⟨rfl, S8, hs, hl⟩
  have F6 := Lib.hid (E6.out.step hs)
  have F8 := Lib.hid (E8.out.step hs)
  have F10 := Lib.hid (E10.out.step hs)
  have L8 := Lib.hid hl
  clear hl hs E6 E8 E10
  go_wp2_with fail
  refine (HF.out _ _ _ _ _ f_L2 L8.out).mono ?_
  rintro e w9 ⟨rfl, ht, hl⟩
  simp only [fdv, uv, zU, s1U, s2U]
  have T9 := (Turn.refl (fun _ => False) w9).alloc (.cells #[.int .i64 1, .int .i64 6, .int .i64 0, .int .i64 0, .int .i64 0, .int .i64 0] 23)
  have G6 := Lib.hid ((F6.out.still ht).still T9)
  have G8 := Lib.hid ((F8.out.still ht).still T9)
  have G10 := Lib.hid ((F10.out.still ht).still T9)
  have L9 := Lib.hid (hl.still T9)
  clear hl ht T9 F6 F8 F10
  obtain ⟨a0, a1, a2, a3, a4, a5⟩ := (blk6 G6.out.1).1
  obtain ⟨b0, b1, b2, b3, b4, b5⟩ := (blk6 G8.out.1).1
  obtain ⟨c0, c1, c2, c3, c4, c5⟩ := (blk6 G10.out.1).1
  simp only [s1U, s2U] at a0 a1 a2 a3 a4 a5 b0 b1 b2 b3 b4 b5 c0 c1 c2 c3 c4 c5
  go_wp2_with fail
  go_ret
  exact ⟨rfl, L9.out.t⟩
end Go.Proofs.Ytcjoinahelmmpaa
