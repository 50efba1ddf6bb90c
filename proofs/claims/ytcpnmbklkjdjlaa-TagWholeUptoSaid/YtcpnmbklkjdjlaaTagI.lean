/- Layer 3: the document's answer: power, Join. -/
import Derived.Test.YtcpnmbklkjdjlaaTagH
namespace Go.Proofs.Ytcpnmbklkjdjlaa
open Go.RowKit
set_option linter.unusedVariables false

theorem bblk {w w' : World} {B g : Nat} {t : TypeId} {cs : List Value} (hb : Below B w w') (h : Blk w g t cs) (hg : g < B) : Blk w' g t cs := h.below hb hg
theorem two_test (m : Nat) : (((m : Int) % 2 == 1) = true ∧ m % 2 = 1) ∨ (((m : Int) % 2 == 1) = false ∧ ¬ m % 2 = 1) := by
  by_cases h : m % 2 = 1
  · exact .inl ⟨by rw [beq_iff_eq]; omega, h⟩
  · exact .inr ⟨by rw [beq_eq_false_iff_ne]; omega, h⟩

set_option maxRecDepth 100000 in
set_option maxHeartbeats 1000000 in
theorem refPower_any (n : Nat) (hn : n < 9223372036854775808) (w : World) :
    Calls Try.prog 34 #[.int .i64 n] w fun e w' => e = .returned (tv (gq n)) ∧ Below w.heap.size w w' := by
  go_enter Try.func34, Try.ntmps34
  go_wp2
  go_loopw [0] (fun i wr => ∃ k : Nat, i = .int .i64 (n / 2 ^ k : Nat) ∧ Below w.heap.size w wr ∧ Blk wr w.heap.size 28 [.int .i64 0, .int .i64 0] ∧
    Blk wr (w.heap.size + 1) 28 [.int .i64 (gq (n % 2 ^ k)).1, .int .i64 (gq (n % 2 ^ k)).2] ∧ Blk wr (w.heap.size + 1 + 1) 28 [.int .i64 (gq (2 ^ k)).1, .int .i64 (gq (2 ^ k)).2]) (fun i _ => (intOf i).toNat)
  case atStart =>
    refine ⟨0, by simp, (((Below.refl _ _).alloc (Nat.le_refl _) _).alloc (by simp) _).alloc (by simp; omega) _, ((Blk.new _ _ [.int .i64 0, .int .i64 0]).alloc _).alloc _, ?_, ?_⟩
    · rw [Nat.pow_zero, Nat.mod_one, gq_zero]; exact (Blk.new_ _ _ [.int .i64 1, .int .i64 0] (by simp)).alloc _
    · rw [Nat.pow_zero, gq_one]; exact Blk.new_ _ _ [.int .i64 3, .int .i64 2] (by simp)
  case round =>
    obtain ⟨k, rfl, hb, hR, hP, hQ⟩ := hrel
    have HQ2 := Lib.hid (gq_square k)
    have HP2 : Hid (n / 2 ^ k % 2 = 1 → gr (gm (gq (n % 2 ^ k)) (gq (2 ^ k))) = gq (n % 2 ^ (k + 1))) := gq_bit n k
    have HN2 : Hid (¬ n / 2 ^ k % 2 = 1 → gq (n % 2 ^ k) = gq (n % 2 ^ (k + 1))) := gq_nobit n k
    have hp := gq_lt (n % 2 ^ k)
    have hq := gq_lt (2 ^ k)
    have HM : Hid (n / 2 ^ (k + 1) = n / 2 ^ k / 2) := by show _ = _; rw [Nat.pow_succ, Nat.div_div_eq_div_mul]
    have HE : Hid (n / 2 ^ k = 0 → n % 2 ^ k = n) := by
      intro h
      rcases Nat.div_eq_zero_iff.1 h with h | h
      · exact absurd h (Nat.ne_of_gt (Nat.two_pow_pos k))
      · exact Nat.mod_eq_of_lt h
    obtain ⟨m, hm⟩ : ∃ m, n / 2 ^ k = m := ⟨_, rfl⟩
    rw [hm] at HP2 HN2 HM HE ⊢
    have hmn : m ≤ 9223372036854775807 := by have := Nat.div_le_self n (2 ^ k); omega
    clear hm
    have HR := Lib.hid hR
    have HPB := Lib.hid hP
    have HQB := Lib.hid hQ
    by_cases h0 : m = 0
    · obtain rfl := h0
      rw [HE.out rfl] at hP
      obtain ⟨x0, x1, f0, f1⟩ := blk2 hR
      obtain ⟨y0, y1, g0, g1⟩ := blk2 hP
      clear hR hP hQ
      go_wp2
      exact bodyPost_ret (v := .agg #[.int .i64 (gq n).1, .int .i64 (gq n).2]) (by simp [results, Try.results34, go_sem, x0, x1]) rfl ⟨rfl, (hb.setCell (Nat.le_refl _) _).setCell (Nat.le_refl _) _⟩
    · have hpos : 0 < m := by omega
      have hz := hQ.lt
      have HT1 := Lib.hid (times_any (gq (n % 2 ^ k)) (gq (2 ^ k)) hp hq)
      have HT2 := Lib.hid (times_any (gq (2 ^ k)) (gq (2 ^ k)) hq hq)
      unfold tv at HT1 HT2
      obtain ⟨y0, y1, g0, g1⟩ := blk2 hP
      obtain ⟨z0, z1, q0, q1⟩ := blk2 hQ
      generalize gq (n % 2 ^ k) = P at *
      generalize gq (2 ^ k) = Q at *
      obtain ⟨p1, p2⟩ := P
      obtain ⟨s1, s2⟩ := Q
      clear hR hP hQ h0 hp hq
      rcases two_test m with ⟨ht, hodd⟩ | ⟨ht, hodd⟩
      · have HO := Lib.hid (HP2.out hodd)
        clear hodd
        go_wp2_with (first
          | (go_at_call_of 33 (Value.agg #[Value.int .i64 p1, Value.int .i64 p2]); refine (HT1.out _).mono ?_; rintro e w1 ⟨rfl, hb1⟩; have HPB1 := Lib.hid (bblk hb1 HPB.out (by omega)); have HQB1 := Lib.hid (bblk hb1 HQB.out hz); have HR1 := Lib.hid (bblk hb1 HR.out (by omega)); obtain ⟨y10, y11, g10, g11⟩ := blk2 HPB1.out; obtain ⟨z10, z11, q10, q11⟩ := blk2 HQB1.out; have hz1 := hb1.size)
          | (go_at_call_of 33 (Value.agg #[Value.int .i64 s1, Value.int .i64 s2]); refine (HT2.out _).mono ?_; rintro e w3 ⟨rfl, hb3⟩; have hz3 := hb3.size; have HPB3 := Lib.hid (bblk hb3 (blk2_put HPB1.out) (by simp; omega)); have HQB3 := Lib.hid (bblk hb3 ((HQB1.out.far (by simp) _).far (by simp) _) (by simp; omega)); have HR3 := Lib.hid (bblk hb3 ((HR1.out.far (by simp) _).far (by simp) _) (by simp; omega)); obtain ⟨z30, z31, q30, q31⟩ := blk2 HQB3.out))
        go_roundw
        case rel =>
          refine ⟨k + 1, by rw [HM.out]; exact congrArg (Value.int .i64) (by omega), ?_, (HR3.out.far (by simp; omega) _).far (by simp; omega) _, ?_, ?_⟩
          · refine ((((((hb.trans (hb1.mono hb.size)).setCell (by simp) _).setCell (by simp) _).trans (hb3.mono ?_))).setCell (by simp; omega) _).setCell (by simp; omega) _
            have := hb.size; simp; omega
          · rw [← HO.out]; exact (HPB3.out.far (by simp) _).far (by simp) _
          · rw [← HQ2.out]; exact blk2_put HQB3.out
        case measure => simp only [intOf]; omega
      · have HO := Lib.hid (HN2.out hodd)
        clear hodd
        go_wp2_with (go_at_call_of 33 (Value.agg #[Value.int .i64 s1, Value.int .i64 s2]); refine (HT2.out _).mono ?_; rintro e w3 ⟨rfl, hb3⟩; have hz3 := hb3.size; have HPB3 := Lib.hid (bblk hb3 HPB.out (by omega)); have HQB3 := Lib.hid (bblk hb3 HQB.out hz); have HR3 := Lib.hid (bblk hb3 HR.out (by omega)); obtain ⟨z30, z31, q30, q31⟩ := blk2 HQB3.out)
        go_roundw
        case rel =>
          refine ⟨k + 1, by rw [HM.out]; exact congrArg (Value.int .i64) (by omega), ((hb.trans (hb3.mono hb.size)).setCell (by simp; omega) _).setCell (by simp; omega) _, (HR3.out.far (by simp; omega) _).far (by simp; omega) _, ?_, ?_⟩
          · rw [← HO.out]; exact (HPB3.out.far (by simp) _).far (by simp) _
          · rw [← HQ2.out]; exact blk2_put HQB3.out
        case measure => simp only [intOf]; omega
end Go.Proofs.Ytcpnmbklkjdjlaa
