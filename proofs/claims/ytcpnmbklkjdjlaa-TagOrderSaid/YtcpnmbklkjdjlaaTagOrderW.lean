/- The walk of ambrylaw03.TagOrder. -/
import Derived.Test.YtcpnmbklkjdjlaaTagP
import Derived.Test.YtcpnmbklkjdjlaaFrameT
namespace Go.Proofs.Ytcpnmbklkjdjlaa
open Go.RowKit
set_option linter.unusedVariables false

set_option maxRecDepth 100000 in
set_option maxHeartbeats 2000000 in
theorem tagOrder_out (a b c : Int × Int) (n m : Int) (w : World)
    (key : (ck a = 2) ∨ (ck a = 0 ∧ ck b = 2) ∨ (ck a = 0 ∧ ck b = 0 ∧ ck c = 2) ∨ (ck a = 0 ∧ ck b = 0 ∧ ck c = 0 ∧ n < 0) ∨ (ck a = 0 ∧ ck b = 0 ∧ ck c = 0 ∧ 0 ≤ n ∧ 1099511627776 < n) ∨
      (ck a = 0 ∧ ck b = 0 ∧ ck c = 0 ∧ 0 ≤ n ∧ n ≤ 1099511627776 ∧ m < 0) ∨ (ck a = 0 ∧ ck b = 0 ∧ ck c = 0 ∧ 0 ≤ n ∧ n ≤ 1099511627776 ∧ 0 ≤ m ∧ 1099511627776 < m)) :
    Calls Try.prog 9 #[tv a, tv b, tv c, .int .i64 n, .int .i64 m] w fun e w' => e = .returned (.bool true) ∧ Below w.heap.size w w' := by
  have HA := Lib.hid (check_new a)
  have HB := Lib.hid (check_new b)
  have HC := Lib.hid (check_new c)
  generalize ck a = ka at *
  generalize ck b = kb at *
  generalize ck c = kc at *
  obtain ⟨a1, a2⟩ := a
  obtain ⟨b1, b2⟩ := b
  obtain ⟨c1, c2⟩ := c
  unfold tv at *
  rcases key with rfl | ⟨rfl, rfl⟩ | ⟨rfl, rfl, rfl⟩ | ⟨rfl, rfl, rfl, h4⟩ | ⟨rfl, rfl, rfl, h4, h5⟩ | ⟨rfl, rfl, rfl, h4, h5, h6⟩ | ⟨rfl, rfl, rfl, h4, h5, h6, h7⟩
  all_goals
    go_enter Try.func9, Try.ntmps9
    go_wp2_with (first
      | (go_at_call_of 18 (Value.agg #[Value.int .i64 a1, Value.int .i64 a2]); refine (HA.out _).mono ?_; rintro e w1 ⟨rfl, rfl⟩)
      | (go_at_call_of 18 (Value.agg #[Value.int .i64 b1, Value.int .i64 b2]); refine (HB.out _).mono ?_; rintro e w1 ⟨rfl, rfl⟩)
      | (go_at_call_of 18 (Value.agg #[Value.int .i64 c1, Value.int .i64 c2]); refine (HC.out _).mono ?_; rintro e w1 ⟨rfl, rfl⟩)
      | (go_at_call 13; refine (lives3_any _).mono ?_; rintro e w5 ⟨rfl, hl⟩))
    go_ret
    exact ⟨rfl, bthen (by repeat (first | exact Below.refl _ _ | (refine Below.alloc ?_ (by simp; omega) _) | (refine Below.alloc ?_ (by simp) _) | refine Below.drew ?_)) (by simp; omega) hl⟩

set_option maxRecDepth 100000 in
set_option maxHeartbeats 4000000 in
theorem tagOrder_in (a b c : Int × Int) (n m : Nat) (w : World) (ha : rt a = true) (hb : rt b = true) (hc : rt c = true) (hn : n ≤ 1099511627776) (hm : m ≤ 1099511627776) :
    Calls Try.prog 9 #[tv a, tv b, tv c, .int .i64 n, .int .i64 m] w fun e w' => e = .returned (.bool true) ∧ Below w.heap.size w w' := by
  have HA := Lib.hid (check_new a)
  have HB := Lib.hid (check_new b)
  have HC := Lib.hid (check_new c)
  rw [ck_yes ha] at HA
  rw [ck_yes hb] at HB
  rw [ck_yes hc] at HC
  have r1 := rt_of (jn_lt a b n)
  have r3 := rt_of (jn_lt b c m)
  have H1 := Lib.hid (join_ok a b n (by omega) ha hb)
  have H2 := Lib.hid (join_ok (jn a b n) c m (by omega) r1 hc)
  have H3 := Lib.hid (join_ok b c m (by omega) hb hc)
  have h4 := join_ok a (jn b c m) (n + m) (by omega) ha r3
  rw [← jn_jn a b c n m, show ((n + m : Nat) : Int) = (n : Int) + (m : Int) from by omega] at h4
  have H4 := Lib.hid h4
  have h5 := join_ok a (0, 0) 0 (by decide) ha (by decide)
  rw [jn_zero a (rt_yes ha)] at h5
  have H5 := Lib.hid h5
  have HX := Lib.hid (check_new (jn (jn a b n) c m))
  rw [ck_yes (rt_of (jn_lt (jn a b n) c m))] at HX
  clear h4 h5 r1 r3 ha hb hc
  generalize jn (jn a b n) c m = y at *
  generalize jn a b n = x at *
  generalize jn b c m = z at *
  obtain ⟨a1, a2⟩ := a
  obtain ⟨b1, b2⟩ := b
  obtain ⟨c1, c2⟩ := c
  obtain ⟨x1, x2⟩ := x
  obtain ⟨y1, y2⟩ := y
  obtain ⟨z1, z2⟩ := z
  unfold tv at *
  go_enter Try.func9, Try.ntmps9
  go_wp2_with (first
    | (go_at_call_of 18 (Value.agg #[Value.int .i64 a1, Value.int .i64 a2]); refine (HA.out _).mono ?_; rintro e w1 ⟨rfl, rfl⟩)
    | (go_at_call_of 18 (Value.agg #[Value.int .i64 b1, Value.int .i64 b2]); refine (HB.out _).mono ?_; rintro e w1 ⟨rfl, rfl⟩)
    | (go_at_call_of 18 (Value.agg #[Value.int .i64 c1, Value.int .i64 c2]); refine (HC.out _).mono ?_; rintro e w1 ⟨rfl, rfl⟩))
  refine (H1.out _).mono ?_
  rintro e w1 ⟨rfl, hb1⟩
  obtain ⟨hc1, hf1⟩ := bcell hb1
  have hs1 := hb1.size
  simp at hs1
  have s1a : w.heap.size < w1.heap.size := by omega
  have s1b : w.heap.size + 1 < w1.heap.size := by omega
  have s1c : w.heap.size + 1 + 1 < w1.heap.size := by omega
  have B1 : Hid (Below w.heap.size w w1) := Below.trans (by repeat (first | exact Below.refl _ _ | (refine Below.alloc ?_ (by simp; omega) _) | (refine Below.alloc ?_ (by simp) _))) (hb1.mono (by simp; omega))
  go_wp2_with fail
  refine (H2.out _).mono ?_
  rintro e w2 ⟨rfl, hb2⟩
  obtain ⟨hc2, hf2⟩ := bcell hb2
  have hs2 := hb2.size
  simp at hs2
  have s2a : w.heap.size < w2.heap.size := by omega
  have s2b : w.heap.size + 1 < w2.heap.size := by omega
  have s2c : w.heap.size + 1 + 1 < w2.heap.size := by omega
  have s2d : w1.heap.size < w2.heap.size := by omega
  have B2 : Hid (Below w.heap.size w w2) := (B1.out.alloc B1.out.size _).trans (hb2.mono (by have := B1.out.size; simp; omega))
  have D1 : Hid (w1.heap.size ≥ w.heap.size) := B1.out.size
  have ne1 : ¬ w.heap.size = w1.heap.size := by omega
  have ne2 : ¬ w.heap.size + 1 = w1.heap.size := by omega
  have ne3 : ¬ w.heap.size + 1 + 1 = w1.heap.size := by omega
  go_wp2_with fail
  refine (H3.out _).mono ?_
  rintro e w3 ⟨rfl, hb3⟩
  obtain ⟨hc3, hf3⟩ := bcell hb3
  have hs3 := hb3.size
  (try simp at hs3)
  have s3a : w.heap.size < w3.heap.size := by omega
  have s3b : w.heap.size + 1 < w3.heap.size := by omega
  have s3c : w.heap.size + 1 + 1 < w3.heap.size := by omega
  have s3d : w1.heap.size < w3.heap.size := by omega
  have B3 : Hid (Below w.heap.size w w3) := ((B2.out.setCell (by simp; omega) _).setCell (by simp; omega) _).trans (hb3.mono (by have := B2.out.size; simp; omega))
  go_wp2_with fail
  refine (H4.out _).mono ?_
  rintro e w4 ⟨rfl, hb4⟩
  obtain ⟨hc4, hf4⟩ := bcell hb4
  have hs4 := hb4.size
  (try simp at hs4)
  have s4a : w.heap.size < w4.heap.size := by omega
  have s4b : w.heap.size + 1 < w4.heap.size := by omega
  have s4c : w.heap.size + 1 + 1 < w4.heap.size := by omega
  have s4d : w1.heap.size < w4.heap.size := by omega
  have s4e : w3.heap.size < w4.heap.size := by omega
  have ne4 : ¬ w.heap.size = w3.heap.size := by omega
  have ne5 : ¬ w1.heap.size = w3.heap.size := by omega
  have B4 : Hid (Below w.heap.size w w4) := (B3.out.alloc B3.out.size _).trans (hb4.mono (by have := B3.out.size; simp; omega))
  go_wp2_with fail
  refine (H5.out _).mono ?_
  rintro e w5 ⟨rfl, hb5⟩
  obtain ⟨hc5, hf5⟩ := bcell hb5
  have hs5 := hb5.size
  (try simp at hs5)
  have s5a : w.heap.size < w5.heap.size := by omega
  have s5b : w.heap.size + 1 < w5.heap.size := by omega
  have s5c : w.heap.size + 1 + 1 < w5.heap.size := by omega
  have s5d : w1.heap.size < w5.heap.size := by omega
  have s5e : w3.heap.size < w5.heap.size := by omega
  have B5 : Hid (Below w.heap.size w w5) := ((B4.out.setCell (by simp; omega) _).setCell (by simp; omega) _).trans (hb5.mono (by have := B4.out.size; simp; omega))
  go_wp2_with fail
  refine (HX.out _).mono ?_
  rintro e w6 ⟨rfl, rfl⟩
  go_wp2_with fail
  refine (lives3_any _).mono ?_
  rintro e w7 ⟨rfl, hl⟩
  go_wp2_with fail
  go_ret
  exact ⟨rfl, ((B5.out.alloc B5.out.size _).alloc (by have := B5.out.size; simp; omega) _).trans (hl.mono (by have := B5.out.size; simp; omega))⟩

theorem tagOrder_walk (a b c : Int × Int) (n m : Int) (w : World) (hn : (Lit.int .i64 n).wf = true) (hm : (Lit.int .i64 m).wf = true) :
    Calls Try.prog 9 #[tv a, tv b, tv c, .int .i64 n, .int .i64 m] w fun e w' => e = .returned (.bool true) ∧ Below w.heap.size w w' := by
  cases ha : rt a
  · exact tagOrder_out a b c n m w (.inl (ck_no ha))
  · cases hb : rt b
    · exact tagOrder_out a b c n m w (.inr (.inl ⟨ck_yes ha, ck_no hb⟩))
    · cases hc : rt c
      · exact tagOrder_out a b c n m w (.inr (.inr (.inl ⟨ck_yes ha, ck_yes hb, ck_no hc⟩)))
      · by_cases h : 0 ≤ n ∧ n ≤ 1099511627776 ∧ 0 ≤ m ∧ m ≤ 1099511627776
        · obtain ⟨n', rfl⟩ := Int.eq_ofNat_of_zero_le h.1
          obtain ⟨m', rfl⟩ := Int.eq_ofNat_of_zero_le h.2.2.1
          exact tagOrder_in a b c n' m' w ha hb hc (by omega) (by omega)
        · refine tagOrder_out a b c n m w (.inr (.inr (.inr ?_)))
          rw [ck_yes ha, ck_yes hb, ck_yes hc]
          omega
end Go.Proofs.Ytcpnmbklkjdjlaa
