/- Layer 3: Check, Join. -/
import Derived.Test.YtcpnmbklkjdjlaaTagC
import Derived.Deep.RegionWith
import Derived.Deep.RegionHeld3
namespace Go.Proofs.Ytcpnmbklkjdjlaa
open Go.RowKit
set_option linter.unusedVariables false

def pr (p : Int) : Bool := decide (0 ≤ p ∧ p < 1048573)
def rt (t : Int × Int) : Bool := pr t.1 && pr t.2
theorem pr_yes {p : Int} (h : pr p = true) : 0 ≤ p ∧ p < 1048573 := by unfold pr at h; simpa using h
theorem rt_yes {t : Int × Int} (h : rt t = true) : (0 ≤ t.1 ∧ t.1 < 1048573) ∧ 0 ≤ t.2 ∧ t.2 < 1048573 := by
  unfold rt at h; rw [Bool.and_eq_true] at h; exact ⟨pr_yes h.1, pr_yes h.2⟩
theorem rt_of {t : Int × Int} (h : (0 ≤ t.1 ∧ t.1 < 1048573) ∧ 0 ≤ t.2 ∧ t.2 < 1048573) : rt t = true := by
  unfold rt pr; simp [h.1, h.2]
/-- The error of a tag. -/
def ck (t : Int × Int) : Int := if rt t then 0 else 2

theorem right_any (p : Int) (w : World) : Calls Try.prog 35 #[.int .i64 p] w fun e w' => e = .returned (.bool (pr p)) ∧ w = w' := by
  by_cases h0 : 0 ≤ p
  · by_cases h1 : p < 1048573
    · have HP := Lib.hid (show pr p = true from by unfold pr; simp [h0, h1])
      go_enter Try.func35, Try.ntmps35
      go_wp2
      go_ret
      exact ⟨by rw [HP.out]; rfl, rfl⟩
    · have HP := Lib.hid (show pr p = false from by unfold pr; simp; omega)
      have h1' : 1048573 ≤ p := by omega
      clear h1
      go_enter Try.func35, Try.ntmps35
      have h1'' : decide (p < 1048573) = false := by simp; omega
      go_wp2
      go_ret
      exact ⟨by rw [HP.out]; simp, rfl⟩
  · have HP := Lib.hid (show pr p = false from by unfold pr; simp; omega)
    have h0' : p < 0 := by omega
    clear h0
    go_enter Try.func35, Try.ntmps35
    go_wp2
    go_ret
    exact ⟨by rw [HP.out]; rfl, rfl⟩

set_option maxHeartbeats 400000 in
theorem check_new (t : Int × Int) (w : World) : Calls Try.prog 18 #[tv t] w fun e w' => e = .returned (.int .i64 (ck t)) ∧ w' = w.alloc (.cells #[.int .i64 t.1, .int .i64 t.2] 28) := by
  obtain ⟨a, b⟩ := t
  unfold tv
  have HK : Hid (ck (a, b) = if pr a && pr b then 0 else 2) := rfl
  have HA := Lib.hid (right_any a)
  have HB := Lib.hid (right_any b)
  generalize pr a = p at *
  generalize pr b = q at *
  cases p <;> cases q
  all_goals
    go_enter Try.func18, Try.ntmps18
    go_wp2_with (first
      | (go_at_call_of 35 (Value.int .i64 a); refine (HA.out _).mono ?_; rintro e w' ⟨rfl, rfl⟩)
      | (go_at_call_of 35 (Value.int .i64 b); refine (HB.out _).mono ?_; rintro e w' ⟨rfl, rfl⟩))
    go_ret
    exact ⟨by rw [HK.out]; rfl, rfl⟩

set_option maxHeartbeats 1000000 in
theorem join_ok (a b : Int × Int) (n : Nat) (hn : n < 9223372036854775808) (ha : rt a = true) (hb : rt b = true) (w : World) :
    Calls Try.prog 16 #[tv a, tv b, .int .i64 n] w fun e w' => e = .returned (.tuple #[tv (jn a b n), .int .i64 0]) ∧ Below w.heap.size w w' := by
  have HA := Lib.hid (rt_yes ha)
  have HB := Lib.hid (rt_yes hb)
  have HKA := Lib.hid (show ck a = 0 from by unfold ck; rw [if_pos ha])
  have HKB := Lib.hid (show ck b = 0 from by unfold ck; rw [if_pos hb])
  have HQ := Lib.hid (gq_lt n)
  have HJ := Lib.hid (jn_q a b n)
  clear ha hb
  have HP := Lib.hid (power_any n hn)
  generalize gq n = Q at *
  obtain ⟨a1, a2⟩ := a
  obtain ⟨b1, b2⟩ := b
  have hm1 : ∀ W : World, _ := run_cmul (a1, a2) Q HA.out HQ.out
  have hg := gm_small (a1, a2) Q HA.out HQ.out
  have ho : b1.natAbs < 1048577 ∧ b2.natAbs < 1048577 := by have := HB.out; simp only at this; omega
  have hm2 : ∀ W : World, _ := run_cadd (gm (a1, a2) Q) (b1, b2) hg ho
  have hs2 := ga_small _ (b1, b2) hg ho
  have HR := Lib.hid (gr_lt (ga (gm (a1, a2) Q) (b1, b2)))
  simp only at hm1 hm2
  unfold tv
  go_enter Try.func16, Try.ntmps16
  go_wp2_with (first
    | (go_at_call_of 18 (Value.agg #[Value.int .i64 a1, Value.int .i64 a2]); refine (check_new (a1, a2) _).mono ?_; rintro e w1 ⟨rfl, rfl⟩; rw [HKA.out])
    | (go_at_call_of 18 (Value.agg #[Value.int .i64 b1, Value.int .i64 b2]); refine (check_new (b1, b2) _).mono ?_; rintro e w2 ⟨rfl, rfl⟩; rw [HKB.out]))
  go_region_with (first
    | (go_at_call_of 30 (Value.agg #[Value.int .i64 a1, Value.int .i64 a2]); refine (numberOf_new a1 a2 _).mono ?_; rintro e w' ⟨rfl, rfl⟩)
    | (go_at_call_of 30 (Value.agg #[Value.int .i64 b1, Value.int .i64 b2]); refine (numberOf_new b1 b2 _).mono ?_; rintro e w' ⟨rfl, rfl⟩)
    | (go_at_call 31; refine (HP.out _).mono ?_; rintro e w' ⟨rfl, rfl⟩)
    | (go_at_call 25; refine (reduce_any _ _ hs2.1 hs2.2 _).mono ?_; rintro e w' ⟨rfl, rfl⟩)
    | (go_at_call 27; refine (tagOf_new _ _ (by have := HR.out.1; unfold gr at this; simp only at this; omega) (by have := HR.out.2; unfold gr at this; simp only at this; omega) _).mono ?_; rintro e w' ⟨rfl, rfl⟩))
  all_goals go_wp2_with fail
  all_goals rw [← HJ.out]
  all_goals exact bodyPost_ret (v := .tuple #[.agg #[.int .i64 (left (ga (gm (a1, a2) Q) (b1, b2)).1), .int .i64 (left (ga (gm (a1, a2) Q) (b1, b2)).2)], .int .i64 0]) (by simp [results, Try.results16, go_sem]) rfl ⟨rfl, by repeat (first | exact Below.refl _ _ | (refine Below.alloc ?_ (by simp; omega) _) | (refine Below.alloc ?_ (by simp) _) | refine Below.drew ?_ | (refine Below.setCell ?_ (by simp; omega) _) | (refine Below.setCell ?_ (by simp) _))⟩
end Go.Proofs.Ytcpnmbklkjdjlaa
