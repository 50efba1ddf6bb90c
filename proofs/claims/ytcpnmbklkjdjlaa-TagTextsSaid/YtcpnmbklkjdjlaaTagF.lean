/- Layer 3: the document's answer: left, turn, times, Right, Check. -/
import Derived.Test.YtcpnmbklkjdjlaaTagE
namespace Go.Proofs.Ytcpnmbklkjdjlaa
open Go.RowKit
set_option linter.unusedVariables false

set_option maxHeartbeats 400000 in
theorem left_any (n : Int) (h0 : -9223372036854775808 ≤ n) (h1 : n ≤ 9223372036854775807) (w : World) : Calls Try.prog 29 #[.int .i64 n] w fun e w' => e = .returned (.int .i64 (left n)) ∧ w = w' := by
  by_cases hn : 0 ≤ n
  · have HL := Lib.hid (show (n % 1048573 + 1048573) % 1048573 = left n from by unfold left; omega)
    go_enter Try.func29, Try.ntmps29
    go_wp2
    go_ret
    exact ⟨by rw [← HL.out]; rfl, rfl⟩
  · have ht := tmod_below n (by omega)
    obtain ⟨m, hm⟩ : ∃ m, (-n) % 1048573 = m := ⟨_, rfl⟩
    have hm0 : 0 ≤ m := by omega
    have hm1 : m < 1048573 := by omega
    rw [hm] at ht
    have HL := Lib.hid (show (-m + 1048573) % 1048573 = left n from by unfold left; omega)
    clear hm hn
    go_enter Try.func29, Try.ntmps29
    go_wp2
    go_ret
    exact ⟨by rw [← HL.out]; rfl, rfl⟩

theorem wrap_of (n : Int) (h0 : -9223372036854775808 ≤ n) (h1 : n ≤ 9223372036854775807) : IntKind.i64.wrap n = n := by rw [IntKind.wrap_i64]; omega

set_option maxRecDepth 100000 in
set_option maxHeartbeats 1000000 in
theorem turn_any (a : Int × Int) (ha : (0 ≤ a.1 ∧ a.1 < 1048573) ∧ 0 ≤ a.2 ∧ a.2 < 1048573) (w : World) :
    Calls Try.prog 28 #[tv a] w fun e w' => e = .returned (tv (left (3 * a.1 - 2 * a.2), left (2 * a.1 + 3 * a.2))) ∧ Below w.heap.size w w' := by
  obtain ⟨a1, a2⟩ := a
  simp only at ha
  unfold tv
  have HL1 := Lib.hid (left_any (3 * a1 - 2 * a2) (by omega) (by omega))
  have HL2 := Lib.hid (left_any (2 * a1 + 3 * a2) (by omega) (by omega))
  have e1 := wrap_of (3 * a1) (by omega) (by omega)
  have e2 := wrap_of (2 * a2) (by omega) (by omega)
  have e3 := wrap_of (3 * a1 - 2 * a2) (by omega) (by omega)
  have e4 := wrap_of (2 * a1) (by omega) (by omega)
  have e5 := wrap_of (3 * a2) (by omega) (by omega)
  have e6 := wrap_of (2 * a1 + 3 * a2) (by omega) (by omega)
  clear ha
  go_enter Try.func28, Try.ntmps28
  go_wp2
  refine wp_region_still_tail 16 (by kernel_rfl) (by kernel_rfl) ?_
  simp only [List.take_succ_cons, List.take_zero, List.drop_succ_cons, List.drop_zero]
  change wpStill _ _ (World.drew _) _ _ _
  repeat still_step
  still_call ((HL1.out _).mono fun _ _ h => ⟨h.1, h.2.symm⟩)
  repeat still_step
  still_call ((HL2.out _).mono fun _ _ h => ⟨h.1, h.2.symm⟩)
  repeat still_step
  refine wpStill_nil ?_
  change wpList _ _ _ _ _ (World.drew _)
  go_wp2
  exact bodyPost_ret (v := .agg #[.int .i64 (left (3 * a1 - 2 * a2)), .int .i64 (left (2 * a1 + 3 * a2))]) (by simp [results, Try.results28, go_sem]) rfl ⟨rfl, by repeat (first | exact Below.refl _ _ | (refine Below.alloc ?_ (by simp; omega) _) | (refine Below.alloc ?_ (by simp) _) | refine Below.drew ?_ | (refine Below.setCell ?_ (by simp; omega) _) | (refine Below.setCell ?_ (by simp) _))⟩

set_option maxRecDepth 100000 in
set_option maxHeartbeats 1000000 in
theorem times_any (a b : Int × Int) (ha : (0 ≤ a.1 ∧ a.1 < 1048573) ∧ 0 ≤ a.2 ∧ a.2 < 1048573) (hb : (0 ≤ b.1 ∧ b.1 < 1048573) ∧ 0 ≤ b.2 ∧ b.2 < 1048573) (w : World) :
    Calls Try.prog 33 #[tv a, tv b] w fun e w' => e = .returned (tv (gr (gm a b))) ∧ Below w.heap.size w w' := by
  obtain ⟨a1, a2⟩ := a
  obtain ⟨b1, b2⟩ := b
  simp only at ha hb
  unfold tv gr gm
  have h1 := prod_small a1 b1 ha.1 hb.1
  have h2 := prod_small a2 b2 ha.2 hb.2
  have h3 := prod_small a1 b2 ha.1 hb.2
  have h4 := prod_small a2 b1 ha.2 hb.1
  have HL1 := Lib.hid (left_any (a1 * b1 - a2 * b2) (by omega) (by omega))
  have HL2 := Lib.hid (left_any (a1 * b2 + a2 * b1) (by omega) (by omega))
  have e1 := wrap_of (a1 * b1) (by omega) (by omega)
  have e2 := wrap_of (a2 * b2) (by omega) (by omega)
  have e3 := wrap_of (a1 * b1 - a2 * b2) (by omega) (by omega)
  have e4 := wrap_of (a1 * b2) (by omega) (by omega)
  have e5 := wrap_of (a2 * b1) (by omega) (by omega)
  have e6 := wrap_of (a1 * b2 + a2 * b1) (by omega) (by omega)
  clear ha hb h1 h2 h3 h4
  go_enter Try.func33, Try.ntmps33
  go_wp2
  refine wp_region_still_tail 24 (by kernel_rfl) (by kernel_rfl) ?_
  simp only [List.take_succ_cons, List.take_zero, List.drop_succ_cons, List.drop_zero]
  change wpStill _ _ (World.drew _) _ _ _
  repeat still_step
  still_call ((HL1.out _).mono fun _ _ h => ⟨h.1, h.2.symm⟩)
  repeat still_step
  still_call ((HL2.out _).mono fun _ _ h => ⟨h.1, h.2.symm⟩)
  repeat still_step
  refine wpStill_nil ?_
  change wpList _ _ _ _ _ (World.drew _)
  go_wp2
  exact bodyPost_ret (v := .agg #[.int .i64 (left (a1 * b1 - a2 * b2)), .int .i64 (left (a1 * b2 + a2 * b1))]) (by simp [results, Try.results33, go_sem]) rfl ⟨rfl, by repeat (first | exact Below.refl _ _ | (refine Below.alloc ?_ (by simp; omega) _) | (refine Below.alloc ?_ (by simp) _) | refine Below.drew ?_ | (refine Below.setCell ?_ (by simp; omega) _) | (refine Below.setCell ?_ (by simp) _))⟩
end Go.Proofs.Ytcpnmbklkjdjlaa
