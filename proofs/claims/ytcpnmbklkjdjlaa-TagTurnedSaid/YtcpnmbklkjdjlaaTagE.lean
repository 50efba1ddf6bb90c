/- Layer 3: Join of what is no tag; Join in all. -/
import Derived.Test.YtcpnmbklkjdjlaaTagD
namespace Go.Proofs.Ytcpnmbklkjdjlaa
open Go.RowKit
set_option linter.unusedVariables false

theorem ck_yes {a : Int × Int} (h : rt a = true) : ck a = 0 := by unfold ck; rw [if_pos h]
theorem ck_no {a : Int × Int} (h : rt a = false) : ck a = 2 := by unfold ck; rw [h]; rfl

set_option maxHeartbeats 1000000 in
theorem join_no (a b : Int × Int) (n : Int) (h : rt a = false ∨ rt b = false ∨ n < 0) (w : World) :
    Calls Try.prog 16 #[tv a, tv b, .int .i64 n] w fun e w' => e = .returned (.tuple #[tv (0, 0), .int .i64 2]) ∧ Below w.heap.size w w' := by
  have HA := Lib.hid (check_new a)
  have HB := Lib.hid (check_new b)
  have key : (ck a = 2) ∨ (ck a = 0 ∧ ck b = 2) ∨ (ck a = 0 ∧ ck b = 0 ∧ n < 0) := by
    cases ha : rt a
    · exact .inl (ck_no ha)
    · cases hb : rt b
      · exact .inr (.inl ⟨ck_yes ha, ck_no hb⟩)
      · rcases h with h | h | h
        · rw [h] at ha; cases ha
        · rw [h] at hb; cases hb
        · exact .inr (.inr ⟨ck_yes ha, ck_yes hb, h⟩)
  generalize ck a = ka at *
  generalize ck b = kb at *
  obtain ⟨a1, a2⟩ := a
  obtain ⟨b1, b2⟩ := b
  unfold tv at *
  clear h
  rcases key with rfl | ⟨rfl, rfl⟩ | ⟨rfl, rfl, h3⟩
  all_goals
    go_enter Try.func16, Try.ntmps16
    go_wp2_with (first
      | (go_at_call_of 18 (Value.agg #[Value.int .i64 a1, Value.int .i64 a2]); refine (HA.out _).mono ?_; rintro e w1 ⟨rfl, rfl⟩)
      | (go_at_call_of 18 (Value.agg #[Value.int .i64 b1, Value.int .i64 b2]); refine (HB.out _).mono ?_; rintro e w2 ⟨rfl, rfl⟩))
    exact bodyPost_ret (v := .tuple #[.agg #[.int .i64 0, .int .i64 0], .int .i64 2]) (by simp [results, Try.results16, go_sem]) rfl ⟨rfl, by repeat (first | exact Below.refl _ _ | (refine Below.alloc ?_ (by simp; omega) _) | (refine Below.alloc ?_ (by simp) _) | refine Below.drew ?_ | (refine Below.setCell ?_ (by simp; omega) _) | (refine Below.setCell ?_ (by simp) _))⟩

/-- What Join tells. -/
def jok (a b : Int × Int) (n : Int) : Bool := rt a && rt b && decide (0 ≤ n)
def jv (a b : Int × Int) (n : Int) : Int × Int := if jok a b n then jn a b n.toNat else (0, 0)
def je (a b : Int × Int) (n : Int) : Int := if jok a b n then 0 else 2
theorem join_any (a b : Int × Int) (n : Int) (hn : n ≤ 9223372036854775807) (w : World) :
    Calls Try.prog 16 #[tv a, tv b, .int .i64 n] w fun e w' => e = .returned (.tuple #[tv (jv a b n), .int .i64 (je a b n)]) ∧ Below w.heap.size w w' := by
  cases h : jok a b n
  · unfold jv je; rw [h]
    refine join_no a b n ?_ w
    unfold jok at h
    cases ha : rt a
    · exact .inl rfl
    · cases hb : rt b
      · exact .inr (.inl rfl)
      · rw [ha, hb] at h; simp at h; exact .inr (.inr h)
  · unfold jv je; rw [h]
    unfold jok at h
    rw [Bool.and_eq_true, Bool.and_eq_true, decide_eq_true_eq] at h
    have e := Int.toNat_of_nonneg h.2
    have := join_ok a b n.toNat (by omega) h.1.1 h.1.2 w
    rw [e] at this
    exact this
end Go.Proofs.Ytcpnmbklkjdjlaa
