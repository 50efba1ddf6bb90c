/- The walk of ambrylaw05.SlotCuts. -/
import Derived.Test.YtpccelebidiekaaSltS
import Derived.Test.YtpccelebidiekaaFrame
namespace Go.Proofs.Ytpccelebidiekaa
open Go.RowKit
set_option linter.unusedVariables false
set_option maxRecDepth 100000

/-- What both Cuts tell of one record: the same slots, the same error. -/
theorem cuts_both (S : ByteArray) (e q : Int) (hq1 : -9223372036854775808 ≤ q) (hq2 : q ≤ 9223372036854775807) : ∃ (R : List St) (x : Int), R.length ≤ 1000000 ∧
    (∀ w, Calls Try.prog 19 #[.string S, .int .i64 e, .int .i64 q] w fun r w' => ∃ v, r = .returned (.tuple #[v, .int .i64 x]) ∧ Row5 w' v R ∧ Below w.heap.size w w') ∧
    (∀ w, Calls Try.prog 20 #[.string S, .int .i64 e, .int .i64 q] w fun r w' => ∃ v, r = .returned (.tuple #[v, .int .i64 x]) ∧ Row5 w' v R ∧ Below w.heap.size w w') := by
  by_cases hS : 16384 < S.size
  · exact ⟨[], 5, by simp, fun w => (cut5_big S hS e q w).mono (fun r w' h => ⟨_, h.1, Row5.nil _ _ _, h.2⟩), fun w => (refCut5_big S hS e q w).mono (fun r w' h => ⟨_, h.1, Row5.nil _ _ _, by rw [h.2]; exact Below.refl _ _⟩)⟩
  · have hok := ok5_raw e q S hq1 hq2 (by omega)
    have hcn := pcs5_count S.size S rfl
    by_cases hb : 0 ≤ e ∧ e ≤ 2147483647 ∧ 0 ≤ q ∧ q ≤ 1152921504606846976 - ((pcs5 S).length : Int) + 1
    · rw [decide_eq_true hb] at hok
      refine ⟨mk5 (raw5 e q (pcs5 S)), 0, by rw [len_mk5, len_raw5]; omega, fun w => (cut5_any S (by omega) e q w).mono ?_, fun w => (refCut5_ok S (by omega) e q w hb).mono ?_⟩
      · rintro r w' ⟨hb1, ⟨h0, _⟩ | ⟨_, v, h1, h2⟩⟩
        · rw [hok] at h0; cases h0
        · exact ⟨v, h1, Row5.own h2 (len_mk5 _), hb1⟩
      · rintro r w' ⟨v, h1, h2, h3⟩
        exact ⟨v, h1, Row5.own h2 (by rw [len_mk5, len_raw5]), h3⟩
    · rw [decide_eq_false hb] at hok
      refine ⟨[], 2, by simp, fun w => (cut5_any S (by omega) e q w).mono ?_, fun w => (refCut5_bad S (by omega) e q w hb).mono (fun r w' h => ⟨_, h.1, Row5.nil _ _ _, by rw [h.2]; exact Below.refl _ _⟩)⟩
      rintro r w' ⟨hb1, ⟨_, h1⟩ | ⟨h0, _⟩⟩
      · exact ⟨_, h1, Row5.nil _ _ _, hb1⟩
      · rw [hok] at h0; cases h0

set_option maxHeartbeats 2000000 in
theorem slotCuts_walk (S : ByteArray) (e q : Int) (w : World) (_ : S.size ≤ 140737488351232) (_ : (Lit.int .i64 e).wf = true) (hq : (Lit.int .i64 q).wf = true) :
    Calls Try.prog 5 #[.string S, .int .i64 e, .int .i64 q] w fun e w' => e = .returned (.bool true) ∧ Below w.heap.size w w' := by
  obtain ⟨R, x, hR, hc, hr⟩ := cuts_both S e q (wf_i64 hq).1 (wf_i64 hq).2
  have HC := Lib.hid hc
  have HR := Lib.hid hr
  clear hc hr
  have hx : (x == x) = true := by simp
  go_enter Try.func5, Try.ntmps5
  go_wp2_with fail
  refine (HC.out _).mono ?_
  rintro e w1 ⟨v1, rfl, r1, hb1⟩
  have R1 := Lib.hid r1
  have B1 := Lib.hid hb1
  clear r1 hb1
  go_wp2_with fail
  refine (HR.out _).mono ?_
  rintro e w2 ⟨v2, rfl, r2, hb2⟩
  have R2 := Lib.hid r2
  have R1b := Lib.hid (R1.out.below hb2 (Nat.le_refl _))
  have B2 := Lib.hid (bthen B1.out B1.out.size hb2)
  clear r2 hb2
  go_wp2_with fail
  refine (refSame5 R hR v1 v2 _ R1b.out R2.out).mono ?_
  rintro e w3 ⟨rfl, hb3⟩
  have B3 := Lib.hid (bthen B2.out B2.out.size hb3)
  clear hb3
  go_wp2_with fail
  refine (lives5_any _).mono ?_
  rintro e w4 ⟨rfl, hb4⟩
  have B4 := Lib.hid (bthen B3.out B3.out.size hb4)
  clear hb4
  go_wp2_with fail
  go_ret
  exact ⟨rfl, B4.out⟩
end Go.Proofs.Ytpccelebidiekaa
