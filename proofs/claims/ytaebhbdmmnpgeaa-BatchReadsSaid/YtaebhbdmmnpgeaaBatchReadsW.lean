/- BatchReads: its walk. -/
import Derived.Test.YtaebhbdmmnpgeaaBtW
namespace Go.Proofs.Ytaebhbdmmnpgeaa
open Go.RowKit Go.Shelf
set_option linter.unusedVariables false
set_option linter.unusedSimpArgs false
set_option maxRecDepth 100000
attribute [local go_sem] Oper.semAt_some

set_option maxHeartbeats 8000000 in
theorem batchReads_of (S : ByteArray) (hS : S.size ≤ 140737488355000) (w : World) :
    Calls Try.prog 3 #[.string S] w fun r w' => r = .returned (.bool true) ∧ Turn (fun _ => False) w w' := by
  go_enter Try.func3, Try.ntmps3
  go_wp2_with fail
  refine (read_15 S hS w).mono ?_
  rintro e w2 ⟨t, v, D, m, er, rfl, hc, hr, _, ht⟩
  obtain ⟨AV, cV, rfl, _⟩ := id hc
  obtain ⟨nD, hnD⟩ : ∃ k, D.length = k := ⟨_, rfl⟩
  rw [hnD] at hc ⊢
  have C2 := Lib.hid hc
  have HND := Lib.hid hnD
  clear hnD
  have R2 := Lib.hid hr
  have T2 := Lib.hid ht
  clear hc hr ht
  go_wp2_with fail
  refine (refRead_15 S hS _).mono ?_
  rintro e w4 ⟨t2, v2, D2, m2, er2, rfl, hc, hr, _, ht⟩
  obtain ⟨e1, e2, e3, e4⟩ := R2.out.inj hr
  subst e1 e2 e3 e4
  obtain ⟨AU, cU, rfl, _⟩ := id hc
  rw [HND.out] at hc ⊢
  have C4 := Lib.hid hc
  have C2b := Lib.hid ((C2.out.still ((Turn.refl _ _).alloc (.cells #[.int .i64 t, .slice AV nD cV] 24))).still ht)
  have T4 := Lib.hid ((T2.out.alloc (.cells #[.int .i64 t, .slice AV nD cV] 24)).trans ht)
  have B4 := Lib.hid ((Blk.new w2 24 [.int .i64 t, .slice AV nD cV]).turn ht (fun h => h))
  have B5 := Lib.hid (B4.out.alloc (.cells #[.int .i64 t, .slice AU nD cU] 24))
  have B6 := Lib.hid (Blk.new w4 24 [.int .i64 t, .slice AU nD cU])
  obtain ⟨y0, y1⟩ := cells2b B5.out
  obtain ⟨z0, z1⟩ := cells2b B6.out
  have HS := Lib.hid (refSame_15 t D _ _ _ (C2b.out.still ((Turn.refl _ _).alloc (.cells #[.int .i64 t, .slice AU nD cU] 24))) (C4.out.still ((Turn.refl _ _).alloc (.cells #[.int .i64 t, .slice AU nD cU] 24))))
  clear hc hr ht
  go_wp2_with (first
    | (go_at_call 14; refine (HS.out).mono ?_; rintro e w5 ⟨rfl, ht5⟩; have T5 := Lib.hid ((T4.out.alloc (.cells #[.int .i64 t, .slice AU nD cU] 24)).trans ht5); clear ht5)
    | (go_at_call 15; refine (lives_15 _).mono ?_; rintro e w6 ⟨rfl, ht6⟩; have T6 := Lib.hid (T5.out.trans ht6); clear ht6))
  go_ret
  exact ⟨rfl, T6.out⟩
theorem batchReads_walk (S : ByteArray) (w : World) (hS : S.size ≤ 140737488351232) :
    Calls Try.prog 3 #[.string S] w fun r w' => r = .returned (.bool true) ∧ Below w.heap.size w w' :=
  (batchReads_of S (by omega) w).mono fun e w' ⟨he, ht⟩ => ⟨he, ht.below (Nat.le_refl _) (fun _ h => h.elim)⟩
end Go.Proofs.Ytaebhbdmmnpgeaa
