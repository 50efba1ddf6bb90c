/- The walk of ambrylaw03.TagBodies. -/
import Derived.Test.YtcpnmbklkjdjlaaTagSumsW
namespace Go.Proofs.Ytcpnmbklkjdjlaa
open Go.RowKit
set_option linter.unusedVariables false

set_option maxRecDepth 100000 in
set_option maxHeartbeats 2000000 in
theorem tagBodies_walk (v : Value) (l : List UInt8) (w : World) (hs : Sl w w.heap.size v l) (hb : l.length ≤ 140737488351232) :
    Calls Try.prog 4 #[v] w fun e w' => e = .returned (.bool true) ∧ Below w.heap.size w w' := by
  have HS : Hid (Sl w.drew w.heap.size v l) := hs
  obtain ⟨X, hX⟩ : ∃ X : ByteArray, ⟨l.toArray⟩ = X := ⟨_, rfl⟩
  have HX := Lib.hid hX
  have hcv : (convert 22 9 v).run Try.prog w.drew = .ok (.string X) w.drew := by rw [← hX]; exact sl_conv HS.out
  have HR := Lib.hid (fun w => refOf_any l X hX.symm w (by omega))
  obtain ⟨T, hT⟩ : ∃ T, tagl l = T := ⟨_, rfl⟩
  have HO := Lib.hid (fun (w : World) (h : Sl w w.heap.size v l) => of_any v l w (by omega) h)
  rw [hT] at HR HO
  obtain ⟨A, cap, rfl, hr⟩ := hs
  obtain ⟨t1, t2⟩ := T
  unfold tv at HR HO
  clear hr hX hT
  have hB0 : Hid (Below w.heap.size w w.drew) := (Below.refl _ _).drew
  go_enter Try.func4, Try.ntmps4
  go_wp2
  go_region_with (first
    | (go_at_call 14; refine (HO.out _ (by first | exact HS.out | exact HS2.out.more hb2.size)).mono ?_; rintro e w1 ⟨rfl, hb1⟩; have hB1 : Hid (Below w.heap.size w w1) := (by first | exact hB0.out.trans (hb1.mono (Nat.le_refl _)) | exact hB2.out.trans (hb1.mono hB2.out.size)); (try (have hcv1 : (convert 22 9 (.slice A l.length cap)).run Try.prog w1 = .ok (.string X) w1 := (by rw [← HX.out]; exact sl_conv (HS.out.below hb1 (Nat.le_refl _))))))
    | (go_at_call 15; refine (HR.out _).mono ?_; rintro e w2 ⟨rfl, hb2⟩; have hB2 : Hid (Below w.heap.size w w2) := (by first | exact hB0.out.trans (hb2.mono (Nat.le_refl _)) | exact hB1.out.trans (hb2.mono hB1.out.size)); (try (have HS2 := Lib.hid (HS.out.below hb2 (Nat.le_refl _)))))
    | (go_at_call 13; refine (lives3_any _).mono ?_; rintro e w3 ⟨rfl, hl⟩))
  all_goals go_wp2_with fail
  all_goals go_ret
  all_goals first
    | exact ⟨rfl, hB2.out.trans (hl.mono hB2.out.size)⟩
    | exact ⟨rfl, hB1.out.trans (hl.mono hB1.out.size)⟩
end Go.Proofs.Ytcpnmbklkjdjlaa
