/- The walks of ambrylaw03.TagSums and TagBodies. -/
import Derived.Test.YtcpnmbklkjdjlaaTagP
namespace Go.Proofs.Ytcpnmbklkjdjlaa
open Go.RowKit
set_option linter.unusedVariables false

theorem sl_conv {w : World} {B : Nat} {v : Value} {l : List UInt8} (h : Sl w B v l) : (convert 22 9 v).run Try.prog w = .ok (.string ⟨l.toArray⟩) w := by
  obtain ⟨A, cap, rfl, hr, _⟩ := h
  exact run_str _ _ _ 5 _ _ _ Try.underlying22 Try.underlying5 Try.underlying9 fun hp => by
    obtain ⟨ad, e, _, _, hc⟩ := hr hp; exact ⟨ad, e, hc⟩

set_option maxRecDepth 100000 in
set_option maxHeartbeats 1000000 in
theorem tagSums_walk (v : Value) (l : List UInt8) (w : World) (hs : Sl w w.heap.size v l) (hb : l.length ≤ 140737488351232) :
    Calls Try.prog 3 #[v] w fun e w' => e = .returned (.bool true) ∧ Below w.heap.size w w' := by
  have HS := Lib.hid hs
  obtain ⟨X, hX⟩ : ∃ X : ByteArray, ⟨l.toArray⟩ = X := ⟨_, rfl⟩
  have hcv : (convert 22 9 v).run Try.prog w.drew = .ok (.string X) w.drew := by rw [← hX]; exact sl_conv (show Sl w.drew w.heap.size v l from hs)
  have HR := Lib.hid (fun w => refSum_any l X hX.symm w (by omega))
  obtain ⟨A, cap, rfl, hr⟩ := hs
  clear hr hX
  go_enter Try.func3, Try.ntmps3
  go_wp2
  go_region_with (first
    | (go_at_call 11; refine (sum_any _ l _ (by omega) (show Sl w.drew w.heap.size _ l from HS.out)).mono ?_; rintro e w1 ⟨rfl, rfl⟩)
    | (go_at_call 12; refine (HR.out _).mono ?_; rintro e w1 ⟨rfl, rfl⟩)
    | (go_at_call 13; refine (lives3_any _).mono ?_; rintro e w2 ⟨rfl, hl⟩))
  all_goals go_wp2_with fail
  all_goals go_ret
  all_goals exact ⟨rfl, (Below.refl _ _).drew.trans hl⟩
end Go.Proofs.Ytcpnmbklkjdjlaa
