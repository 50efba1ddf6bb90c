/- Layer 3: the law's examples (lives). -/
import Derived.Test.YtcpnmbklkjdjlaaTagO
import Derived.Test.YtcpnmbklkjdjlaaTagA
namespace Go.Proofs.Ytcpnmbklkjdjlaa
open Go.RowKit
set_option linter.unusedVariables false

theorem sl_mark (w : World) (l : List UInt8) (n : Nat) (C : Array Value) (fr : Nat × Nat) (hC : C = (bv l).toArray) (hn : l.length = n) (B : Nat) (hB : w.heap.size < B) (hm : n ≤ maxLen) :
    Sl (w.alloc (.cells C 5 fr)) B (.slice (some ⟨w.heap.size, 0, none⟩) n n) l := by
  subst hn hC
  refine ⟨_, _, rfl, fun _ => ⟨_, rfl, rfl, hB, fun j c hj => ?_⟩, hm, (fun h => by cases h), Nat.le_refl _⟩
  rw [show (⟨w.heap.size, 0, none⟩ : Addr).add j = ⟨w.heap.size, j, none⟩ from by unfold Addr.add; split <;> simp_all, World.cell?_alloc_mark]
  rw [List.getElem?_toArray, bv_at, hj]; rfl
theorem sl_nil (w : World) (B : Nat) : Sl w B (.slice none 0 0) [] := ⟨none, 0, rfl, Rd.nil _ _ _, by simp [maxLen], fun _ => ⟨rfl, rfl⟩, Nat.le_refl _⟩
theorem lv_sum : csum [49, 50, 51, 52, 53, 54, 55, 56, 57] = 3808858755 := by decide +kernel
theorem lv_ab : tagl [97, 98] = (75, 831) := by decide +kernel
theorem lv_a : tagl [97] = (98, 159) := by decide +kernel
theorem lv_nil : tagl [] = (0, 0) := rfl
theorem lv_text : txt (75, 831) = ⟨#[48, 48, 48, 52, 98, 48, 48, 51, 51, 102]⟩ := by decide +kernel
theorem lv_ck : ck (75, 831) = 0 := by decide +kernel

set_option maxRecDepth 100000 in
set_option maxHeartbeats 1000000 in
theorem lives3_any (w : World) : Calls Try.prog 13 #[] w fun e w' => e = .returned (.bool true) ∧ Below w.heap.size w w' := by
  have HT := Lib.hid (text_any (75, 831))
  rw [lv_text, lv_ck] at HT
  unfold tv at HT
  have HS := Lib.hid (sum_any (l := [49, 50, 51, 52, 53, 54, 55, 56, 57]))
  rw [lv_sum] at HS
  have HAB := Lib.hid (of_any (l := [97, 98]))
  have HA := Lib.hid (of_any (l := [97]))
  have HN := Lib.hid (of_any (l := []))
  rw [lv_ab] at HAB
  rw [lv_a] at HA
  rw [lv_nil] at HN
  unfold tv at HAB HA HN
  go_enter Try.func13, Try.ntmps13
  have kc := fun (w : World) (C : Array Value) (n c : Nat) => Lib.run_convert_bytes_const (P := Try.prog) w 22 5 C n c Try.underlying22 Try.underlying5
  go_wp2_with fail
  refine (HAB.out _ _ (by simp) (sl_mark w [97, 98] 2 _ _ rfl rfl _ (by simp) (by decide))).mono ?_
  rintro e w1 ⟨rfl, hb1⟩
  go_wp2_with fail
  refine (HT.out _).mono ?_
  rintro e w2 ⟨rfl, hb2⟩
  go_wp2_with fail
  refine (HS.out _ _ (by simp) (sl_mark w2 [49, 50, 51, 52, 53, 54, 55, 56, 57] 9 _ _ rfl rfl _ (by simp) (by decide))).mono ?_
  rintro e w3 ⟨rfl, rfl⟩
  go_wp2_with fail
  refine (HN.out _ _ (by simp) (sl_nil _ _)).mono ?_
  rintro e w4 ⟨rfl, hb4⟩
  go_wp2_with fail
  refine (HA.out _ _ (by simp) (sl_mark w4 [97] 1 _ _ rfl rfl _ (by simp) (by decide))).mono ?_
  rintro e w5 ⟨rfl, hb5⟩
  go_wp2_with fail
  refine (HAB.out _ _ (by simp) (sl_mark w5 [97, 98] 2 _ _ rfl rfl _ (by simp) (by decide))).mono ?_
  rintro e w6 ⟨rfl, hb6⟩
  go_wp2_with fail
  go_ret
  have b1 := ((Below.refl w.heap.size w).alloc (Nat.le_refl _) _).trans (hb1.mono (by simp))
  have b2 := b1.trans (hb2.mono b1.size)
  have b4 := (b2.alloc b2.size _).trans (hb4.mono (by have := b2.size; simp; omega))
  have b5 := (b4.alloc b4.size _).trans (hb5.mono (by have := b4.size; simp; omega))
  have b6 := (b5.alloc b5.size _).trans (hb6.mono (by have := b5.size; simp; omega))
  exact ⟨rfl, b6⟩
end Go.Proofs.Ytcpnmbklkjdjlaa
