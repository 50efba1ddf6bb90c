/- Layer 3: Text and Parse, by the program and by the document. -/
import Derived.Test.YtcpnmbklkjdjlaaTagL
namespace Go.Proofs.Ytcpnmbklkjdjlaa
open Go.RowKit
set_option linter.unusedVariables false

/-- A tag's text, or none. -/
def txl (t : Int × Int) : List UInt8 := if rt t then hex5 t.1.toNat ++ hex5 t.2.toNat else []
def txt (t : Int × Int) : ByteArray := ⟨(txl t).toArray⟩
theorem txl_yes {t : Int × Int} (h : rt t = true) : txl t = hex5 t.1.toNat ++ hex5 t.2.toNat := by unfold txl; rw [if_pos h]
theorem txl_no {t : Int × Int} (h : rt t = false) : txl t = [] := by unfold txl; rw [h]; rfl

set_option maxRecDepth 100000 in
set_option maxHeartbeats 1000000 in
theorem text_any (t : Int × Int) (w : World) : Calls Try.prog 20 #[tv t] w fun e w' => e = .returned (.tuple #[.string (txt t), .int .i64 (ck t)]) ∧ Below w.heap.size w w' := by
  have HC := Lib.hid (check_new t)
  cases h : rt t
  · have HK := Lib.hid (ck_no h)
    have HT : Hid (txt t = ⟨#[]⟩) := by show _ = _; unfold txt; rw [txl_no h]
    rw [HK.out] at HC ⊢
    rw [HT.out]
    obtain ⟨a, b⟩ := t
    unfold tv at *
    clear h
    go_enter Try.func20, Try.ntmps20
    go_wp2_with (go_at_call 18; refine (HC.out _).mono ?_; rintro e w1 ⟨rfl, rfl⟩)
    go_ret2
    exact ⟨rfl, ((Below.refl _ _).alloc (Nat.le_refl _) _).alloc (by simp) _⟩
  · have HK := Lib.hid (ck_yes h)
    have HT : Hid (txt t = ⟨(hex5 t.1.toNat ++ hex5 t.2.toNat).toArray⟩) := by show _ = _; unfold txt; rw [txl_yes h]
    rw [HK.out] at HC ⊢
    rw [HT.out]
    have hr := rt_yes h
    obtain ⟨a, b⟩ := t
    obtain ⟨m, rfl⟩ := Int.eq_ofNat_of_zero_le hr.1.1
    obtain ⟨n, rfl⟩ := Int.eq_ofNat_of_zero_le hr.2.1
    simp only [Int.toNat_natCast] at hr ⊢
    unfold tv at *
    clear h
    obtain ⟨X, hX⟩ : ∃ X : ByteArray, ⟨(hex5 m ++ hex5 n).toArray⟩ = X := ⟨_, rfl⟩
    have HX := Lib.hid hX
    have E10 := Lib.hid (show (([] : List UInt8) ++ hex5 m ++ hex5 n).length = 10 from by simp [len_hex5])
    rw [hX]
    clear hX
    go_enter Try.func20, Try.ntmps20
    go_wp2_with (go_at_call 18; refine (HC.out _).mono ?_; rintro e w1 ⟨rfl, rfl⟩)
    go_region_with (first
      | (go_at_call_of 36 (Value.slice none 0 0); refine (appendPart_any _ [] m (by omega) (by simp) _ (w.heap.size + 2) (by simp) (World.ownsRow_nil _ _ _ _)).mono ?_; rintro e w1 ⟨v1, rfl, ho1, hb1⟩; have HO1 := Lib.hid ho1; clear ho1; obtain ⟨hc1, hf1⟩ := bcell hb1; have hs1 := hb1.size; (try simp at hs1))
      | (go_at_call 36; refine (appendPart_any _ ([] ++ hex5 m) n (by omega) (by simp [len_hex5]) _ (w.heap.size + 2) (by omega) HO1.out).mono ?_; rintro e w2 ⟨v2, rfl, ho2, hb2⟩; rw [E10.out] at ho2; obtain ⟨A, cap, rfl, hcv⟩ := made_str' 10 (hex5 m ++ hex5 n) (by simp [len_hex5]) ho2; rw [HX.out] at hcv))
    all_goals go_wp2_with fail
    all_goals go_ret2
    all_goals exact ⟨rfl, (((((Below.refl _ _).alloc (Nat.le_refl _) _).alloc (by simp) _).drew).trans (hb1.mono (by omega))).trans (hb2.mono (by omega))⟩

set_option maxRecDepth 100000 in
set_option maxHeartbeats 1000000 in
theorem refText_any (t : Int × Int) (w : World) : Calls Try.prog 21 #[tv t] w fun e w' => e = .returned (.tuple #[.string (txt t), .int .i64 (ck t)]) ∧ Below w.heap.size w w' := by
  have HC := Lib.hid (refRight_new t)
  cases h : rt t
  · have HK := Lib.hid (ck_no h)
    have HT : Hid (txt t = ⟨#[]⟩) := by show _ = _; unfold txt; rw [txl_no h]
    rw [h] at HC
    rw [HT.out, HK.out]
    obtain ⟨a, b⟩ := t
    unfold tv at *
    clear h
    go_enter Try.func21, Try.ntmps21
    go_wp2_with (go_at_call 32; refine (HC.out _).mono ?_; rintro e w1 ⟨rfl, rfl⟩)
    go_ret2
    exact ⟨rfl, ((Below.refl _ _).alloc (Nat.le_refl _) _).alloc (by simp) _⟩
  · have HK := Lib.hid (ck_yes h)
    have HT : Hid (txt t = ⟨(hex5 t.1.toNat ++ hex5 t.2.toNat).toArray⟩) := by show _ = _; unfold txt; rw [txl_yes h]
    rw [h] at HC
    rw [HT.out, HK.out]
    have hr := rt_yes h
    obtain ⟨a, b⟩ := t
    obtain ⟨m, rfl⟩ := Int.eq_ofNat_of_zero_le hr.1.1
    obtain ⟨n, rfl⟩ := Int.eq_ofNat_of_zero_le hr.2.1
    simp only [Int.toNat_natCast] at hr ⊢
    unfold tv at *
    clear h
    have HM := Lib.hid (digits_any m (by omega))
    have HN := Lib.hid (digits_any n (by omega))
    obtain ⟨X, hX⟩ : ∃ X : ByteArray, ⟨(hex5 m).toArray⟩ = X := ⟨_, rfl⟩
    obtain ⟨Y, hY⟩ : ∃ Y : ByteArray, ⟨(hex5 n).toArray⟩ = Y := ⟨_, rfl⟩
    rw [hX] at HM
    rw [hY] at HN
    have hXs : X.size = 5 := by rw [← hX]; simpa [ByteArray.size] using len_hex5 m
    have hYs : Y.size = 5 := by rw [← hY]; simpa [ByteArray.size] using len_hex5 n
    have hsum : ¬ (9223372036854775807 : Int) < (X.size : Int) + Y.size := by omega
    have hcat : ∀ W, (Op.stringOp .add X Y).run Try.prog W = .ok (.string (X ++ Y)) W := fun W => run_string_add_sum W X Y (by omega)
    have hcat2 : ((X.size : Int) + Y.size > 9223372036854775807) = False := by simp; omega
    have hcat3 : decide ((9223372036854775807 : Int) < (X.size : Int) + Y.size) = false := by simp; omega
    have HXY : Hid ((⟨(hex5 m ++ hex5 n).toArray⟩ : ByteArray) = X ++ Y) := by show _ = _; rw [← hX, ← hY]; apply ByteArray.ext; simp
    rw [HXY.out]
    clear hX hY hXs hYs hr
    go_enter Try.func21, Try.ntmps21
    go_wp2_with (go_at_call 32; refine (HC.out _).mono ?_; rintro e w1 ⟨rfl, rfl⟩)
    refine wp_region_still_tail 7 (by kernel_rfl) (by kernel_rfl) ?_
    simp only [List.take_succ_cons, List.take_zero, List.drop_succ_cons, List.drop_zero]
    change wpStill _ _ (World.drew _) _ _ _
    repeat still_step
    still_call ((HM.out _).mono fun _ _ h => ⟨h.1, h.2.symm⟩)
    repeat still_step
    still_call ((HN.out _).mono fun _ _ h => ⟨h.1, h.2.symm⟩)
    repeat still_step
    refine wpStill_nil ?_
    change wpList _ _ _ _ _ (World.drew _)
    go_wp2
    go_ret2
    exact ⟨rfl, by repeat (first | exact Below.refl _ _ | (refine Below.alloc ?_ (by simp; omega) _) | (refine Below.alloc ?_ (by simp) _) | refine Below.drew ?_ | refine bdrewN ?_)⟩
end Go.Proofs.Ytcpnmbklkjdjlaa
