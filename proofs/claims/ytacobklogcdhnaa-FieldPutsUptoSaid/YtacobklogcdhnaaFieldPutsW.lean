/- The walk of ambrylaw01.FieldPuts. -/
import Derived.Test.YtacobklogcdhnaaFieldRowsW
import Derived.Test.YtacobklogcdhnaaApp2
import Derived.Deep.RegionLaw
namespace Go.Proofs.Ytacobklogcdhnaa
open Go.RowKit
set_option linter.unusedVariables false

set_option maxHeartbeats 8000000 in
theorem fieldPuts_walk (v0 : Value) (l : List UInt8) (n : Int) (s : ByteArray) (w : World) (s0 : Sl w w.heap.size v0 l) (b0 : l.length ≤ 1048576) (w1 : (Lit.int .i64 n).wf = true) (b2 : s.size ≤ 1048576) :
    Calls Try.prog 3 #[v0, .int .i64 n, .string s] w fun e w' => e = .returned (.bool true) ∧ Below w.heap.size w w' := by
  obtain ⟨i0, hi, hz0, hz1, hz2⟩ := info_parts Try.info5
  obtain ⟨A, cap, rfl, hrd, hm, hn, hle⟩ := s0
  have S0 := Lib.hid (show Sl w w.heap.size (.slice A l.length cap) l from ⟨A, cap, rfl, hrd, hm, hn, hle⟩)
  obtain ⟨W0, hW0⟩ : ∃ W0 : ByteArray, W0 = ⟨l.toArray⟩ := ⟨_, rfl⟩
  have hconv : (convert 22 9 (.slice A l.length cap)).run Try.prog w = .ok (.string W0) w := by
    rw [hW0]
    exact run_str _ _ _ 5 _ _ _ Try.underlying22 Try.underlying5 Try.underlying9 fun hp => by obtain ⟨ad, e, _, _, hc⟩ := hrd hp; exact ⟨ad, e, hc⟩
  have hsz1 : W0.size ≤ 1048576 := by rw [hW0]; simpa [ByteArray.size] using b0
  have HW0 := Lib.hid hW0
  have HI := Lib.hid hi
  clear hrd hm hn hW0 hi
  go_enter Try.func3, Try.ntmps3
  go_wp2
  go_loopw [8] (fun i wr => ∃ k : Nat, k ≤ 4 ∧ i = .int .i64 k ∧ Below w.heap.size w wr) (fun i _ => 4 - (intOf i).toNat)
  case atStart => exact ⟨0, by omega, by go_num, Below.refl _ _⟩
  case round =>
    obtain ⟨k, hk, rfl, hb⟩ := hrel
    by_cases hlt : k < 4
    · have hc : k = 0 ∨ k = 1 ∨ k = 2 ∨ k = 3 := by omega
      obtain ⟨P, hP⟩ : ∃ P : ByteArray, P = ⟨(l ++ fld (2 ^ k) n).toArray⟩ := ⟨_, rfl⟩
      obtain ⟨P2, hP2⟩ : ∃ P : ByteArray, P = ⟨(fld (2 ^ k) n).toArray⟩ := ⟨_, rfl⟩
      have hq : (P.toList == (W0 ++ P2).toList) = true := by
        rw [hP, hP2, HW0.out]; simp [ByteArray.toList_eq]
      have hsz2 : P2.size ≤ 8 := by rw [hP2]; simp only [ByteArray.size, List.size_toArray, len_fld]; have : 2 ^ k ≤ 2 ^ 3 := Nat.pow_le_pow_right (by decide) (by omega); omega
      have hsum : ¬ 9223372036854775807 < W0.size + P2.size := by omega
      have HP := Lib.hid hP
      have HP2 := Lib.hid hP2
      clear hP hP2
      rcases hc with rfl | rfl | rfl | rfl
      · go_upto_region 5 with fail
        go_cut [29] (fun c wx => c = .bool false ∧ Below w.heap.size w wx)
        case first =>
          go_region_law (first
              | (refine step_app_fresh _ rfl _ _ 22 rfl w.heap.size 5 i0 Try.underlying22 HI.out hz0 hz1 hz2 _ (.slice A l.length cap) l rfl rfl (S0.out.below (by first | exact (hb.alloc hb.size _).drew | exact (hb.alloc hb.size _).drew.trans (hbF.mono (by have := hb.size; simp; omega)) | exact (hb.drew.trans (hbF.mono hb.size)).alloc (by have := hb.size; have := hbF.size; simp at this; omega) _) (Nat.le_refl _)) (by omega) ?_; intro v4 w4 hs4 hb4)
              | (refine step_call rfl 9 Try.f9 _ _ rfl Try.func9 (by kernel_rfl) (by kernel_rfl) _ _ (lput_sl w4.heap.size v4 l 0 (by decide) 0 rfl n _ (by first | exact hs4 | exact hs4.below hbF (Nat.le_refl _)) (by first | exact Nat.le_refl _ | exact hbF.size) (by omega)) (by go_simp) ?_; rintro v5 w5 ⟨ho5, hb5⟩; obtain ⟨A5, cap5, rfl, _, hc5, hd5⟩ := made_later (l.length + 1) P (by simp [len_fld]) HP.out ho5; clear ho5)
              | (refine step_call rfl 10 Try.f10 _ _ rfl Try.func10 (by kernel_rfl) (by kernel_rfl) _ _ (refField_v n 1 (by decide) P2 HP2.out 1 rfl _) (by go_simp <;> decide) ?_; rintro vF wF ⟨rfl, hbF⟩))
          all_goals (go_wp2_with fail; go_meet)
          all_goals refine ⟨rfl, ?_⟩
          all_goals have hz := hb.size
          all_goals have hzF := hbF.size
          all_goals have hz4 := hb4.size
          all_goals have hz5 := hb5.size
          all_goals simp at hz hzF hz4 hz5
          all_goals first
            | exact (hb.alloc hb.size _).drew.trans ((hb4.mono (by simp; omega)).trans ((hb5.mono (by omega)).trans (hbF.mono (by omega))))
            | exact (hb.alloc hb.size _).drew.trans ((hb4.mono (by simp; omega)).trans ((hbF.mono (by omega)).trans (hb5.mono (by omega))))
            | exact (hb.alloc hb.size _).drew.trans ((hbF.mono (by simp; omega)).trans ((hb4.mono (by omega)).trans (hb5.mono (by omega))))
            | exact ((hb.drew.trans (hbF.mono hb.size)).alloc (by omega) _).trans ((hb4.mono (by simp; omega)).trans (hb5.mono (by omega)))
        case rest =>
          obtain ⟨rfl, hbc⟩ := hcut
          go_wp2
          go_roundw
          case rel => exact ⟨0 + 1, by omega, by go_num, hbc⟩
          case measure => simp [intOf]
      · go_upto_region 5 with fail
        go_cut [29] (fun c wx => c = .bool false ∧ Below w.heap.size w wx)
        case first =>
          go_region_law (first
              | (refine step_app_fresh _ rfl _ _ 22 rfl w.heap.size 5 i0 Try.underlying22 HI.out hz0 hz1 hz2 _ (.slice A l.length cap) l rfl rfl (S0.out.below (by first | exact (hb.alloc hb.size _).drew | exact (hb.alloc hb.size _).drew.trans (hbF.mono (by have := hb.size; simp; omega)) | exact (hb.drew.trans (hbF.mono hb.size)).alloc (by have := hb.size; have := hbF.size; simp at this; omega) _) (Nat.le_refl _)) (by omega) ?_; intro v4 w4 hs4 hb4)
              | (refine step_call rfl 9 Try.f9 _ _ rfl Try.func9 (by kernel_rfl) (by kernel_rfl) _ _ (lput_sl w4.heap.size v4 l 1 (by decide) 1 rfl n _ (by first | exact hs4 | exact hs4.below hbF (Nat.le_refl _)) (by first | exact Nat.le_refl _ | exact hbF.size) (by omega)) (by go_simp) ?_; rintro v5 w5 ⟨ho5, hb5⟩; obtain ⟨A5, cap5, rfl, _, hc5, hd5⟩ := made_later (l.length + 2) P (by simp [len_fld]) HP.out ho5; clear ho5)
              | (refine step_call rfl 10 Try.f10 _ _ rfl Try.func10 (by kernel_rfl) (by kernel_rfl) _ _ (refField_v n 2 (by decide) P2 HP2.out 2 rfl _) (by go_simp <;> decide) ?_; rintro vF wF ⟨rfl, hbF⟩))
          all_goals (go_wp2_with fail; go_meet)
          all_goals refine ⟨rfl, ?_⟩
          all_goals have hz := hb.size
          all_goals have hzF := hbF.size
          all_goals have hz4 := hb4.size
          all_goals have hz5 := hb5.size
          all_goals simp at hz hzF hz4 hz5
          all_goals first
            | exact (hb.alloc hb.size _).drew.trans ((hb4.mono (by simp; omega)).trans ((hb5.mono (by omega)).trans (hbF.mono (by omega))))
            | exact (hb.alloc hb.size _).drew.trans ((hb4.mono (by simp; omega)).trans ((hbF.mono (by omega)).trans (hb5.mono (by omega))))
            | exact (hb.alloc hb.size _).drew.trans ((hbF.mono (by simp; omega)).trans ((hb4.mono (by omega)).trans (hb5.mono (by omega))))
            | exact ((hb.drew.trans (hbF.mono hb.size)).alloc (by omega) _).trans ((hb4.mono (by simp; omega)).trans (hb5.mono (by omega)))
        case rest =>
          obtain ⟨rfl, hbc⟩ := hcut
          go_wp2
          go_roundw
          case rel => exact ⟨1 + 1, by omega, by go_num, hbc⟩
          case measure => simp [intOf]
      · go_upto_region 5 with fail
        go_cut [29] (fun c wx => c = .bool false ∧ Below w.heap.size w wx)
        case first =>
          go_region_law (first
              | (refine step_app_fresh _ rfl _ _ 22 rfl w.heap.size 5 i0 Try.underlying22 HI.out hz0 hz1 hz2 _ (.slice A l.length cap) l rfl rfl (S0.out.below (by first | exact (hb.alloc hb.size _).drew | exact (hb.alloc hb.size _).drew.trans (hbF.mono (by have := hb.size; simp; omega)) | exact (hb.drew.trans (hbF.mono hb.size)).alloc (by have := hb.size; have := hbF.size; simp at this; omega) _) (Nat.le_refl _)) (by omega) ?_; intro v4 w4 hs4 hb4)
              | (refine step_call rfl 9 Try.f9 _ _ rfl Try.func9 (by kernel_rfl) (by kernel_rfl) _ _ (lput_sl w4.heap.size v4 l 2 (by decide) 2 rfl n _ (by first | exact hs4 | exact hs4.below hbF (Nat.le_refl _)) (by first | exact Nat.le_refl _ | exact hbF.size) (by omega)) (by go_simp) ?_; rintro v5 w5 ⟨ho5, hb5⟩; obtain ⟨A5, cap5, rfl, _, hc5, hd5⟩ := made_later (l.length + 4) P (by simp [len_fld]) HP.out ho5; clear ho5)
              | (refine step_call rfl 10 Try.f10 _ _ rfl Try.func10 (by kernel_rfl) (by kernel_rfl) _ _ (refField_v n 4 (by decide) P2 HP2.out 4 rfl _) (by go_simp <;> decide) ?_; rintro vF wF ⟨rfl, hbF⟩))
          all_goals (go_wp2_with fail; go_meet)
          all_goals refine ⟨rfl, ?_⟩
          all_goals have hz := hb.size
          all_goals have hzF := hbF.size
          all_goals have hz4 := hb4.size
          all_goals have hz5 := hb5.size
          all_goals simp at hz hzF hz4 hz5
          all_goals first
            | exact (hb.alloc hb.size _).drew.trans ((hb4.mono (by simp; omega)).trans ((hb5.mono (by omega)).trans (hbF.mono (by omega))))
            | exact (hb.alloc hb.size _).drew.trans ((hb4.mono (by simp; omega)).trans ((hbF.mono (by omega)).trans (hb5.mono (by omega))))
            | exact (hb.alloc hb.size _).drew.trans ((hbF.mono (by simp; omega)).trans ((hb4.mono (by omega)).trans (hb5.mono (by omega))))
            | exact ((hb.drew.trans (hbF.mono hb.size)).alloc (by omega) _).trans ((hb4.mono (by simp; omega)).trans (hb5.mono (by omega)))
        case rest =>
          obtain ⟨rfl, hbc⟩ := hcut
          go_wp2
          go_roundw
          case rel => exact ⟨2 + 1, by omega, by go_num, hbc⟩
          case measure => simp [intOf]
      · go_upto_region 5 with fail
        go_cut [29] (fun c wx => c = .bool false ∧ Below w.heap.size w wx)
        case first =>
          go_region_law (first
              | (refine step_app_fresh _ rfl _ _ 22 rfl w.heap.size 5 i0 Try.underlying22 HI.out hz0 hz1 hz2 _ (.slice A l.length cap) l rfl rfl (S0.out.below (by first | exact (hb.alloc hb.size _).drew | exact (hb.alloc hb.size _).drew.trans (hbF.mono (by have := hb.size; simp; omega)) | exact (hb.drew.trans (hbF.mono hb.size)).alloc (by have := hb.size; have := hbF.size; simp at this; omega) _) (Nat.le_refl _)) (by omega) ?_; intro v4 w4 hs4 hb4)
              | (refine step_call rfl 9 Try.f9 _ _ rfl Try.func9 (by kernel_rfl) (by kernel_rfl) _ _ (lput_sl w4.heap.size v4 l 3 (by decide) 3 rfl n _ (by first | exact hs4 | exact hs4.below hbF (Nat.le_refl _)) (by first | exact Nat.le_refl _ | exact hbF.size) (by omega)) (by go_simp) ?_; rintro v5 w5 ⟨ho5, hb5⟩; obtain ⟨A5, cap5, rfl, _, hc5, hd5⟩ := made_later (l.length + 8) P (by simp [len_fld]) HP.out ho5; clear ho5)
              | (refine step_call rfl 10 Try.f10 _ _ rfl Try.func10 (by kernel_rfl) (by kernel_rfl) _ _ (refField_v n 8 (by decide) P2 HP2.out 8 rfl _) (by go_simp <;> decide) ?_; rintro vF wF ⟨rfl, hbF⟩))
          all_goals (go_wp2_with fail; go_meet)
          all_goals refine ⟨rfl, ?_⟩
          all_goals have hz := hb.size
          all_goals have hzF := hbF.size
          all_goals have hz4 := hb4.size
          all_goals have hz5 := hb5.size
          all_goals simp at hz hzF hz4 hz5
          all_goals first
            | exact (hb.alloc hb.size _).drew.trans ((hb4.mono (by simp; omega)).trans ((hb5.mono (by omega)).trans (hbF.mono (by omega))))
            | exact (hb.alloc hb.size _).drew.trans ((hb4.mono (by simp; omega)).trans ((hbF.mono (by omega)).trans (hb5.mono (by omega))))
            | exact (hb.alloc hb.size _).drew.trans ((hbF.mono (by simp; omega)).trans ((hb4.mono (by omega)).trans (hb5.mono (by omega))))
            | exact ((hb.drew.trans (hbF.mono hb.size)).alloc (by omega) _).trans ((hb4.mono (by simp; omega)).trans (hb5.mono (by omega)))
        case rest =>
          obtain ⟨rfl, hbc⟩ := hcut
          go_wp2
          go_roundw
          case rel => exact ⟨3 + 1, by omega, by go_num, hbc⟩
          case measure => simp [intOf]
    · obtain rfl : k = 4 := by omega
      clear hlt
      obtain ⟨P, hP⟩ : ∃ P : ByteArray, P = ⟨(l ++ txt s.data.toList).toArray⟩ := ⟨_, rfl⟩
      obtain ⟨P2, hP2⟩ : ∃ P : ByteArray, P = ⟨(txt s.data.toList).toArray⟩ := ⟨_, rfl⟩
      have hq : (P.toList == (W0 ++ P2).toList) = true := by
        rw [hP, hP2, HW0.out]; simp [ByteArray.toList_eq]
      have hsz2 : P2.size = 4 + s.size := by rw [hP2]; have := len_txt s []; rw [List.nil_append, List.length_nil, Nat.zero_add] at this; exact List.size_toArray.trans this
      have hsum : ¬ 9223372036854775807 < W0.size + P2.size := by omega
      have HP := Lib.hid hP
      have HP2 := Lib.hid hP2
      clear hP hP2 hsz2
      go_wp2
      go_region_law (first
              | (refine step_app_fresh _ rfl _ _ 22 rfl w.heap.size 5 i0 Try.underlying22 HI.out hz0 hz1 hz2 _ (.slice A l.length cap) l rfl rfl (S0.out.below (by first | exact (hb.alloc hb.size _).drew | exact (hb.alloc hb.size _).drew.trans (hbF.mono (by have := hb.size; simp; omega)) | exact (hb.drew.trans (hbF.mono hb.size)).alloc (by have := hb.size; have := hbF.size; simp at this; omega) _) (Nat.le_refl _)) (by omega) ?_; intro v4 w4 hs4 hb4)
              | (refine step_call rfl 11 Try.f11 _ _ rfl Try.func11 (by kernel_rfl) (by kernel_rfl) _ _ (putText_sl w4.heap.size v4 l s _ (by first | exact hs4 | exact hs4.below hbF (Nat.le_refl _)) (by first | exact Nat.le_refl _ | exact hbF.size) (by omega) (by omega)) (by go_simp) ?_; rintro v5 w5 ⟨ho5, hb5⟩; obtain ⟨A5, cap5, rfl, _, hc5, hd5⟩ := made_later (l.length + 4 + s.size) P (len_txt s l) HP.out ho5; clear ho5)
              | (refine step_call rfl 12 Try.f12 _ _ rfl Try.func12 (by kernel_rfl) (by kernel_rfl) _ _ (refText_v s (by omega) P2 HP2.out _) (by go_simp) ?_; rintro vF wF ⟨rfl, hbF⟩)
              | (refine step_call_on 13 Try.f13 _ _ rfl Try.func13 (by kernel_rfl) (by kernel_rfl) _ _ (lives_v _) (by go_simp) (by first | rfl | go_simp) ?_; rintro vL wL ⟨rfl, hbL⟩))
      all_goals go_wp2
      all_goals go_ret
      all_goals refine ⟨rfl, ?_⟩
      all_goals have hz := hb.size
      all_goals have hzF := hbF.size
      all_goals have hz4 := hb4.size
      all_goals have hz5 := hb5.size
      all_goals simp at hz hzF hz4 hz5
      all_goals first
            | exact (hb.alloc hb.size _).drew.trans ((hb4.mono (by simp; omega)).trans ((hb5.mono (by omega)).trans ((hbF.mono (by omega)).trans (hbL.mono (by omega)))))
            | exact (hb.alloc hb.size _).drew.trans ((hb4.mono (by simp; omega)).trans ((hbF.mono (by omega)).trans ((hb5.mono (by omega)).trans (hbL.mono (by omega)))))
            | exact (hb.alloc hb.size _).drew.trans ((hbF.mono (by simp; omega)).trans ((hb4.mono (by omega)).trans ((hb5.mono (by omega)).trans (hbL.mono (by omega)))))
            | exact ((hb.drew.trans (hbF.mono hb.size)).alloc (by omega) _).trans ((hb4.mono (by simp; omega)).trans ((hb5.mono (by omega)).trans (hbL.mono (by omega))))
end Go.Proofs.Ytacobklogcdhnaa
