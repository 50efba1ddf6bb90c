/- The walk of ambrylaw01.FieldRows. -/
import Derived.Test.YtacobklogcdhnaaLaw01
import Derived.Test.YtacobklogcdhnaaFldOrd
import Derived.Deep.RegionWith
import Derived.Deep.DeepCutAuto
namespace Go.Proofs.Ytacobklogcdhnaa
open Go.RowKit
set_option linter.unusedVariables false

/-- Bytes that a call has made become a string in every world since. -/
theorem made_later {w : World} {B : Nat} {v : Value} {l : List UInt8} (n : Nat) (P : ByteArray) (hn : l.length = n) (hP : P = ⟨l.toArray⟩) (h : w.ownsRow B 5 1 v l.length (bv l)) :
    ∃ A cap, v = .slice A n cap ∧ (A = none → n = 0) ∧ (convert 22 9 (.slice A n cap)).run Try.prog w = .ok (.string P) w ∧
      ∀ w', Below w.heap.size w w' → (convert 22 9 (.slice A n cap)).run Try.prog w' = .ok (.string P) w' := by
  subst hn hP
  obtain ⟨A, cap, e, hr, hm, hnil, hle⟩ := rd_of_own h
  have key : ∀ w', Below w.heap.size w w' → (convert 22 9 (.slice A l.length cap)).run Try.prog w' = .ok (.string ⟨l.toArray⟩) w' := fun w' hb =>
    run_str _ _ _ 5 _ _ _ Try.underlying22 Try.underlying5 Try.underlying9 fun hp => by
      obtain ⟨ad, e, _, _, hc⟩ := (hr.below hb) hp; exact ⟨ad, e, hc⟩
  exact ⟨A, cap, e, (fun h => by rw [(hnil h).2]; rfl), key w (Below.refl _ _), key⟩

set_option maxHeartbeats 2000000 in
theorem fieldRows_0 (a b : Int) (w : World) :
    Calls Try.prog 6 #[.int .i64 a, .int .i64 b, .int .i64 0] w fun e w' => e = .returned (.bool true) ∧ Below w.heap.size w w' := by
  have hxa := i64_mask 8 (by decide) 255 (by decide) a
  have hxb := i64_mask 8 (by decide) 255 (by decide) b
  have hx0 : 0 ≤ a % 2 ^ 8 := Int.emod_nonneg _ (by decide)
  have hx1 : a % 2 ^ 8 < 2 ^ 8 := Int.emod_lt_of_pos _ (by decide)
  have hy0 : 0 ≤ b % 2 ^ 8 := Int.emod_nonneg _ (by decide)
  have hy1 : b % 2 ^ 8 < 2 ^ 8 := Int.emod_lt_of_pos _ (by decide)
  generalize a % 2 ^ 8 = x at *
  generalize b % 2 ^ 8 = y at *
  obtain ⟨P, hP⟩ : ∃ P : ByteArray, P = ⟨(([] : List UInt8) ++ fld (2 ^ 0) x).toArray⟩ := ⟨_, rfl⟩
  obtain ⟨Q, hQ⟩ : ∃ Q : ByteArray, Q = ⟨(([] : List UInt8) ++ fld (2 ^ 0) y).toArray⟩ := ⟨_, rfl⟩
  have pl : P.toList = fld 1 x := by rw [hP, ByteArray.toList_eq]; rfl
  have ql : Q.toList = fld 1 y := by rw [hQ, ByteArray.toList_eq]; rfl
  have hs1 : P.size = 1 := by rw [hP]; exact (by simp [ByteArray.size, len_fld] : ByteArray.size ⟨(([] : List UInt8) ++ fld (2 ^ 0) x).toArray⟩ = 2 ^ 0)
  have hl1 : Op.bytesLess P.toList Q.toList = decide (x < y) := by rw [pl, ql]; exact fld_less 1 x y hx0 (by simp at hx1 ⊢; omega) hy0 (by simp at hy1 ⊢; omega)
  have hl2 : (P.toList == Q.toList) = decide (x = y) := by rw [pl, ql]; exact fld_same 1 x y hx0 (by simp at hx1 ⊢; omega) hy0 (by simp at hy1 ⊢; omega)
  obtain ⟨hl1', e1'⟩ : ∃ c, c = decide (x < y) := ⟨_, rfl⟩
  obtain ⟨hl2', e2'⟩ : ∃ c, c = decide (x = y) := ⟨_, rfl⟩
  rw [← e1'] at hl1
  rw [← e2'] at hl2
  have HP := Lib.hid hP
  have HQ := Lib.hid hQ
  have hcase : (x < y ∧ ¬ x = y) ∨ (¬ x < y ∧ ¬ x = y) ∨ (¬ x < y ∧ x = y) := by omega
  clear hP hQ pl ql hx1 hy1
  go_enter Try.func6, Try.ntmps6
  go_upto_region 5 with fail
  go_cut [10, 11] (fun p q wx => p = .string P ∧ q = .string Q ∧ Below w.heap.size w wx)
  case first =>
    go_region_with (first
      | (go_at_call_of 9 (Value.int IntKind.i64 x); refine (lput_any 0 none 0 [] 0 (by decide) 0 rfl x _ (Rd.nil _ _ _) (Nat.zero_le _) (by simp)).mono ?_; rintro e w1 ⟨v1, rfl, ho1, hb1⟩; obtain ⟨A1, cap1, rfl, _, hc1, hd1⟩ := made_later 1 P (by simp [len_fld]) HP.out ho1; clear ho1)
      | (go_at_call_of 9 (Value.int IntKind.i64 y); refine (lput_any 0 none 0 [] 0 (by decide) 0 rfl y _ (Rd.nil _ _ _) (Nat.zero_le _) (by simp)).mono ?_; rintro e w2 ⟨v2, rfl, ho2, hb2⟩; obtain ⟨A2, cap2, rfl, _, hc2, hd2⟩ := made_later 1 Q (by simp [len_fld]) HQ.out ho2; clear ho2))
    all_goals (go_wp2_with fail; go_meet)
    all_goals first
      | exact ⟨rfl, rfl, ((Below.refl _ _).alloc (Nat.le_refl _) _).drew.trans ((hb1.mono (by simp)).trans (hb2.mono (by have := hb1.size; simp at this; omega)))⟩
      | exact ⟨rfl, rfl, ((Below.refl _ _).alloc (Nat.le_refl _) _).drew.trans ((hb2.mono (by simp)).trans (hb1.mono (by have := hb2.size; simp at this; omega)))⟩
  case rest =>
    obtain ⟨rfl, rfl, hbc⟩ := hcut
    go_outline
    have e1 : (x < y ∧ (x == y) = false ∧ hl1' = true ∧ hl2' = false) ∨ (¬ x < y ∧ (x == y) = false ∧ hl1' = false ∧ hl2' = false) ∨ (¬ x < y ∧ (x == y) = true ∧ hl1' = false ∧ hl2' = true) := by
      rw [e1', e2']
      rcases hcase with ⟨h1, h2⟩ | ⟨h1, h2⟩ | ⟨h1, h2⟩
      · exact .inl ⟨h1, by simp [h2], by simp [h1], by simp [h2]⟩
      · exact .inr (.inl ⟨h1, by simp [h2], by simp [h1], by simp [h2]⟩)
      · exact .inr (.inr ⟨h1, by simp [h2], by simp [h1], by simp [h2]⟩)
    clear hcase e1' e2'
    rcases e1 with ⟨h1, h2, rfl, rfl⟩ | ⟨h1, h2, rfl, rfl⟩ | ⟨h1, h2, rfl, rfl⟩
    all_goals
      go_wp2_with (go_at_call 13; refine (lives_any _).mono ?_; rintro e w7 ⟨rfl, t7⟩)
      go_ret
      exact ⟨rfl, hbc.trans (t7.mono hbc.size)⟩

set_option maxHeartbeats 2000000 in
theorem fieldRows_1 (a b : Int) (w : World) :
    Calls Try.prog 6 #[.int .i64 a, .int .i64 b, .int .i64 1] w fun e w' => e = .returned (.bool true) ∧ Below w.heap.size w w' := by
  have hxa := i64_mask 16 (by decide) 65535 (by decide) a
  have hxb := i64_mask 16 (by decide) 65535 (by decide) b
  have hx0 : 0 ≤ a % 2 ^ 16 := Int.emod_nonneg _ (by decide)
  have hx1 : a % 2 ^ 16 < 2 ^ 16 := Int.emod_lt_of_pos _ (by decide)
  have hy0 : 0 ≤ b % 2 ^ 16 := Int.emod_nonneg _ (by decide)
  have hy1 : b % 2 ^ 16 < 2 ^ 16 := Int.emod_lt_of_pos _ (by decide)
  generalize a % 2 ^ 16 = x at *
  generalize b % 2 ^ 16 = y at *
  obtain ⟨P, hP⟩ : ∃ P : ByteArray, P = ⟨(([] : List UInt8) ++ fld (2 ^ 1) x).toArray⟩ := ⟨_, rfl⟩
  obtain ⟨Q, hQ⟩ : ∃ Q : ByteArray, Q = ⟨(([] : List UInt8) ++ fld (2 ^ 1) y).toArray⟩ := ⟨_, rfl⟩
  have pl : P.toList = fld 2 x := by rw [hP, ByteArray.toList_eq]; rfl
  have ql : Q.toList = fld 2 y := by rw [hQ, ByteArray.toList_eq]; rfl
  have hs1 : P.size = 2 := by rw [hP]; exact (by simp [ByteArray.size, len_fld] : ByteArray.size ⟨(([] : List UInt8) ++ fld (2 ^ 1) x).toArray⟩ = 2 ^ 1)
  have hl1 : Op.bytesLess P.toList Q.toList = decide (x < y) := by rw [pl, ql]; exact fld_less 2 x y hx0 (by simp at hx1 ⊢; omega) hy0 (by simp at hy1 ⊢; omega)
  have hl2 : (P.toList == Q.toList) = decide (x = y) := by rw [pl, ql]; exact fld_same 2 x y hx0 (by simp at hx1 ⊢; omega) hy0 (by simp at hy1 ⊢; omega)
  obtain ⟨hl1', e1'⟩ : ∃ c, c = decide (x < y) := ⟨_, rfl⟩
  obtain ⟨hl2', e2'⟩ : ∃ c, c = decide (x = y) := ⟨_, rfl⟩
  rw [← e1'] at hl1
  rw [← e2'] at hl2
  have HP := Lib.hid hP
  have HQ := Lib.hid hQ
  have hcase : (x < y ∧ ¬ x = y) ∨ (¬ x < y ∧ ¬ x = y) ∨ (¬ x < y ∧ x = y) := by omega
  clear hP hQ pl ql hx1 hy1
  go_enter Try.func6, Try.ntmps6
  go_upto_region 5 with fail
  go_cut [10, 11] (fun p q wx => p = .string P ∧ q = .string Q ∧ Below w.heap.size w wx)
  case first =>
    go_region_with (first
      | (go_at_call_of 9 (Value.int IntKind.i64 x); refine (lput_any 0 none 0 [] 1 (by decide) 1 rfl x _ (Rd.nil _ _ _) (Nat.zero_le _) (by simp)).mono ?_; rintro e w1 ⟨v1, rfl, ho1, hb1⟩; obtain ⟨A1, cap1, rfl, _, hc1, hd1⟩ := made_later 2 P (by simp [len_fld]) HP.out ho1; clear ho1)
      | (go_at_call_of 9 (Value.int IntKind.i64 y); refine (lput_any 0 none 0 [] 1 (by decide) 1 rfl y _ (Rd.nil _ _ _) (Nat.zero_le _) (by simp)).mono ?_; rintro e w2 ⟨v2, rfl, ho2, hb2⟩; obtain ⟨A2, cap2, rfl, _, hc2, hd2⟩ := made_later 2 Q (by simp [len_fld]) HQ.out ho2; clear ho2))
    all_goals (go_wp2_with fail; go_meet)
    all_goals first
      | exact ⟨rfl, rfl, ((Below.refl _ _).alloc (Nat.le_refl _) _).drew.trans ((hb1.mono (by simp)).trans (hb2.mono (by have := hb1.size; simp at this; omega)))⟩
      | exact ⟨rfl, rfl, ((Below.refl _ _).alloc (Nat.le_refl _) _).drew.trans ((hb2.mono (by simp)).trans (hb1.mono (by have := hb2.size; simp at this; omega)))⟩
  case rest =>
    obtain ⟨rfl, rfl, hbc⟩ := hcut
    go_outline
    have e1 : (x < y ∧ (x == y) = false ∧ hl1' = true ∧ hl2' = false) ∨ (¬ x < y ∧ (x == y) = false ∧ hl1' = false ∧ hl2' = false) ∨ (¬ x < y ∧ (x == y) = true ∧ hl1' = false ∧ hl2' = true) := by
      rw [e1', e2']
      rcases hcase with ⟨h1, h2⟩ | ⟨h1, h2⟩ | ⟨h1, h2⟩
      · exact .inl ⟨h1, by simp [h2], by simp [h1], by simp [h2]⟩
      · exact .inr (.inl ⟨h1, by simp [h2], by simp [h1], by simp [h2]⟩)
      · exact .inr (.inr ⟨h1, by simp [h2], by simp [h1], by simp [h2]⟩)
    clear hcase e1' e2'
    rcases e1 with ⟨h1, h2, rfl, rfl⟩ | ⟨h1, h2, rfl, rfl⟩ | ⟨h1, h2, rfl, rfl⟩
    all_goals
      go_wp2_with (go_at_call 13; refine (lives_any _).mono ?_; rintro e w7 ⟨rfl, t7⟩)
      go_ret
      exact ⟨rfl, hbc.trans (t7.mono hbc.size)⟩

set_option maxHeartbeats 2000000 in
theorem fieldRows_2 (a b : Int) (w : World) :
    Calls Try.prog 6 #[.int .i64 a, .int .i64 b, .int .i64 2] w fun e w' => e = .returned (.bool true) ∧ Below w.heap.size w w' := by
  have hxa := i64_mask 32 (by decide) 4294967295 (by decide) a
  have hxb := i64_mask 32 (by decide) 4294967295 (by decide) b
  have hx0 : 0 ≤ a % 2 ^ 32 := Int.emod_nonneg _ (by decide)
  have hx1 : a % 2 ^ 32 < 2 ^ 32 := Int.emod_lt_of_pos _ (by decide)
  have hy0 : 0 ≤ b % 2 ^ 32 := Int.emod_nonneg _ (by decide)
  have hy1 : b % 2 ^ 32 < 2 ^ 32 := Int.emod_lt_of_pos _ (by decide)
  generalize a % 2 ^ 32 = x at *
  generalize b % 2 ^ 32 = y at *
  obtain ⟨P, hP⟩ : ∃ P : ByteArray, P = ⟨(([] : List UInt8) ++ fld (2 ^ 2) x).toArray⟩ := ⟨_, rfl⟩
  obtain ⟨Q, hQ⟩ : ∃ Q : ByteArray, Q = ⟨(([] : List UInt8) ++ fld (2 ^ 2) y).toArray⟩ := ⟨_, rfl⟩
  have pl : P.toList = fld 4 x := by rw [hP, ByteArray.toList_eq]; rfl
  have ql : Q.toList = fld 4 y := by rw [hQ, ByteArray.toList_eq]; rfl
  have hs1 : P.size = 4 := by rw [hP]; exact (by simp [ByteArray.size, len_fld] : ByteArray.size ⟨(([] : List UInt8) ++ fld (2 ^ 2) x).toArray⟩ = 2 ^ 2)
  have hl1 : Op.bytesLess P.toList Q.toList = decide (x < y) := by rw [pl, ql]; exact fld_less 4 x y hx0 (by simp at hx1 ⊢; omega) hy0 (by simp at hy1 ⊢; omega)
  have hl2 : (P.toList == Q.toList) = decide (x = y) := by rw [pl, ql]; exact fld_same 4 x y hx0 (by simp at hx1 ⊢; omega) hy0 (by simp at hy1 ⊢; omega)
  obtain ⟨hl1', e1'⟩ : ∃ c, c = decide (x < y) := ⟨_, rfl⟩
  obtain ⟨hl2', e2'⟩ : ∃ c, c = decide (x = y) := ⟨_, rfl⟩
  rw [← e1'] at hl1
  rw [← e2'] at hl2
  have HP := Lib.hid hP
  have HQ := Lib.hid hQ
  have hcase : (x < y ∧ ¬ x = y) ∨ (¬ x < y ∧ ¬ x = y) ∨ (¬ x < y ∧ x = y) := by omega
  clear hP hQ pl ql hx1 hy1
  go_enter Try.func6, Try.ntmps6
  go_upto_region 5 with fail
  go_cut [10, 11] (fun p q wx => p = .string P ∧ q = .string Q ∧ Below w.heap.size w wx)
  case first =>
    go_region_with (first
      | (go_at_call_of 9 (Value.int IntKind.i64 x); refine (lput_any 0 none 0 [] 2 (by decide) 2 rfl x _ (Rd.nil _ _ _) (Nat.zero_le _) (by simp)).mono ?_; rintro e w1 ⟨v1, rfl, ho1, hb1⟩; obtain ⟨A1, cap1, rfl, _, hc1, hd1⟩ := made_later 4 P (by simp [len_fld]) HP.out ho1; clear ho1)
      | (go_at_call_of 9 (Value.int IntKind.i64 y); refine (lput_any 0 none 0 [] 2 (by decide) 2 rfl y _ (Rd.nil _ _ _) (Nat.zero_le _) (by simp)).mono ?_; rintro e w2 ⟨v2, rfl, ho2, hb2⟩; obtain ⟨A2, cap2, rfl, _, hc2, hd2⟩ := made_later 4 Q (by simp [len_fld]) HQ.out ho2; clear ho2))
    all_goals (go_wp2_with fail; go_meet)
    all_goals first
      | exact ⟨rfl, rfl, ((Below.refl _ _).alloc (Nat.le_refl _) _).drew.trans ((hb1.mono (by simp)).trans (hb2.mono (by have := hb1.size; simp at this; omega)))⟩
      | exact ⟨rfl, rfl, ((Below.refl _ _).alloc (Nat.le_refl _) _).drew.trans ((hb2.mono (by simp)).trans (hb1.mono (by have := hb2.size; simp at this; omega)))⟩
  case rest =>
    obtain ⟨rfl, rfl, hbc⟩ := hcut
    go_outline
    have e1 : (x < y ∧ (x == y) = false ∧ hl1' = true ∧ hl2' = false) ∨ (¬ x < y ∧ (x == y) = false ∧ hl1' = false ∧ hl2' = false) ∨ (¬ x < y ∧ (x == y) = true ∧ hl1' = false ∧ hl2' = true) := by
      rw [e1', e2']
      rcases hcase with ⟨h1, h2⟩ | ⟨h1, h2⟩ | ⟨h1, h2⟩
      · exact .inl ⟨h1, by simp [h2], by simp [h1], by simp [h2]⟩
      · exact .inr (.inl ⟨h1, by simp [h2], by simp [h1], by simp [h2]⟩)
      · exact .inr (.inr ⟨h1, by simp [h2], by simp [h1], by simp [h2]⟩)
    clear hcase e1' e2'
    rcases e1 with ⟨h1, h2, rfl, rfl⟩ | ⟨h1, h2, rfl, rfl⟩ | ⟨h1, h2, rfl, rfl⟩
    all_goals
      go_wp2_with (go_at_call 13; refine (lives_any _).mono ?_; rintro e w7 ⟨rfl, t7⟩)
      go_ret
      exact ⟨rfl, hbc.trans (t7.mono hbc.size)⟩

set_option maxHeartbeats 2000000 in
theorem fieldRows_3 (a b : Int) (w : World) :
    Calls Try.prog 6 #[.int .i64 a, .int .i64 b, .int .i64 3] w fun e w' => e = .returned (.bool true) ∧ Below w.heap.size w w' := by
  have hxa := i64_mask 63 (by decide) 9223372036854775807 (by decide) a
  have hxb := i64_mask 63 (by decide) 9223372036854775807 (by decide) b
  have hx0 : 0 ≤ a % 2 ^ 63 := Int.emod_nonneg _ (by decide)
  have hx1 : a % 2 ^ 63 < 2 ^ 63 := Int.emod_lt_of_pos _ (by decide)
  have hy0 : 0 ≤ b % 2 ^ 63 := Int.emod_nonneg _ (by decide)
  have hy1 : b % 2 ^ 63 < 2 ^ 63 := Int.emod_lt_of_pos _ (by decide)
  generalize a % 2 ^ 63 = x at *
  generalize b % 2 ^ 63 = y at *
  obtain ⟨P, hP⟩ : ∃ P : ByteArray, P = ⟨(([] : List UInt8) ++ fld (2 ^ 3) x).toArray⟩ := ⟨_, rfl⟩
  obtain ⟨Q, hQ⟩ : ∃ Q : ByteArray, Q = ⟨(([] : List UInt8) ++ fld (2 ^ 3) y).toArray⟩ := ⟨_, rfl⟩
  have pl : P.toList = fld 8 x := by rw [hP, ByteArray.toList_eq]; rfl
  have ql : Q.toList = fld 8 y := by rw [hQ, ByteArray.toList_eq]; rfl
  have hs1 : P.size = 8 := by rw [hP]; exact (by simp [ByteArray.size, len_fld] : ByteArray.size ⟨(([] : List UInt8) ++ fld (2 ^ 3) x).toArray⟩ = 2 ^ 3)
  have hl1 : Op.bytesLess P.toList Q.toList = decide (x < y) := by rw [pl, ql]; exact fld_less 8 x y hx0 (by simp at hx1 ⊢; omega) hy0 (by simp at hy1 ⊢; omega)
  have hl2 : (P.toList == Q.toList) = decide (x = y) := by rw [pl, ql]; exact fld_same 8 x y hx0 (by simp at hx1 ⊢; omega) hy0 (by simp at hy1 ⊢; omega)
  obtain ⟨hl1', e1'⟩ : ∃ c, c = decide (x < y) := ⟨_, rfl⟩
  obtain ⟨hl2', e2'⟩ : ∃ c, c = decide (x = y) := ⟨_, rfl⟩
  rw [← e1'] at hl1
  rw [← e2'] at hl2
  have HP := Lib.hid hP
  have HQ := Lib.hid hQ
  have hcase : (x < y ∧ ¬ x = y) ∨ (¬ x < y ∧ ¬ x = y) ∨ (¬ x < y ∧ x = y) := by omega
  clear hP hQ pl ql hx1 hy1
  go_enter Try.func6, Try.ntmps6
  go_upto_region 5 with fail
  go_cut [10, 11] (fun p q wx => p = .string P ∧ q = .string Q ∧ Below w.heap.size w wx)
  case first =>
    go_region_with (first
      | (go_at_call_of 9 (Value.int IntKind.i64 x); refine (lput_any 0 none 0 [] 3 (by decide) 3 rfl x _ (Rd.nil _ _ _) (Nat.zero_le _) (by simp)).mono ?_; rintro e w1 ⟨v1, rfl, ho1, hb1⟩; obtain ⟨A1, cap1, rfl, _, hc1, hd1⟩ := made_later 8 P (by simp [len_fld]) HP.out ho1; clear ho1)
      | (go_at_call_of 9 (Value.int IntKind.i64 y); refine (lput_any 0 none 0 [] 3 (by decide) 3 rfl y _ (Rd.nil _ _ _) (Nat.zero_le _) (by simp)).mono ?_; rintro e w2 ⟨v2, rfl, ho2, hb2⟩; obtain ⟨A2, cap2, rfl, _, hc2, hd2⟩ := made_later 8 Q (by simp [len_fld]) HQ.out ho2; clear ho2))
    all_goals (go_wp2_with fail; go_meet)
    all_goals first
      | exact ⟨rfl, rfl, ((Below.refl _ _).alloc (Nat.le_refl _) _).drew.trans ((hb1.mono (by simp)).trans (hb2.mono (by have := hb1.size; simp at this; omega)))⟩
      | exact ⟨rfl, rfl, ((Below.refl _ _).alloc (Nat.le_refl _) _).drew.trans ((hb2.mono (by simp)).trans (hb1.mono (by have := hb2.size; simp at this; omega)))⟩
  case rest =>
    obtain ⟨rfl, rfl, hbc⟩ := hcut
    go_outline
    have e1 : (x < y ∧ (x == y) = false ∧ hl1' = true ∧ hl2' = false) ∨ (¬ x < y ∧ (x == y) = false ∧ hl1' = false ∧ hl2' = false) ∨ (¬ x < y ∧ (x == y) = true ∧ hl1' = false ∧ hl2' = true) := by
      rw [e1', e2']
      rcases hcase with ⟨h1, h2⟩ | ⟨h1, h2⟩ | ⟨h1, h2⟩
      · exact .inl ⟨h1, by simp [h2], by simp [h1], by simp [h2]⟩
      · exact .inr (.inl ⟨h1, by simp [h2], by simp [h1], by simp [h2]⟩)
      · exact .inr (.inr ⟨h1, by simp [h2], by simp [h1], by simp [h2]⟩)
    clear hcase e1' e2'
    rcases e1 with ⟨h1, h2, rfl, rfl⟩ | ⟨h1, h2, rfl, rfl⟩ | ⟨h1, h2, rfl, rfl⟩
    all_goals
      go_wp2_with (go_at_call 13; refine (lives_any _).mono ?_; rintro e w7 ⟨rfl, t7⟩)
      go_ret
      exact ⟨rfl, hbc.trans (t7.mono hbc.size)⟩

theorem fieldRows_walk (a0 a1 a2 : Int) (w : World) (w0 : (Lit.int .i64 a0).wf = true) (w1 : (Lit.int .i64 a1).wf = true) (w2 : (Lit.int .i64 a2).wf = true) :
    Calls Try.prog 6 #[.int .i64 a0, .int .i64 a1, .int .i64 a2] w fun e w' => e = .returned (.bool true) ∧ Below w.heap.size w w' := by
  by_cases h : 0 ≤ a2 ∧ a2 ≤ 3
  · have hc : a2 = 0 ∨ a2 = 1 ∨ a2 = 2 ∨ a2 = 3 := by omega
    rcases hc with rfl | rfl | rfl | rfl
    · exact fieldRows_0 a0 a1 w
    · exact fieldRows_1 a0 a1 w
    · exact fieldRows_2 a0 a1 w
    · exact fieldRows_3 a0 a1 w
  · have hc : a2 < 0 ∨ (0 ≤ a2 ∧ 3 < a2) := by omega
    clear h
    rcases hc with h | ⟨h, h'⟩
    all_goals
      go_enter Try.func6, Try.ntmps6
      go_wp2_with (go_at_call 13; refine (lives_any _).mono ?_; rintro e w7 ⟨rfl, t7⟩)
      go_ret
      exact ⟨rfl, t7⟩
end Go.Proofs.Ytacobklogcdhnaa
