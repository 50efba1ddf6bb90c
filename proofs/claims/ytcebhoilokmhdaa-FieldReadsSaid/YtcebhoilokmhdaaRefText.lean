/- The document's answer's reader: Text. -/
import Derived.Test.YtcebhoilokmhdaaRefReader
namespace Go.Proofs.Ytcebhoilokmhdaa
open Go.RowKit
set_option linter.unusedVariables false

theorem refText_stop (S : ByteArray) (l : List UInt8) (hS : S = ⟨l.toArray⟩) (at_ er at1 er1 : Nat) (most : Int) (he : er1 ≠ 0) (hv : rw_ 4 l at_ er = (0, at1, er1)) (ha : at_ ≤ l.length) (hl2 : l.length ≤ 140737488355000) (w : World) :
    Calls Try.prog 24 #[rv S at_ er, .int .i64 most] w fun r w' => r = .returned (.tuple #[rv S at1 er1, .string ByteArray.empty]) ∧ Below w.heap.size w w' := by
  have hsz : S.size = l.length := by rw [hS]; simp [ByteArray.size]
  by_cases h0 : er = 0
  · subst h0
    by_cases hs : l.length < at_ + 4
    · simp only [rw_, if_pos hs, if_true, Prod.mk.injEq] at hv
      obtain ⟨_, rfl, rfl⟩ := hv
      have h1 : (S.size : Int) - at_ < ((4 : Nat) : Int) := by omega
      have h2 : S.size ≤ 140737488355000 := by omega
      have h3 : at_ ≤ 140737488355000 := by omega
      have HC := Lib.hid (fun w => refNum_short S at_ 4 h1 h2 h3 w)
      clear hS hsz h1 h2 h3 hs he
      unfold rv rb at *
      go_enter Try.func24, Try.ntmps24
      go_wp2_with (go_at_call 22; refine (HC.out _).mono ?_; rintro e w1 ⟨rfl, rfl⟩)
      refine bodyPost_ret (v := .tuple #[.agg #[.string S, .int .i64 at_, .int .i64 3], .string ByteArray.empty]) (by simp [results, Try.results24, go_sem]; rfl) rfl ?_
      exact ⟨rfl, by repeat (first | exact Below.refl _ _ | (refine Below.alloc ?_ (by simp; omega) _) | (refine Below.alloc ?_ (by simp) _) | refine Below.drew ?_)⟩
    · simp only [rw_, if_neg hs, if_true, Prod.mk.injEq] at hv
      exact absurd hv.2.2.symm he
  · simp only [rw_, if_neg h0, Prod.mk.injEq] at hv
    obtain ⟨_, rfl, rfl⟩ := hv
    have hne : ((er : Int) == 0) = false := by simp; omega
    have hne' : ((er : Int) != 0) = true := by simp; omega
    have HC := Lib.hid (fun w => refNum_err S at_ er 4 h0 w)
    clear hS hsz he h0
    unfold rv rb at *
    go_enter Try.func24, Try.ntmps24
    go_wp2_with (go_at_call 22; refine (HC.out _).mono ?_; rintro e w1 ⟨rfl, rfl⟩)
    refine bodyPost_ret (v := .tuple #[.agg #[.string S, .int .i64 at_, .int .i64 er], .string ByteArray.empty]) (by simp [results, Try.results24, go_sem]; rfl) rfl ?_
    exact ⟨rfl, by repeat (first | exact Below.refl _ _ | (refine Below.alloc ?_ (by simp; omega) _) | (refine Below.alloc ?_ (by simp) _) | refine Below.drew ?_)⟩

theorem wrap64_nat (n : Nat) (h : n < 4294967296) : wrap64 (n : Int) = n := by unfold wrap64; omega
theorem num4_lt (l : List UInt8) (at_ : Nat) : num 4 l at_ < 4294967296 := by have := num_lt 4 l at_; simpa using this

theorem refText_big (S : ByteArray) (l : List UInt8) (hS : S = ⟨l.toArray⟩) (at_ n : Nat) (most : Int) (hnum : num 4 l at_ = n) (hn : max most 0 < (n : Int)) (hs : at_ + 4 ≤ l.length) (hl2 : l.length ≤ 140737488355000) (w : World) :
    Calls Try.prog 24 #[rv S at_ 0, .int .i64 most] w fun r w' => r = .returned (.tuple #[rv S at_ 5, .string ByteArray.empty]) ∧ Below w.heap.size w w' := by
  have HW := Lib.hid (show wrap64 (num 4 l at_ : Int) = (n : Int) from by rw [wrap64_nat _ (num4_lt l at_), hnum])
  have HC := Lib.hid (fun w => refNum_ok S l hS at_ 4 (by decide) hs hl2 w)
  obtain ⟨M, hM⟩ : ∃ M, max 0 most = M := ⟨_, rfl⟩
  have hn1 : M < n := by omega
  have hsz3 : (at_ : Int) ≤ 140737488355000 := by omega
  clear hS hnum hn hs
  unfold rv rb at *
  go_enter Try.func24, Try.ntmps24
  go_wp2_with (first
    | (go_at_call 22; refine (HC.out _).mono ?_; rintro e w1 ⟨rfl, rfl⟩; rw [HW.out])
    | (go_at_call 53; refine (failed_any S at_ 0 5 _).mono ?_; rintro e w2 ⟨rfl, rfl⟩))
  refine bodyPost_ret (v := .tuple #[.agg #[.string S, .int .i64 at_, .int .i64 5], .string ByteArray.empty]) (by simp [results, Try.results24, go_sem]; rfl) rfl ?_
  exact ⟨rfl, by repeat (first | exact Below.refl _ _ | (refine Below.alloc ?_ (by simp; omega) _) | (refine Below.alloc ?_ (by simp) _) | refine Below.drew ?_)⟩

theorem refText_few (S : ByteArray) (l : List UInt8) (hS : S = ⟨l.toArray⟩) (at_ n : Nat) (most : Int) (hnum : num 4 l at_ = n) (hn : (n : Int) ≤ max most 0) (hs : at_ + 4 ≤ l.length) (hs2 : l.length < at_ + 4 + n) (hl2 : l.length ≤ 140737488355000) (w : World) :
    Calls Try.prog 24 #[rv S at_ 0, .int .i64 most] w fun r w' => r = .returned (.tuple #[rv S at_ 3, .string ByteArray.empty]) ∧ Below w.heap.size w w' := by
  have HW := Lib.hid (show wrap64 (num 4 l at_ : Int) = (n : Int) from by rw [wrap64_nat _ (num4_lt l at_), hnum])
  have HC := Lib.hid (fun w => refNum_ok S l hS at_ 4 (by decide) hs hl2 w)
  have hsz : S.size = l.length := by rw [hS]; simp [ByteArray.size]
  obtain ⟨M, hM⟩ : ∃ M, max 0 most = M := ⟨_, rfl⟩
  have hn0 : (n : Int) ≤ M := by omega
  have hnn : (0 : Int) ≤ n := by omega
  have hx : (S.size : Int) - (at_ + 4) < n := by omega
  have hx2 : (S.size : Int) ≤ 140737488355000 := by omega
  have hsz3 : (at_ : Int) ≤ 140737488355000 := by omega
  clear hS hnum hn hs hs2 hsz
  unfold rv rb at *
  go_enter Try.func24, Try.ntmps24
  go_wp2_with (first
    | (go_at_call 22; refine (HC.out _).mono ?_; rintro e w1 ⟨rfl, rfl⟩; rw [HW.out])
    | (go_at_call 53; refine (failed_any S at_ 0 3 _).mono ?_; rintro e w2 ⟨rfl, rfl⟩))
  refine bodyPost_ret (v := .tuple #[.agg #[.string S, .int .i64 at_, .int .i64 3], .string ByteArray.empty]) (by simp [results, Try.results24, go_sem]; rfl) rfl ?_
  exact ⟨rfl, by repeat (first | exact Below.refl _ _ | (refine Below.alloc ?_ (by simp; omega) _) | (refine Below.alloc ?_ (by simp) _) | refine Below.drew ?_)⟩

set_option maxHeartbeats 400000 in
theorem refText_ok (S : ByteArray) (l : List UInt8) (hS : S = ⟨l.toArray⟩) (at_ n : Nat) (most : Int) (hnum : num 4 l at_ = n) (hn : (n : Int) ≤ max most 0) (hs : at_ + 4 + n ≤ l.length) (hl2 : l.length ≤ 140737488355000) (w : World) :
    Calls Try.prog 24 #[rv S at_ 0, .int .i64 most] w fun r w' => r = .returned (.tuple #[rv S (at_ + 4 + n) 0, .string ⟨((l.drop (at_ + 4)).take n).toArray⟩]) ∧ Below w.heap.size w w' := by
  have HW := Lib.hid (show wrap64 (num 4 l at_ : Int) = (n : Int) from by rw [wrap64_nat _ (num4_lt l at_), hnum])
  have HC := Lib.hid (fun w => refNum_ok S l hS at_ 4 (by decide) (by omega) hl2 w)
  have hsz : S.size = l.length := by rw [hS]; simp [ByteArray.size]
  obtain ⟨M, hM⟩ : ∃ M, max 0 most = M := ⟨_, rfl⟩
  have hn0 : (n : Int) ≤ M := by omega
  have hnn : (0 : Int) ≤ n := by omega
  have hx : ¬ ((S.size : Int) - (at_ + 4) < n) := by omega
  have hx2 : (S.size : Int) ≤ 140737488355000 := by omega
  have hsz3 : (at_ : Int) ≤ 140737488355000 := by omega
  have hsum : (at_ : Int) + 4 + n ≤ S.size := by omega
  have HS := Lib.hid hS
  clear hS hnum hn hs hsz
  unfold rv rb at *
  go_enter Try.func24, Try.ntmps24
  go_wp2_with (go_at_call 22; refine (HC.out _).mono ?_; rintro e w1 ⟨rfl, rfl⟩; rw [HW.out])
  have hs1 : IntKind.i64.wrap ((at_ : Int) + 4 + n) = (at_ : Int) + 4 + n := by rw [IntKind.wrap_i64]; omega
  have hs2 : (0 : Int) ≤ (at_ : Int) + 4 + n := by omega
  have hs3 : (0 : Int) ≤ (at_ : Int) + 4 := by omega
  have hs4 : (at_ : Int) + 4 ≤ (at_ : Int) + 4 + n := by omega
  have hs5 : ((at_ : Int) + 4).toNat = at_ + 4 := by omega
  have hs6 : ((at_ : Int) + 4 + n).toNat = at_ + 4 + n := by omega
  go_region
  all_goals go_wp2
  all_goals refine bodyPost_ret (v := .tuple #[.agg #[.string S, .int .i64 (at_ + 4 + n : Nat), .int .i64 0], .string (S.extract (at_ + 4) (at_ + 4 + n))]) (by simp [results, Try.results24, go_sem]) rfl ?_
  all_goals rw [show S.extract (at_ + 4) (at_ + 4 + n) = ⟨((l.drop (at_ + 4)).take n).toArray⟩ from by rw [HS.out]; apply ByteArray.ext; simp [ByteArray.data_extract]]
  all_goals exact ⟨rfl, by repeat (first | exact Below.refl _ _ | (refine Below.alloc ?_ (by simp; omega) _) | (refine Below.alloc ?_ (by simp) _) | refine Below.drew ?_)⟩

theorem refRText_any (S : ByteArray) (l : List UInt8) (hS : S = ⟨l.toArray⟩) (at_ er : Nat) (most : Int) (s : List UInt8) (at' er' : Nat) (hv : rt_ most l at_ er = (s, at', er')) (ha : at_ ≤ l.length) (hl2 : l.length ≤ 140737488355000) (w : World) :
    Calls Try.prog 24 #[rv S at_ er, .int .i64 most] w fun r w' => r = .returned (.tuple #[rv S at' er', .string ⟨s.toArray⟩]) ∧ Below w.heap.size w w' := by
  by_cases h0 : er = 0
  · subst h0
    by_cases h1 : l.length < at_ + 4
    · simp only [rt_, if_pos h1, if_true, Prod.mk.injEq] at hv
      obtain ⟨rfl, rfl, rfl⟩ := hv
      exact refText_stop S l hS at_ 0 at_ 3 most (by decide) (by simp [rw_, h1]) ha hl2 w
    · by_cases h2 : max most 0 < (num 4 l at_ : Int)
      · simp only [rt_, if_neg h1, if_pos h2, if_true, Prod.mk.injEq] at hv
        obtain ⟨rfl, rfl, rfl⟩ := hv
        exact refText_big S l hS at_ _ most rfl h2 (by omega) hl2 w
      · by_cases h3 : l.length < at_ + 4 + num 4 l at_
        · simp only [rt_, if_neg h1, if_neg h2, if_pos h3, if_true, Prod.mk.injEq] at hv
          obtain ⟨rfl, rfl, rfl⟩ := hv
          exact refText_few S l hS at_ _ most rfl (by omega) (by omega) h3 hl2 w
        · simp only [rt_, if_neg h1, if_neg h2, if_neg h3, if_true, Prod.mk.injEq] at hv
          obtain ⟨rfl, rfl, rfl⟩ := hv
          exact refText_ok S l hS at_ _ most rfl (by omega) (by omega) hl2 w
  · simp only [rt_, if_neg h0, Prod.mk.injEq] at hv
    obtain ⟨rfl, rfl, rfl⟩ := hv
    exact refText_stop S l hS at_ er at_ er most h0 (by simp [rw_, h0]) ha hl2 w
end Go.Proofs.Ytcebhoilokmhdaa
