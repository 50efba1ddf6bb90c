/- Layer 8: the document's kid and piece. -/
import Derived.Test.YtcmghbglnkfbaaaPgN
namespace Go.Proofs.Ytcmghbglnkfbaaa
open Go.RowKit
set_option linter.unusedVariables false
set_option linter.unusedSimpArgs false
set_option maxRecDepth 100000

theorem refKid_no (S : ByteArray) (hl : S.size ≤ 100000) (a : Int) (h : a < 0 ∨ (0 ≤ a ∧ a ≤ 1000000 ∧ (S.size : Int) - a < 4)) (w : World) :
    Calls Try.prog 16 #[.string S, .int .i64 a] w fun e w' => e = .returned (.tuple #[.int .i64 0, .int .i64 (-1)]) ∧ w = w' := by
  rcases h with h | ⟨h1, h2, h3⟩
  · go_enter Try.func16, Try.ntmps16
    go_wp2_with fail
    exact bodyPost_ret (v := .tuple #[.int .i64 0, .int .i64 (-1)]) (by simp [results, Try.results16, go_sem]) rfl ⟨rfl, rfl⟩
  · have h4 : decide (a < 0) = false := decide_eq_false (by omega)
    have h5 := wrap_of ((S.size : Int) - a) (by omega) (by omega)
    go_enter Try.func16, Try.ntmps16
    go_wp2_with fail
    exact bodyPost_ret (v := .tuple #[.int .i64 0, .int .i64 (-1)]) (by simp [results, Try.results16, go_sem]) rfl ⟨rfl, rfl⟩
theorem num_wrap8 (k : Nat) (l : List UInt8) (a : Nat) (hk : k ≤ 4) : wrap64 (num k l a : Nat) = (num k l a : Nat) := by
  have h := num_lt k l a
  have h2 : 256 ^ k ≤ 256 ^ 4 := Nat.pow_le_pow_right (by decide) hk
  have h3 : (256 : Nat) ^ 4 = 4294967296 := by decide
  exact IntWalk.wrap64_in _ ⟨by omega, by omega⟩
theorem refKid_yes (S : ByteArray) (l : List UInt8) (hS : S = ⟨l.toArray⟩) (hl : l.length ≤ 100000) (a : Nat) (h : a + 4 ≤ l.length) (w : World) :
    Calls Try.prog 16 #[.string S, .int .i64 a] w fun e w' => e = .returned (.tuple #[.int .i64 (num 4 l a : Nat), .int .i64 ((a + 4 : Nat) : Int)]) ∧ w = w' := by
  have HN := Lib.hid (fun W => refNumber_any S l hS a 4 (by decide) h (by omega) W)
  rw [num_wrap8 4 l a (by decide)] at HN
  have hsz : S.size = l.length := by rw [hS]; simp [ByteArray.size]
  have h4 : decide ((a : Int) < 0) = false := decide_eq_false (by omega)
  have h5 := wrap_of ((S.size : Int) - (a : Int)) (by omega) (by omega)
  have h6 : decide ((S.size : Int) - (a : Int) < 4) = false := decide_eq_false (by omega)
  have h7 := wrap_of ((a : Int) + 4) (by omega) (by omega)
  clear hsz hS
  go_enter Try.func16, Try.ntmps16
  go_wp2_with fail
  refine (HN.out _).mono ?_
  rintro e w1 ⟨rfl, rfl⟩
  go_wp2_with fail
  exact bodyPost_ret (v := .tuple #[.int .i64 (num 4 l a : Nat), .int .i64 ((a : Int) + 4)]) (by simp [results, Try.results16, go_sem]) rfl ⟨by simp, rfl⟩
theorem refPiece_no (S : ByteArray) (hl : S.size ≤ 100000) (a : Int) (k : Nat) (hk : k ≤ 4) (h : a < 0 ∨ (0 ≤ a ∧ a ≤ 1000000 ∧ (S.size : Int) - a < (k : Int))) (w : World) :
    Calls Try.prog 17 #[.string S, .int .i64 a, .int .i64 k] w fun e w' => e = .returned (.tuple #[.string ⟨#[]⟩, .int .i64 (-1)]) ∧ w = w' := by
  rcases h with h | ⟨h1, h2, h3⟩
  · go_enter Try.func17, Try.ntmps17
    go_wp2_with fail
    exact bodyPost_ret (v := .tuple #[.string ⟨#[]⟩, .int .i64 (-1)]) (by simp [results, Try.results17, go_sem]) rfl ⟨rfl, rfl⟩
  · have h4 : decide (a < 0) = false := decide_eq_false (by omega)
    have h5 := wrap_of ((S.size : Int) - a) (by omega) (by omega)
    go_enter Try.func17, Try.ntmps17
    go_wp2_with fail
    exact bodyPost_ret (v := .tuple #[.string ⟨#[]⟩, .int .i64 (-1)]) (by simp [results, Try.results17, go_sem]) rfl ⟨rfl, rfl⟩
theorem refPiece_few (S : ByteArray) (l : List UInt8) (hS : S = ⟨l.toArray⟩) (hl : l.length ≤ 100000) (a k : Nat) (hk : k ≤ 4) (h : a + k ≤ l.length) (hn : l.length < a + k + num k l a) (w : World) :
    Calls Try.prog 17 #[.string S, .int .i64 a, .int .i64 k] w fun e w' => e = .returned (.tuple #[.string ⟨#[]⟩, .int .i64 (-1)]) ∧ w = w' := by
  have HN := Lib.hid (fun W => refNumber_any S l hS a k (by omega) h (by omega) W)
  rw [num_wrap8 k l a hk] at HN
  have hsz : S.size = l.length := by rw [hS]; simp [ByteArray.size]
  generalize num k l a = V at *
  have h4 : decide ((a : Int) < 0) = false := decide_eq_false (by omega)
  have h5 := wrap_of ((S.size : Int) - (a : Int)) (by omega) (by omega)
  have h6 : decide ((S.size : Int) - (a : Int) < (k : Int)) = false := decide_eq_false (by omega)
  have h7 := wrap_of ((S.size : Int) - (a : Int) - (k : Int)) (by omega) (by omega)
  have h8 : (S.size : Int) - (a : Int) - (k : Int) < (V : Int) := by omega
  clear hsz hS hn
  go_enter Try.func17, Try.ntmps17
  go_wp2_with fail
  refine (HN.out _).mono ?_
  rintro e w1 ⟨rfl, rfl⟩
  go_wp2_with fail
  exact bodyPost_ret (v := .tuple #[.string ⟨#[]⟩, .int .i64 (-1)]) (by simp [results, Try.results17, go_sem]) rfl ⟨rfl, rfl⟩
theorem refPiece_yes (S : ByteArray) (l : List UInt8) (hS : S = ⟨l.toArray⟩) (hl : l.length ≤ 100000) (a k : Nat) (hk : k ≤ 4) (h : a + k + num k l a ≤ l.length) (w : World) :
    Calls Try.prog 17 #[.string S, .int .i64 a, .int .i64 k] w fun e w' => e = .returned (.tuple #[.string ⟨((l.drop (a + k)).take (num k l a)).toArray⟩, .int .i64 ((a + k + num k l a : Nat) : Int)]) ∧ w = w' := by
  have HN := Lib.hid (fun W => refNumber_any S l hS a k (by omega) (by omega) (by omega) W)
  rw [num_wrap8 k l a hk] at HN
  have hsz : S.size = l.length := by rw [hS]; simp [ByteArray.size]
  generalize num k l a = V at *
  obtain ⟨b, hb⟩ : ∃ b, a + k = b := ⟨_, rfl⟩
  obtain ⟨c, hc⟩ : ∃ c, a + k + V = c := ⟨_, rfl⟩
  have hx : S.extract b c = ⟨((l.drop (a + k)).take V).toArray⟩ := by
    rw [hS, hb]
    have : c = b + V := by omega
    subst this
    apply ByteArray.ext
    rw [ByteArray.data_extract]
    apply Array.ext'
    simp [List.take_drop]
  have HX := Lib.hid hx
  have h4 : decide ((a : Int) < 0) = false := decide_eq_false (by omega)
  have h5 := wrap_of ((S.size : Int) - (a : Int)) (by omega) (by omega)
  have h6 : decide ((S.size : Int) - (a : Int) < (k : Int)) = false := decide_eq_false (by omega)
  have h7 := wrap_of ((S.size : Int) - (a : Int) - (k : Int)) (by omega) (by omega)
  have h8 : ¬ (S.size : Int) - (a : Int) - (k : Int) < (V : Int) := by omega
  have h9 : (a : Int) + (k : Int) = (b : Int) := by omega
  have h10 : (b : Int) + (V : Int) = (c : Int) := by omega
  have h11 := wrap_of (b : Int) (by omega) (by omega)
  have h12 := wrap_of (c : Int) (by omega) (by omega)
  have h13 : (b : Int) ≤ (c : Int) := by omega
  have h14 : (c : Int) ≤ (S.size : Int) := by omega
  rw [hc]
  clear hsz hS hb hc hx
  go_enter Try.func17, Try.ntmps17
  go_wp2_with fail
  refine (HN.out _).mono ?_
  rintro e w1 ⟨rfl, rfl⟩
  go_wp2_with fail
  exact bodyPost_ret (v := .tuple #[.string (S.extract b c), .int .i64 c]) (by simp [results, Try.results17, go_sem]) rfl ⟨by rw [HX.out], rfl⟩
end Go.Proofs.Ytcmghbglnkfbaaa
