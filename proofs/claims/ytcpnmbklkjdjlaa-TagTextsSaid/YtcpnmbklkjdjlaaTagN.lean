/- Layer 3: Parse, by the program and by the document. -/
import Derived.Test.YtcpnmbklkjdjlaaTagM
namespace Go.Proofs.Ytcpnmbklkjdjlaa
open Go.RowKit
set_option linter.unusedVariables false

/-- What a text is parsed to. -/
def pv (l : List UInt8) : Int × Int := (rpv (l.take 5), rpv (l.drop 5))
def pk (l : List UInt8) : Bool := decide (l.length = 10) && rt (pv l)
def pt (l : List UInt8) : Int × Int := if pk l then pv l else (0, 0)
def pe (l : List UInt8) : Int := if pk l then 0 else 4
theorem ba_take (l : List UInt8) (h : l.length = 10) : (⟨l.toArray⟩ : ByteArray).extract 0 5 = ⟨(l.take 5).toArray⟩ := by
  apply ByteArray.ext
  simp
theorem ba_drop (l : List UInt8) (h : l.length = 10) : (⟨l.toArray⟩ : ByteArray).extract 5 (⟨l.toArray⟩ : ByteArray).size = ⟨(l.drop 5).toArray⟩ := by
  apply ByteArray.ext
  simp [ByteArray.size, h]
  exact List.take_of_length_le (by simp; omega)

set_option maxRecDepth 100000 in
set_option maxHeartbeats 1000000 in
theorem parse_any (l : List UInt8) (S : ByteArray) (hS : S = ⟨l.toArray⟩) (w : World) :
    Calls Try.prog 22 #[.string S] w fun e w' => e = .returned (.tuple #[tv (pt l), .int .i64 (pe l)]) ∧ Below w.heap.size w w' := by
  have hsz : S.size = l.length := by rw [hS]; simp [ByteArray.size]
  by_cases hl : l.length = 10
  · have hx1 : S.extract 0 5 = ⟨(l.take 5).toArray⟩ := by rw [hS]; exact ba_take l hl
    have hx2 : S.extract 5 S.size = ⟨(l.drop 5).toArray⟩ := by rw [hS]; exact ba_drop l hl
    have HR1 := Lib.hid (readPart_any (l.take 5) _ rfl (by simp; omega))
    have HR2 := Lib.hid (readPart_any (l.drop 5) _ rfl (by simp; omega))
    obtain ⟨X1, hX1⟩ : ∃ X1 : ByteArray, ⟨(l.take 5).toArray⟩ = X1 := ⟨_, rfl⟩
    obtain ⟨X2, hX2⟩ : ∃ X2 : ByteArray, ⟨(l.drop 5).toArray⟩ = X2 := ⟨_, rfl⟩
    rw [hX1] at hx1 HR1
    rw [hX2] at hx2 HR2
    clear hX1 hX2
    have hz5 : (5 : Int) ≤ S.size := by omega
    have hz5' : 5 ≤ S.size := by omega
    have hn : ((S.size : Int) != 10) = false := by rw [hsz, hl]; rfl
    have HC := Lib.hid (check_new (pv l))
    have HK : Hid (ck (pv l) = 0 ∧ pt l = pv l ∧ pe l = 0 ∨ ck (pv l) = 2 ∧ pt l = (0, 0) ∧ pe l = 4) := by
      unfold pt pe pk
      cases h : rt (pv l)
      · right; rw [ck_no h]; simp
      · left; rw [ck_yes h]; simp [hl]
    unfold pv tv at *
    generalize rpv (l.take 5) = p at *
    generalize rpv (l.drop 5) = q at *
    generalize ck (p, q) = c at *
    generalize pt l = T at *
    generalize pe l = E at *
    clear hS hsz hl
    rcases HK.out with ⟨rfl, rfl, rfl⟩ | ⟨rfl, rfl, rfl⟩
    all_goals
      go_enter Try.func22, Try.ntmps22
      go_wp2
      go_region_with (first
        | (go_at_call_of 38 (Value.string X1); refine (HR1.out _).mono ?_; rintro e w' ⟨rfl, rfl⟩)
        | (go_at_call_of 38 (Value.string X2); refine (HR2.out _).mono ?_; rintro e w' ⟨rfl, rfl⟩))
      all_goals go_wp2_with (go_at_call 18; refine (HC.out _).mono ?_; rintro e w1 ⟨rfl, rfl⟩)
      all_goals first
        | exact bodyPost_ret (v := .tuple #[.agg #[.int .i64 p, .int .i64 q], .int .i64 0]) (by simp [results, Try.results22, go_sem]) rfl ⟨rfl, by repeat (first | exact Below.refl _ _ | (refine Below.alloc ?_ (by simp; omega) _) | (refine Below.alloc ?_ (by simp) _) | refine Below.drew ?_ | (refine Below.setCell ?_ (by simp; omega) _) | (refine Below.setCell ?_ (by simp) _))⟩
        | exact bodyPost_ret (v := .tuple #[.agg #[.int .i64 0, .int .i64 0], .int .i64 4]) (by simp [results, Try.results22, go_sem]) rfl ⟨rfl, by repeat (first | exact Below.refl _ _ | (refine Below.alloc ?_ (by simp; omega) _) | (refine Below.alloc ?_ (by simp) _) | refine Below.drew ?_ | (refine Below.setCell ?_ (by simp; omega) _) | (refine Below.setCell ?_ (by simp) _))⟩
  · have hn : ((S.size : Int) != 10) = true := by rw [bne_iff_ne]; omega
    have HP := Lib.hid (show pt l = (0, 0) ∧ pe l = 4 from by unfold pt pe pk; simp [hl])
    rw [HP.out.1, HP.out.2]
    unfold tv
    clear hS hsz hl
    go_enter Try.func22, Try.ntmps22
    go_wp2
    exact bodyPost_ret (v := .tuple #[.agg #[.int .i64 0, .int .i64 0], .int .i64 4]) (by simp [results, Try.results22, go_sem]) rfl ⟨rfl, by repeat (first | exact Below.refl _ _ | (refine Below.alloc ?_ (by simp; omega) _) | (refine Below.alloc ?_ (by simp) _) | refine Below.drew ?_ | (refine Below.setCell ?_ (by simp; omega) _) | (refine Below.setCell ?_ (by simp) _))⟩
end Go.Proofs.Ytcpnmbklkjdjlaa
