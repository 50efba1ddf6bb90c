/- Layer 1: the statements' own helpers: put, get, and the document's answer for a number's field and a text. -/
import Derived.Test.YtacobklogcdhnaaLives
namespace Go.Proofs.Ytacobklogcdhnaa
open Go.RowKit
set_option linter.unusedVariables false

theorem lput_any (B : Nat) (A : Option Addr) (cb : Nat) (l : List UInt8) (k : Nat) (hk : k < 4) (x : Int) (hx : x = k) (n : Int) (w : World) (hA : Rd w B A l) (hB : B ≤ w.heap.size) (hl : l.length ≤ 140737488354000) :
    Calls Try.prog 9 #[.slice A l.length cb, .int .i64 x, .int .i64 n] w fun e w' => ∃ v, e = .returned v ∧
      w'.ownsRow w.heap.size 5 1 v (l ++ fld (2 ^ k) n).length (bv (l ++ fld (2 ^ k) n)) ∧ Below w.heap.size w w' := by
  have HA := Lib.hid hA
  clear hA
  have hc : k = 0 ∨ k = 1 ∨ k = 2 ∨ k = 3 := by omega
  rcases hc with rfl | rfl | rfl | rfl
  · obtain rfl : x = 0 := hx
    go_enter Try.func9, Try.ntmps9
    go_wp2_with (go_at_call 27; refine (put8_any B A cb l n _ HA.out hB hl).mono ?_; rintro e w1 ⟨v, rfl, ho, hb⟩; have HO := Lib.hid ho; clear ho)
    go_ret
    exact ⟨v, rfl, HO.out, hb⟩
  · obtain rfl : x = 1 := hx
    go_enter Try.func9, Try.ntmps9
    go_wp2_with (go_at_call 28; refine (put16_any B A cb l n _ HA.out hB hl).mono ?_; rintro e w1 ⟨v, rfl, ho, hb⟩; have HO := Lib.hid ho; clear ho)
    go_ret
    exact ⟨v, rfl, HO.out, hb⟩
  · obtain rfl : x = 2 := hx
    go_enter Try.func9, Try.ntmps9
    go_wp2_with (go_at_call 29; refine (put32_any B A cb l n _ HA.out hB hl).mono ?_; rintro e w1 ⟨v, rfl, ho, hb⟩; have HO := Lib.hid ho; clear ho)
    go_ret
    exact ⟨v, rfl, HO.out, hb⟩
  · obtain rfl : x = 3 := hx
    go_enter Try.func9, Try.ntmps9
    go_wp2_with (go_at_call 30; refine (put64_any B A cb l n _ HA.out hB hl).mono ?_; rintro e w1 ⟨v, rfl, ho, hb⟩; have HO := Lib.hid ho; clear ho)
    go_ret
    exact ⟨v, rfl, HO.out, hb⟩

/-- What get answers for a number of width k. -/
def gv (k v : Nat) : Int := if k = 3 then wrap64 v else v
theorem gv_3 (v : Nat) : gv 3 v = wrap64 v := if_pos rfl
theorem gv_lt {k : Nat} (h : k ≠ 3) (v : Nat) : gv k v = v := if_neg h

theorem lget_any (p : Nat) (l : List UInt8) (at_ er : Nat) (k : Nat) (hk : k < 4) (x : Int) (hx : x = k) (v at' er' : Nat) (hv : rw_ (2 ^ k) l at_ er = (v, at', er')) (w : World) (h : Rdr w p l at_ er) :
    Calls Try.prog 16 #[.pointer (some ⟨p, 0, none⟩), .int .i64 x] w fun e w' => e = .returned (.int .i64 (gv k v)) ∧ Rdr w' p l at' er' ∧ Turn (· = p) w w' := by
  have HH := Lib.hid h
  clear h
  have hc : k = 0 ∨ k = 1 ∨ k = 2 ∨ k = 3 := by omega
  rcases hc with rfl | rfl | rfl | rfl
  · obtain rfl : x = 0 := hx
    have HV := Lib.hid hv
    clear hv
    go_enter Try.func16, Try.ntmps16
    go_wp2_with (go_at_call 23; refine (get8_any p l at_ er v at' er' HV.out _ HH.out).mono ?_; rintro e w1 ⟨rfl, hr, ht⟩; have HR := Lib.hid hr; clear hr)
    go_ret
    rw [gv_lt (by decide)]
    exact ⟨rfl, HR.out, ht⟩
  · obtain rfl : x = 1 := hx
    have HV := Lib.hid hv
    clear hv
    go_enter Try.func16, Try.ntmps16
    go_wp2_with (go_at_call 24; refine (get16_any p l at_ er v at' er' HV.out _ HH.out).mono ?_; rintro e w1 ⟨rfl, hr, ht⟩; have HR := Lib.hid hr; clear hr)
    go_ret
    rw [gv_lt (by decide)]
    exact ⟨rfl, HR.out, ht⟩
  · obtain rfl : x = 2 := hx
    have HV := Lib.hid hv
    clear hv
    go_enter Try.func16, Try.ntmps16
    go_wp2_with (go_at_call 25; refine (get32_any p l at_ er v at' er' HV.out _ HH.out).mono ?_; rintro e w1 ⟨rfl, hr, ht⟩; have HR := Lib.hid hr; clear hr)
    go_ret
    rw [gv_lt (by decide)]
    exact ⟨rfl, HR.out, ht⟩
  · obtain rfl : x = 3 := hx
    have HV := Lib.hid hv
    clear hv
    go_enter Try.func16, Try.ntmps16
    go_wp2_with (go_at_call 26; refine (get64_any p l at_ er v at' er' HV.out _ HH.out).mono ?_; rintro e w1 ⟨rfl, hr, ht⟩; have HR := Lib.hid hr; clear hr)
    go_ret
    rw [gv_3]
    exact ⟨rfl, HR.out, ht⟩

theorem made_str' {w : World} {B : Nat} {v : Value} (k : Nat) (l : List UInt8) (hl : l.length = k) (h : w.ownsRow B 5 1 v k (bv l)) :
    ∃ A cap, v = .slice A k cap ∧ (convert 22 9 (.slice A k cap)).run Try.prog w = .ok (.string ⟨l.toArray⟩) w := by
  subst hl; exact made_str l h

set_option maxHeartbeats 1000000 in
theorem refField_any (n : Int) (k : Nat) (hk : k ≤ 8) (w : World) :
    Calls Try.prog 10 #[.int .i64 n, .int .i64 k] w fun e w' => e = .returned (.string ⟨(fld k n).toArray⟩) ∧ Below w.heap.size w w' := by
  obtain ⟨i0, hi, hz0, hz1, hz2⟩ := info_parts Try.info5
  go_enter Try.func10, Try.ntmps10
  go_wp2
  go_loopw [6, 7] (fun o i wr => ∃ j : Nat, j ≤ k ∧ i = .int .i64 ((k : Int) - 1 - j) ∧ wr.ownsRow w.heap.size 5 1 o j (bv (fldTo k (IntKind.u64.wrap n) j)) ∧ Below w.heap.size w wr) (fun _ i _ => (intOf i + 1).toNat)
  case atStart => exact ⟨0, Nat.zero_le _, by go_num, World.ownsRow_nil _ _ _ _, Below.refl _ _⟩
  case round =>
    obtain ⟨j, hj, rfl, hown, hb⟩ := hrel
    by_cases hlt : j < k
    · have h0 : (0 : Int) ≤ (k : Int) - 1 - j := by omega
      have h1 : (k : Int) - 1 - j ≤ 7 := by omega
      have HO := Lib.hid hown
      clear hown
      go_wp2_with (at_builtin; refine wpList_append_own _ rfl _ _ 22 rfl w.heap.size 5 i0 (.int .u8 0) 1 1 Try.underlying22 hi hz0 hz1 hz2 rfl (by decide) _ _ _ rfl (HO.out.alloc _) ⟨wr.heap.size, 0, none⟩ 1 1 [.int .u8 (IntKind.u64.wrap n / 2 ^ (8 * (k - 1 - j)) % 256)] rfl rfl (new_cell _ _ _) (one_u8 _) (by unfold maxLen; omega) (by omega) (by have := hb.size; simp; omega) ?_; intro v' w1 ho1 hg1 _)
      have hb1 := (hb.alloc hb.size (.cells #[.int .u8 (IntKind.u64.wrap n / 2 ^ (8 * (k - 1 - j)) % 256)] 5)).trans (grown_below hg1 (HO.out.alloc _) (by have := hb.size; simp; omega))
      rw [← u8v_fbyte, show bv (fldTo k (IntKind.u64.wrap n) j) ++ [u8v (fbyte k (IntKind.u64.wrap n) j)] = bv (fldTo k (IntKind.u64.wrap n) (j + 1)) from by rw [fldTo_succ, bv_app]; rfl] at ho1
      have HO1 := Lib.hid ho1
      clear ho1 hg1
      go_wp2
      go_roundw
      case rel => exact ⟨j + 1, by omega, by go_num, HO1.out, hb1⟩
      case measure => simp [intOf]; omega
    · obtain rfl : j = k := by omega
      obtain ⟨A, cap, rfl, hc⟩ := made_str' j _ (len_fldTo j _ j) hown
      go_wp2
      go_ret
      refine ⟨?_, hb⟩
      rw [show fldTo j (IntKind.u64.wrap n) j = fld j n from by rw [IntKind.wrap_u64]; exact fld_wrap j hk n]
      rfl

theorem ba_app (a : Array UInt8) (s : ByteArray) : (⟨a ++ s.data⟩ : ByteArray) = ⟨a⟩ ++ s := by apply ByteArray.ext; simp

theorem refText_any (s : ByteArray) (w : World) (hs : s.size ≤ 140737488351232) :
    Calls Try.prog 12 #[.string s] w fun e w' => e = .returned (.string ⟨(txt s.data.toList).toArray⟩) ∧ Below w.heap.size w w' := by
  have hl : (txt s.data.toList).toArray = (fld 4 (s.size : Int)).toArray ++ s.data := by
    have : s.data.toList.length = s.size := by simp
    unfold txt; rw [this]; simp
  have HL := Lib.hid hl
  clear hl
  have hf : (fld 4 (s.size : Int)).toArray.size = 4 := by simp [len_fld]
  go_enter Try.func12, Try.ntmps12
  go_wp2_with (go_at_call 10; refine (refField_any (s.size : Int) 4 (by omega) _).mono ?_; rintro e w1 ⟨rfl, hb⟩)
  go_ret
  refine ⟨?_, hb⟩
  rw [HL.out, ba_app]
  rfl
end Go.Proofs.Ytacobklogcdhnaa
