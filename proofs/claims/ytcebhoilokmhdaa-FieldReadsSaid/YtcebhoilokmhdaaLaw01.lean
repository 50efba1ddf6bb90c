/- Layer 1: the statements' own helpers: put, get, and the document's answer for a number's field and a text. -/
import Derived.Test.YtcebhoilokmhdaaLives
namespace Go.Proofs.Ytcebhoilokmhdaa
open Go.RowKit
set_option linter.unusedVariables false

theorem lput_any (B : Nat) (A : Option Addr) (cb : Nat) (l : List UInt8) (k : Nat) (hk : k < 4) (x : Int) (hx : x = k) (n : Int) (w : World) (hA : Rd w B A l) (hB : B ≤ w.heap.size) (hl : l.length ≤ 140737488354000) :
    Calls Try.prog 16 #[.slice A l.length cb, .int .i64 x, .int .i64 n] w fun e w' => ∃ v, e = .returned v ∧
      w'.ownsRow w.heap.size 5 1 v (l ++ fld (2 ^ k) n).length (bv (l ++ fld (2 ^ k) n)) ∧ Below w.heap.size w w' := by
  have HA := Lib.hid hA
  clear hA
  have hc : k = 0 ∨ k = 1 ∨ k = 2 ∨ k = 3 := by omega
  rcases hc with rfl | rfl | rfl | rfl
  · obtain rfl : x = 0 := hx
    go_enter Try.func16, Try.ntmps16
    go_wp2_with (go_at_call 47; refine (put8_any B A cb l n _ HA.out hB hl).mono ?_; rintro e w1 ⟨v, rfl, ho, hb⟩; have HO := Lib.hid ho; clear ho)
    go_ret
    exact ⟨v, rfl, HO.out, hb⟩
  · obtain rfl : x = 1 := hx
    go_enter Try.func16, Try.ntmps16
    go_wp2_with (go_at_call 48; refine (put16_any B A cb l n _ HA.out hB hl).mono ?_; rintro e w1 ⟨v, rfl, ho, hb⟩; have HO := Lib.hid ho; clear ho)
    go_ret
    exact ⟨v, rfl, HO.out, hb⟩
  · obtain rfl : x = 2 := hx
    go_enter Try.func16, Try.ntmps16
    go_wp2_with (go_at_call 49; refine (put32_any B A cb l n _ HA.out hB hl).mono ?_; rintro e w1 ⟨v, rfl, ho, hb⟩; have HO := Lib.hid ho; clear ho)
    go_ret
    exact ⟨v, rfl, HO.out, hb⟩
  · obtain rfl : x = 3 := hx
    go_enter Try.func16, Try.ntmps16
    go_wp2_with (go_at_call 50; refine (put64_any B A cb l n _ HA.out hB hl).mono ?_; rintro e w1 ⟨v, rfl, ho, hb⟩; have HO := Lib.hid ho; clear ho)
    go_ret
    exact ⟨v, rfl, HO.out, hb⟩

/-- What get answers for a number of width k. -/
def gv (k v : Nat) : Int := if k = 3 then wrap64 v else v
theorem gv_3 (v : Nat) : gv 3 v = wrap64 v := if_pos rfl
theorem gv_lt {k : Nat} (h : k ≠ 3) (v : Nat) : gv k v = v := if_neg h

theorem lget_any (p : Nat) (l : List UInt8) (at_ er : Nat) (k : Nat) (hk : k < 4) (x : Int) (hx : x = k) (v at' er' : Nat) (hv : rw_ (2 ^ k) l at_ er = (v, at', er')) (w : World) (h : Rdr w p l at_ er) :
    Calls Try.prog 23 #[.pointer (some ⟨p, 0, none⟩), .int .i64 x] w fun e w' => e = .returned (.int .i64 (gv k v)) ∧ Rdr w' p l at' er' ∧ Turn (· = p) w w' := by
  have HH := Lib.hid h
  clear h
  have hc : k = 0 ∨ k = 1 ∨ k = 2 ∨ k = 3 := by omega
  rcases hc with rfl | rfl | rfl | rfl
  · obtain rfl : x = 0 := hx
    have HV := Lib.hid hv
    clear hv
    go_enter Try.func23, Try.ntmps23
    go_wp2_with (go_at_call 30; refine (get8_any p l at_ er v at' er' HV.out _ HH.out).mono ?_; rintro e w1 ⟨rfl, hr, ht⟩; have HR := Lib.hid hr; clear hr)
    go_ret
    rw [gv_lt (by decide)]
    exact ⟨rfl, HR.out, ht⟩
  · obtain rfl : x = 1 := hx
    have HV := Lib.hid hv
    clear hv
    go_enter Try.func23, Try.ntmps23
    go_wp2_with (go_at_call 31; refine (get16_any p l at_ er v at' er' HV.out _ HH.out).mono ?_; rintro e w1 ⟨rfl, hr, ht⟩; have HR := Lib.hid hr; clear hr)
    go_ret
    rw [gv_lt (by decide)]
    exact ⟨rfl, HR.out, ht⟩
  · obtain rfl : x = 2 := hx
    have HV := Lib.hid hv
    clear hv
    go_enter Try.func23, Try.ntmps23
    go_wp2_with (go_at_call 32; refine (get32_any p l at_ er v at' er' HV.out _ HH.out).mono ?_; rintro e w1 ⟨rfl, hr, ht⟩; have HR := Lib.hid hr; clear hr)
    go_ret
    rw [gv_lt (by decide)]
    exact ⟨rfl, HR.out, ht⟩
  · obtain rfl : x = 3 := hx
    have HV := Lib.hid hv
    clear hv
    go_enter Try.func23, Try.ntmps23
    go_wp2_with (go_at_call 33; refine (get64_any p l at_ er v at' er' HV.out _ HH.out).mono ?_; rintro e w1 ⟨rfl, hr, ht⟩; have HR := Lib.hid hr; clear hr)
    go_ret
    rw [gv_3]
    exact ⟨rfl, HR.out, ht⟩

theorem refText_any (s : ByteArray) (w : World) (hs : s.size ≤ 140737488351232) :
    Calls Try.prog 19 #[.string s] w fun e w' => e = .returned (.string ⟨(txt s.data.toList).toArray⟩) ∧ Below w.heap.size w w' := by
  have hl : (txt s.data.toList).toArray = (fld 4 (s.size : Int)).toArray ++ s.data := by
    have : s.data.toList.length = s.size := by simp
    unfold txt; rw [this]; simp
  have HL := Lib.hid hl
  clear hl
  have hf : (fld 4 (s.size : Int)).toArray.size = 4 := by simp [len_fld]
  go_enter Try.func19, Try.ntmps19
  go_wp2_with (go_at_call 17; refine (refField_any (s.size : Int) 4 (by omega) _).mono ?_; rintro e w1 ⟨rfl, hb⟩)
  go_ret
  refine ⟨?_, hb⟩
  rw [HL.out, ba_app]
  rfl
end Go.Proofs.Ytcebhoilokmhdaa
