/- The walk of ambrylaw02.TupleBack. -/
import Derived.Test.YtcebhoilokmhdaaTupDecC
namespace Go.Proofs.Ytcebhoilokmhdaa
open Go.RowKit
set_option linter.unusedVariables false

set_option maxRecDepth 100000 in
set_option maxHeartbeats 2000000 in
theorem tb_ok_big (va : Value) (a : List Pt) (S : ByteArray) (w : World) (HA : Hid (Parts w w.heap.size va a)) (HFA : Hid (Calls Try.prog 45 #[va] w fun e w' => e = .returned (.bool true) ∧ w = w')) (T : ByteArray) (c : Int) (hc0 : c = 0) (HC : Hid (chk a = c)) (HT : Hid (encS a = T)) (HDT : Hid (dec T.data.toList = some a)) (hts : (T.size : Int) ≤ 128) (hs : (128 : Int) < S.size) :
    Calls Try.prog 13 #[va, .string S] w fun e w' => e = .returned (.bool true) ∧ Below w.heap.size w w' := by
  subst hc0
  go_enter Try.func13, Try.ntmps13
  go_wp2_with (first
    | (go_at_call 45; refine HFA.out.mono ?_; rintro e w' ⟨rfl, rfl⟩)
    | (go_at_call_of 35 va; refine (encode_any va a _ HA.out T 0 HC.out HT.out).mono ?_; rintro e w1 ⟨rfl, hb1⟩)
    | (go_at_call_of 40 (Value.string T); refine (decode_some T hts a HDT.out _).mono ?_; rintro e w2 ⟨A2, c2, rfl, hp2, hb2⟩; have HP2 := Lib.hid hp2; have hb12 := bthen hb1 hb1.size hb2; clear hp2 hb2 hb1)
    | (go_at_call 42; refine (same_any va _ a a _ (HA.out.at_ hb12) HP2.out true (by simp)).mono ?_; rintro e w3 ⟨rfl, hb3⟩; have hb13 := bthen hb12 hb12.size hb3; clear hb3 hb12)
    | (go_at_call_of 40 (Value.string S); refine (decode_big S hs _).mono ?_; rintro e w4 ⟨rfl, hb4⟩; have hb14 := bthen hb13 hb13.size hb4; clear hb4 hb13)
    | (go_at_call 34; refine (lives2_any _).mono ?_; rintro e w9 ⟨rfl, hl⟩))
  go_ret
  exact ⟨rfl, bthen hb14 hb14.size hl⟩

set_option maxRecDepth 100000 in
set_option maxHeartbeats 2000000 in
theorem tb_ok_none (va : Value) (a : List Pt) (S : ByteArray) (w : World) (HA : Hid (Parts w w.heap.size va a)) (HFA : Hid (Calls Try.prog 45 #[va] w fun e w' => e = .returned (.bool true) ∧ w = w')) (T : ByteArray) (c : Int) (hc0 : c = 0) (HC : Hid (chk a = c)) (HT : Hid (encS a = T)) (HDT : Hid (dec T.data.toList = some a)) (hts : (T.size : Int) ≤ 128) (hs : (S.size : Int) ≤ 128) (HD : Hid (dec S.data.toList = none)) :
    Calls Try.prog 13 #[va, .string S] w fun e w' => e = .returned (.bool true) ∧ Below w.heap.size w w' := by
  subst hc0
  go_enter Try.func13, Try.ntmps13
  go_wp2_with (first
    | (go_at_call 45; refine HFA.out.mono ?_; rintro e w' ⟨rfl, rfl⟩)
    | (go_at_call_of 35 va; refine (encode_any va a _ HA.out T 0 HC.out HT.out).mono ?_; rintro e w1 ⟨rfl, hb1⟩)
    | (go_at_call_of 40 (Value.string T); refine (decode_some T hts a HDT.out _).mono ?_; rintro e w2 ⟨A2, c2, rfl, hp2, hb2⟩; have HP2 := Lib.hid hp2; have hb12 := bthen hb1 hb1.size hb2; clear hp2 hb2 hb1)
    | (go_at_call 42; refine (same_any va _ a a _ (HA.out.at_ hb12) HP2.out true (by simp)).mono ?_; rintro e w3 ⟨rfl, hb3⟩; have hb13 := bthen hb12 hb12.size hb3; clear hb3 hb12)
    | (go_at_call_of 40 (Value.string S); refine (decode_none S hs HD.out _).mono ?_; rintro e w4 ⟨rfl, hb4⟩; have hb14 := bthen hb13 hb13.size hb4; clear hb4 hb13)
    | (go_at_call 34; refine (lives2_any _).mono ?_; rintro e w9 ⟨rfl, hl⟩))
  go_ret
  exact ⟨rfl, bthen hb14 hb14.size hl⟩

set_option maxRecDepth 100000 in
set_option maxHeartbeats 2000000 in
theorem tb_ok_some (va : Value) (a : List Pt) (S : ByteArray) (w : World) (HA : Hid (Parts w w.heap.size va a)) (HFA : Hid (Calls Try.prog 45 #[va] w fun e w' => e = .returned (.bool true) ∧ w = w')) (T : ByteArray) (c : Int) (hc0 : c = 0) (HC : Hid (chk a = c)) (HT : Hid (encS a = T)) (HDT : Hid (dec T.data.toList = some a)) (hts : (T.size : Int) ≤ 128) (hs : (S.size : Int) ≤ 128) (ps : List Pt) (HD : Hid (dec S.data.toList = some ps)) (HCP : Hid (chk ps = 0)) (HSP : Hid (encS ps = S)) :
    Calls Try.prog 13 #[va, .string S] w fun e w' => e = .returned (.bool true) ∧ Below w.heap.size w w' := by
  subst hc0
  go_enter Try.func13, Try.ntmps13
  go_wp2_with (first
    | (go_at_call 45; refine HFA.out.mono ?_; rintro e w' ⟨rfl, rfl⟩)
    | (go_at_call_of 35 va; refine (encode_any va a _ HA.out T 0 HC.out HT.out).mono ?_; rintro e w1 ⟨rfl, hb1⟩)
    | (go_at_call_of 40 (Value.string T); refine (decode_some T hts a HDT.out _).mono ?_; rintro e w2 ⟨A2, c2, rfl, hp2, hb2⟩; have HP2 := Lib.hid hp2; have hb12 := bthen hb1 hb1.size hb2; clear hp2 hb2 hb1)
    | (go_at_call 42; refine (same_any va _ a a _ (HA.out.at_ hb12) HP2.out true (by simp)).mono ?_; rintro e w3 ⟨rfl, hb3⟩; have hb13 := bthen hb12 hb12.size hb3; clear hb3 hb12)
    | (go_at_call_of 40 (Value.string S); refine (decode_some S hs ps HD.out _).mono ?_; rintro e w4 ⟨A4, c4, rfl, hp4, hb4⟩; have HP4 := Lib.hid hp4; have hb14 := bthen hb13 hb13.size hb4; clear hp4 hb4 hb13)
    | (go_at_call 35; refine (encode_any _ ps _ HP4.out S 0 HCP.out HSP.out).mono ?_; rintro e w5 ⟨rfl, hb5⟩)
    | (go_at_call 37; refine (check_any _ ps _ (HP4.out.at_ hb5)).mono ?_; rintro e w6 ⟨rfl, hb6⟩; rw [HCP.out]; have hb16 := bthen hb14 hb14.size (bthen hb5 hb5.size hb6))
    | (go_at_call 34; refine (lives2_any _).mono ?_; rintro e w9 ⟨rfl, hl⟩))
  go_ret
  exact ⟨rfl, bthen hb16 hb16.size hl⟩

set_option maxRecDepth 100000 in
set_option maxHeartbeats 2000000 in
theorem tb_no_big (va : Value) (a : List Pt) (S : ByteArray) (w : World) (HA : Hid (Parts w w.heap.size va a)) (HFA : Hid (Calls Try.prog 45 #[va] w fun e w' => e = .returned (.bool true) ∧ w = w')) (T : ByteArray) (c : Int) (hc0 : (c == 0) = false) (hc1 : (c != 0) = true) (HC : Hid (chk a = c)) (HT : Hid (encS a = T)) (hte : T.toList.isEmpty = true) (hs : (128 : Int) < S.size) :
    Calls Try.prog 13 #[va, .string S] w fun e w' => e = .returned (.bool true) ∧ Below w.heap.size w w' := by
  go_enter Try.func13, Try.ntmps13
  go_wp2_with (first
    | (go_at_call 45; refine HFA.out.mono ?_; rintro e w' ⟨rfl, rfl⟩)
    | (go_at_call_of 35 va; refine (encode_any va a _ HA.out T c HC.out HT.out).mono ?_; rintro e w1 ⟨rfl, hb1⟩)
    | (go_at_call_of 37 va; refine (check_any va a _ (HA.out.at_ hb1)).mono ?_; rintro e w3 ⟨rfl, hb3⟩; rw [HC.out]; have hb13 := bthen hb1 hb1.size hb3; clear hb3 hb1)
    | (go_at_call_of 40 (Value.string S); refine (decode_big S hs _).mono ?_; rintro e w4 ⟨rfl, hb4⟩; have hb14 := bthen hb13 hb13.size hb4; clear hb4 hb13)
    | (go_at_call 34; refine (lives2_any _).mono ?_; rintro e w9 ⟨rfl, hl⟩))
  go_ret
  exact ⟨rfl, bthen hb14 hb14.size hl⟩

set_option maxRecDepth 100000 in
set_option maxHeartbeats 2000000 in
theorem tb_no_none (va : Value) (a : List Pt) (S : ByteArray) (w : World) (HA : Hid (Parts w w.heap.size va a)) (HFA : Hid (Calls Try.prog 45 #[va] w fun e w' => e = .returned (.bool true) ∧ w = w')) (T : ByteArray) (c : Int) (hc0 : (c == 0) = false) (hc1 : (c != 0) = true) (HC : Hid (chk a = c)) (HT : Hid (encS a = T)) (hte : T.toList.isEmpty = true) (hs : (S.size : Int) ≤ 128) (HD : Hid (dec S.data.toList = none)) :
    Calls Try.prog 13 #[va, .string S] w fun e w' => e = .returned (.bool true) ∧ Below w.heap.size w w' := by
  go_enter Try.func13, Try.ntmps13
  go_wp2_with (first
    | (go_at_call 45; refine HFA.out.mono ?_; rintro e w' ⟨rfl, rfl⟩)
    | (go_at_call_of 35 va; refine (encode_any va a _ HA.out T c HC.out HT.out).mono ?_; rintro e w1 ⟨rfl, hb1⟩)
    | (go_at_call_of 37 va; refine (check_any va a _ (HA.out.at_ hb1)).mono ?_; rintro e w3 ⟨rfl, hb3⟩; rw [HC.out]; have hb13 := bthen hb1 hb1.size hb3; clear hb3 hb1)
    | (go_at_call_of 40 (Value.string S); refine (decode_none S hs HD.out _).mono ?_; rintro e w4 ⟨rfl, hb4⟩; have hb14 := bthen hb13 hb13.size hb4; clear hb4 hb13)
    | (go_at_call 34; refine (lives2_any _).mono ?_; rintro e w9 ⟨rfl, hl⟩))
  go_ret
  exact ⟨rfl, bthen hb14 hb14.size hl⟩

set_option maxRecDepth 100000 in
set_option maxHeartbeats 2000000 in
theorem tb_no_some (va : Value) (a : List Pt) (S : ByteArray) (w : World) (HA : Hid (Parts w w.heap.size va a)) (HFA : Hid (Calls Try.prog 45 #[va] w fun e w' => e = .returned (.bool true) ∧ w = w')) (T : ByteArray) (c : Int) (hc0 : (c == 0) = false) (hc1 : (c != 0) = true) (HC : Hid (chk a = c)) (HT : Hid (encS a = T)) (hte : T.toList.isEmpty = true) (hs : (S.size : Int) ≤ 128) (ps : List Pt) (HD : Hid (dec S.data.toList = some ps)) (HCP : Hid (chk ps = 0)) (HSP : Hid (encS ps = S)) :
    Calls Try.prog 13 #[va, .string S] w fun e w' => e = .returned (.bool true) ∧ Below w.heap.size w w' := by
  go_enter Try.func13, Try.ntmps13
  go_wp2_with (first
    | (go_at_call 45; refine HFA.out.mono ?_; rintro e w' ⟨rfl, rfl⟩)
    | (go_at_call_of 35 va; refine (encode_any va a _ HA.out T c HC.out HT.out).mono ?_; rintro e w1 ⟨rfl, hb1⟩)
    | (go_at_call_of 37 va; refine (check_any va a _ (HA.out.at_ hb1)).mono ?_; rintro e w3 ⟨rfl, hb3⟩; rw [HC.out]; have hb13 := bthen hb1 hb1.size hb3; clear hb3 hb1)
    | (go_at_call_of 40 (Value.string S); refine (decode_some S hs ps HD.out _).mono ?_; rintro e w4 ⟨A4, c4, rfl, hp4, hb4⟩; have HP4 := Lib.hid hp4; have hb14 := bthen hb13 hb13.size hb4; clear hp4 hb4 hb13)
    | (go_at_call 35; refine (encode_any _ ps _ HP4.out S 0 HCP.out HSP.out).mono ?_; rintro e w5 ⟨rfl, hb5⟩)
    | (go_at_call 37; refine (check_any _ ps _ (HP4.out.at_ hb5)).mono ?_; rintro e w6 ⟨rfl, hb6⟩; rw [HCP.out]; have hb16 := bthen hb14 hb14.size (bthen hb5 hb5.size hb6))
    | (go_at_call 34; refine (lives2_any _).mono ?_; rintro e w9 ⟨rfl, hl⟩))
  go_ret
  exact ⟨rfl, bthen hb16 hb16.size hl⟩

theorem tupleBack_walk (va : Value) (a : List Pt) (S : ByteArray) (w : World) (ha : Parts w w.heap.size va a) (hsz : S.size ≤ 140737488351232) :
    Calls Try.prog 13 #[va, .string S] w fun e w' => e = .returned (.bool true) ∧ Below w.heap.size w w' := by
  obtain ⟨fa, hfa⟩ : ∃ f, f = decide (a.length ≤ 1000) := ⟨_, rfl⟩
  have HFA := Lib.hid (few_any va a w ha fa hfa)
  have HA := Lib.hid ha
  clear hfa ha
  cases fa
  · go_enter Try.func13, Try.ntmps13
    go_wp2_with (first
      | (go_at_call 45; refine HFA.out.mono ?_; rintro e w' ⟨rfl, rfl⟩)
      | (go_at_call 34; refine (lives2_any _).mono ?_; rintro e w9 ⟨rfl, hl⟩))
    go_ret
    exact ⟨rfl, hl⟩
  by_cases hca : chk a = 0
  · have HDT := Lib.hid (dec_encS HA.out.fine hca)
    have hts : ((encS a).size : Int) ≤ 128 := by rw [encS_size hca]; have := (chk_ok hca).2; omega
    by_cases hs : (S.size : Int) ≤ 128
    · cases hd : dec S.data.toList with
      | none => exact tb_ok_none va a S w HA HFA _ 0 rfl (Lib.hid hca) (Lib.hid rfl) HDT hts hs (Lib.hid hd)
      | some ps => exact tb_ok_some va a S w HA HFA _ 0 rfl (Lib.hid hca) (Lib.hid rfl) HDT hts hs ps (Lib.hid hd) (Lib.hid (chk_dec hs hd).1) (Lib.hid (chk_dec hs hd).2)
    · exact tb_ok_big va a S w HA HFA _ 0 rfl (Lib.hid hca) (Lib.hid rfl) HDT hts (by omega)
  · have h1 : (chk a == 0) = false := by simpa using hca
    have h2 : (chk a != 0) = true := by simpa using hca
    have hte : (encS a).toList.isEmpty = true := by rw [encS_no hca]; exact str_is_empty rfl
    by_cases hs : (S.size : Int) ≤ 128
    · cases hd : dec S.data.toList with
      | none => exact tb_no_none va a S w HA HFA _ _ h1 h2 (Lib.hid rfl) (Lib.hid rfl) hte hs (Lib.hid hd)
      | some ps => exact tb_no_some va a S w HA HFA _ _ h1 h2 (Lib.hid rfl) (Lib.hid rfl) hte hs ps (Lib.hid hd) (Lib.hid (chk_dec hs hd).1) (Lib.hid (chk_dec hs hd).2)
    · exact tb_no_big va a S w HA HFA _ _ h1 h2 (Lib.hid rfl) (Lib.hid rfl) hte (by omega)
end Go.Proofs.Ytcebhoilokmhdaa
