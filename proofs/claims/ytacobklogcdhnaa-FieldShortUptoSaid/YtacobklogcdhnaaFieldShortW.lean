/- The walk of ambrylaw01.FieldShort. -/
import Derived.Test.YtacobklogcdhnaaFieldRowsW
import Derived.Test.YtacobklogcdhnaaApp2
import Derived.Test.YtacobklogcdhnaaVal
import Derived.Test.YtacobklogcdhnaaFieldNilW
namespace Go.Proofs.Ytacobklogcdhnaa
open Go.RowKit
set_option linter.unusedVariables false

/-- Bytes that a call has made, by the number of them. -/
theorem made_sl {w : World} {B : Nat} {v : Value} {l : List UInt8} (n : Nat) (hn : l.length = n) (h : w.ownsRow B 5 1 v l.length (bv l)) :
    ∃ A cap, v = .slice A n cap ∧ n ≤ cap ∧ cap ≤ maxLen ∧ ∀ c w', c ≤ n → 0 < n → Below w.heap.size w w' → Sl w' w'.heap.size (.slice A c cap) (l.take c) := by
  subst hn
  obtain ⟨A, cap, e, hr, hm, hnil, hle⟩ := rd_of_own h
  refine ⟨A, cap, e, hle, hm, fun c w' hc hpos hb => ?_⟩
  have hlen : (l.take c).length = c := by simp; omega
  refine ⟨A, cap, by rw [hlen], fun hp => ?_, hm, fun hA => ?_, by omega⟩
  · obtain ⟨ad, e, hs, hbk, hcell⟩ := (hr.below hb) hpos
    refine ⟨ad, e, hs, Nat.lt_of_lt_of_le hbk hb.size, fun j x hj => hcell j x ?_⟩
    rw [List.getElem?_take] at hj
    split at hj
    · exact hj
    · cases hj
  · have := (hnil hA).2; subst this; simp at hpos


/-- A text's bytes of which the end is missing. -/
theorem rt_short (s : ByteArray) (hs : s.size < 4294967296) (c : Nat) (hc : c < 4 + s.size) : rt_ (s.size : Int) (([] ++ txt s.data.toList).take c) 0 0 = ([], 0, 3) := by
  have hlen : (([] ++ txt s.data.toList).take c).length = c := by rw [List.length_take, len_txt]; simp; omega
  unfold rt_
  rw [hlen]
  by_cases h4 : c < 0 + 4
  · simp [h4]
  · have hn : (num 4 (([] ++ txt s.data.toList).take c) 0 : Int) = s.size := by
      rw [num_fld 4 (by decide) (s.size : Int) _ [] (s.data.toList.take (c - 4)) 0 ?_ rfl]
      · omega
      · have e : s.data.toList.length = s.size := by simp
        rw [List.nil_append, txt, e, List.nil_append]
        rw [show c = (fld 4 (s.size : Int)).length + (c - 4) from by rw [len_fld]; omega, List.take_length_add_append]
        congr 2
        rw [len_fld]; omega
    have hn' : num 4 (([] ++ txt s.data.toList).take c) 0 = s.size := by omega
    rw [hn']
    have h2 : c < 0 + 4 + s.size := by omega
    simp [h4, h2]
theorem gv_0 (k : Nat) : gv k 0 = 0 := by
  unfold gv; split
  · simp [wrap64]
  · rfl
theorem rw_short (k : Nat) (l : List UInt8) (h : l.length < k) : rw_ k l 0 0 = (0, 0, 3) := by simp [rw_, h]

set_option maxHeartbeats 1000000 in
theorem fieldShort_0 (s : ByteArray) (n cut : Int) (w : World) (b0 : s.size ≤ 1048576) :
    Calls Try.prog 7 #[.string s, .int .i64 n, .int .i64 0, .int .i64 cut] w fun e w' => e = .returned (.bool true) ∧ Below w.heap.size w w' := by
  have hU0 : 0 ≤ IntKind.u64.wrap cut := by rw [IntKind.wrap_u64]; exact Int.emod_nonneg _ (by decide)
  obtain ⟨c1, hc1⟩ : ∃ c : Nat, (IntKind.u64.wrap cut).tmod (4 + (s.size : Int)) = (c : Int) := ⟨_, (Int.toNat_of_nonneg (Int.tmod_nonneg _ hU0)).symm⟩
  have hc1l : (c1 : Int) < 4 + s.size := by rw [← hc1]; exact Int.tmod_lt_of_pos _ (by omega)
  obtain ⟨c2, hc2⟩ : ∃ c : Nat, (IntKind.u64.wrap cut).tmod 1 = (c : Int) := ⟨_, (Int.toNat_of_nonneg (Int.tmod_nonneg _ hU0)).symm⟩
  have hc2l : (c2 : Int) < 1 := by rw [← hc2]; exact Int.tmod_lt_of_pos _ (by decide)
  have hle : (c1 : Int) ≤ 1048580 := by omega
  have HT := Lib.hid (rt_short s (by omega) c1 (by omega))
  have HL1 := Lib.hid (show ((([] : List UInt8) ++ txt s.data.toList).take c1).length = c1 from by rw [List.length_take, len_txt]; simp; omega)
  have HW := Lib.hid (rw_short (2 ^ 0) ((([] : List UInt8) ++ fld (2 ^ 0) n).take c2) (by simp [len_fld]; omega))
  have HL2 := Lib.hid (show ((([] : List UInt8) ++ fld (2 ^ 0) n).take c2).length = c2 from by simp [len_fld]; omega)
  have HX := Lib.hid (show c2 ≤ 1 ∧ c1 ≤ 4 + s.size from by omega)
  obtain rfl : c2 = 0 := by omega
  clear hU0
  go_enter Try.func7, Try.ntmps7
  go_wp2_with (first
    | (go_at_call 11; refine (putText_any 0 none 0 [] s _ (Rd.nil _ _ _) (Nat.zero_le _) (by simp; omega) (by omega)).mono ?_; rintro e w1 ⟨v1, rfl, ho1, hb1⟩; obtain ⟨A1, cap1, rfl, hle1, hm1, hs1⟩ := made_sl (4 + s.size) (by rw [len_txt]; simp) ho1; have HS1 := Lib.hid hs1; clear ho1 hs1)
    | (go_at_call 9; refine (lput_any 0 none 0 [] 0 (by decide) 0 rfl n _ (Rd.nil _ _ _) (Nat.zero_le _) (by simp)).mono ?_; rintro e w2 ⟨v2, rfl, ho2, hb2⟩; obtain ⟨A2, cap2, rfl, hle2, hm2, hs2⟩ := made_sl 1 (by simp [len_fld]) ho2; have HS2 := Lib.hid hs2; clear ho2 hs2))
  refine (newReader_any _ _ _ w2 (HS1.out c1 w2 HX.out.2 (by omega) hb2) (Nat.le_refl _) (by rw [HL1.out]; omega)).mono ?_
  rintro e w3 ⟨p1, rfl, hr1, hp1, hb3⟩
  have HR1 := Lib.hid hr1
  clear hr1
  go_wp2_with fail
  refine (newReader_any _ _ _ w3 (HS2.out 0 w3 (by decide) (by decide) hb3) (Nat.le_refl _) (by rw [HL2.out]; omega)).mono ?_
  rintro e w4 ⟨p2, rfl, hr2, hp2, hb4⟩
  have HQ1 := Lib.hid (HR1.out.below hb4 HR1.out.lt)
  have HNE := Lib.hid (show p2 ≠ p1 from by have := HR1.out.lt; omega)
  have HR2 := Lib.hid hr2
  clear hr2
  go_wp2_with (first
    | (go_at_call_of 18 (Value.int IntKind.i64 (s.size : Int)); refine (text_any p1 _ 0 0 (s.size : Int) [] 0 3 HT.out _ HQ1.out).mono ?_; rintro e w5 ⟨rfl, hq5, ht5⟩; have HQ5 := Lib.hid hq5; have HR5 := Lib.hid (HR2.out.apart HQ1.out HNE.out ht5); clear hq5)
    | (go_at_call 16; refine (lget_any p2 _ 0 0 0 (by decide) 0 rfl 0 0 3 HW.out _ HR5.out).mono ?_; rintro e w6 ⟨rfl, hq6, ht6⟩; have HR6 := Lib.hid hq6; have HQ6 := Lib.hid (HQ5.out.apart HR5.out (Ne.symm HNE.out) ht6); clear hq6; rw [gv_0])
    | (go_at_call_of 20 (Value.pointer (some ⟨p1, 0, none⟩)); refine (er_any p1 _ 0 3 _ HQ6.out).mono ?_; rintro e w' ⟨rfl, rfl⟩)
    | (go_at_call_of 20 (Value.pointer (some ⟨p2, 0, none⟩)); refine (er_any p2 _ 0 3 _ HR6.out).mono ?_; rintro e w' ⟨rfl, rfl⟩)
    | (go_at_call_of 19 (Value.pointer (some ⟨p1, 0, none⟩)); refine (at_any p1 _ 0 3 _ HQ6.out).mono ?_; rintro e w' ⟨rfl, rfl⟩)
    | (go_at_call_of 19 (Value.pointer (some ⟨p2, 0, none⟩)); refine (at_any p2 _ 0 3 _ HR6.out).mono ?_; rintro e w' ⟨rfl, rfl⟩)
    | (go_at_call 23; refine (get8_any p2 _ 0 3 0 0 3 rfl _ HR6.out).mono ?_; rintro e w7 ⟨rfl, hr7, ht7⟩; have HQ7 := Lib.hid (HQ6.out.apart HR6.out (Ne.symm HNE.out) ht7); clear hr7)
    | (go_at_call_of 18 (Value.int IntKind.i64 0); refine (text_any p1 _ 0 3 0 [] 0 3 rfl _ HQ7.out).mono ?_; rintro e w8 ⟨rfl, hr8, ht8⟩; have HQ8 := Lib.hid hr8; clear hr8)
    | (go_at_call 21; refine (end_any p1 _ 0 3 _ HQ8.out).mono ?_; rintro e w9 ⟨rfl, n9, rfl⟩; rw [show re_ _ 0 3 = 3 from rfl])
    | (go_at_call 13; refine (lives_any _).mono ?_; rintro e w10 ⟨rfl, t10⟩))
  go_ret
  refine ⟨rfl, ?_⟩
  have z1 := hb1.size
  have z2 := hb2.size
  have z3 := hb3.size
  have z4 := hb4.size
  have z5 := ht5.size
  have z6 := ht6.size
  have z7 := ht7.size
  have z8 := ht8.size
  have b4 : Below w.heap.size w w4 := hb1.trans ((hb2.mono (by omega)).trans ((hb3.mono (by omega)).trans (hb4.mono (by omega))))
  have b8 : Below w.heap.size w w8 := b4.trans ((ht5.below (by omega) (by omega)).trans ((ht6.below (by omega) (by omega)).trans ((ht7.below (by omega) (by omega)).trans (ht8.below (by omega) (by omega)))))
  exact (bdrewN b8).trans (t10.mono (by rw [size_drewN]; omega))

set_option maxHeartbeats 1000000 in
theorem fieldShort_1 (s : ByteArray) (n cut : Int) (w : World) (b0 : s.size ≤ 1048576) :
    Calls Try.prog 7 #[.string s, .int .i64 n, .int .i64 1, .int .i64 cut] w fun e w' => e = .returned (.bool true) ∧ Below w.heap.size w w' := by
  have hU0 : 0 ≤ IntKind.u64.wrap cut := by rw [IntKind.wrap_u64]; exact Int.emod_nonneg _ (by decide)
  obtain ⟨c1, hc1⟩ : ∃ c : Nat, (IntKind.u64.wrap cut).tmod (4 + (s.size : Int)) = (c : Int) := ⟨_, (Int.toNat_of_nonneg (Int.tmod_nonneg _ hU0)).symm⟩
  have hc1l : (c1 : Int) < 4 + s.size := by rw [← hc1]; exact Int.tmod_lt_of_pos _ (by omega)
  obtain ⟨c2, hc2⟩ : ∃ c : Nat, (IntKind.u64.wrap cut).tmod 2 = (c : Int) := ⟨_, (Int.toNat_of_nonneg (Int.tmod_nonneg _ hU0)).symm⟩
  have hc2l : (c2 : Int) < 2 := by rw [← hc2]; exact Int.tmod_lt_of_pos _ (by decide)
  have hle : (c1 : Int) ≤ 1048580 := by omega
  have HT := Lib.hid (rt_short s (by omega) c1 (by omega))
  have HL1 := Lib.hid (show ((([] : List UInt8) ++ txt s.data.toList).take c1).length = c1 from by rw [List.length_take, len_txt]; simp; omega)
  have HW := Lib.hid (rw_short (2 ^ 1) ((([] : List UInt8) ++ fld (2 ^ 1) n).take c2) (by simp [len_fld]; omega))
  have HL2 := Lib.hid (show ((([] : List UInt8) ++ fld (2 ^ 1) n).take c2).length = c2 from by simp [len_fld]; omega)
  have HX := Lib.hid (show c2 ≤ 2 ∧ c1 ≤ 4 + s.size from by omega)
  clear hU0
  go_enter Try.func7, Try.ntmps7
  go_wp2_with (first
    | (go_at_call 11; refine (putText_any 0 none 0 [] s _ (Rd.nil _ _ _) (Nat.zero_le _) (by simp; omega) (by omega)).mono ?_; rintro e w1 ⟨v1, rfl, ho1, hb1⟩; obtain ⟨A1, cap1, rfl, hle1, hm1, hs1⟩ := made_sl (4 + s.size) (by rw [len_txt]; simp) ho1; have HS1 := Lib.hid hs1; clear ho1 hs1)
    | (go_at_call 9; refine (lput_any 0 none 0 [] 1 (by decide) 1 rfl n _ (Rd.nil _ _ _) (Nat.zero_le _) (by simp)).mono ?_; rintro e w2 ⟨v2, rfl, ho2, hb2⟩; obtain ⟨A2, cap2, rfl, hle2, hm2, hs2⟩ := made_sl 2 (by simp [len_fld]) ho2; have HS2 := Lib.hid hs2; clear ho2 hs2))
  refine (newReader_any _ _ _ w2 (HS1.out c1 w2 HX.out.2 (by omega) hb2) (Nat.le_refl _) (by rw [HL1.out]; omega)).mono ?_
  rintro e w3 ⟨p1, rfl, hr1, hp1, hb3⟩
  have HR1 := Lib.hid hr1
  clear hr1
  go_wp2_with fail
  refine (newReader_any _ _ _ w3 (HS2.out c2 w3 HX.out.1 (by decide) hb3) (Nat.le_refl _) (by rw [HL2.out]; omega)).mono ?_
  rintro e w4 ⟨p2, rfl, hr2, hp2, hb4⟩
  have HQ1 := Lib.hid (HR1.out.below hb4 HR1.out.lt)
  have HNE := Lib.hid (show p2 ≠ p1 from by have := HR1.out.lt; omega)
  have HR2 := Lib.hid hr2
  clear hr2
  go_wp2_with (first
    | (go_at_call_of 18 (Value.int IntKind.i64 (s.size : Int)); refine (text_any p1 _ 0 0 (s.size : Int) [] 0 3 HT.out _ HQ1.out).mono ?_; rintro e w5 ⟨rfl, hq5, ht5⟩; have HQ5 := Lib.hid hq5; have HR5 := Lib.hid (HR2.out.apart HQ1.out HNE.out ht5); clear hq5)
    | (go_at_call 16; refine (lget_any p2 _ 0 0 1 (by decide) 1 rfl 0 0 3 HW.out _ HR5.out).mono ?_; rintro e w6 ⟨rfl, hq6, ht6⟩; have HR6 := Lib.hid hq6; have HQ6 := Lib.hid (HQ5.out.apart HR5.out (Ne.symm HNE.out) ht6); clear hq6; rw [gv_0])
    | (go_at_call_of 20 (Value.pointer (some ⟨p1, 0, none⟩)); refine (er_any p1 _ 0 3 _ HQ6.out).mono ?_; rintro e w' ⟨rfl, rfl⟩)
    | (go_at_call_of 20 (Value.pointer (some ⟨p2, 0, none⟩)); refine (er_any p2 _ 0 3 _ HR6.out).mono ?_; rintro e w' ⟨rfl, rfl⟩)
    | (go_at_call_of 19 (Value.pointer (some ⟨p1, 0, none⟩)); refine (at_any p1 _ 0 3 _ HQ6.out).mono ?_; rintro e w' ⟨rfl, rfl⟩)
    | (go_at_call_of 19 (Value.pointer (some ⟨p2, 0, none⟩)); refine (at_any p2 _ 0 3 _ HR6.out).mono ?_; rintro e w' ⟨rfl, rfl⟩)
    | (go_at_call 23; refine (get8_any p2 _ 0 3 0 0 3 rfl _ HR6.out).mono ?_; rintro e w7 ⟨rfl, hr7, ht7⟩; have HQ7 := Lib.hid (HQ6.out.apart HR6.out (Ne.symm HNE.out) ht7); clear hr7)
    | (go_at_call_of 18 (Value.int IntKind.i64 0); refine (text_any p1 _ 0 3 0 [] 0 3 rfl _ HQ7.out).mono ?_; rintro e w8 ⟨rfl, hr8, ht8⟩; have HQ8 := Lib.hid hr8; clear hr8)
    | (go_at_call 21; refine (end_any p1 _ 0 3 _ HQ8.out).mono ?_; rintro e w9 ⟨rfl, n9, rfl⟩; rw [show re_ _ 0 3 = 3 from rfl])
    | (go_at_call 13; refine (lives_any _).mono ?_; rintro e w10 ⟨rfl, t10⟩))
  go_ret
  refine ⟨rfl, ?_⟩
  have z1 := hb1.size
  have z2 := hb2.size
  have z3 := hb3.size
  have z4 := hb4.size
  have z5 := ht5.size
  have z6 := ht6.size
  have z7 := ht7.size
  have z8 := ht8.size
  have b4 : Below w.heap.size w w4 := hb1.trans ((hb2.mono (by omega)).trans ((hb3.mono (by omega)).trans (hb4.mono (by omega))))
  have b8 : Below w.heap.size w w8 := b4.trans ((ht5.below (by omega) (by omega)).trans ((ht6.below (by omega) (by omega)).trans ((ht7.below (by omega) (by omega)).trans (ht8.below (by omega) (by omega)))))
  exact (bdrewN b8).trans (t10.mono (by rw [size_drewN]; omega))

set_option maxHeartbeats 1000000 in
theorem fieldShort_2 (s : ByteArray) (n cut : Int) (w : World) (b0 : s.size ≤ 1048576) :
    Calls Try.prog 7 #[.string s, .int .i64 n, .int .i64 2, .int .i64 cut] w fun e w' => e = .returned (.bool true) ∧ Below w.heap.size w w' := by
  have hU0 : 0 ≤ IntKind.u64.wrap cut := by rw [IntKind.wrap_u64]; exact Int.emod_nonneg _ (by decide)
  obtain ⟨c1, hc1⟩ : ∃ c : Nat, (IntKind.u64.wrap cut).tmod (4 + (s.size : Int)) = (c : Int) := ⟨_, (Int.toNat_of_nonneg (Int.tmod_nonneg _ hU0)).symm⟩
  have hc1l : (c1 : Int) < 4 + s.size := by rw [← hc1]; exact Int.tmod_lt_of_pos _ (by omega)
  obtain ⟨c2, hc2⟩ : ∃ c : Nat, (IntKind.u64.wrap cut).tmod 4 = (c : Int) := ⟨_, (Int.toNat_of_nonneg (Int.tmod_nonneg _ hU0)).symm⟩
  have hc2l : (c2 : Int) < 4 := by rw [← hc2]; exact Int.tmod_lt_of_pos _ (by decide)
  have hle : (c1 : Int) ≤ 1048580 := by omega
  have HT := Lib.hid (rt_short s (by omega) c1 (by omega))
  have HL1 := Lib.hid (show ((([] : List UInt8) ++ txt s.data.toList).take c1).length = c1 from by rw [List.length_take, len_txt]; simp; omega)
  have HW := Lib.hid (rw_short (2 ^ 2) ((([] : List UInt8) ++ fld (2 ^ 2) n).take c2) (by simp [len_fld]; omega))
  have HL2 := Lib.hid (show ((([] : List UInt8) ++ fld (2 ^ 2) n).take c2).length = c2 from by simp [len_fld]; omega)
  have HX := Lib.hid (show c2 ≤ 4 ∧ c1 ≤ 4 + s.size from by omega)
  clear hU0
  go_enter Try.func7, Try.ntmps7
  go_wp2_with (first
    | (go_at_call 11; refine (putText_any 0 none 0 [] s _ (Rd.nil _ _ _) (Nat.zero_le _) (by simp; omega) (by omega)).mono ?_; rintro e w1 ⟨v1, rfl, ho1, hb1⟩; obtain ⟨A1, cap1, rfl, hle1, hm1, hs1⟩ := made_sl (4 + s.size) (by rw [len_txt]; simp) ho1; have HS1 := Lib.hid hs1; clear ho1 hs1)
    | (go_at_call 9; refine (lput_any 0 none 0 [] 2 (by decide) 2 rfl n _ (Rd.nil _ _ _) (Nat.zero_le _) (by simp)).mono ?_; rintro e w2 ⟨v2, rfl, ho2, hb2⟩; obtain ⟨A2, cap2, rfl, hle2, hm2, hs2⟩ := made_sl 4 (by simp [len_fld]) ho2; have HS2 := Lib.hid hs2; clear ho2 hs2))
  refine (newReader_any _ _ _ w2 (HS1.out c1 w2 HX.out.2 (by omega) hb2) (Nat.le_refl _) (by rw [HL1.out]; omega)).mono ?_
  rintro e w3 ⟨p1, rfl, hr1, hp1, hb3⟩
  have HR1 := Lib.hid hr1
  clear hr1
  go_wp2_with fail
  refine (newReader_any _ _ _ w3 (HS2.out c2 w3 HX.out.1 (by decide) hb3) (Nat.le_refl _) (by rw [HL2.out]; omega)).mono ?_
  rintro e w4 ⟨p2, rfl, hr2, hp2, hb4⟩
  have HQ1 := Lib.hid (HR1.out.below hb4 HR1.out.lt)
  have HNE := Lib.hid (show p2 ≠ p1 from by have := HR1.out.lt; omega)
  have HR2 := Lib.hid hr2
  clear hr2
  go_wp2_with (first
    | (go_at_call_of 18 (Value.int IntKind.i64 (s.size : Int)); refine (text_any p1 _ 0 0 (s.size : Int) [] 0 3 HT.out _ HQ1.out).mono ?_; rintro e w5 ⟨rfl, hq5, ht5⟩; have HQ5 := Lib.hid hq5; have HR5 := Lib.hid (HR2.out.apart HQ1.out HNE.out ht5); clear hq5)
    | (go_at_call 16; refine (lget_any p2 _ 0 0 2 (by decide) 2 rfl 0 0 3 HW.out _ HR5.out).mono ?_; rintro e w6 ⟨rfl, hq6, ht6⟩; have HR6 := Lib.hid hq6; have HQ6 := Lib.hid (HQ5.out.apart HR5.out (Ne.symm HNE.out) ht6); clear hq6; rw [gv_0])
    | (go_at_call_of 20 (Value.pointer (some ⟨p1, 0, none⟩)); refine (er_any p1 _ 0 3 _ HQ6.out).mono ?_; rintro e w' ⟨rfl, rfl⟩)
    | (go_at_call_of 20 (Value.pointer (some ⟨p2, 0, none⟩)); refine (er_any p2 _ 0 3 _ HR6.out).mono ?_; rintro e w' ⟨rfl, rfl⟩)
    | (go_at_call_of 19 (Value.pointer (some ⟨p1, 0, none⟩)); refine (at_any p1 _ 0 3 _ HQ6.out).mono ?_; rintro e w' ⟨rfl, rfl⟩)
    | (go_at_call_of 19 (Value.pointer (some ⟨p2, 0, none⟩)); refine (at_any p2 _ 0 3 _ HR6.out).mono ?_; rintro e w' ⟨rfl, rfl⟩)
    | (go_at_call 23; refine (get8_any p2 _ 0 3 0 0 3 rfl _ HR6.out).mono ?_; rintro e w7 ⟨rfl, hr7, ht7⟩; have HQ7 := Lib.hid (HQ6.out.apart HR6.out (Ne.symm HNE.out) ht7); clear hr7)
    | (go_at_call_of 18 (Value.int IntKind.i64 0); refine (text_any p1 _ 0 3 0 [] 0 3 rfl _ HQ7.out).mono ?_; rintro e w8 ⟨rfl, hr8, ht8⟩; have HQ8 := Lib.hid hr8; clear hr8)
    | (go_at_call 21; refine (end_any p1 _ 0 3 _ HQ8.out).mono ?_; rintro e w9 ⟨rfl, n9, rfl⟩; rw [show re_ _ 0 3 = 3 from rfl])
    | (go_at_call 13; refine (lives_any _).mono ?_; rintro e w10 ⟨rfl, t10⟩))
  go_ret
  refine ⟨rfl, ?_⟩
  have z1 := hb1.size
  have z2 := hb2.size
  have z3 := hb3.size
  have z4 := hb4.size
  have z5 := ht5.size
  have z6 := ht6.size
  have z7 := ht7.size
  have z8 := ht8.size
  have b4 : Below w.heap.size w w4 := hb1.trans ((hb2.mono (by omega)).trans ((hb3.mono (by omega)).trans (hb4.mono (by omega))))
  have b8 : Below w.heap.size w w8 := b4.trans ((ht5.below (by omega) (by omega)).trans ((ht6.below (by omega) (by omega)).trans ((ht7.below (by omega) (by omega)).trans (ht8.below (by omega) (by omega)))))
  exact (bdrewN b8).trans (t10.mono (by rw [size_drewN]; omega))

set_option maxHeartbeats 1000000 in
theorem fieldShort_3 (s : ByteArray) (n cut : Int) (w : World) (b0 : s.size ≤ 1048576) :
    Calls Try.prog 7 #[.string s, .int .i64 n, .int .i64 3, .int .i64 cut] w fun e w' => e = .returned (.bool true) ∧ Below w.heap.size w w' := by
  have hU0 : 0 ≤ IntKind.u64.wrap cut := by rw [IntKind.wrap_u64]; exact Int.emod_nonneg _ (by decide)
  obtain ⟨c1, hc1⟩ : ∃ c : Nat, (IntKind.u64.wrap cut).tmod (4 + (s.size : Int)) = (c : Int) := ⟨_, (Int.toNat_of_nonneg (Int.tmod_nonneg _ hU0)).symm⟩
  have hc1l : (c1 : Int) < 4 + s.size := by rw [← hc1]; exact Int.tmod_lt_of_pos _ (by omega)
  obtain ⟨c2, hc2⟩ : ∃ c : Nat, (IntKind.u64.wrap cut).tmod 8 = (c : Int) := ⟨_, (Int.toNat_of_nonneg (Int.tmod_nonneg _ hU0)).symm⟩
  have hc2l : (c2 : Int) < 8 := by rw [← hc2]; exact Int.tmod_lt_of_pos _ (by decide)
  have hle : (c1 : Int) ≤ 1048580 := by omega
  have HT := Lib.hid (rt_short s (by omega) c1 (by omega))
  have HL1 := Lib.hid (show ((([] : List UInt8) ++ txt s.data.toList).take c1).length = c1 from by rw [List.length_take, len_txt]; simp; omega)
  have HW := Lib.hid (rw_short (2 ^ 3) ((([] : List UInt8) ++ fld (2 ^ 3) n).take c2) (by simp [len_fld]; omega))
  have HL2 := Lib.hid (show ((([] : List UInt8) ++ fld (2 ^ 3) n).take c2).length = c2 from by simp [len_fld]; omega)
  have HX := Lib.hid (show c2 ≤ 8 ∧ c1 ≤ 4 + s.size from by omega)
  clear hU0
  go_enter Try.func7, Try.ntmps7
  go_wp2_with (first
    | (go_at_call 11; refine (putText_any 0 none 0 [] s _ (Rd.nil _ _ _) (Nat.zero_le _) (by simp; omega) (by omega)).mono ?_; rintro e w1 ⟨v1, rfl, ho1, hb1⟩; obtain ⟨A1, cap1, rfl, hle1, hm1, hs1⟩ := made_sl (4 + s.size) (by rw [len_txt]; simp) ho1; have HS1 := Lib.hid hs1; clear ho1 hs1)
    | (go_at_call 9; refine (lput_any 0 none 0 [] 3 (by decide) 3 rfl n _ (Rd.nil _ _ _) (Nat.zero_le _) (by simp)).mono ?_; rintro e w2 ⟨v2, rfl, ho2, hb2⟩; obtain ⟨A2, cap2, rfl, hle2, hm2, hs2⟩ := made_sl 8 (by simp [len_fld]) ho2; have HS2 := Lib.hid hs2; clear ho2 hs2))
  refine (newReader_any _ _ _ w2 (HS1.out c1 w2 HX.out.2 (by omega) hb2) (Nat.le_refl _) (by rw [HL1.out]; omega)).mono ?_
  rintro e w3 ⟨p1, rfl, hr1, hp1, hb3⟩
  have HR1 := Lib.hid hr1
  clear hr1
  go_wp2_with fail
  refine (newReader_any _ _ _ w3 (HS2.out c2 w3 HX.out.1 (by decide) hb3) (Nat.le_refl _) (by rw [HL2.out]; omega)).mono ?_
  rintro e w4 ⟨p2, rfl, hr2, hp2, hb4⟩
  have HQ1 := Lib.hid (HR1.out.below hb4 HR1.out.lt)
  have HNE := Lib.hid (show p2 ≠ p1 from by have := HR1.out.lt; omega)
  have HR2 := Lib.hid hr2
  clear hr2
  go_wp2_with (first
    | (go_at_call_of 18 (Value.int IntKind.i64 (s.size : Int)); refine (text_any p1 _ 0 0 (s.size : Int) [] 0 3 HT.out _ HQ1.out).mono ?_; rintro e w5 ⟨rfl, hq5, ht5⟩; have HQ5 := Lib.hid hq5; have HR5 := Lib.hid (HR2.out.apart HQ1.out HNE.out ht5); clear hq5)
    | (go_at_call 16; refine (lget_any p2 _ 0 0 3 (by decide) 3 rfl 0 0 3 HW.out _ HR5.out).mono ?_; rintro e w6 ⟨rfl, hq6, ht6⟩; have HR6 := Lib.hid hq6; have HQ6 := Lib.hid (HQ5.out.apart HR5.out (Ne.symm HNE.out) ht6); clear hq6; rw [gv_0])
    | (go_at_call_of 20 (Value.pointer (some ⟨p1, 0, none⟩)); refine (er_any p1 _ 0 3 _ HQ6.out).mono ?_; rintro e w' ⟨rfl, rfl⟩)
    | (go_at_call_of 20 (Value.pointer (some ⟨p2, 0, none⟩)); refine (er_any p2 _ 0 3 _ HR6.out).mono ?_; rintro e w' ⟨rfl, rfl⟩)
    | (go_at_call_of 19 (Value.pointer (some ⟨p1, 0, none⟩)); refine (at_any p1 _ 0 3 _ HQ6.out).mono ?_; rintro e w' ⟨rfl, rfl⟩)
    | (go_at_call_of 19 (Value.pointer (some ⟨p2, 0, none⟩)); refine (at_any p2 _ 0 3 _ HR6.out).mono ?_; rintro e w' ⟨rfl, rfl⟩)
    | (go_at_call 23; refine (get8_any p2 _ 0 3 0 0 3 rfl _ HR6.out).mono ?_; rintro e w7 ⟨rfl, hr7, ht7⟩; have HQ7 := Lib.hid (HQ6.out.apart HR6.out (Ne.symm HNE.out) ht7); clear hr7)
    | (go_at_call_of 18 (Value.int IntKind.i64 0); refine (text_any p1 _ 0 3 0 [] 0 3 rfl _ HQ7.out).mono ?_; rintro e w8 ⟨rfl, hr8, ht8⟩; have HQ8 := Lib.hid hr8; clear hr8)
    | (go_at_call 21; refine (end_any p1 _ 0 3 _ HQ8.out).mono ?_; rintro e w9 ⟨rfl, n9, rfl⟩; rw [show re_ _ 0 3 = 3 from rfl])
    | (go_at_call 13; refine (lives_any _).mono ?_; rintro e w10 ⟨rfl, t10⟩))
  go_ret
  refine ⟨rfl, ?_⟩
  have z1 := hb1.size
  have z2 := hb2.size
  have z3 := hb3.size
  have z4 := hb4.size
  have z5 := ht5.size
  have z6 := ht6.size
  have z7 := ht7.size
  have z8 := ht8.size
  have b4 : Below w.heap.size w w4 := hb1.trans ((hb2.mono (by omega)).trans ((hb3.mono (by omega)).trans (hb4.mono (by omega))))
  have b8 : Below w.heap.size w w8 := b4.trans ((ht5.below (by omega) (by omega)).trans ((ht6.below (by omega) (by omega)).trans ((ht7.below (by omega) (by omega)).trans (ht8.below (by omega) (by omega)))))
  exact (bdrewN b8).trans (t10.mono (by rw [size_drewN]; omega))

theorem fieldShort_walk (a0 : ByteArray) (a1 a2 a3 : Int) (w : World) (b0 : a0.size ≤ 1048576) (w1 : (Lit.int .i64 a1).wf = true) (w2 : (Lit.int .i64 a2).wf = true) (w3 : (Lit.int .i64 a3).wf = true) :
    Calls Try.prog 7 #[.string a0, .int .i64 a1, .int .i64 a2, .int .i64 a3] w fun e w' => e = .returned (.bool true) ∧ Below w.heap.size w w' := by
  by_cases h : 0 ≤ a2 ∧ a2 ≤ 3
  · have hc : a2 = 0 ∨ a2 = 1 ∨ a2 = 2 ∨ a2 = 3 := by omega
    rcases hc with rfl | rfl | rfl | rfl
    · exact fieldShort_0 a0 a1 a3 w b0
    · exact fieldShort_1 a0 a1 a3 w b0
    · exact fieldShort_2 a0 a1 a3 w b0
    · exact fieldShort_3 a0 a1 a3 w b0
  · have hc : a2 < 0 ∨ (0 ≤ a2 ∧ 3 < a2) := by omega
    clear h
    rcases hc with h | ⟨h, h'⟩
    all_goals
      go_enter Try.func7, Try.ntmps7
      go_wp2_with (go_at_call 13; refine (lives_any _).mono ?_; rintro e w7 ⟨rfl, t7⟩)
      go_ret
      exact ⟨rfl, t7⟩
end Go.Proofs.Ytacobklogcdhnaa
