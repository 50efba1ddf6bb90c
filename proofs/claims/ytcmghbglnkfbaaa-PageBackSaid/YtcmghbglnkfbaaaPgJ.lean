/- Layer 8: a leaf's entry, a kid's entry (the program's). -/
import Derived.Test.YtcmghbglnkfbaaaPgI
namespace Go.Proofs.Ytcmghbglnkfbaaa
open Go.RowKit
set_option linter.unusedVariables false
set_option maxRecDepth 100000

theorem strCells_bv (s : ByteArray) : Lib.strCells s = bv s.data.toList := by
  simp [Lib.strCells, bv, u8v]
theorem own_str8 {w : World} {B : Nat} {v : Value} {l : List UInt8} {s : ByteArray} (h : w.ownsRow B 5 1 v (l.length + s.size) (bv l ++ Lib.strCells s)) : w.ownsRow B 5 1 v (l ++ s.data.toList).length (bv (l ++ s.data.toList)) := by
  rw [strCells_bv, bv_app] at *
  rw [List.length_append, len_ba]
  exact h
set_option maxHeartbeats 2000000 in
theorem lent_any (key val : ByteArray) (hk : key.size ≤ 128) (hv : val.size ≤ 200) (w : World) :
    Calls Try.prog 23 #[.string key, .string val] w fun e w' => ∃ v, e = .returned v ∧ w'.ownsRow w.heap.size 5 1 v (lent8 key val).length (bv (lent8 key val)) ∧ Below w.heap.size w w' := by
  obtain ⟨i0, hi0, hy1, hy2, hy3⟩ := info_parts Try.info5
  have HP := Lib.hid (put8_nil8 (key.size : Int))
  have HE : Hid (lent8 key val = ((fld 1 key.size ++ key.data.toList) ++ fld 2 val.size) ++ val.data.toList) := Lib.hid rfl
  rw [HE.out]
  go_enter Try.func23, Try.ntmps23
  go_wp2_with fail
  refine (HP.out _).mono ?_
  rintro e1 w1 ⟨v1, rfl, ho1, hb1⟩
  have HO1 := Lib.hid ho1
  have HB1 := Lib.hid hb1
  have hz1 := hb1.size
  clear ho1 hb1
  go_wp2_with (first
    | (at_builtin; refine Lib.wpList_append_own_string _ rfl _ _ 22 9 rfl w.heap.size 5 i0 Try.underlying22 Try.underlying9 hi0 hy1 hy2 hy3 _ _ _ rfl HO1.out key rfl (by rw [len_fld]; unfold maxLen; omega) (by rw [len_fld]; omega) hz1 ?_; intro v2 w2 ho2 hg2 _; have HO2 := Lib.hid (own_str8 ho2); have HB2 : Hid (Below w.heap.size w w2) := Lib.hid (HB1.out.trans (grown_below hg2 HO1.out hz1)); have hz2 := HB2.out.size; clear ho2 hg2)
    | (go_at_call 39; refine (put16_own8 HO2.out val.size (by rw [List.length_append, len_fld, len_ba]; omega)).mono ?_; rintro e3 w3 ⟨v3, rfl, ho3, hb3⟩; have HO3 := Lib.hid (own_low8 ho3 hz2); have HB3 : Hid (Below w.heap.size w w3) := Lib.hid (HB2.out.trans (hb3.mono hz2)); have hz3 := HB3.out.size; clear ho3 hb3)
    | (at_builtin; refine Lib.wpList_append_own_string _ rfl _ _ 22 9 rfl w.heap.size 5 i0 Try.underlying22 Try.underlying9 hi0 hy1 hy2 hy3 _ _ _ rfl HO3.out val rfl (by simp only [List.length_append, len_fld, len_ba]; unfold maxLen; omega) (by simp only [List.length_append, len_fld, len_ba]; omega) hz3 ?_; intro v4 w4 ho4 hg4 _; have HO4 := Lib.hid (own_str8 ho4); have HB4 : Hid (Below w.heap.size w w4) := Lib.hid (HB3.out.trans (grown_below hg4 HO3.out hz3)); clear ho4 hg4))
  go_ret
  exact ⟨_, rfl, HO4.out, HB4.out⟩
set_option maxHeartbeats 2000000 in
theorem kent_any (key : ByteArray) (kid : Int) (hk : key.size ≤ 128) (w : World) :
    Calls Try.prog 24 #[.string key, .int .i64 kid] w fun e w' => ∃ v, e = .returned v ∧ w'.ownsRow w.heap.size 5 1 v (kent8 key kid).length (bv (kent8 key kid)) ∧ Below w.heap.size w w' := by
  obtain ⟨i0, hi0, hy1, hy2, hy3⟩ := info_parts Try.info5
  have HP := Lib.hid (put8_nil8 (key.size : Int))
  have HE : Hid (kent8 key kid = (fld 1 key.size ++ key.data.toList) ++ fld 4 kid) := Lib.hid rfl
  rw [HE.out]
  go_enter Try.func24, Try.ntmps24
  go_wp2_with fail
  refine (HP.out _).mono ?_
  rintro e1 w1 ⟨v1, rfl, ho1, hb1⟩
  have HO1 := Lib.hid ho1
  have HB1 := Lib.hid hb1
  have hz1 := hb1.size
  clear ho1 hb1
  go_wp2_with (first
    | (at_builtin; refine Lib.wpList_append_own_string _ rfl _ _ 22 9 rfl w.heap.size 5 i0 Try.underlying22 Try.underlying9 hi0 hy1 hy2 hy3 _ _ _ rfl HO1.out key rfl (by rw [len_fld]; unfold maxLen; omega) (by rw [len_fld]; omega) hz1 ?_; intro v2 w2 ho2 hg2 _; have HO2 := Lib.hid (own_str8 ho2); have HB2 : Hid (Below w.heap.size w w2) := Lib.hid (HB1.out.trans (grown_below hg2 HO1.out hz1)); have hz2 := HB2.out.size; clear ho2 hg2)
    | (go_at_call 41; refine (put32_own8 HO2.out kid (by rw [List.length_append, len_fld, len_ba]; omega)).mono ?_; rintro e3 w3 ⟨v3, rfl, ho3, hb3⟩; have HO3 := Lib.hid (own_low8 ho3 hz2); have HB3 : Hid (Below w.heap.size w w3) := Lib.hid (HB2.out.trans (hb3.mono hz2)); clear ho3 hb3))
  go_ret
  exact ⟨_, rfl, HO3.out, HB3.out⟩
end Go.Proofs.Ytcmghbglnkfbaaa
