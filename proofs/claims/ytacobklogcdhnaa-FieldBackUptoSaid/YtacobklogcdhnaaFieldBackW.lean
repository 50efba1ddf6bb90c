/- The walk of ambrylaw01.FieldBack. -/
import Derived.Test.YtacobklogcdhnaaFieldShortW
import Derived.Test.YtacobklogcdhnaaFrame
namespace Go.Proofs.Ytacobklogcdhnaa
open Go.RowKit
set_option linter.unusedVariables false

/-- The numbers' fields, one behind the other. -/
def enc_ (zs : List Int) : Nat → List UInt8
  | 0 => []
  | k + 1 => enc_ zs k ++ fld (2 ^ (k % 4)) (zs.getD k 0)
theorem len_enc (zs : List Int) (k : Nat) : (enc_ zs k).length ≤ 8 * k := by
  induction k with
  | zero => simp [enc_]
  | succ k ih =>
    unfold enc_
    rw [List.length_append, len_fld]
    have : 2 ^ (k % 4) ≤ 2 ^ 3 := Nat.pow_le_pow_right (by decide) (by omega)
    omega
theorem enc_split (zs : List Int) (k n : Nat) (h : k < n) : ∃ rest, enc_ zs n = enc_ zs k ++ fld (2 ^ (k % 4)) (zs.getD k 0) ++ rest := by
  induction n with
  | zero => omega
  | succ n ih =>
    by_cases hk : k = n
    · subst hk; exact ⟨[], by simp [enc_]⟩
    · obtain ⟨r, e⟩ := ih (by omega)
      exact ⟨r ++ fld (2 ^ (n % 4)) (zs.getD n 0), by rw [enc_, e]; simp⟩

theorem own_mono {w : World} {B B' t : Nat} {v : Value} {n : Nat} {xs : List Value} (h : w.ownsRow B t 1 v n xs) (hB : B' ≤ B) : w.ownsRow B' t 1 v n xs := by
  obtain ⟨h1, h2 | ⟨g, cap, cur, hv, hg, r⟩⟩ := h
  · exact ⟨h1, .inl h2⟩
  · exact ⟨h1, .inr ⟨g, cap, cur, hv, Nat.le_trans hB hg, r⟩⟩
theorem own_below {w w' : World} {B B' t : Nat} {v : Value} {n : Nat} {xs : List Value} (h : w.ownsRow B t 1 v n xs) (hb : Below B' w w') (hB : w.heap.size ≤ B') : w'.ownsRow B t 1 v n xs := by
  obtain ⟨h1, h2 | ⟨g, cap, cur, hv, hg, hh, r⟩⟩ := h
  · exact ⟨h1, .inl h2⟩
  · have hlt : g < w.heap.size := (Array.getElem?_eq_some_iff.1 hh).1
    exact ⟨h1, .inr ⟨g, cap, cur, hv, hg, (hb.block g (by omega)).trans hh, r⟩⟩

theorem rt_whole (s : ByteArray) (hs : s.size < 4294967296) (m : List UInt8) : rt_ (s.size : Int) ([] ++ txt s.data.toList ++ m) 0 0 = (s.data.toList, 4 + s.size, 0) := by
  have e : s.data.toList.length = s.size := by simp
  have hlen : ([] ++ txt s.data.toList ++ m).length = 4 + s.size + m.length := by rw [List.length_append, len_txt]; simp
  have hn : (num 4 ([] ++ txt s.data.toList ++ m) 0 : Int) = s.size := by
    rw [num_fld 4 (by decide) (s.size : Int) _ [] (s.data.toList ++ m) 0 ?_ rfl]
    · omega
    · rw [List.nil_append, txt, e]; simp
  have hn' : num 4 ([] ++ txt s.data.toList ++ m) 0 = s.size := by omega
  unfold rt_
  rw [hlen, hn', if_pos rfl, if_neg (by omega), if_neg (by omega), if_neg (by omega)]
  congr 1
  rw [List.nil_append, txt, e, List.append_assoc, Nat.zero_add, List.drop_left' (len_fld 4 _), List.take_left' e]

theorem rw_at (k : Nat) (hk : k ≤ 8) (z : Int) (a b : List UInt8) : ∃ v : Nat, rw_ k (a ++ fld k z ++ b) a.length 0 = (v, a.length + k, 0) ∧ (v : Int) = z % 256 ^ k := by
  refine ⟨num k (a ++ fld k z ++ b) a.length, ?_, num_fld k hk z _ a b _ rfl rfl⟩
  unfold rw_
  rw [if_pos rfl, if_neg (by simp [len_fld])]

theorem gv_back (c v : Nat) (z m : Int) (hc : c < 3) (hm : m = 2 ^ (8 * 2 ^ c) - 1) (hv : (v : Int) = z % 256 ^ 2 ^ c) : gv c v = bits .and .i64 z m := by
  rw [gv_lt (by omega), hv]
  have hb : 8 * 2 ^ c ≤ 63 := by
    have : 2 ^ c ≤ 2 ^ 2 := Nat.pow_le_pow_right (by decide) (by omega)
    omega
  rw [i64_mask (8 * 2 ^ c) hb m hm z, show (256 : Int) = 2 ^ 8 from rfl, ← Int.pow_mul]
theorem gv_back3 (v : Nat) (z : Int) (hz : -9223372036854775808 ≤ z ∧ z ≤ 9223372036854775807) (hv : (v : Int) = z % 256 ^ 2 ^ 3) : gv 3 v = z := by
  rw [gv_3, hv]
  unfold wrap64
  simp only [Nat.reducePow, Int.reducePow]
  omega

set_option maxHeartbeats 2000000 in
theorem fieldBack_walk (v0 : Value) (zs : List Int) (s : ByteArray) (v2 : Value) (m : List UInt8) (w : World) (s0 : Ints .i64 w w.heap.size v0 zs) (b0 : zs.length ≤ 1048576) (b1 : s.size ≤ 1048576) (s2 : Sl w w.heap.size v2 m) (b2 : m.length ≤ 1048576) :
    Calls Try.prog 5 #[v0, .string s, v2] w fun e w' => e = .returned (.bool true) ∧ Below w.heap.size w w' := by
  obtain ⟨i0, hi, hz0, hz1, hz2⟩ := info_parts Try.info5
  obtain ⟨A0, cap0, rfl, hr0, _, _, _, hwf⟩ := s0
  obtain ⟨A2, cap2, rfl, hr2, hm2, hn2, hl2⟩ := s2
  have S2 := Lib.hid (show Sl w w.heap.size (.slice A2 m.length cap2) m from ⟨A2, cap2, rfl, hr2, hm2, hn2, hl2⟩)
  have HR0 := Lib.hid hr0
  have HWF := Lib.hid hwf
  have HI := Lib.hid hi
  clear hr0 hwf hr2 hm2 hn2 hl2 hi
  by_cases hbig : 1000 < zs.length
  · have hbig' : (1000 : Int) < zs.length := by omega
    go_enter Try.func5, Try.ntmps5
    go_wp2_with (go_at_call 13; refine (lives_any _).mono ?_; rintro e w7 ⟨rfl, t7⟩)
    go_ret
    exact ⟨rfl, t7⟩
  · have hbig' : (zs.length : Int) ≤ 1000 := by omega
    have hE := fun k => len_enc zs k
    have HE := Lib.hid hE
    clear hbig hE
    go_enter Try.func5, Try.ntmps5
    go_wp2_with (go_at_call 11; refine (putText_any 0 none 0 [] s _ (Rd.nil _ _ _) (Nat.zero_le _) (by simp; omega) (by omega)).mono ?_; rintro e w1 ⟨v1, rfl, ho1, hb1⟩; have HO1 := Lib.hid ho1; clear ho1)
    go_loopw [7, 8] (fun b i wr => ∃ k : Nat, k ≤ zs.length ∧ i = .int .i64 k ∧ wr.ownsRow w.heap.size 5 1 b ([] ++ txt s.data.toList ++ enc_ zs k).length (bv ([] ++ txt s.data.toList ++ enc_ zs k)) ∧ Below w.heap.size w wr) (fun _ i _ => zs.length - (intOf i).toNat)
    case atStart => exact ⟨0, by omega, by go_num, by simpa [enc_] using HO1.out, hb1⟩
    case round =>
      obtain ⟨k, hk, rfl, hown, hb⟩ := hrel
      by_cases hlt : k < zs.length
      · obtain ⟨ad, rfl, hsp, hbk, hcell⟩ := HR0.out (by omega)
        obtain ⟨b, off, spot⟩ := ad
        obtain rfl : spot = none := hsp
        have hadd : (⟨b, off, none⟩ : Addr).add k = ⟨b, off + k, none⟩ := by unfold Addr.add; split <;> simp_all
        have hc0 := hcell k (zs.getD k 0) (by simp [List.getElem?_eq_getElem hlt])
        rw [hadd] at hc0
        obtain ⟨z, hz⟩ : ∃ z, z = zs.getD k 0 := ⟨_, rfl⟩
        rw [← hz] at hc0
        have hc1 : wr.cell? ⟨b, off + k, none⟩ = some (.int .i64 z) := (hb.cell (p := ⟨b, off + k, none⟩) hbk).trans hc0
        obtain ⟨A1, cap1, rfl, hr1, hm1, hnil1, hle1⟩ := rd_of_own hown
        have hlen := HE.out k
        have hll : ([] ++ txt s.data.toList ++ enc_ zs k).length ≤ 1060000 := by rw [List.length_append, len_txt]; simp; omega
        have HRD := Lib.hid hr1
        have HZ := Lib.hid hz
        have hk4 : (k : Int) % 4 = ((k % 4 : Nat) : Int) := by omega
        have HK4 := Lib.hid hk4
        have HLL := Lib.hid hll
        have HLT := Lib.hid hlt
        have hlt' : (k : Int) < zs.length := by omega
        obtain ⟨L1, hL1⟩ : ∃ L : List UInt8, L = [] ++ txt s.data.toList ++ enc_ zs k := ⟨_, rfl⟩
        rw [← hL1] at HRD HLL ⊢
        have HL1 := Lib.hid hL1
        clear hcell hc0 hz hown hm1 hnil1 hle1 hr1 hlen hll hk4 hlt hL1 hadd
        go_wp2_with (go_at_call 9; refine (lput_any _ A1 cap1 L1 (k % 4) (Nat.mod_lt _ (by decide)) _ HK4.out z _ HRD.out (Nat.le_refl _) (by have := HLL.out; omega)).mono ?_; rintro e w3 ⟨v3, rfl, ho3, hb3⟩; have HO3 := Lib.hid ho3; clear ho3)
        go_roundw
        case rel =>
          refine ⟨k + 1, HLT.out, by go_num, ?_, hb.trans (hb3.mono hb.size)⟩
          have := own_mono HO3.out (show w.heap.size ≤ wr.heap.size from hb.size)
          rw [HL1.out, HZ.out, List.append_assoc _ (enc_ zs k)] at this
          exact this
        case measure => simp [intOf]; have := HLT.out; omega
      · obtain rfl : k = zs.length := by omega
        clear hlt
        obtain ⟨A1, cap1, rfl, hr1, hm1, hnil1, hle1⟩ := rd_of_own hown
        have hlen := HE.out zs.length
        have hll : ([] ++ txt s.data.toList ++ enc_ zs zs.length).length ≤ 1060000 := by rw [List.length_append, len_txt]; simp; omega
        obtain ⟨L1, hL1⟩ : ∃ L : List UInt8, L = [] ++ txt s.data.toList ++ enc_ zs zs.length := ⟨_, rfl⟩
        rw [← hL1] at hown hll ⊢
        have HO1 := Lib.hid hown
        have HL1 := Lib.hid hL1
        have HLL := Lib.hid hll
        have HRT := Lib.hid (show rt_ (s.size : Int) (L1 ++ m) 0 0 = (s.data.toList, 4 + s.size, 0) from by rw [hL1, List.append_assoc]; exact rt_whole s (by omega) _)
        clear hL1 hown hr1 hm1 hnil1 hle1 hlen hll
        go_wp2_with (first
          | (at_builtin; refine wpList_app_bytes _ rfl _ _ 22 rfl w.heap.size w.heap.size 5 i0 Try.underlying22 HI.out hz0 hz1 hz2 (.slice A1 L1.length cap1) (.slice A2 m.length cap2) L1 m rfl rfl HO1.out (S2.out.below hb (Nat.le_refl _)) (by have := HLL.out; omega) hb.size ?_; intro v4 w4 ho4 hg4; have HS4 := Lib.hid (Sl.of_own ho4); have hb4 := hb.trans (grown_below hg4 HO1.out hb.size); clear ho4 hg4)
          | (go_at_call 14; refine (newReader_any _ _ _ _ HS4.out (Nat.le_refl _) (by have := HLL.out; rw [List.length_append]; omega)).mono ?_; rintro e w5 ⟨p, rfl, hr5, hp5, hb5⟩; have HR5 := Lib.hid hr5; clear hr5)
          | (go_at_call 18; refine (text_any p _ 0 0 (s.size : Int) _ _ 0 HRT.out _ HR5.out).mono ?_; rintro e w6 ⟨rfl, hr6, ht6⟩; have HR6 := Lib.hid hr6; clear hr6))
        have hb5' := hb4.trans (hb5.mono hb4.size)
        have hb6 : Below w.heap.size w w6 := hb5'.trans (ht6.below hb5'.size (by have := hb4.size; intro k hk; omega))
        have HPW := Lib.hid (show w.heap.size ≤ p from Nat.le_trans hb4.size hp5)
        clear hb4 hb5 hb5' ht6 hp5 hb
        go_loopw [11] (fun i wr => ∃ k : Nat, k ≤ zs.length ∧ i = .int .i64 k ∧ Rdr wr p (L1 ++ m) ([] ++ txt s.data.toList ++ enc_ zs k).length 0 ∧ Below w.heap.size w wr) (fun i _ => zs.length - (intOf i).toNat)
        case atStart =>
          refine ⟨0, by omega, by go_num, ?_, hb6⟩
          have := HR6.out
          rw [List.length_append, len_txt]
          simpa [enc_] using this
        case round =>
          obtain ⟨k, hk, rfl, hrd, hb⟩ := hrel
          by_cases hlt : k < zs.length
          · obtain ⟨ad, rfl, hsp, hbk, hcell⟩ := HR0.out (by omega)
            obtain ⟨b, off, spot⟩ := ad
            obtain rfl : spot = none := hsp
            have hadd : (⟨b, off, none⟩ : Addr).add k = ⟨b, off + k, none⟩ := by unfold Addr.add; split <;> simp_all
            have hc0 := hcell k (zs.getD k 0) (by simp [List.getElem?_eq_getElem hlt])
            rw [hadd] at hc0
            have hzw := HWF.out (zs.getD k 0) (by simp [List.getElem?_eq_getElem hlt])
            obtain ⟨rest, hrest⟩ := enc_split zs k zs.length hlt
            obtain ⟨z, hz⟩ : ∃ z, z = zs.getD k 0 := ⟨_, rfl⟩
            have HLN := Lib.hid (show ([] ++ txt s.data.toList ++ enc_ zs (k + 1)).length = ([] ++ txt s.data.toList ++ enc_ zs k).length + 2 ^ (k % 4) from by simp only [enc_, List.length_append, len_fld]; omega)
            rw [← hz] at hc0 hrest hzw
            have hc1 : wr.cell? ⟨b, off + k, none⟩ = some (.int .i64 z) := (hb.cell (p := ⟨b, off + k, none⟩) hbk).trans hc0
            have hk4 : (k : Int) % 4 = ((k % 4 : Nat) : Int) := by omega
            have HLT := Lib.hid hlt
            have hlt' : (k : Int) < zs.length := by omega
            obtain ⟨L2, hL2⟩ : ∃ L : List UInt8, L = [] ++ txt s.data.toList ++ enc_ zs k := ⟨_, rfl⟩
            obtain ⟨rest, hrest2⟩ : ∃ r, L1 ++ m = L2 ++ fld (2 ^ (k % 4)) z ++ r := ⟨rest ++ m, by rw [HL1.out, hrest, hL2]; simp⟩
            rw [← hL2] at hrd HLN
            have HRD := Lib.hid hrd
            have HZW := Lib.hid hzw
            have HLR := Lib.hid hrest2
            clear hcell hc0 hz hlt hadd hrest hL2 hrest2 hrd hzw
            obtain ⟨c, hc⟩ : ∃ c, c = k % 4 := ⟨_, rfl⟩
            have hc4 : c = 0 ∨ c = 1 ∨ c = 2 ∨ c = 3 := by omega
            rw [← hc] at HLR HLN hk4
            clear hc
            rcases hc4 with rfl | rfl | rfl | rfl
            · obtain ⟨v, hrw, hv⟩ := rw_at (2 ^ 0) (by decide) z L2 rest
              rw [← HLR.out] at hrw
              have HG := Lib.hid (show gv 0 v = bits .and .i64 z 255 from gv_back 0 v z 255 (by decide) (by decide) hv)
              have HRW := Lib.hid hrw
              clear hrw hv
              go_wp2_with (go_at_call 16; refine (lget_any p _ _ 0 0 (by decide) 0 rfl v _ 0 HRW.out _ HRD.out).mono ?_; rintro e w6 ⟨rfl, hr6, ht6⟩; have HR6 := Lib.hid hr6; clear hr6; rw [HG.out])
              go_roundw
              case rel => exact ⟨k + 1, HLT.out, by go_num, by have := HR6.out; rw [HLN.out]; exact this, hb.trans (ht6.below hb.size (by have := HPW.out; intro j hj; omega))⟩
              case measure => simp [intOf]; have := HLT.out; omega
            · obtain ⟨v, hrw, hv⟩ := rw_at (2 ^ 1) (by decide) z L2 rest
              rw [← HLR.out] at hrw
              have HG := Lib.hid (show gv 1 v = bits .and .i64 z 65535 from gv_back 1 v z 65535 (by decide) (by decide) hv)
              have HRW := Lib.hid hrw
              clear hrw hv
              go_wp2_with (go_at_call 16; refine (lget_any p _ _ 0 1 (by decide) 1 rfl v _ 0 HRW.out _ HRD.out).mono ?_; rintro e w6 ⟨rfl, hr6, ht6⟩; have HR6 := Lib.hid hr6; clear hr6; rw [HG.out])
              go_roundw
              case rel => exact ⟨k + 1, HLT.out, by go_num, by have := HR6.out; rw [HLN.out]; exact this, hb.trans (ht6.below hb.size (by have := HPW.out; intro j hj; omega))⟩
              case measure => simp [intOf]; have := HLT.out; omega
            · obtain ⟨v, hrw, hv⟩ := rw_at (2 ^ 2) (by decide) z L2 rest
              rw [← HLR.out] at hrw
              have HG := Lib.hid (show gv 2 v = bits .and .i64 z 4294967295 from gv_back 2 v z 4294967295 (by decide) (by decide) hv)
              have HRW := Lib.hid hrw
              clear hrw hv
              go_wp2_with (go_at_call 16; refine (lget_any p _ _ 0 2 (by decide) 2 rfl v _ 0 HRW.out _ HRD.out).mono ?_; rintro e w6 ⟨rfl, hr6, ht6⟩; have HR6 := Lib.hid hr6; clear hr6; rw [HG.out])
              go_roundw
              case rel => exact ⟨k + 1, HLT.out, by go_num, by have := HR6.out; rw [HLN.out]; exact this, hb.trans (ht6.below hb.size (by have := HPW.out; intro j hj; omega))⟩
              case measure => simp [intOf]; have := HLT.out; omega
            · obtain ⟨v, hrw, hv⟩ := rw_at (2 ^ 3) (by decide) z L2 rest
              rw [← HLR.out] at hrw
              have HG := Lib.hid (show gv 3 v = z from gv_back3 v z (by have := HZW.out; simpa [Lit.wf, IntKind.min, IntKind.max, IntKind.signed, IntKind.bits] using this) hv)
              have HRW := Lib.hid hrw
              clear hrw hv
              go_wp2_with (go_at_call 16; refine (lget_any p _ _ 0 3 (by decide) 3 rfl v _ 0 HRW.out _ HRD.out).mono ?_; rintro e w6 ⟨rfl, hr6, ht6⟩; have HR6 := Lib.hid hr6; clear hr6; rw [HG.out])
              go_roundw
              case rel => exact ⟨k + 1, HLT.out, by go_num, by have := HR6.out; rw [HLN.out]; exact this, hb.trans (ht6.below hb.size (by have := HPW.out; intro j hj; omega))⟩
              case measure => simp [intOf]; have := HLT.out; omega
          · obtain rfl : k = zs.length := by omega
            clear hlt
            rw [← HL1.out] at hrd
            have HRD := Lib.hid hrd
            clear hrd
            by_cases hm0 : m.length = 0
            · have HRE := Lib.hid (show re_ (L1 ++ m) L1.length 0 = 0 from by unfold re_; rw [if_pos rfl, if_neg (by rw [List.length_append]; omega)])
              have hmb : ((m.length : Int) == 0) = true := beq_iff_eq.2 (by omega)
              clear hm0
              go_wp2_with (first
                | (go_at_call 19; refine (at_any p _ L1.length 0 _ HRD.out).mono ?_; rintro e w' ⟨rfl, rfl⟩)
                | (go_at_call 20; refine (er_any p _ L1.length 0 _ HRD.out).mono ?_; rintro e w' ⟨rfl, rfl⟩)
                | (go_at_call 21; refine (end_any p _ L1.length 0 _ HRD.out).mono ?_; rintro e w9 ⟨rfl, n9, rfl⟩; rw [HRE.out])
                | (go_at_call 13; refine (lives_any _).mono ?_; rintro e w10 ⟨rfl, t10⟩))
              go_ret
              exact ⟨rfl, (bdrewN hb).trans (t10.mono (by rw [size_drewN]; exact hb.size))⟩
            · have HRE := Lib.hid (show re_ (L1 ++ m) L1.length 0 = 5 from by unfold re_; rw [if_pos rfl, if_pos (by rw [List.length_append]; omega)])
              have hmb : ((m.length : Int) == 0) = false := beq_eq_false_iff_ne.2 (by omega)
              clear hm0
              go_wp2_with (first
                | (go_at_call 19; refine (at_any p _ L1.length 0 _ HRD.out).mono ?_; rintro e w' ⟨rfl, rfl⟩)
                | (go_at_call 20; refine (er_any p _ L1.length 0 _ HRD.out).mono ?_; rintro e w' ⟨rfl, rfl⟩)
                | (go_at_call 21; refine (end_any p _ L1.length 0 _ HRD.out).mono ?_; rintro e w9 ⟨rfl, n9, rfl⟩; rw [HRE.out])
                | (go_at_call 13; refine (lives_any _).mono ?_; rintro e w10 ⟨rfl, t10⟩))
              go_ret
              exact ⟨rfl, (bdrewN hb).trans (t10.mono (by rw [size_drewN]; exact hb.size))⟩
end Go.Proofs.Ytacobklogcdhnaa
