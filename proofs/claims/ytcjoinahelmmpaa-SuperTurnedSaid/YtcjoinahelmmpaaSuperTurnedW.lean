/- The walk of ambrylaw11.SuperTurned. -/
import Derived.Test.YtcjoinahelmmpaaSuI
import Derived.Test.YtcjoinahelmmpaaFrameU
namespace Go.Proofs.Ytcjoinahelmmpaa
open Go.RowKit
set_option linter.unusedVariables false
set_option maxRecDepth 100000

theorem and_one_u32_U (B j : Nat) (hB : B < 4294967296) : bits .and .u32 ((B : Int) / 2 ^ j) 1 = ((B / 2 ^ j % 2 : Nat) : Int) := by
  have h := and_one32 (B / 2 ^ j) (Nat.lt_of_le_of_lt (Nat.div_le_self _ _) hB)
  rw [← h]
  simp

theorem csum_inj_U {l m : List UInt8} (h : crcl l ≠ crcl m) : csum l ≠ csum m := by
  intro e
  unfold csum at e
  have := congrArg (· ^^^ 4294967295) e
  simp only [Nat.xor_assoc, Nat.xor_self, Nat.xor_zero] at this
  exact h this

theorem xor_byte_U (c : UInt8) (r : Nat) (hr : r < 8) : (UInt8.ofNat (c.toNat ^^^ 2 ^ r)).toNat = c.toNat ^^^ 2 ^ r := by
  have h1 : c.toNat ^^^ 2 ^ r < 2 ^ 8 := Nat.xor_lt_two_pow c.toNat_lt (Nat.pow_lt_pow_right (by decide) hr)
  rw [UInt8.toNat_ofNat']
  exact Nat.mod_eq_of_lt h1
theorem xor_cell_U (c : UInt8) (r : Nat) (hr : r < 8) : Value.int .u8 (bits .xor .u8 (c.toNat : Int) ((2 : Int) ^ r % 256)) = u8v (UInt8.ofNat (c.toNat ^^^ 2 ^ r)) := by
  have h2 : 2 ^ r < 2 ^ 8 := Nat.pow_lt_pow_right (by decide) hr
  have hc := c.toNat_lt
  have e : ((2 : Int) ^ r % 256) = ((2 ^ r : Nat) : Int) := by
    have h3 : ((2 : Int) ^ r) = ((2 ^ r : Nat) : Int) := by simp
    rw [h3]
    generalize 2 ^ r = p at *
    omega
  unfold u8v
  rw [e, u8_xor_nat c.toNat (2 ^ r) (by omega) (by omega), xor_byte_U c r hr]
theorem step_on_U (B F j : Nat) (h : B / 2 ^ j % 2 = 1) : 2 ^ F * (B % 2 ^ (j + 1)) = 2 ^ F * (B % 2 ^ j) ^^^ 2 ^ (F + j) := by
  have hb : B.testBit j = true := by rw [Nat.testBit_eq_decide_div_mod_eq]; simpa using h
  refine Nat.eq_of_testBit_eq fun i => ?_
  rw [Nat.testBit_xor, Nat.testBit_two_pow_mul, Nat.testBit_two_pow_mul, Nat.testBit_two_pow, Nat.testBit_mod_two_pow, Nat.testBit_mod_two_pow]
  by_cases hi : i = F + j
  · subst hi
    rw [show F + j - F = j from by omega, hb]
    simp
  · have e : decide (F + j = i) = false := by simp; omega
    rw [e]
    by_cases hf : F ≤ i
    · have e2 : decide (i - F < j + 1) = decide (i - F < j) := by rw [Bool.eq_iff_iff]; simp; omega
      rw [e2]; simp
    · simp [hf]
theorem step_off_U (B j : Nat) (h : B / 2 ^ j % 2 = 0) : B % 2 ^ (j + 1) = B % 2 ^ j := by
  rw [Nat.mod_pow_succ, h]; omega
theorem step_pos_U (B j : Nat) (h : B / 2 ^ j % 2 = 1) : B % 2 ^ (j + 1) ≠ 0 := by
  have := Nat.two_pow_pos j
  rw [Nat.mod_pow_succ, h]; omega

/-- Bits ahead of the sum that are turned make a super's bytes none's. -/
theorem turned_none (s : Sup) (m : List UInt8) (E f : Nat) (hl : m.length = 44) (h : ln m = ln (u6 s) ^^^ 2 ^ f * E) (hE : E < 2 ^ 32) (h0 : E ≠ 0) (hf : f ≤ 352) : readU (m ++ (putU s).drop 44) = none := by
  have hd : (putU s).drop 44 = fld 4 (csum (u6 s) : Nat) ++ List.replicate 80 0 := by
    unfold putU u7
    rw [List.append_assoc, List.drop_left' (len_u6 s)]
  refine testsU_no _ (by rw [hd]; simp [hl, len_fld]) (.inr (.inl ?_))
  unfold whU
  refine decide_eq_false ?_
  rw [List.drop_left' hl, List.take_left' hl, hd, List.take_left' (len_fld _ _)]
  have hne := csum_inj_U (crcl_turned (u6 s) m E f (by rw [hl, len_u6]) h hE h0 (by rw [len_u6]; omega))
  intro e
  rw [fld_nat, fld_nat] at e
  exact hne ((nfld_inj 4 _ _ (csum_lt _) (csum_lt _)).1 e)
theorem set_appU (m r : List UInt8) (k : Nat) (d : UInt8) (h : k < m.length) : (m ++ r).set k d = m.set k d ++ r := List.set_append_left _ _ h
set_option maxHeartbeats 4000000 in
theorem superTurned_in (s : Sup) (hr : rU s = true) (at_ : Int) (B : Nat) (w : World) (hB : B < 4294967296) (hB0 : 0 < B) (ha0 : -9223372036854775808 ≤ at_) (ha1 : at_ ≤ 9223372036854775807) :
    Calls Try.prog 7 #[uv s, .int .i64 at_, .int .u32 B] w fun e w' => e = .returned (.bool true) ∧ Below w.heap.size w w' := by
  have HL := Lib.hid lives11_any
  have HOK := Lib.hid (bytesU_ok s hr)
  have HRS := Lib.hid (readU_put hr)
  have HLP := Lib.hid (len_putU s)
  have HTN := Lib.hid (turned_none s)
  have HPP : Hid (putU s = u6 s ++ (putU s).drop 44) := Lib.hid (by unfold putU u7; rw [List.append_assoc, List.drop_left' (len_u6 s)])
  have HL6 := Lib.hid (len_u6 s)
  have HLD : Hid (((putU s).drop 44).length = 84) := Lib.hid (by rw [List.length_drop, len_putU])
  have hB1 : ((B : Int) == 0) = false := by rw [beq_eq_false_iff_ne]; omega
  obtain ⟨F, hF, hFl⟩ : ∃ F : Nat, (IntKind.u64.wrap at_).tmod 352 = (F : Int) ∧ F < 352 := by
    have h0 : 0 ≤ IntKind.u64.wrap at_ := by rw [IntKind.wrap_u64]; omega
    rw [Int.tmod_eq_emod_of_nonneg h0]
    exact ⟨((IntKind.u64.wrap at_) % 352).toNat, by omega, by omega⟩
  have hFF : wrap64 (F : Int) = F := IntWalk.wrap64_in _ ⟨by omega, by omega⟩
  have T0 := Lib.hid ((Turn.refl (fun _ => False) w).alloc (ubox s))
  obtain ⟨g, r, t, e, lm, mm⟩ := s
  unfold uv ubox at *
  simp only at HOK T0 ⊢
  obtain ⟨PU, hPU⟩ : ∃ PU, putU ⟨g, r, t, e, lm, mm⟩ = PU := ⟨_, rfl⟩
  obtain ⟨U6, hU6⟩ : ∃ U, u6 ⟨g, r, t, e, lm, mm⟩ = U := ⟨_, rfl⟩
  rw [hPU] at HOK HRS HLP HTN HPP HLD
  rw [hU6] at HTN HPP HL6
  clear hr hPU hU6
  go_enter Try.func7, Try.ntmps7
  go_wp2_with fail
  refine (HOK.out _).mono ?_
  rintro e1 w1 ⟨v1, rfl, ho, hbw⟩
  rw [← HLP.out] at ho
  have HB5 := Lib.hid (T0.out.below (Nat.le_refl _) (fun k h => h.elim) |>.trans (hbw.mono T0.out.size))
  rcases row_of_own ho with ⟨_, h0⟩ | ⟨q, c5, hv, hq, hrow, hc5⟩
  · have := HLP.out; rw [h0] at this; cases this
  rw [HLP.out] at hv
  subst hv
  have hgb : w.heap.size ≤ q := Nat.le_trans T0.out.size hq
  have HROW := Lib.hid hrow
  clear ho hbw hrow hq HOK
  go_wp2_with fail
  go_loopw [10, 11] (fun tu i wr => ∃ (j : Nat) (m : List UInt8) (tb : Bool), j ≤ 32 ∧ F + j ≤ 352 ∧ i = .int .i64 j ∧ tu = .bool tb ∧ (tb = true → B % 2 ^ j ≠ 0) ∧ (tb = false → m = U6) ∧ m.length = 44 ∧ Row wr 5 q c5 (m ++ PU.drop 44) ∧ ln m = ln U6 ^^^ 2 ^ F * (B % 2 ^ j) ∧ Below w.heap.size w wr) (fun _ i _ => 32 - (intOf i).toNat)
  case atStart => exact ⟨0, U6, false, by omega, by omega, rfl, rfl, (by intro h; cases h), (fun _ => rfl), HL6.out, by rw [← HPP.out]; exact HROW.out, by rw [Nat.pow_zero, Nat.mod_one, Nat.mul_zero, Nat.xor_zero], HB5.out⟩
  case round =>
    obtain ⟨j, m, tb, hj, hFj, rfl, rfl, htb, htf, hml, hrow, hln, hbw⟩ := hrel
    have HTB := Lib.hid htb
    have HTF := Lib.hid htf
    have HML := Lib.hid hml
    have HRW := Lib.hid hrow
    have HLN := Lib.hid hln
    have HBW := Lib.hid hbw
    clear htb htf hml hrow hln
    by_cases hlt : j < 32 ∧ F + j < 352
    · obtain ⟨hlt1, hlt2⟩ := hlt
      have hA := and_one_u32_U B j hB
      by_cases hbit : B / 2 ^ j % 2 = 1
      · rw [hbit] at hA
        have hA' : bits .and .u32 ((B : Int) / 2 ^ j) 1 = 1 := hA
        have HON := Lib.hid (step_on_U B F j hbit)
        have HPOS := Lib.hid (step_pos_U B j hbit)
        obtain ⟨k, hk⟩ : ∃ k, (F + j) / 8 = k := ⟨_, rfl⟩
        obtain ⟨r', hr'⟩ : ∃ r, (F + j) % 8 = r := ⟨_, rfl⟩
        have ek : ((F : Int) + j) / 8 = k := by omega
        have er : ((F : Int) + j) % 8 = r' := by omega
        have hkr := Lib.hid (show 8 * k + r' = F + j from by omega)
        have hkl : k < 44 := by omega
        have hr8 : r' < 8 := by omega
        have hkm : k < m.length := by have := HML.out; omega
        have hkm2 : k < (m ++ PU.drop 44).length := by rw [List.length_append]; omega
        obtain ⟨c, hc⟩ : ∃ c, m[k] = c := ⟨_, rfl⟩
        have hcell := HRW.out.cell (j := k) (c := c) (by rw [List.getElem?_append_left hkm, List.getElem?_eq_getElem hkm, hc])
        unfold u8v at hcell
        have hfree := HRW.out.free k
        have HC := Lib.hid (show m[k]? = some c from by rw [List.getElem?_eq_getElem hkm, hc])
        have hcb := c.toNat_lt
        have hk1 : (k : Int) < 128 := by omega
        have HKM := Lib.hid hkm
        have HKM2 := Lib.hid hkm2
        clear hA hbit hk hr' hc hbw hkm hkm2
        go_wp2
        go_roundw
        case rel =>
          refine ⟨j + 1, m.set k (UInt8.ofNat (c.toNat ^^^ 2 ^ r')), true, by omega, by omega, by go_num, rfl, fun _ => HPOS.out, (fun h => by cases h), by rw [List.length_set]; exact HML.out, ?_, ?_, HBW.out.setCell hgb _⟩
          · rw [xor_cell_U c r' hr8, ← set_appU _ _ _ _ HKM.out]; exact HRW.out.set HKM2.out _
          · rw [ln_set m k r' c HC.out hr8 _ (xor_byte_U c r' hr8), HLN.out, Nat.xor_assoc, hkr.out, ← HON.out]
        case measure => simp [intOf]; omega
      · rw [show B / 2 ^ j % 2 = 0 from by omega] at hA
        have hA' : bits .and .u32 ((B : Int) / 2 ^ j) 1 = 0 := hA
        have HOFF := Lib.hid (step_off_U B j (by omega))
        clear hA hbit hbw
        go_wp2
        go_roundw
        case rel => exact ⟨j + 1, m, tb, by omega, by omega, by go_num, rfl, (by rw [HOFF.out]; exact HTB.out), HTF.out, HML.out, HRW.out, by rw [HOFF.out]; exact HLN.out, HBW.out⟩
        case measure => simp [intOf]; omega
    · have hE : B % 2 ^ j < 2 ^ 32 := Nat.lt_of_le_of_lt (Nat.mod_le _ _) hB
      have HNE : Hid (tb = true → readU (m ++ PU.drop 44) = none) := Lib.hid (fun h => HTN.out m (B % 2 ^ j) F HML.out HLN.out hE (HTB.out h) (by omega))
      have HYE : Hid (tb = false → readU (m ++ PU.drop 44) = some ⟨g, r, t, e, lm, mm⟩) := Lib.hid (fun h => by rw [HTF.out h, ← HPP.out]; exact HRS.out)
      have HSC : Hid (Sl wr wr.heap.size (.slice (some ⟨q, 0, none⟩) 128 c5) (m ++ PU.drop 44)) := Lib.hid (by
        have := HRW.out
        have hl : (m ++ PU.drop 44).length = 128 := by rw [List.length_append, HML.out, HLD.out]
        refine ⟨_, c5, by rw [hl], Rd.of_row this this.lt, hc5, (fun h => by cases h), this.le⟩)
      have HRD := Lib.hid (readU_any _ _ _ HSC.out)
      have hcond : (j = 32 ∧ decide ((j : Int) < 32) = false) ∨ (j < 32 ∧ decide ((F : Int) + j < 352) = false) := by
        by_cases h : j = 32
        · exact .inl ⟨h, by simp; omega⟩
        · exact .inr ⟨by omega, by simp; omega⟩
      clear hE hlt
      cases tb
      · rw [HYE.out rfl] at HRD
        unfold rdU uv at HRD
        simp only at HRD
        clear HNE HYE HTB HTF
        rcases hcond with ⟨rfl, hd⟩ | ⟨hd1, hd⟩
        all_goals
          go_wp2_with (first
            | (go_at_call 15; refine HRD.out.mono ?_; rintro e2 w2 ⟨rfl, ht⟩; have C2 := Lib.hid (HBW.out.trans (ht.below HBW.out.size (fun k h => h.elim))); clear ht)
            | (go_at_call 14; refine (HL.out _).mono ?_; rintro e7 w7 ⟨rfl, ht⟩))
          go_ret
          exact ⟨rfl, (C2.out.alloc C2.out.size _).trans (ht.below (by have := C2.out.size; rw [World.size_alloc]; omega) (fun k h => h.elim))⟩
      · rw [HNE.out rfl] at HRD
        unfold rdU at HRD
        simp only at HRD
        clear HNE HYE HTB HTF
        rcases hcond with ⟨rfl, hd⟩ | ⟨hd1, hd⟩
        all_goals
          go_wp2_with (first
            | (go_at_call 15; refine HRD.out.mono ?_; rintro e2 w2 ⟨rfl, ht⟩; have C2 := Lib.hid (HBW.out.trans (ht.below HBW.out.size (fun k h => h.elim))); clear ht)
            | (go_at_call 14; refine (HL.out _).mono ?_; rintro e7 w7 ⟨rfl, ht⟩))
          go_ret
          exact ⟨rfl, (C2.out.alloc C2.out.size _).trans (ht.below (by have := C2.out.size; rw [World.size_alloc]; omega) (fun k h => h.elim))⟩
theorem superTurned_none (s : Sup) (at_ : Int) (B : Nat) (w : World) (h : rU s = false ∨ (rU s = true ∧ B = 0)) :
    Calls Try.prog 7 #[uv s, .int .i64 at_, .int .u32 B] w fun e w' => e = .returned (.bool true) ∧ Below w.heap.size w w' := by
  have HL := Lib.hid lives11_any
  have T0 := Lib.hid ((Turn.refl (fun _ => False) w).alloc (ubox s))
  have HOK := Lib.hid (bytesU_ok s)
  have HNO := Lib.hid (bytesU_bad s)
  obtain ⟨g, r, t, e, lm, mm⟩ := s
  unfold uv ubox at *
  simp only at HOK HNO T0 ⊢
  rcases h with h | ⟨h, rfl⟩
  · have H := Lib.hid (HNO.out h)
    clear HOK HNO h
    go_enter Try.func7, Try.ntmps7
    go_wp2_with fail
    refine (H.out _).mono ?_
    rintro e1 w1 ⟨rfl, ht⟩
    have T1 := Lib.hid (T0.out.trans ht)
    clear ht
    go_wp2_with (go_at_call 14; refine (HL.out _).mono ?_; rintro e7 w7 ⟨rfl, ht⟩)
    go_ret
    exact ⟨rfl, (T1.out.trans ht).below (Nat.le_refl _) (fun k h => h.elim)⟩
  · have H := Lib.hid (HOK.out h)
    clear HOK HNO h
    go_enter Try.func7, Try.ntmps7
    go_wp2_with fail
    refine (H.out _).mono ?_
    rintro e1 w1 ⟨v1, rfl, ho, hb⟩
    have T1 := Lib.hid (T0.out.trans (Turn.of_below hb (fun k h1 h2 => by omega)))
    clear ho hb
    go_wp2_with (go_at_call 14; refine (HL.out _).mono ?_; rintro e7 w7 ⟨rfl, ht⟩)
    go_ret
    exact ⟨rfl, (T1.out.trans ht).below (Nat.le_refl _) (fun k h => h.elim)⟩
theorem superTurned_walk (s : Sup) (at_ B : Int) (w : World) (_ : s.wf) (h1 : (Lit.int .i64 at_).wf = true) (h2 : (Lit.int .u32 B).wf = true) :
    Calls Try.prog 7 #[uv s, .int .i64 at_, .int .u32 B] w fun e w' => e = .returned (.bool true) ∧ Below w.heap.size w w' := by
  have k1 := wf_i64 h1
  have k2 := wf_u32 h2
  obtain ⟨B, rfl⟩ := Int.eq_ofNat_of_zero_le k2.1
  cases hr : rU s with
  | true =>
    by_cases h : 0 < B
    · exact superTurned_in s hr at_ B w (by omega) h k1.1 k1.2
    · exact superTurned_none s at_ B w (.inr ⟨hr, by omega⟩)
  | false => exact superTurned_none s at_ B w (.inl hr)
end Go.Proofs.Ytcjoinahelmmpaa
