/- The walk of ambrylaw03.TagTurned. -/
import Derived.Test.YtcpnmbklkjdjlaaTagSumsW
import Derived.Test.YtcpnmbklkjdjlaaFrameT
namespace Go.Proofs.Ytcpnmbklkjdjlaa
open Go.RowKit
set_option linter.unusedVariables false

theorem Row.set {w : World} {t g cap : Nat} {l : List UInt8} (h : Row w t g cap l) {j : Nat} (hj : j < l.length) (c : UInt8) : Row (w.setCell ⟨g, j, none⟩ (u8v c)) t g cap (l.set j c) := by
  obtain ⟨r, h, e⟩ := h
  refine ⟨r, ?_, by simpa using e⟩
  have := h.put j (u8v c)
  rw [List.set_append_left _ _ (by rw [len_bv]; exact hj)] at this
  simpa [bv, List.map_set] using this

theorem and_one_u32 (B j : Nat) (hB : B < 4294967296) : bits .and .u32 ((B : Int) / 2 ^ j) 1 = ((B / 2 ^ j % 2 : Nat) : Int) := by
  have h := and_one32 (B / 2 ^ j) (Nat.lt_of_le_of_lt (Nat.div_le_self _ _) hB)
  rw [← h]
  simp

theorem csum_inj {l m : List UInt8} (h : crcl l ≠ crcl m) : csum l ≠ csum m := by
  intro e
  unfold csum at e
  have := congrArg (· ^^^ 4294967295) e
  simp only [Nat.xor_assoc, Nat.xor_self, Nat.xor_zero] at this
  exact h this

section
variable {P : Program} (w : World)
/-- append of bytes to an own row, behind a guard that says yes. -/
theorem wpList_app_bytes_on {ops : Array Oper} {rest : List Oper} {o : Oper} {a : Act} {Q : Exit → Act → World → Prop} (hw : Region.wanted o (yielded ops a.tmps) = true) (s y : Operand) (t : TypeId)
    (ho : o.op = .call { callee := .builtin .append, args := #[s, y], argTypes := #[t, t] })
    (base B : Nat) (e : TypeId) (i : TypeInfo) (ht : P.underlying t = some (.slice e)) (hi : P.info? e = some i) (hz : i.zero = some (.int .u8 0)) (hsize : i.size = 1) (hby : i.bytes = 1)
    (v x : Value) (l m : List UInt8) (hs : a.eval s = v) (hy : a.eval y = x) (hown : w.ownsRow base e 1 v l.length (bv l)) (hx : Sl w B x m) (hbytes : l.length + m.length ≤ 140737488355328) (hbase : base ≤ w.heap.size)
    (h : ∀ v' w', w'.ownsRow base e 1 v' (l ++ m).length (bv (l ++ m)) → w.grownBy w' v.ownBlock → wpList P ops Q rest (a.put o.dst v') w') : wpList P ops Q (o :: rest) a w :=
  wpList_step fun K hK => by
    rw [if_pos hw]
    exact wp_app_bytes w s y t ho base B e i ht hi hz hsize hby v x l m hs hy hown hx hbytes hbase fun v' w' h2 h3 => hK _ _ (h v' w' h2 h3)
end
theorem xor_byte (c : UInt8) (r : Nat) (hr : r < 8) : (UInt8.ofNat (c.toNat ^^^ 2 ^ r)).toNat = c.toNat ^^^ 2 ^ r := by
  have h1 : c.toNat ^^^ 2 ^ r < 2 ^ 8 := Nat.xor_lt_two_pow c.toNat_lt (Nat.pow_lt_pow_right (by decide) hr)
  rw [UInt8.toNat_ofNat']
  exact Nat.mod_eq_of_lt h1
theorem xor_cell (c : UInt8) (r : Nat) (hr : r < 8) : Value.int .u8 (bits .xor .u8 (c.toNat : Int) ((2 : Int) ^ r % 256)) = u8v (UInt8.ofNat (c.toNat ^^^ 2 ^ r)) := by
  have h2 : 2 ^ r < 2 ^ 8 := Nat.pow_lt_pow_right (by decide) hr
  have hc := c.toNat_lt
  have e : ((2 : Int) ^ r % 256) = ((2 ^ r : Nat) : Int) := by
    have h3 : ((2 : Int) ^ r) = ((2 ^ r : Nat) : Int) := by simp
    rw [h3]
    generalize 2 ^ r = p at *
    omega
  unfold u8v
  rw [e, u8_xor_nat c.toNat (2 ^ r) (by omega) (by omega), xor_byte c r hr]
theorem step_on (B F j : Nat) (h : B / 2 ^ j % 2 = 1) : 2 ^ F * (B % 2 ^ (j + 1)) = 2 ^ F * (B % 2 ^ j) ^^^ 2 ^ (F + j) := by
  have hb : B.testBit j = true := by rw [Nat.testBit_eq_decide_div_mod_eq]; simpa using h
  refine Nat.eq_of_testBit_eq fun i => ?_
  rw [Nat.testBit_xor, Nat.testBit_two_pow_mul, Nat.testBit_two_pow_mul, Nat.testBit_two_pow, Nat.testBit_mod_two_pow, Nat.testBit_mod_two_pow]
  by_cases hi : i = F + j
  · subst hi
    rw [show F + j - F = j from by omega, hb]
    simp
  · have e : decide (F + j = i) = false := by simp; omega
    rw [e]
    by_cases hf : F ≤ i
    · have e2 : decide (i - F < j + 1) = decide (i - F < j) := by rw [Bool.eq_iff_iff]; simp; omega
      rw [e2]; simp
    · simp [hf]
theorem step_off (B j : Nat) (h : B / 2 ^ j % 2 = 0) : B % 2 ^ (j + 1) = B % 2 ^ j := by
  rw [Nat.mod_pow_succ, h]; omega
theorem step_pos (B j : Nat) (h : B / 2 ^ j % 2 = 1) : B % 2 ^ (j + 1) ≠ 0 := by
  have := Nat.two_pow_pos j
  rw [Nat.mod_pow_succ, h]; omega

set_option maxRecDepth 100000 in
set_option maxHeartbeats 4000000 in
theorem tagTurned_in (v : Value) (l : List UInt8) (at_ : Int) (B : Nat) (w : World) (hs : Sl w w.heap.size v l) (hb : l.length ≤ 140737488351232) (hB : B < 4294967296) (hl0 : 0 < l.length) (hB0 : 0 < B)
    (ha0 : -9223372036854775808 ≤ at_) (ha1 : at_ ≤ 9223372036854775807) :
    Calls Try.prog 7 #[v, .int .i64 at_, .int .u32 B] w fun e w' => e = .returned (.bool true) ∧ Below w.heap.size w w' := by
  obtain ⟨i0, hi, hz0, hz1, hz2⟩ := info_parts Try.info5
  have HS := Lib.hid hs
  obtain ⟨A, cap, rfl, hr⟩ := hs
  clear hr
  have hn0 : ((8 * (l.length : Int)) == 0) = false := by rw [beq_eq_false_iff_ne]; omega
  have hB1 : ((B : Int) == 0) = false := by rw [beq_eq_false_iff_ne]; omega
  obtain ⟨F, hF, hFl⟩ : ∃ F : Nat, (IntKind.u64.wrap at_).tmod (8 * (l.length : Int)) = (F : Int) ∧ F < 8 * l.length := by
    have h0 : 0 ≤ IntKind.u64.wrap at_ := by rw [IntKind.wrap_u64]; omega
    rw [Int.tmod_eq_emod_of_nonneg h0]
    have h1 := Int.emod_nonneg (IntKind.u64.wrap at_) (b := 8 * (l.length : Int)) (by omega)
    have h2 := Int.emod_lt_of_pos (IntKind.u64.wrap at_) (b := 8 * (l.length : Int)) (by omega)
    exact ⟨((IntKind.u64.wrap at_) % (8 * (l.length : Int))).toNat, by omega, by omega⟩
  have hFF : wrap64 (F : Int) = F := IntWalk.wrap64_in _ ⟨by omega, by omega⟩
  have HSS := Lib.hid (sum_any (.slice A l.length cap) l)
  go_enter Try.func7, Try.ntmps7
  go_wp2_with (at_builtin; refine wpList_app_bytes _ rfl _ _ 22 rfl w.heap.size w.heap.size 5 i0 Try.underlying22 hi hz0 hz1 hz2 (.slice (some ⟨w.heap.size, 0, none⟩) 0 0) (.slice A l.length cap) [] l rfl rfl (own_empty w w.heap.size 5 (Nat.le_refl _)) (HS.out.below ((Below.refl w.heap.size w).alloc (Nat.le_refl _) _) (Nat.le_refl _)) (by simp; omega) (by simp) ?_; intro v5 w5 ho5 hg5; have hb5 := grown_below hg5 (own_empty w w.heap.size 5 (Nat.le_refl _)) (by simp); obtain ⟨hv5, hl5⟩ | ⟨g, c5, hv5, hgb, hrow, hc5⟩ := row_of_own ho5; (exact absurd (congrArg List.length hl5) (show ¬ (l.length = 0) by omega)); subst hv5; have HROW := Lib.hid hrow; have HB5 : Hid (Below w.heap.size w w5) := ((Below.refl w.heap.size w).alloc (Nat.le_refl _) _).trans hb5; clear ho5 hg5 hb5 hrow)
  go_loopw [10, 11] (fun tu i wr => ∃ (j : Nat) (m : List UInt8) (tb : Bool), j ≤ 32 ∧ F + j ≤ 8 * l.length ∧ i = .int .i64 j ∧ tu = .bool tb ∧ (tb = true → B % 2 ^ j ≠ 0) ∧ m.length = l.length ∧ Row wr 5 g c5 m ∧ ln m = ln l ^^^ 2 ^ F * (B % 2 ^ j) ∧ Below w.heap.size w wr) (fun _ i _ => 32 - (intOf i).toNat)
  case atStart => exact ⟨0, l, false, by omega, by omega, rfl, rfl, (by intro h; cases h), rfl, HROW.out, by rw [Nat.pow_zero, Nat.mod_one, Nat.mul_zero, Nat.xor_zero], HB5.out⟩
  case round =>
    obtain ⟨j, m, tb, hj, hFj, rfl, rfl, htb, hml, hrow, hln, hbw⟩ := hrel
    have HTB := Lib.hid htb
    have HML := Lib.hid hml
    have HRW := Lib.hid hrow
    have HLN := Lib.hid hln
    have HBW := Lib.hid hbw
    clear htb hml hrow hln
    by_cases hlt : j < 32 ∧ F + j < 8 * l.length
    · obtain ⟨hlt1, hlt2⟩ := hlt
      have hA := and_one_u32 B j hB
      by_cases hbit : B / 2 ^ j % 2 = 1
      · rw [hbit] at hA
        have hA' : bits .and .u32 ((B : Int) / 2 ^ j) 1 = 1 := hA
        have HON := Lib.hid (step_on B F j hbit)
        have HPOS := Lib.hid (step_pos B j hbit)
        obtain ⟨k, hk⟩ : ∃ k, (F + j) / 8 = k := ⟨_, rfl⟩
        obtain ⟨r, hr⟩ : ∃ r, (F + j) % 8 = r := ⟨_, rfl⟩
        have ek : ((F : Int) + j) / 8 = k := by omega
        have er : ((F : Int) + j) % 8 = r := by omega
        have hkr := Lib.hid (show 8 * k + r = F + j from by omega)
        have hkl : k < l.length := by omega
        have hr8 : r < 8 := by omega
        have hkm : k < m.length := by have := HML.out; omega
        have hcell := HRW.out.cell (List.getElem?_eq_getElem hkm)
        unfold u8v at hcell
        have hfree := HRW.out.free k
        obtain ⟨c, hc⟩ : ∃ c, m[k] = c := ⟨_, rfl⟩
        rw [hc] at hcell
        have HC := Lib.hid (show m[k]? = some c from by rw [List.getElem?_eq_getElem hkm, hc])
        have hcb := c.toNat_lt
        clear hA hbit hk hr hc hbw
        go_wp2
        go_roundw
        case rel =>
          refine ⟨j + 1, m.set k (UInt8.ofNat (c.toNat ^^^ 2 ^ r)), true, by omega, by omega, by go_num, rfl, fun _ => HPOS.out, by rw [List.length_set]; exact HML.out, ?_, ?_, HBW.out.setCell hgb _⟩
          · rw [xor_cell c r hr8]; exact HRW.out.set hkm _
          · rw [ln_set m k r c HC.out hr8 _ (xor_byte c r hr8), HLN.out, Nat.xor_assoc, hkr.out, ← HON.out]
        case measure => simp [intOf]; omega
      · rw [show B / 2 ^ j % 2 = 0 from by omega] at hA
        have hA' : bits .and .u32 ((B : Int) / 2 ^ j) 1 = 0 := hA
        have HOFF := Lib.hid (step_off B j (by omega))
        clear hA hbit hbw
        go_wp2
        go_roundw
        case rel => exact ⟨j + 1, m, tb, by omega, by omega, by go_num, rfl, (by rw [HOFF.out]; exact HTB.out), HML.out, HRW.out, by rw [HOFF.out]; exact HLN.out, HBW.out⟩
        case measure => simp [intOf]; omega
    · have hE : B % 2 ^ j < 2 ^ 32 := Nat.lt_of_le_of_lt (Nat.mod_le _ _) hB
      have HNE : Hid (tb = true → csum l ≠ csum m) := fun h => csum_inj (crcl_turned l m (B % 2 ^ j) F HML.out HLN.out hE (HTB.out h) (by omega))
      have hz := hbw.size
      have SB := Lib.hid (HS.out.below hbw (Nat.le_refl _))
      have SC : Hid (Sl wr wr.heap.size (.slice (some ⟨g, 0, none⟩) l.length c5) m) := by
        have := HRW.out
        refine ⟨_, c5, by rw [HML.out], Rd.of_row this this.lt, hc5, (fun h => by cases h), this.le⟩
      have HLM := Lib.hid (show m.length ≤ 140737488355328 from by have := HML.out; omega)
      have hcond : (j = 32 ∧ decide ((j : Int) < 32) = false) ∨ (j < 32 ∧ decide ((F : Int) + j < 8 * (l.length : Int)) = false) := by
        by_cases h : j = 32
        · exact .inl ⟨h, by simp; omega⟩
        · exact .inr ⟨by omega, by simp; omega⟩
      clear hE
      have SB : Hid (Sl wr wr.heap.size (.slice A l.length cap) l) := SB.out.more hz
      cases tb
      · rcases hcond with ⟨rfl, hd⟩ | ⟨hd1, hd⟩
        all_goals
          go_wp2_with (first
            | (go_at_call_of 11 (Value.slice A l.length cap); refine (HSS.out _ (by omega) SB.out).mono ?_; rintro e w' ⟨rfl, rfl⟩)
            | (go_at_call_of 11 (Value.slice (some ⟨g, 0, none⟩) l.length c5); refine (sum_any _ m _ HLM.out SC.out).mono ?_; rintro e w' ⟨rfl, rfl⟩)
            | (at_builtin; refine wpList_app_bytes_on _ (by first | (go_simp; done) | rfl) _ _ 22 rfl wr.heap.size wr.heap.size 5 i0 Try.underlying22 hi hz0 hz1 hz2 (.slice (some ⟨wr.heap.size, 0, none⟩) 0 0) (.slice A l.length cap) [] l rfl rfl (own_empty wr wr.heap.size 5 (Nat.le_refl _)) (SB.out.below ((Below.refl wr.heap.size wr).alloc (Nat.le_refl _) _) (Nat.le_refl _)) (by simp; omega) (by simp) ?_; intro v6 w6 ho6 hg6; have HO6 := Lib.hid ho6; have hb6 := grown_below hg6 (own_empty wr wr.heap.size 5 (Nat.le_refl _)) (by simp); have HB6 : Hid (Below wr.heap.size wr w6) := ((Below.refl wr.heap.size wr).alloc (Nat.le_refl _) _).trans hb6; clear ho6 hg6 hb6)
            | (go_at_call 11; refine (sum_any v6 l _ (by omega) (Sl.of_own HO6.out)).mono ?_; rintro e w' ⟨rfl, rfl⟩)
            | (go_at_call 13; refine (lives3_any _).mono ?_; rintro e w7 ⟨rfl, hl⟩))
          go_ret
          exact ⟨rfl, bthen (hbw.trans (HB6.out.mono hz)) (by have := HB6.out.size; omega) hl⟩
      · have hne : ((csum l : Int) != (csum m : Int)) = true := by rw [bne_iff_ne]; have := HNE.out rfl; omega
        rcases hcond with ⟨rfl, hd⟩ | ⟨hd1, hd⟩
        all_goals
          go_wp2_with (first
            | (go_at_call_of 11 (Value.slice A l.length cap); refine (HSS.out _ (by omega) SB.out).mono ?_; rintro e w' ⟨rfl, rfl⟩)
            | (go_at_call_of 11 (Value.slice (some ⟨g, 0, none⟩) l.length c5); refine (sum_any _ m _ HLM.out SC.out).mono ?_; rintro e w' ⟨rfl, rfl⟩)
            | (at_builtin; refine wpList_app_bytes_on _ (by first | (go_simp; done) | rfl) _ _ 22 rfl wr.heap.size wr.heap.size 5 i0 Try.underlying22 hi hz0 hz1 hz2 (.slice (some ⟨wr.heap.size, 0, none⟩) 0 0) (.slice A l.length cap) [] l rfl rfl (own_empty wr wr.heap.size 5 (Nat.le_refl _)) (SB.out.below ((Below.refl wr.heap.size wr).alloc (Nat.le_refl _) _) (Nat.le_refl _)) (by simp; omega) (by simp) ?_; intro v6 w6 ho6 hg6; have HO6 := Lib.hid ho6; have hb6 := grown_below hg6 (own_empty wr wr.heap.size 5 (Nat.le_refl _)) (by simp); have HB6 : Hid (Below wr.heap.size wr w6) := ((Below.refl wr.heap.size wr).alloc (Nat.le_refl _) _).trans hb6; clear ho6 hg6 hb6)
            | (go_at_call 11; refine (sum_any v6 l _ (by omega) (Sl.of_own HO6.out)).mono ?_; rintro e w' ⟨rfl, rfl⟩)
            | (go_at_call 13; refine (lives3_any _).mono ?_; rintro e w7 ⟨rfl, hl⟩))
          go_ret
          exact ⟨rfl, bthen (hbw.trans (HB6.out.mono hz)) (by have := HB6.out.size; omega) hl⟩

set_option maxRecDepth 100000 in
set_option maxHeartbeats 1000000 in
theorem tagTurned_none (v : Value) (l : List UInt8) (at_ : Int) (B : Nat) (w : World) (hs : Sl w w.heap.size v l) (hb : l.length ≤ 140737488351232) (h : l.length = 0 ∨ (0 < l.length ∧ B = 0)) :
    Calls Try.prog 7 #[v, .int .i64 at_, .int .u32 B] w fun e w' => e = .returned (.bool true) ∧ Below w.heap.size w w' := by
  obtain ⟨A, cap, rfl, hr⟩ := hs
  clear hr
  have key : ((8 * (l.length : Int)) == 0) = true ∨ (((8 * (l.length : Int)) == 0) = false ∧ B = 0) := by
    rcases h with h | ⟨h, h2⟩
    · exact .inl (by rw [beq_iff_eq]; omega)
    · exact .inr ⟨by rw [beq_eq_false_iff_ne]; omega, h2⟩
  clear h
  rcases key with h | ⟨h, rfl⟩
  all_goals
    go_enter Try.func7, Try.ntmps7
    go_wp2_with (go_at_call 13; refine (lives3_any _).mono ?_; rintro e w7 ⟨rfl, hl⟩)
    go_ret
    exact ⟨rfl, hl⟩

theorem tagTurned_walk (v : Value) (l : List UInt8) (at_ B : Int) (w : World) (hs : Sl w w.heap.size v l) (hb : l.length ≤ 140737488351232) (h1 : (Lit.int .i64 at_).wf = true) (h2 : (Lit.int .u32 B).wf = true) :
    Calls Try.prog 7 #[v, .int .i64 at_, .int .u32 B] w fun e w' => e = .returned (.bool true) ∧ Below w.heap.size w w' := by
  have k1 := wf_i64 h1
  have k2 := wf_u32 h2
  obtain ⟨B, rfl⟩ := Int.eq_ofNat_of_zero_le k2.1
  by_cases h : 0 < l.length ∧ 0 < B
  · exact tagTurned_in v l at_ B w hs hb (by omega) h.1 h.2 k1.1 k1.2
  · exact tagTurned_none v l at_ B w hs hb (by omega)
end Go.Proofs.Ytcpnmbklkjdjlaa
