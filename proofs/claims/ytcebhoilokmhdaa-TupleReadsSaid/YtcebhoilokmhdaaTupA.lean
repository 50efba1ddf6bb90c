/- Layer 2: right, sizeOf, Check, turn, and the like of the document's answer. -/
import Derived.Test.YtcebhoilokmhdaaTupMath
import Derived.Test.YtcebhoilokmhdaaShelf
import Derived.Deep.QuietTactic
import Derived.BigQuiet
import Derived.Laws.Bits64
import Derived.Lib.Zigzag
namespace Go.Proofs.Ytcebhoilokmhdaa
open Go.RowKit
set_option linter.unusedVariables false

theorem str_is_empty {s : ByteArray} (h : s.size = 0) : s.toList.isEmpty = true := by
  rw [ByteArray.toList_eq, List.eq_nil_of_length_eq_zero (l := s.data.toList) (by simpa using h)]; rfl
theorem str_not_empty {s : ByteArray} (h : s.size ≠ 0) : s.toList.isEmpty = false := by
  rw [ByteArray.toList_eq]
  cases e : s.data.toList with
  | nil => exact absurd (by have := congrArg List.length e; simpa using this) h
  | cons _ _ => rfl
theorem bthen {B : Nat} {w a b : World} (h : Below B w a) (hB : B ≤ a.heap.size) (k : Below a.heap.size a b) : Below B w b := h.trans (k.mono hB)
theorem bal {B : Nat} {w a b : World} {o : Obj} (h : Below B w a) (hB : B ≤ a.heap.size) (k : Below (a.alloc o).heap.size (a.alloc o) b) : Below B w b := (h.alloc hB o).trans (k.mono (by simp; omega))
theorem ret_int {k : IntKind} {a b : Int} (h : a = b) : Ending.returned (.int k a) = .returned (.int k b) := by rw [h]

theorem right_any (k n : Int) (s : ByteArray) (w : World) :
    Calls Try.prog 66 #[.agg #[.int .i64 k, .int .i64 n, .string s]] w fun e w' => e = .returned (.bool (prt k n s)) ∧ Below w.heap.size w w' := by
  obtain ⟨b, hb⟩ : ∃ b, prt k n s = b := ⟨_, rfl⟩
  rw [hb]
  have hc : (k = 1 ∧ n = 0 ∧ b = true) ∨ (k = 1 ∧ n ≠ 0 ∧ b = false) ∨ (k = 2 ∧ s.size = 0 ∧ b = true) ∨ (k = 2 ∧ s.size ≠ 0 ∧ b = false) ∨ (k = 3 ∧ s.size = 0 ∧ b = true) ∨ (k = 3 ∧ s.size ≠ 0 ∧ b = false) ∨ (k ≠ 1 ∧ k ≠ 2 ∧ k ≠ 3 ∧ b = false) := by
    rw [← hb]; unfold prt
    simp only [decide_eq_true_eq, decide_eq_false_iff_not]
    omega
  clear hb
  rcases hc with ⟨rfl, rfl, rfl⟩ | ⟨rfl, h, rfl⟩ | ⟨rfl, h, rfl⟩ | ⟨rfl, h, rfl⟩ | ⟨rfl, h, rfl⟩ | ⟨rfl, h, rfl⟩ | ⟨h1, h2, h3, rfl⟩
  · go_enter Try.func66, Try.ntmps66
    go_wp2
    go_ret
    exact ⟨rfl, (Below.refl _ _).alloc (Nat.le_refl _) _⟩
  · have h' : (n == 0) = false := by simpa using h
    clear h
    go_enter Try.func66, Try.ntmps66
    go_wp2
    go_ret
    exact ⟨rfl, (Below.refl _ _).alloc (Nat.le_refl _) _⟩
  · have h' := str_is_empty h
    clear h
    go_enter Try.func66, Try.ntmps66
    go_wp2
    go_ret
    exact ⟨rfl, (Below.refl _ _).alloc (Nat.le_refl _) _⟩
  · have h' := str_not_empty h
    clear h
    go_enter Try.func66, Try.ntmps66
    go_wp2
    go_ret
    exact ⟨rfl, (Below.refl _ _).alloc (Nat.le_refl _) _⟩
  · have h' := str_is_empty h
    clear h
    go_enter Try.func66, Try.ntmps66
    go_wp2
    go_ret
    exact ⟨rfl, (Below.refl _ _).alloc (Nat.le_refl _) _⟩
  · have h' := str_not_empty h
    clear h
    go_enter Try.func66, Try.ntmps66
    go_wp2
    go_ret
    exact ⟨rfl, (Below.refl _ _).alloc (Nat.le_refl _) _⟩
  · have h1' : (k == 1) = false := by simpa using h1
    have h2' : (k == 2) = false := by simpa using h2
    have h3' : (k == 3) = false := by simpa using h3
    clear h1 h2 h3
    go_enter Try.func66, Try.ntmps66
    go_wp2
    go_ret
    exact ⟨rfl, (Below.refl _ _).alloc (Nat.le_refl _) _⟩

theorem countByte_le (l : List UInt8) (c : UInt8) : Lib.countByte l c = l.count c := rfl
theorem sizeOf_any (k n : Int) (s : ByteArray) (hs : s.size ≤ 140737488351232) (w : World) :
    Calls Try.prog 67 #[.agg #[.int .i64 k, .int .i64 n, .string s]] w fun e w' => e = .returned (.int .i64 (psz k s)) ∧ Below w.heap.size w w' := by
  have hcl : s.data.toList.count 0 ≤ s.size := by have := List.count_le_length (a := (0 : UInt8)) (l := s.data.toList); rw [len_ba] at this; exact this
  by_cases hk : k = 1
  · subst hk
    have hp : psz 1 s = 3 + s.size + s.data.toList.count 0 := rfl
    rw [hp]
    have hc2 : (Lib.countByte s.data.toList 0 : Int) = (s.data.toList.count 0 : Nat) := rfl
    obtain ⟨c, hc⟩ : ∃ c : Nat, c = s.data.toList.count 0 := ⟨_, rfl⟩
    rw [← hc] at hcl hc2 ⊢
    have HC := Lib.hid hc2
    clear hc hc2 hp
    go_enter Try.func67, Try.ntmps67
    go_wp2
    go_quiet ((go_at_call 97; exact Calls.quiet_of_same (v := .int .i64 c) ((Try.strings_Count_one s 0 _).mono fun e w' h => ⟨by rw [← HC.out]; exact h.1, h.2⟩)))
    go_wp2
    go_ret
    refine ⟨?_, bdrewN ((Below.refl _ _).alloc (Nat.le_refl _) _)⟩
    exact ret_int (by omega)
  · have hp : psz k s = 9 := if_neg hk
    rw [hp]
    have h1' : (k == 1) = false := by simpa using hk
    clear hk hp
    go_enter Try.func67, Try.ntmps67
    go_wp2
    go_ret
    exact ⟨rfl, (Below.refl _ _).alloc (Nat.le_refl _) _⟩

/-- A value that is a slice of parts, all below block B. -/
def Parts (w : World) (B : Nat) (v : Value) (ps : List Pt) : Prop := ∃ A cap, v = .slice A ps.length cap ∧
  (0 < ps.length → ∃ ad : Addr, A = some ad ∧ ad.spot = none ∧ ad.block < B ∧ ∀ j p, ps[j]? = some p →
    w.cell? ⟨ad.block, ad.off + j * 3, none⟩ = some (.int .i64 p.k) ∧ w.cell? ⟨ad.block, ad.off + j * 3 + 1, none⟩ = some (.int .i64 p.n) ∧ w.cell? ⟨ad.block, ad.off + j * 3 + 2, none⟩ = some (.string p.s)) ∧
  (∀ p ∈ ps, p.s.size ≤ 140737488351232 ∧ -9223372036854775808 ≤ p.n ∧ p.n ≤ 9223372036854775807) ∧ ps.length ≤ 140737488351232 ∧ ps.length ≤ cap
theorem Parts.keep {w w' : World} {B : Nat} {v : Value} {ps : List Pt} (h : Parts w B v ps) (hk : ∀ p : Addr, p.block < B → w'.cell? p = w.cell? p) : Parts w' B v ps := by
  obtain ⟨A, cap, e, hr, hm⟩ := h
  refine ⟨A, cap, e, fun hp => ?_, hm⟩
  obtain ⟨ad, e, hs, hb, hc⟩ := hr hp
  exact ⟨ad, e, hs, hb, fun j p hj => by obtain ⟨h1, h2, h3⟩ := hc j p hj; exact ⟨(hk ⟨ad.block, ad.off + j * 3, none⟩ hb).trans h1, (hk ⟨ad.block, ad.off + j * 3 + 1, none⟩ hb).trans h2, (hk ⟨ad.block, ad.off + j * 3 + 2, none⟩ hb).trans h3⟩⟩
theorem Parts.below {w w' : World} {B B' : Nat} {v : Value} {ps : List Pt} (h : Parts w B v ps) (hb : Below B' w w') (hB : B ≤ B') : Parts w' B v ps := h.keep fun p hp => hb.cell (p := p) (by omega)
theorem Parts.more {w : World} {B B' : Nat} {v : Value} {ps : List Pt} (h : Parts w B v ps) (hB : B ≤ B') : Parts w B' v ps := by
  obtain ⟨A, cap, e, hr, hm⟩ := h
  exact ⟨A, cap, e, fun hp => by obtain ⟨ad, e, hs, hb, hc⟩ := hr hp; exact ⟨ad, e, hs, by omega, hc⟩, hm⟩

theorem chk_bad {l : List Pt} {i : Nat} {p : Pt} (hi : l[i]? = some p) (h : prt p.k p.n p.s = false) : chk l = 2 := by
  unfold chk
  rw [if_neg]
  intro ha
  have := List.all_eq_true.1 ha p (List.mem_of_getElem? hi)
  rw [h] at this; cases this
theorem pszs_take_succ {l : List Pt} {i : Nat} {p : Pt} (hi : l[i]? = some p) : pszs (l.take (i + 1)) = pszs (l.take i) + psz p.k p.s := by
  rw [List.take_add_one, hi, pszs_app]; simp [pszs]
theorem pszs_take_le (l : List Pt) (i : Nat) : pszs (l.take i) ≤ pszs l := by
  have := pszs_app (l.take i) (l.drop i)
  rw [List.take_append_drop] at this; omega

set_option maxHeartbeats 800000 in
theorem check_any (v : Value) (l : List Pt) (w : World) (hl : Parts w w.heap.size v l) :
    Calls Try.prog 37 #[v] w fun e w' => e = .returned (.int .i64 (chk l)) ∧ Below w.heap.size w w' := by
  obtain ⟨A, cap, rfl, hr, hm, hlen⟩ := hl
  have HR := Lib.hid hr
  have HM := Lib.hid hm
  clear hr hm
  go_enter Try.func37, Try.ntmps37
  go_wp2
  go_loopw [10] (fun i wr => ∃ j : Nat, j ≤ l.length ∧ i = .int .i64 j ∧ (∀ p ∈ l.take j, prt p.k p.n p.s = true) ∧ Below w.heap.size w wr) (fun i _ => l.length - (intOf i).toNat)
  case atStart => exact ⟨0, Nat.zero_le _, rfl, by simp, Below.refl _ _⟩
  case round =>
    obtain ⟨j, hj, rfl, hall, hb⟩ := hrel
    have HA := Lib.hid hall
    clear hall
    by_cases hlt : j < l.length
    · obtain ⟨ad, rfl, hsp, hbk, hcell⟩ := HR.out (by omega)
      obtain ⟨b, off, spot⟩ := ad
      obtain rfl : spot = none := hsp
      obtain ⟨p, hp⟩ : ∃ p, l[j]? = some p := ⟨_, List.getElem?_eq_getElem hlt⟩
      obtain ⟨h0, h1, h2⟩ := hcell j p hp
      have c0 : wr.cell? ⟨b, off + j * 3, none⟩ = some (.int .i64 p.k) := (hb.cell (p := ⟨b, off + j * 3, none⟩) hbk).trans h0
      have c1 : wr.cell? ⟨b, off + j * 3 + 1, none⟩ = some (.int .i64 p.n) := (hb.cell (p := ⟨b, off + j * 3 + 1, none⟩) hbk).trans h1
      have c2 : wr.cell? ⟨b, off + j * 3 + 2, none⟩ = some (.string p.s) := (hb.cell (p := ⟨b, off + j * 3 + 2, none⟩) hbk).trans h2
      have HP := Lib.hid hp
      clear hcell h0 h1 h2 hp
      by_cases hpr : prt p.k p.n p.s = true
      · go_wp2_with (go_at_call 66; refine (right_any _ _ _ _).mono ?_; rintro e w1 ⟨rfl, hb1⟩)
        go_roundw
        case rel =>
          refine ⟨j + 1, by omega, by go_num, ?_, ?_⟩
          · intro q hq
            rw [List.take_add_one, HP.out] at hq
            rcases List.mem_append.1 hq with hq | hq
            · exact HA.out q hq
            · obtain rfl : q = p := by simpa using hq
              exact hpr
          · exact bal hb hb.size hb1
        case measure => simp [intOf]; omega
      · have hpr' : prt p.k p.n p.s = false := by simpa using hpr
        have HC := Lib.hid (chk_bad HP.out hpr')
        clear hpr
        go_wp2_with (go_at_call 66; refine (right_any _ _ _ _).mono ?_; rintro e w1 ⟨rfl, hb1⟩)
        go_ret
        rw [HC.out]
        refine ⟨rfl, ?_⟩
        exact bal hb hb.size hb1
    · obtain rfl : j = l.length := by omega
      go_wp2
      go_loopw [5, 20] (fun r i wr => ∃ j : Nat, j ≤ l.length ∧ i = .int .i64 j ∧ pszs (l.take j) ≤ 128 ∧ r = .int .i64 (128 - pszs (l.take j) : Int) ∧ Below w.heap.size w wr) (fun _ i _ => l.length - (intOf i).toNat)
      case atStart => exact ⟨0, Nat.zero_le _, rfl, by simp [pszs], by simp [pszs], hb⟩
      case round =>
        clear hb
        obtain ⟨j, hj, rfl, hps, rfl, hb⟩ := hrel
        by_cases hlt : j < l.length
        · obtain ⟨ad, rfl, hsp, hbk, hcell⟩ := HR.out (by omega)
          obtain ⟨b, off, spot⟩ := ad
          obtain rfl : spot = none := hsp
          obtain ⟨p, hp⟩ : ∃ p, l[j]? = some p := ⟨_, List.getElem?_eq_getElem hlt⟩
          obtain ⟨h0, h1, h2⟩ := hcell j p hp
          have c0 : wr.cell? ⟨b, off + j * 3, none⟩ = some (.int .i64 p.k) := (hb.cell (p := ⟨b, off + j * 3, none⟩) hbk).trans h0
          have c1 : wr.cell? ⟨b, off + j * 3 + 1, none⟩ = some (.int .i64 p.n) := (hb.cell (p := ⟨b, off + j * 3 + 1, none⟩) hbk).trans h1
          have c2 : wr.cell? ⟨b, off + j * 3 + 2, none⟩ = some (.string p.s) := (hb.cell (p := ⟨b, off + j * 3 + 2, none⟩) hbk).trans h2
          have HP := Lib.hid hp
          have hbw : b < wr.heap.size := Nat.lt_of_lt_of_le hbk hb.size
          clear hcell h0 h1 h2 hp
          have hts := pszs_take_succ HP.out
          have hms := (HM.out p (List.mem_of_getElem? HP.out)).1
          have hbig : psz p.k p.s ≤ 281474976710656 * 2 := by
            unfold psz; split
            · have := List.count_le_length (a := (0 : UInt8)) (l := p.s.data.toList); rw [len_ba] at this; omega
            · omega
          obtain ⟨a, ha⟩ : ∃ a, pszs (l.take j) = a := ⟨_, rfl⟩
          obtain ⟨z, hz⟩ : ∃ z, psz p.k p.s = z := ⟨_, rfl⟩
          rw [ha] at hps hts ⊢
          rw [hz] at hts hbig
          have HZ := Lib.hid hz
          have HTS := Lib.hid hts
          have HMS := Lib.hid hms
          clear hts hz ha hms
          by_cases hfit : (128 : Int) - a - z < 0
          · have HC := Lib.hid (show chk l = 5 from by
              have h1 := pszs_take_le l (j + 1)
              rw [HTS.out] at h1
              unfold chk
              rw [if_pos (by rw [List.all_eq_true]; exact fun q hq => HA.out q (by simpa using hq)), if_neg (by omega)])
            go_wp2_with (go_at_call 67; refine (sizeOf_any _ _ _ HMS.out _).mono ?_; rintro e w1 ⟨rfl, hb1⟩; rw [HZ.out])
            go_ret
            rw [HC.out]
            refine ⟨rfl, ?_⟩
            exact bal hb hb.size hb1
          · go_wp2_with (go_at_call 67; refine (sizeOf_any _ _ _ HMS.out _).mono ?_; rintro e w1 ⟨rfl, hb1⟩; rw [HZ.out])
            go_roundw
            case rel => exact ⟨j + 1, by omega, by go_num, by rw [HTS.out]; omega, by rw [HTS.out]; go_num, bal hb hb.size hb1⟩
            case measure => simp [intOf]; omega
        · obtain rfl : j = l.length := by omega
          have HC := Lib.hid (show chk l = 0 from chk_of (fun q hq => HA.out q (by simpa using hq)) (by simpa using hps))
          go_wp2
          go_ret
          rw [HC.out]
          exact ⟨rfl, hb⟩

/-! turn -/
theorem xor_top (a : Nat) (ha : a < 18446744073709551616) : a ^^^ 9223372036854775808 = if a < 9223372036854775808 then a + 9223372036854775808 else a - 9223372036854775808 := by
  have key : ∀ r, r < 2 ^ 63 → r ^^^ 9223372036854775808 = 9223372036854775808 + r := by
    intro r hr
    show r ^^^ 2 ^ 63 = 2 ^ 63 + r
    apply Nat.eq_of_testBit_eq
    intro j
    rw [Nat.testBit_xor, Nat.testBit_two_pow]
    rcases Nat.lt_trichotomy j 63 with h | h | h
    · rw [Nat.testBit_two_pow_add_gt h, decide_eq_false (by omega)]; simp
    · subst h
      rw [Nat.testBit_two_pow_add_eq, Nat.testBit_lt_two_pow hr]; rfl
    · have hp : 2 ^ 64 ≤ 2 ^ j := Nat.pow_le_pow_right (by decide) h
      rw [Nat.testBit_lt_two_pow (x := r) (by omega), Nat.testBit_lt_two_pow (x := 2 ^ 63 + r) (by omega), decide_eq_false (by omega)]; rfl
  split
  · rename_i h
    have := key a (by omega)
    omega
  · rename_i h
    have h1 := key (a - 9223372036854775808) (by omega)
    have h2 : a = (a - 9223372036854775808) ^^^ 9223372036854775808 := by omega
    have h3 : a ^^^ 9223372036854775808 = ((a - 9223372036854775808) ^^^ 9223372036854775808) ^^^ 9223372036854775808 := by rw [← h2]
    rw [h3, Nat.xor_assoc, Nat.xor_self, Nat.xor_zero]
theorem flip_int (a : Int) (h0 : 0 ≤ a) (h1 : a ≤ 18446744073709551615) : bits .xor .u64 a 9223372036854775808 = if a < 9223372036854775808 then a + 9223372036854775808 else a - 9223372036854775808 := by
  obtain ⟨A, rfl⟩ := Int.eq_ofNat_of_zero_le h0
  have := bits_xor_u64_nat A 9223372036854775808 (by omega) (by omega)
  rw [show ((9223372036854775808 : Nat) : Int) = 9223372036854775808 from rfl, xor_top A (by omega)] at this
  rw [this]
  split <;> split <;> omega
theorem not_int (a : Int) (h0 : 0 ≤ a) (h1 : a ≤ 18446744073709551615) : bits .xor .u64 IntKind.u64.max a = 18446744073709551615 - a := by
  obtain ⟨A, rfl⟩ := Int.eq_ofNat_of_zero_le h0
  have := bits_xor_u64_nat (2 ^ 64 - 1) A (by omega) (by omega)
  rw [Lib.xor_ones64 A (by omega)] at this
  rw [show IntKind.u64.max = ((2 ^ 64 - 1 : Nat) : Int) from by decide, this]
  omega
theorem flip_u (n : Int) (h0 : -9223372036854775808 ≤ n) (h1 : n ≤ 9223372036854775807) : bits .xor .u64 (IntKind.u64.wrap n) 9223372036854775808 = n + 9223372036854775808 := by
  rw [flip_int _ (by rw [IntKind.wrap_u64]; omega) (by rw [IntKind.wrap_u64]; omega), IntKind.wrap_u64]
  split <;> omega
theorem turn_up (k n : Int) (h0 : -9223372036854775808 ≤ n) (h1 : n ≤ 9223372036854775807) (w : World) :
    Calls Try.prog 95 #[.int .i64 n, .int .i64 k] w fun e w' => e = .returned (.int .u64 (tn k n)) ∧ w = w' := by
  by_cases hk : k = 3
  · subst hk
    go_enter Try.func95, Try.ntmps95
    go_wp2
    go_ret
    refine ⟨ret_int ?_, rfl⟩
    rw [flip_u n h0 h1, not_int _ (by omega) (by omega)]
    unfold tn; rw [if_pos rfl]; omega
  · have h1' : (k == 3) = false := by simpa using hk
    go_enter Try.func95, Try.ntmps95
    go_wp2
    go_ret
    refine ⟨ret_int ?_, rfl⟩
    rw [flip_u n h0 h1]
    unfold tn; rw [if_neg hk]
theorem turn_back (k u : Int) (h0 : 0 ≤ u) (h1 : u ≤ 18446744073709551615) (w : World) :
    Calls Try.prog 71 #[.int .u64 u, .int .i64 k] w fun e w' => e = .returned (.int .i64 (if k = 3 then 9223372036854775807 - u else u - 9223372036854775808)) ∧ w = w' := by
  have hf := flip_int u h0 h1
  have hf0 : 0 ≤ bits .xor .u64 u 9223372036854775808 ∧ bits .xor .u64 u 9223372036854775808 ≤ 18446744073709551615 := by rw [hf]; split <;> omega
  have HF := Lib.hid hf
  have HN := Lib.hid (not_int _ hf0.1 hf0.2)
  clear hf hf0
  by_cases hk : k = 3
  · subst hk
    go_enter Try.func71, Try.ntmps71
    go_wp2
    go_ret
    refine ⟨ret_int ?_, rfl⟩
    rw [HN.out, HF.out]
    unfold wrap64
    split <;> omega
  · have h1' : (k == 3) = false := by simpa using hk
    go_enter Try.func71, Try.ntmps71
    go_wp2
    go_ret
    refine ⟨ret_int ?_, rfl⟩
    rw [HF.out]
    unfold wrap64
    split <;> omega
end Go.Proofs.Ytcebhoilokmhdaa
