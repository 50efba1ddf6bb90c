/- Layer 2: the document's answer: right, size, Check. -/
import Derived.Test.YtcebhoilokmhdaaTupE
namespace Go.Proofs.Ytcebhoilokmhdaa
open Go.RowKit
set_option linter.unusedVariables false

theorem refRight_any (k n : Int) (s : ByteArray) (w : World) :
    Calls Try.prog 68 #[.agg #[.int .i64 k, .int .i64 n, .string s]] w fun e w' => e = .returned (.bool (prt k n s)) ∧ Below w.heap.size w w' := by
  obtain ⟨b, hb⟩ : ∃ b, prt k n s = b := ⟨_, rfl⟩
  rw [hb]
  have hc : (k = 1 ∧ n = 0 ∧ b = true) ∨ (k = 1 ∧ n ≠ 0 ∧ b = false) ∨ (k = 2 ∧ s.size = 0 ∧ b = true) ∨ (k = 2 ∧ s.size ≠ 0 ∧ b = false) ∨ (k = 3 ∧ s.size = 0 ∧ b = true) ∨ (k = 3 ∧ s.size ≠ 0 ∧ b = false) ∨ (k ≠ 1 ∧ k ≠ 2 ∧ k ≠ 3 ∧ b = false) := by
    rw [← hb]; unfold prt
    simp only [decide_eq_true_eq, decide_eq_false_iff_not]
    omega
  clear hb
  rcases hc with ⟨rfl, rfl, rfl⟩ | ⟨rfl, h, rfl⟩ | ⟨rfl, h, rfl⟩ | ⟨rfl, h, rfl⟩ | ⟨rfl, h, rfl⟩ | ⟨rfl, h, rfl⟩ | ⟨h1, h2, h3, rfl⟩
  · go_enter Try.func68, Try.ntmps68
    go_wp2
    go_ret
    exact ⟨rfl, (Below.refl _ _).alloc (Nat.le_refl _) _⟩
  · have h' : (n == 0) = false := by simpa using h
    clear h
    go_enter Try.func68, Try.ntmps68
    go_wp2
    go_ret
    exact ⟨rfl, (Below.refl _ _).alloc (Nat.le_refl _) _⟩
  · have h' := str_is_empty h
    clear h
    go_enter Try.func68, Try.ntmps68
    go_wp2
    go_ret
    exact ⟨rfl, (Below.refl _ _).alloc (Nat.le_refl _) _⟩
  · have h' := str_not_empty h
    clear h
    go_enter Try.func68, Try.ntmps68
    go_wp2
    go_ret
    exact ⟨rfl, (Below.refl _ _).alloc (Nat.le_refl _) _⟩
  · have h' := str_is_empty h
    clear h
    go_enter Try.func68, Try.ntmps68
    go_wp2
    go_ret
    exact ⟨rfl, (Below.refl _ _).alloc (Nat.le_refl _) _⟩
  · have h' := str_not_empty h
    clear h
    go_enter Try.func68, Try.ntmps68
    go_wp2
    go_ret
    exact ⟨rfl, (Below.refl _ _).alloc (Nat.le_refl _) _⟩
  · have h1' : (k == 1) = false := by simpa using h1
    have h2' : (k == 2) = false := by simpa using h2
    have h3' : (k == 3) = false := by simpa using h3
    clear h1 h2 h3
    go_enter Try.func68, Try.ntmps68
    go_wp2
    go_ret
    exact ⟨rfl, (Below.refl _ _).alloc (Nat.le_refl _) _⟩

theorem count_take_succ (s : ByteArray) (j : Nat) (h : j < s.size) : (s.data.toList.take (j + 1)).count 0 = (s.data.toList.take j).count 0 + (if s[j] = 0 then 1 else 0) := by
  rw [List.take_succ_eq_append_getElem (by simpa using h), List.count_append, List.count_singleton]
  by_cases hc : s[j] = 0
  · rw [if_pos hc, if_pos (show (s.data.toList[j]'(by simpa using h) == 0) = true from beq_iff_eq.2 hc)]
  · rw [if_neg hc, if_neg (show ¬ (s.data.toList[j]'(by simpa using h) == 0) = true from fun e => hc (beq_iff_eq.1 e))]
theorem byte_is0 {c : UInt8} (h : c = 0) : ((c.toNat : Int) == 0) = true := by subst h; rfl
theorem byte_not0 {c : UInt8} (h : c ≠ 0) : ((c.toNat : Int) == 0) = false := by
  have : c.toNat ≠ 0 := fun e => h (UInt8.toNat_inj.1 (by simpa using e))
  simpa using this

set_option maxHeartbeats 400000 in
theorem refSize_any (k n : Int) (s : ByteArray) (hs : s.size ≤ 140737488351232) (w : World) :
    Calls Try.prog 69 #[.agg #[.int .i64 k, .int .i64 n, .string s]] w fun e w' => e = .returned (.int .i64 (psz k s)) ∧ Below w.heap.size w w' := by
  by_cases hk : k = 1
  · subst hk
    have HP := Lib.hid (show psz 1 s = 3 + s.size + (s.data.toList.take s.size).count 0 from by rw [List.take_of_length_le (by simp)]; rfl)
    go_enter Try.func69, Try.ntmps69
    go_wp2
    go_loop [3, 4] (fun m i => ∃ j : Nat, j ≤ s.size ∧ i = .int .i64 j ∧ m = .int .i64 (3 + s.size + (s.data.toList.take j).count 0 : Int)) (fun _ i => s.size - (intOf i).toNat)
    case atStart => exact ⟨0, Nat.zero_le _, rfl, by simp⟩
    case round =>
      obtain ⟨j, hj, rfl, rfl⟩ := hrel
      have hcl : (s.data.toList.take j).count 0 ≤ s.size := by
        have h1 := List.count_le_length (a := (0 : UInt8)) (l := s.data.toList.take j)
        have h2 : (s.data.toList.take j).length ≤ s.size := by rw [List.length_take, len_ba]; omega
        omega
      by_cases hlt : j < s.size
      · have HC := Lib.hid (count_take_succ s j hlt)
        obtain ⟨c, hc⟩ : ∃ c, (s.data.toList.take j).count 0 = c := ⟨_, rfl⟩
        rw [hc] at hcl HC ⊢
        clear hc
        by_cases h0 : s[j] = 0
        · have hq := byte_is0 h0
          have H0 := Lib.hid h0
          clear h0
          go_wp2
          go_round
          case rel => exact ⟨j + 1, by omega, by go_num, by rw [HC.out, if_pos H0.out]; go_num⟩
          case measure => simp [intOf]; omega
        · have hq := byte_not0 h0
          have H0 := Lib.hid h0
          clear h0
          go_wp2
          go_round
          case rel => exact ⟨j + 1, by omega, by go_num, by rw [HC.out, if_neg H0.out]; go_num⟩
          case measure => simp [intOf]; omega
      · obtain rfl : j = s.size := by omega
        go_wp2
        go_ret
        rw [HP.out]
        exact ⟨ret_int (by omega), (Below.refl _ _).alloc (Nat.le_refl _) _⟩
  · have hp : psz k s = 9 := if_neg hk
    rw [hp]
    have h1' : (k == 1) = false := by simpa using hk
    have h2' : (k != 1) = true := by simpa using hk
    clear hk hp
    go_enter Try.func69, Try.ntmps69
    go_wp2
    go_ret
    exact ⟨rfl, (Below.refl _ _).alloc (Nat.le_refl _) _⟩

set_option maxRecDepth 100000 in
set_option maxHeartbeats 800000 in
theorem refCheck_any (v : Value) (l : List Pt) (w : World) (hl : Parts w w.heap.size v l) :
    Calls Try.prog 38 #[v] w fun e w' => e = .returned (.int .i64 (chk l)) ∧ Below w.heap.size w w' := by
  obtain ⟨A, cap, rfl, hr, hm, hlen⟩ := hl
  have HR := Lib.hid hr
  have HM := Lib.hid hm
  clear hr hm
  go_enter Try.func38, Try.ntmps38
  go_wp2
  go_loopw [3] (fun i wr => ∃ j : Nat, j ≤ l.length ∧ i = .int .i64 j ∧ (∀ p ∈ l.take j, prt p.k p.n p.s = true) ∧ Below w.heap.size w wr) (fun i _ => l.length - (intOf i).toNat)
  case atStart => exact ⟨0, Nat.zero_le _, rfl, by simp, Below.refl _ _⟩
  case round =>
    obtain ⟨j, hj, rfl, hall, hb⟩ := hrel
    have HA := Lib.hid hall
    clear hall
    by_cases hlt : j < l.length
    · obtain ⟨ad, rfl, hsp, hbk, hcell⟩ := HR.out (by omega)
      obtain ⟨b, off, spot⟩ := ad
      obtain rfl : spot = none := hsp
      obtain ⟨p, hp⟩ : ∃ p, l[j]? = some p := ⟨_, List.getElem?_eq_getElem hlt⟩
      obtain ⟨h0, h1, h2⟩ := hcell j p hp
      have c0 : wr.cell? ⟨b, off + j * 3, none⟩ = some (.int .i64 p.k) := (hb.cell (p := ⟨b, off + j * 3, none⟩) hbk).trans h0
      have c1 : wr.cell? ⟨b, off + j * 3 + 1, none⟩ = some (.int .i64 p.n) := (hb.cell (p := ⟨b, off + j * 3 + 1, none⟩) hbk).trans h1
      have c2 : wr.cell? ⟨b, off + j * 3 + 2, none⟩ = some (.string p.s) := (hb.cell (p := ⟨b, off + j * 3 + 2, none⟩) hbk).trans h2
      have HP := Lib.hid hp
      clear hcell h0 h1 h2 hp
      by_cases hpr : prt p.k p.n p.s = true
      · go_wp2_with (go_at_call 68; refine (refRight_any _ _ _ _).mono ?_; rintro e w1 ⟨rfl, hb1⟩)
        go_roundw
        case rel =>
          refine ⟨j + 1, by omega, by go_num, ?_, ?_⟩
          · intro q hq
            rw [List.take_add_one, HP.out] at hq
            rcases List.mem_append.1 hq with hq | hq
            · exact HA.out q hq
            · obtain rfl : q = p := by simpa using hq
              exact hpr
          · exact bthen hb hb.size hb1
        case measure => simp [intOf]; omega
      · have hpr' : prt p.k p.n p.s = false := by simpa using hpr
        have HC := Lib.hid (chk_bad HP.out hpr')
        clear hpr
        go_wp2_with (go_at_call 68; refine (refRight_any _ _ _ _).mono ?_; rintro e w1 ⟨rfl, hb1⟩)
        go_ret
        rw [HC.out]
        refine ⟨rfl, ?_⟩
        exact bthen hb hb.size hb1
    · obtain rfl : j = l.length := by omega
      go_wp2
      go_loopw [4, 5] (fun r i wr => ∃ j : Nat, j ≤ l.length ∧ i = .int .i64 j ∧ pszs (l.take j) ≤ 128 ∧ r = .int .i64 (pszs (l.take j) : Int) ∧ Below w.heap.size w wr) (fun _ i _ => l.length - (intOf i).toNat)
      case atStart => exact ⟨0, Nat.zero_le _, rfl, by simp [pszs], by simp [pszs], hb⟩
      case round =>
        clear hb
        obtain ⟨j, hj, rfl, hps, rfl, hb⟩ := hrel
        by_cases hlt : j < l.length
        · obtain ⟨ad, rfl, hsp, hbk, hcell⟩ := HR.out (by omega)
          obtain ⟨b, off, spot⟩ := ad
          obtain rfl : spot = none := hsp
          obtain ⟨p, hp⟩ : ∃ p, l[j]? = some p := ⟨_, List.getElem?_eq_getElem hlt⟩
          obtain ⟨h0, h1, h2⟩ := hcell j p hp
          have c0 : wr.cell? ⟨b, off + j * 3, none⟩ = some (.int .i64 p.k) := (hb.cell (p := ⟨b, off + j * 3, none⟩) hbk).trans h0
          have c1 : wr.cell? ⟨b, off + j * 3 + 1, none⟩ = some (.int .i64 p.n) := (hb.cell (p := ⟨b, off + j * 3 + 1, none⟩) hbk).trans h1
          have c2 : wr.cell? ⟨b, off + j * 3 + 2, none⟩ = some (.string p.s) := (hb.cell (p := ⟨b, off + j * 3 + 2, none⟩) hbk).trans h2
          have HP := Lib.hid hp
          have hbw : b < wr.heap.size := Nat.lt_of_lt_of_le hbk hb.size
          clear hcell h0 h1 h2 hp
          have hts := pszs_take_succ HP.out
          have hms := (HM.out p (List.mem_of_getElem? HP.out)).1
          have hbig : psz p.k p.s ≤ 281474976710656 * 2 := by
            unfold psz; split
            · have := List.count_le_length (a := (0 : UInt8)) (l := p.s.data.toList); rw [len_ba] at this; omega
            · omega
          obtain ⟨a, ha⟩ : ∃ a, pszs (l.take j) = a := ⟨_, rfl⟩
          obtain ⟨z, hz⟩ : ∃ z, psz p.k p.s = z := ⟨_, rfl⟩
          rw [ha] at hps hts ⊢
          rw [hz] at hts hbig
          have HZ := Lib.hid hz
          have HTS := Lib.hid hts
          have HMS := Lib.hid hms
          clear hts hz ha hms
          by_cases hfit : (128 : Int) < a + z
          · have HC := Lib.hid (show chk l = 5 from by
              have h1 := pszs_take_le l (j + 1)
              rw [HTS.out] at h1
              unfold chk
              rw [if_pos (by rw [List.all_eq_true]; exact fun q hq => HA.out q (by simpa using hq)), if_neg (by omega)])
            go_wp2_with (go_at_call 69; refine (refSize_any _ _ _ HMS.out _).mono ?_; rintro e w1 ⟨rfl, hb1⟩; rw [HZ.out])
            go_ret
            rw [HC.out]
            refine ⟨rfl, ?_⟩
            exact bthen hb hb.size hb1
          · go_wp2_with (go_at_call 69; refine (refSize_any _ _ _ HMS.out _).mono ?_; rintro e w1 ⟨rfl, hb1⟩; rw [HZ.out])
            go_roundw
            case rel => exact ⟨j + 1, by omega, by go_num, by rw [HTS.out]; omega, by rw [HTS.out]; go_num, bthen hb hb.size hb1⟩
            case measure => simp [intOf]; omega
        · obtain rfl : j = l.length := by omega
          have HC := Lib.hid (show chk l = 0 from chk_of (fun q hq => HA.out q (by simpa using hq)) (by simpa using hps))
          go_wp2
          go_ret
          rw [HC.out]
          exact ⟨rfl, hb⟩
end Go.Proofs.Ytcebhoilokmhdaa
