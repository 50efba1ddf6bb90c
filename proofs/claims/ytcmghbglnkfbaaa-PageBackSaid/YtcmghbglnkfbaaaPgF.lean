/- Layer 8: the program's stands, Size, Check. -/
import Derived.Test.YtcmghbglnkfbaaaPgE
namespace Go.Proofs.Ytcmghbglnkfbaaa
open Go.RowKit
set_option linter.unusedVariables false
set_option maxRecDepth 100000

def lng (L : List ByteArray) (m : Nat) : Bool := L.any (fun s => decide (m < s.size))
theorem lng_no {L : List ByteArray} {m : Nat} : lng L m = false ↔ ∀ j, j < L.length → (key8 L j).size ≤ m := by
  unfold lng
  rw [List.any_eq_false]
  constructor
  · intro h j hj
    have h2 := h (key8 L j) (by unfold key8; rw [List.getD_eq_getElem?_getD, List.getElem?_eq_getElem hj]; exact List.getElem_mem hj)
    simpa using h2
  · intro h s hs
    obtain ⟨j, hj, rfl⟩ := List.getElem_of_mem hs
    have := h j hj
    rw [key8_at (List.getElem?_eq_getElem hj)] at this
    simpa using this
def badKid (Z : List Int) : Bool := Z.any (fun z => decide (z < 0) || decide (16384 ≤ z))
theorem badKid_no {Z : List Int} : badKid Z = false ↔ ∀ j, j < Z.length → 0 ≤ Z.getD j 0 ∧ Z.getD j 0 < 16384 := by
  unfold badKid
  rw [List.any_eq_false]
  constructor
  · intro h j hj
    have h2 := h (Z.getD j 0) (by rw [List.getD_eq_getElem?_getD, List.getElem?_eq_getElem hj]; exact List.getElem_mem hj)
    generalize Z.getD j 0 = z at *
    simp at h2
    exact ⟨by omega, by omega⟩
  · intro h s hs
    obtain ⟨j, hj, rfl⟩ := List.getElem_of_mem hs
    have := h j hj
    rw [List.getD_eq_getElem?_getD, List.getElem?_eq_getElem hj] at this
    simp at this
    simp
    omega
theorem tooLongFn (s : ByteArray) (b : Nat) (m : Nat) (w : World) (hb : w.cell? ⟨b, 0, none⟩ = some (.int .i64 m)) :
    Calls Try.prog 54 #[.string s, .pointer (some ⟨b, 0, none⟩)] w fun e w' => e = .returned (.bool (decide (m < s.size))) ∧ w' = w := by
  have h1 : decide ((m : Int) < (s.size : Int)) = decide (m < s.size) := by rw [decide_eq_decide]; omega
  go_enter Try.func54, Try.ntmps54
  go_wp2_with fail
  go_ret
  first | exact ⟨rfl, rfl⟩ | exact ⟨by rw [h1], rfl⟩ | exact ⟨by simp [h1], rfl⟩
set_option maxHeartbeats 2000000 in
theorem idxS_any (L : List ByteArray) (A : Option Addr) (c : Nat) (w : World) (b m : Nat) (h : Sr w A L) (hn : L.length ≤ 2000) (hb : w.cell? ⟨b, 0, none⟩ = some (.int .i64 m)) :
    Calls Try.prog 68 #[.slice A L.length c, .func (.func 54) #[] #[.pointer (some ⟨b, 0, none⟩)]] w
      fun e w' => ∃ i : Int, e = .returned (.int .i64 i) ∧ decide (0 ≤ i) = lng L m ∧ w' = w := by
  have h1 := Lib.hid h
  obtain ⟨n, hnn⟩ : ∃ k, L.length = k := ⟨_, rfl⟩
  have HN := Lib.hid hnn
  rw [hnn] at hn ⊢
  obtain ⟨R, hR⟩ : ∃ k, lng L m = k := ⟨_, rfl⟩
  rw [hR]
  have HR := Lib.hid hR
  have HF := Lib.hid (fun s => tooLongFn s b m w hb)
  clear h hnn hR
  go_enter Try.func68, Try.ntmps68
  go_wp2_with fail
  go_loopw [5, 8] (fun _ vi wr => ∃ (j : Nat), j ≤ n ∧ vi = .int .i64 j ∧ (∀ i, i < j → (key8 L i).size ≤ m) ∧ wr = w) (fun _ vi _ => n - (intOf vi).toNat)
  case atStart => exact ⟨0, Nat.zero_le _, rfl, fun i h2 => by omega, rfl⟩
  case round =>
    obtain ⟨j, hj, rfl, hx, rfl⟩ := hrel
    have HX := Lib.hid hx
    clear hx
    by_cases hlt : j < n
    · obtain ⟨t, ht⟩ : ∃ t, L[j]? = some t := ⟨_, List.getElem?_eq_getElem (by rw [HN.out]; exact hlt)⟩
      obtain ⟨b1, o1, rfl, hb1, hc1⟩ := h1.out (by rw [HN.out]; omega)
      have y4 : wr.cell? ⟨b1, o1 + j, none⟩ = some (.string t) := hc1 wr (Turn.refl _ wr) j t ht
      have hkt := Lib.hid (key8_at ht)
      have hi1 : (j : Int) < (n : Int) := by omega
      have hi2 : (0 : Int) ≤ (j : Int) := by omega
      have z3 := wrap_of ((j : Int) + 1) (by omega) (by omega)
      have HC := Lib.hid (HF.out t)
      have HT := Lib.hid ht
      clear hc1 ht
      by_cases hm : m < t.size
      · obtain rfl : R = true := by
          rw [← HR.out]
          cases hq : lng L m with
          | true => rfl
          | false => have := lng_no.1 hq j (by rw [HN.out]; exact hlt); rw [hkt.out] at this; omega
        rw [decide_eq_true hm] at HC
        have HM := Lib.hid hm
        clear hm
        go_wp2_with fail
        refine HC.out.mono ?_
        rintro e w1 ⟨rfl, rfl⟩
        go_wp2_with fail
        go_ret
        exact ⟨_, rfl, by first | trivial | exact decide_eq_true hi2, by first | rfl | trivial⟩
      · rw [decide_eq_false hm] at HC
        have HR2 : Hid (∀ i, i < j + 1 → (key8 L i).size ≤ m) := Lib.hid (fun k h6 => by
          rcases Nat.lt_or_ge k j with h7 | h7
          · exact HX.out k h7
          · obtain rfl : k = j := by omega
            rw [hkt.out]; omega)
        clear hm
        go_wp2_with fail
        refine HC.out.mono ?_
        rintro e w1 ⟨rfl, rfl⟩
        go_wp2_with fail
        go_roundw
        case rel => exact ⟨j + 1, hlt, by simp, HR2.out, by first | rfl | trivial⟩
        case measure => simp [intOf]; omega
    · have hi1 : ¬ (j : Int) < (n : Int) := by omega
      obtain rfl : R = false := by
        rw [← HR.out]
        exact lng_no.2 (fun k h6 => HX.out k (by rw [HN.out] at h6; omega))
      go_wp2_with fail
      go_ret
      exact ⟨_, by first | rfl | trivial, by first | rfl | trivial, by first | rfl | trivial⟩
theorem hasS_any (L : List ByteArray) (A : Option Addr) (c : Nat) (w : World) (b m : Nat) (h : Sr w A L) (hn : L.length ≤ 2000) (hb : w.cell? ⟨b, 0, none⟩ = some (.int .i64 m)) :
    Calls Try.prog 53 #[.slice A L.length c, .func (.func 54) #[] #[.pointer (some ⟨b, 0, none⟩)]] w
      fun e w' => e = .returned (.bool (lng L m)) ∧ w' = w := by
  have HC := Lib.hid (idxS_any L A c w b m h hn hb)
  clear h
  generalize L.length = n at *
  go_enter Try.func53, Try.ntmps53
  go_wp2_with fail
  refine HC.out.mono ?_
  rintro e w1 ⟨i, rfl, hi, rfl⟩
  obtain ⟨R, hR⟩ : ∃ k, lng L m = k := ⟨_, rfl⟩
  rw [hR] at hi
  have HI := Lib.hid hR
  clear hR
  cases R
  · go_wp2_with fail
    go_ret
    exact ⟨by first | rfl | (rw [HI.out]; rfl), by first | rfl | trivial⟩
  · go_wp2_with fail
    go_ret
    exact ⟨by first | rfl | (rw [HI.out]; rfl), by first | rfl | trivial⟩
theorem tooLong_any (L : List ByteArray) (A : Option Addr) (c : Nat) (w : World) (m : Nat) (h : Sr w A L) (hn : L.length ≤ 2000) :
    Calls Try.prog 43 #[.slice A L.length c, .int .i64 m] w fun e w' => e = .returned (.bool (lng L m)) ∧ Turn (fun _ => False) w w' := by
  have HC := Lib.hid (fun W (ht : Turn (fun _ => False) w W) (b : Nat) (hb : W.cell? ⟨b, 0, none⟩ = some (.int .i64 m)) => hasS_any L A c W b m (h.turn ht) hn hb)
  clear h
  generalize L.length = n at *
  go_enter Try.func43, Try.ntmps43
  go_wp2_with fail
  refine (HC.out _ ((Turn.refl _ w).alloc _) _ ((Blk.new w 3 [.int .i64 m]).cell 0)).mono ?_
  rintro e w1 ⟨rfl, rfl⟩
  go_wp2_with fail
  go_ret
  exact ⟨rfl, (Turn.refl _ w).alloc _⟩
theorem badKidFn (z : Int) (w : World) : Calls Try.prog 44 #[.int .i64 z] w fun e w' => e = .returned (.bool (decide (z < 0) || decide (16384 ≤ z))) ∧ w' = w := by
  by_cases h : z < 0
  · have h1 : decide (z < 0) = true := decide_eq_true h
    go_enter Try.func44, Try.ntmps44
    go_wp2_with fail
    go_ret
    exact ⟨by first | rfl | (simp; done) | (simp; omega), rfl⟩
  · have h1 : decide (z < 0) = false := decide_eq_false h
    go_enter Try.func44, Try.ntmps44
    go_wp2_with fail
    go_ret
    exact ⟨by first | rfl | (simp; done) | (simp; omega), rfl⟩
set_option maxHeartbeats 2000000 in
theorem idxI_any (L : List Int) (A : Option Addr) (c : Nat) (w : World) (h : Nr w A L) (hn : L.length ≤ 2000) :
    Calls Try.prog 55 #[.slice A L.length c, .func (.func 44) #[] #[]] w
      fun e w' => ∃ i : Int, e = .returned (.int .i64 i) ∧ decide (0 ≤ i) = badKid L ∧ w' = w := by
  have h1 := Lib.hid h
  obtain ⟨n, hnn⟩ : ∃ k, L.length = k := ⟨_, rfl⟩
  have HN := Lib.hid hnn
  rw [hnn] at hn ⊢
  obtain ⟨R, hR⟩ : ∃ k, badKid L = k := ⟨_, rfl⟩
  rw [hR]
  have HR := Lib.hid hR
  have HF := Lib.hid (fun z => badKidFn z w)
  clear h hnn hR
  go_enter Try.func55, Try.ntmps55
  go_wp2_with fail
  go_loopw [5, 8] (fun _ vi wr => ∃ (j : Nat), j ≤ n ∧ vi = .int .i64 j ∧ (∀ i, i < j → 0 ≤ L.getD i 0 ∧ L.getD i 0 < 16384) ∧ wr = w) (fun _ vi _ => n - (intOf vi).toNat)
  case atStart => exact ⟨0, Nat.zero_le _, rfl, fun i h2 => by omega, rfl⟩
  case round =>
    obtain ⟨j, hj, rfl, hx, rfl⟩ := hrel
    have HX := Lib.hid hx
    clear hx
    by_cases hlt : j < n
    · obtain ⟨t, ht⟩ : ∃ t, L[j]? = some t := ⟨_, List.getElem?_eq_getElem (by rw [HN.out]; exact hlt)⟩
      obtain ⟨b1, o1, rfl, hb1, hc1⟩ := h1.out (by rw [HN.out]; omega)
      have y4 : wr.cell? ⟨b1, o1 + j, none⟩ = some (.int .i64 t) := hc1 wr (Turn.refl _ wr) j t ht
      have hkt : Hid (L.getD j 0 = t) := Lib.hid (by rw [List.getD_eq_getElem?_getD, ht]; rfl)
      have hi1 : (j : Int) < (n : Int) := by omega
      have hi2 : (0 : Int) ≤ (j : Int) := by omega
      have z3 := wrap_of ((j : Int) + 1) (by omega) (by omega)
      have HC := Lib.hid (HF.out t)
      clear hc1 ht
      obtain ⟨q, hq⟩ : ∃ q, (decide (t < 0) || decide (16384 ≤ t)) = q := ⟨_, rfl⟩
      rw [hq] at HC
      have HQ := Lib.hid hq
      clear hq
      cases q
      · have HR2 : Hid (∀ i, i < j + 1 → 0 ≤ L.getD i 0 ∧ L.getD i 0 < 16384) := Lib.hid (fun k h6 => by
          rcases Nat.lt_or_ge k j with h7 | h7
          · exact HX.out k h7
          · obtain rfl : k = j := by omega
            rw [hkt.out]; have h8 := HQ.out; simp at h8; omega)
        go_wp2_with fail
        refine HC.out.mono ?_
        rintro e w1 ⟨rfl, rfl⟩
        go_wp2_with fail
        go_roundw
        case rel => exact ⟨j + 1, hlt, by simp, HR2.out, by first | rfl | trivial⟩
        case measure => simp [intOf]; omega
      · obtain rfl : R = true := by
          rw [← HR.out]
          cases hq : badKid L with
          | true => rfl
          | false => have := badKid_no.1 hq j (by rw [HN.out]; exact hlt); rw [hkt.out] at this; have h8 := HQ.out; simp at h8; omega
        go_wp2_with fail
        refine HC.out.mono ?_
        rintro e w1 ⟨rfl, rfl⟩
        go_wp2_with fail
        go_ret
        exact ⟨_, rfl, by first | trivial | exact decide_eq_true hi2, by first | rfl | trivial⟩
    · have hi1 : ¬ (j : Int) < (n : Int) := by omega
      obtain rfl : R = false := by
        rw [← HR.out]
        exact badKid_no.2 (fun k h6 => HX.out k (by rw [HN.out] at h6; omega))
      go_wp2_with fail
      go_ret
      exact ⟨_, rfl, by first | rfl | trivial | decide, by first | rfl | trivial⟩
theorem hasI_any (L : List Int) (A : Option Addr) (c : Nat) (w : World) (h : Nr w A L) (hn : L.length ≤ 2000) :
    Calls Try.prog 45 #[.slice A L.length c, .func (.func 44) #[] #[]] w
      fun e w' => e = .returned (.bool (badKid L)) ∧ w' = w := by
  have HC := Lib.hid (idxI_any L A c w h hn)
  clear h
  generalize L.length = n at *
  go_enter Try.func45, Try.ntmps45
  go_wp2_with fail
  refine HC.out.mono ?_
  rintro e w1 ⟨i, rfl, hi, rfl⟩
  obtain ⟨R, hR⟩ : ∃ k, badKid L = k := ⟨_, rfl⟩
  rw [hR] at hi
  have HI := Lib.hid hR
  clear hR
  cases R
  · go_wp2_with fail
    go_ret
    exact ⟨by first | rfl | (rw [HI.out]; rfl), by first | rfl | trivial⟩
  · go_wp2_with fail
    go_ret
    exact ⟨by first | rfl | (rw [HI.out]; rfl), by first | rfl | trivial⟩
theorem st8_is (n : Nd) : st8 n = (riz n.keys && !lng n.keys 128 && if n.leaf then (decide (n.kids.length = 0) && decide (n.vals.length = n.keys.length) && !lng n.vals 200) else (decide (n.vals.length = 0) && decide (n.kids.length = n.keys.length + 1) && !badKid n.kids)) := by
  cases hs : st8 n with
  | true =>
    have h := st8_of hs
    have h1 : riz n.keys = true := riz_yes (fun j h1 h2 => (h.1 j h2).2 h1)
    have h2 : lng n.keys 128 = false := lng_no.2 (fun j hj => (h.1 j hj).1)
    have h3 := h.2
    rw [h1, h2]
    cases hl : n.leaf
    · rw [hl] at h3
      obtain ⟨h4, h5, h6⟩ := h3
      have h7 := badKid_no.2 h4
      simp [h5, h6, h7]
    · rw [hl] at h3
      obtain ⟨h4, h5, h6⟩ := h3
      have h7 := lng_no.2 h4
      simp [h5, h6, h7]
  | false =>
    cases hq : (riz n.keys && !lng n.keys 128 && if n.leaf then (decide (n.kids.length = 0) && decide (n.vals.length = n.keys.length) && !lng n.vals 200) else (decide (n.vals.length = 0) && decide (n.kids.length = n.keys.length + 1) && !badKid n.kids)) with
    | false => rfl
    | true =>
      have hst : Stands8 n := by
        simp only [Bool.and_eq_true] at hq
        obtain ⟨⟨h1, h2⟩, h3⟩ := hq
        have h2' : lng n.keys 128 = false := by simpa using h2
        refine ⟨fun j hj => ⟨lng_no.1 h2' j hj, fun h0 => riz_of h1 j h0 hj⟩, ?_⟩
        cases hl : n.leaf
        · rw [hl] at h3
          simp at h3
          exact ⟨badKid_no.1 h3.2, by first | (rw [h3.1.1]; rfl) | rw [h3.1.1], h3.1.2⟩
        · rw [hl] at h3
          simp at h3
          exact ⟨lng_no.1 h3.2, h3.1.2, by first | (rw [h3.1.1]; rfl) | rw [h3.1.1]⟩
      rw [st8_yes hst] at hs
      cases hs
set_option maxHeartbeats 4000000 in
theorem stands_any (n : Nd) (A1 : Option Addr) (c1 : Nat) (A2 : Option Addr) (c2 : Nat) (A3 : Option Addr) (c3 : Nat) (w : World) (h : No w A1 c1 A2 c2 A3 c3 n) (hf : Few8 n) :
    Calls Try.prog 25 #[nv8 A1 c1 A2 c2 A3 c3 n] w fun e w' => e = .returned (.bool (st8 n)) ∧ Turn (fun _ => False) w w' := by
  rw [st8_is]
  have f1 := hf.nk
  have f2 := hf.nv
  have f3 := hf.nd
  have HR := Lib.hid (fun W (ht : Turn (fun _ => False) w W) => rises_any n.keys A1 c1 W (h.keys.turn ht) f1)
  have HK := Lib.hid (fun W (ht : Turn (fun _ => False) w W) (m : Nat) => tooLong_any n.keys A1 c1 W m (h.keys.turn ht) f1)
  have HV := Lib.hid (fun W (ht : Turn (fun _ => False) w W) (m : Nat) => tooLong_any n.vals A2 c2 W m (h.vals.turn ht) f2)
  have HD := Lib.hid (fun W (ht : Turn (fun _ => False) w W) => hasI_any n.kids A3 c3 W (h.kids.turn ht) f3)
  have hB := (Turn.refl (fun _ => False) w).alloc (.cells #[.bool n.leaf, .slice A1 n.keys.length c1, .slice A2 n.vals.length c2, .slice A3 n.kids.length c3] 26)
  have hC := Blk.new w 26 [.bool n.leaf, .slice A1 n.keys.length c1, .slice A2 n.vals.length c2, .slice A3 n.kids.length c3]
  have BB := Lib.hid hC
  have TT := Lib.hid hB
  obtain ⟨leaf, K, V, Z⟩ := n
  simp only [nv8] at *
  have HR1 := Lib.hid (HR.out _ hB)
  obtain ⟨r, hr⟩ : ∃ b, riz K = b := ⟨_, rfl⟩
  obtain ⟨lk, hlk⟩ : ∃ b, lng K 128 = b := ⟨_, rfl⟩
  obtain ⟨lv, hlv⟩ : ∃ b, lng V 200 = b := ⟨_, rfl⟩
  obtain ⟨bk, hbk⟩ : ∃ b, badKid Z = b := ⟨_, rfl⟩
  have HK' : Hid (∀ W, Turn (fun _ => False) w W → Calls Try.prog 43 #[.slice A1 K.length c1, .int .i64 128] W fun e w' => e = .returned (.bool lk) ∧ Turn (fun _ => False) W w') := Lib.hid (fun W ht => by have := HK.out W ht 128; rw [hlk] at this; exact this)
  have HV' : Hid (∀ W, Turn (fun _ => False) w W → Calls Try.prog 43 #[.slice A2 V.length c2, .int .i64 200] W fun e w' => e = .returned (.bool lv) ∧ Turn (fun _ => False) W w') := Lib.hid (fun W ht => by have := HV.out W ht 200; rw [hlv] at this; exact this)
  rw [hbk] at HD
  rw [hr] at HR1
  rw [hr, hlk, hlv, hbk]
  clear HK HV HR hr hlk hlv hbk h hf
  generalize K.length = nk at *
  generalize V.length = nv at *
  generalize Z.length = nd at *
  have e1 : ((nd : Int) == 0) = decide (nd = 0) := by rw [Bool.eq_iff_iff]; simp; try omega
  have e2 : ((nv : Int) == 0) = decide (nv = 0) := by rw [Bool.eq_iff_iff]; simp; try omega
  have e3 : ((nv : Int) == (nk : Int)) = decide (nv = nk) := by rw [Bool.eq_iff_iff]; simp; try omega
  have e4 : ((nd : Int) == (nk : Int) + 1) = decide (nd = nk + 1) := by rw [Bool.eq_iff_iff]; simp; try omega
  have z1 := wrap_of ((nk : Int) + 1) (by omega) (by omega)
  generalize decide (nd = 0) = d1 at *
  generalize decide (nv = 0) = d2 at *
  generalize decide (nv = nk) = d3 at *
  generalize decide (nd = nk + 1) = d4 at *
  clear hB hC f2 f3
  go_enter Try.func25, Try.ntmps25
  go_wp2_with fail
  refine HR1.out.mono ?_
  rintro e w1 ⟨rfl, ht1⟩
  have T1 := Lib.hid (TT.out.trans ht1)
  have B1 := Lib.hid (BB.out.turn ht1 (fun h => h))
  clear ht1 HR1
  have y0 : w1.cell? ⟨w.heap.size, 0, none⟩ = some (.bool leaf) := B1.out.cell 0
  have y1 : w1.cell? ⟨w.heap.size, 1, none⟩ = some (.slice A1 nk c1) := B1.out.cell 1
  have y2 : w1.cell? ⟨w.heap.size, 2, none⟩ = some (.slice A2 nv c2) := B1.out.cell 2
  have y3 : w1.cell? ⟨w.heap.size, 3, none⟩ = some (.slice A3 nd c3) := B1.out.cell 3
  cases r
  · go_wp2_with fail
    all_goals (go_ret; exact ⟨rfl, T1.out⟩)
  · go_wp2_with fail
    refine (HK'.out _ T1.out).mono ?_
    rintro e w2 ⟨rfl, ht2⟩
    have T2 := Lib.hid (T1.out.trans ht2)
    have B2 := Lib.hid (B1.out.turn ht2 (fun h => h))
    clear ht2 HK' y0 y1 y2 y3
    have y0 : w2.cell? ⟨w.heap.size, 0, none⟩ = some (.bool leaf) := B2.out.cell 0
    have y1 : w2.cell? ⟨w.heap.size, 1, none⟩ = some (.slice A1 nk c1) := B2.out.cell 1
    have y2 : w2.cell? ⟨w.heap.size, 2, none⟩ = some (.slice A2 nv c2) := B2.out.cell 2
    have y3 : w2.cell? ⟨w.heap.size, 3, none⟩ = some (.slice A3 nd c3) := B2.out.cell 3
    cases lk
    · cases leaf
      · cases d2
        · go_wp2_with fail
          all_goals (go_ret; exact ⟨rfl, T2.out⟩)
        · cases d4
          · go_wp2_with fail
            all_goals (go_ret; exact ⟨rfl, T2.out⟩)
          · go_wp2_with fail
            refine (HD.out _ T2.out).mono ?_
            rintro e w3 ⟨rfl, rfl⟩
            go_wp2_with fail
            all_goals (go_ret; exact ⟨rfl, T2.out⟩)
      · cases d1
        · go_wp2_with fail
          all_goals (go_ret; exact ⟨rfl, T2.out⟩)
        · cases d3
          · go_wp2_with fail
            all_goals (go_ret; exact ⟨rfl, T2.out⟩)
          · go_wp2_with fail
            refine (HV'.out _ T2.out).mono ?_
            rintro e w3 ⟨rfl, ht3⟩
            have T3 := Lib.hid (T2.out.trans ht3)
            go_wp2_with fail
            all_goals (go_ret; exact ⟨rfl, T3.out⟩)
    · go_wp2_with fail
      all_goals (go_ret; exact ⟨rfl, T2.out⟩)
end Go.Proofs.Ytcmghbglnkfbaaa
