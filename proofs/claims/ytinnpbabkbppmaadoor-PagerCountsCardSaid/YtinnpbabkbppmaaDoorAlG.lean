/- Layer 7: Give, New, Copy. -/
import Derived.Test.YtinnpbabkbppmaaDoorAlF
namespace Go.Proofs.YtinnpbabkbppmaaDoor
open Go.RowKit
set_option linter.unusedVariables false
set_option maxRecDepth 100000

/-- Is one of the k pages from i on free? -/
def some7 (l : List Bool) (i k : Nat) : Bool := (List.range k).any fun j => l.getD (i + j) false
theorem some7_no {l : List Bool} {i k : Nat} (h : ∀ j, j < k → l.getD (i + j) false = false) : some7 l i k = false := by
  unfold some7
  rw [List.any_eq_false]
  intro j hj
  rw [h j (List.mem_range.1 hj)]; simp
theorem some7_yes {l : List Bool} {i k j : Nat} (hj : j < k) (h : l.getD (i + j) false = true) : some7 l i k = true := by
  unfold some7
  rw [List.any_eq_true]
  exact ⟨j, List.mem_range.2 hj, h⟩
/-- Give of k pages from i on. -/
def giv7 (l : List Bool) (i k : Int) : List Bool × Int :=
  if k < 1 then (l, 2) else if i < 0 ∨ l.length - i < k then (l, 6) else if some7 l i.toNat k.toNat then (l, 7) else (flip l i.toNat k.toNat, 0)
set_option maxHeartbeats 1000000 in
theorem give7 {w : World} {p g : Nat} {l : List Bool} (h : Al w p g l) (i k : Int) (hi : -9223372036854775808 ≤ i ∧ i ≤ 9223372036854775807) (hk : -9223372036854775808 ≤ k ∧ k ≤ 9223372036854775807) :
    Calls Tryd.prog 67 #[.pointer (some ⟨p, 0, none⟩), .int .i64 i, .int .i64 k] w fun r w' => r = .returned (.int .i64 (giv7 l i k).2) ∧ Al w' p g (giv7 l i k).1 ∧ Turn (· = g) w w' := by
  have HM := Lib.hid (made7 h)
  have hle := h.le
  have HA := Lib.hid h
  obtain ⟨c, rest, h1, h2, h3, h4, h5⟩ := h
  have x0 := h1.cell 0
  simp only [List.getElem?_cons_zero] at x0
  clear h1 h2 h5
  by_cases hk1 : k < 1
  · have HR : Hid (giv7 l i k = (l, 2)) := Lib.hid (by unfold giv7; rw [if_pos hk1])
    rw [HR.out]
    go_enter Tryd.func67, Tryd.ntmps67
    go_wp2_with (go_at_call 69; refine HM.out.mono ?_; rintro e w' ⟨rfl, rfl⟩)
    go_ret
    exact ⟨rfl, HA.out, Turn.refl _ _⟩
  · by_cases hr : i < 0 ∨ l.length - i < k
    · have HR : Hid (giv7 l i k = (l, 6)) := Lib.hid (by unfold giv7; rw [if_neg hk1, if_pos hr])
      rw [HR.out]
      by_cases h0 : i < 0
      · clear hr
        go_enter Tryd.func67, Tryd.ntmps67
        go_wp2_with (go_at_call 69; refine HM.out.mono ?_; rintro e w' ⟨rfl, rfl⟩)
        go_ret
        exact ⟨rfl, HA.out, Turn.refl _ _⟩
      · have hr2 : (l.length : Int) - i < k := by omega
        have e1 := wrap_of ((l.length : Int) - i) (by omega) (by omega)
        clear hr
        go_enter Tryd.func67, Tryd.ntmps67
        go_wp2_with (go_at_call 69; refine HM.out.mono ?_; rintro e w' ⟨rfl, rfl⟩)
        go_ret
        exact ⟨rfl, HA.out, Turn.refl _ _⟩
    · obtain ⟨I, rfl⟩ : ∃ n : Nat, i = (n : Int) := ⟨i.toNat, by omega⟩
      obtain ⟨K, rfl⟩ : ∃ n : Nat, k = (n : Int) := ⟨k.toNat, by omega⟩
      have hIK : I + K ≤ l.length := by omega
      have hr2 : (K : Int) ≤ (l.length : Int) - (I : Int) := by omega
      have HR : Hid (giv7 l I K = if some7 l I K then (l, 7) else (flip l I K, 0)) := Lib.hid (by unfold giv7; rw [if_neg hk1, if_neg hr, Int.toNat_natCast, Int.toNat_natCast])
      have e1 := wrap_of ((l.length : Int) - (I : Int)) (by omega) (by omega)
      have e2 := wrap_of ((I : Int) + (K : Int)) (by omega) (by omega)
      have hk2 : (1 : Int) ≤ (K : Int) := by omega
      clear hr
      go_enter Tryd.func67, Tryd.ntmps67
      go_wp2_with (go_at_call 69; refine HM.out.mono ?_; rintro e w' ⟨rfl, rfl⟩)
      go_loopw [7] (fun v7 wr => ∃ j : Nat, j ≤ K ∧ v7 = .int .i64 ((I + j : Nat) : Int) ∧ (∀ q, q < j → l.getD (I + q) false = false) ∧ Turn (fun _ => False) w' wr) (fun v7 _ => (I + K) - (intOf v7).toNat)
      case atStart => exact ⟨0, Nat.zero_le _, rfl, fun q h => absurd h (by omega), Turn.refl _ _⟩
      case round =>
        obtain ⟨j, hj, rfl, hq, ht⟩ := hrel
        have HQ := Lib.hid hq
        have HT := Lib.hid ht
        have HJ := Lib.hid (HA.out.still ht)
        clear hq ht
        by_cases hlt : j < K
        · have HK := Lib.hid (taken7 HJ.out (I + j) (by omega))
          have lt2 : ((I + j : Nat) : Int) < (I : Int) + (K : Int) := by omega
          have e5 := wrap_of (((I + j : Nat) : Int) + 1) (by omega) (by omega)
          cases hb : l.getD (I + j) false with
          | true =>
            have HR2 : Hid (giv7 l I K = (l, 7)) := Lib.hid (by rw [HR.out, some7_yes hlt hb]; rfl)
            rw [hb] at HK
            clear hb
            generalize I + j = m at *
            go_wp2_with (go_at_call 70; refine HK.out.mono ?_; rintro e w' ⟨rfl, rfl⟩)
            go_ret
            exact ⟨by rw [HR2.out]; rfl, by rw [HR2.out]; exact HJ.out.drew, (HT.out.drew).mono (fun _ _ h => h.elim)⟩
          | false =>
            have HQ2 : Hid (∀ q, q < j + 1 → l.getD (I + q) false = false) := Lib.hid (fun q h => by
              rcases Nat.lt_succ_iff_lt_or_eq.1 h with h | h
              · exact HQ.out q h
              · rw [h]; exact hb)
            rw [hb] at HK
            clear hb
            generalize hm : I + j = m at *
            go_wp2_with (go_at_call 70; refine HK.out.mono ?_; rintro e w' ⟨rfl, rfl⟩)
            go_roundw
            case rel => exact ⟨j + 1, hlt, by rw [show I + (j + 1) = m + 1 from by omega]; simp, HQ2.out, HT.out.drew⟩
            case measure => simp [intOf]; omega
        · obtain rfl : j = K := by omega
          have HR2 : Hid (giv7 l I j = (flip l I j, 0)) := Lib.hid (by rw [HR.out, some7_no HQ.out]; rfl)
          have HU := Lib.hid (turn7 HJ.out I j hIK)
          generalize flip l I j = X at *
          go_wp2_with (go_at_call 64; refine HU.out.mono ?_; rintro e w' ⟨⟨v, rfl⟩, ha, ht⟩)
          go_ret
          exact ⟨by rw [HR2.out]; rfl, by rw [HR2.out]; exact ha, (HT.out.mono (fun _ _ h => h.elim)).trans ht⟩
theorem give7_no {w : World} {v : Value} (h : Noa w v) (i k : Int) :
    Calls Tryd.prog 67 #[v, .int .i64 i, .int .i64 k] w fun r w' => r = .returned (.int .i64 1) ∧ w' = w := by
  have HM := Lib.hid (made7_no h)
  clear h
  go_enter Tryd.func67, Tryd.ntmps67
  go_wp2_with (go_at_call 69; refine HM.out.mono ?_; rintro e w' ⟨rfl, rfl⟩)
  go_ret
  exact ⟨rfl, rfl⟩
end Go.Proofs.YtinnpbabkbppmaaDoor
