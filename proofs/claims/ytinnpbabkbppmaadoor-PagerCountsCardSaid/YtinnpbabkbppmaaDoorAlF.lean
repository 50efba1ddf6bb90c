/- Layer 7: Free, Has, Claim, Give. -/
import Derived.Test.YtinnpbabkbppmaaDoorAlE
namespace Go.Proofs.YtinnpbabkbppmaaDoor
open Go.RowKit
set_option linter.unusedVariables false
set_option maxRecDepth 100000

theorem freeCount7 {w : World} {p g : Nat} {l : List Bool} (h : Al w p g l) :
    Calls Tryd.prog 63 #[.pointer (some ⟨p, 0, none⟩)] w fun r w' => r = .returned (.int .i64 (free7 l)) ∧ w' = w := by
  have HM := Lib.hid (made7 h)
  have hle := h.le
  obtain ⟨c, rest, h1, h2, h3, h4, h5⟩ := h
  have x1 := h1.cell 1
  simp only [List.getElem?_cons_zero, List.getElem?_cons_succ] at x1
  have H2 := Lib.hid (fun (k : Nat) (hk : k < l.length / 64 + 1) => (by
    have := h2.cell k
    rw [List.getElem?_append_left (by rw [len_words]; exact hk), words_at _ _ hk] at this
    exact this : w.cell? ⟨g, k, none⟩ = some (.int .u64 ((wd l k : Nat) : Int))))
  have HE : Hid (cnt l 0 (64 * (l.length / 64 + 1)) = free7 l) := Lib.hid (by
    rw [← cnt_past l (64 * (l.length / 64 + 1) - l.length)]
    congr 1
    omega)
  clear h1 h2 h5
  have hN : l.length / 64 + 1 ≤ 257 := by omega
  generalize l.length / 64 + 1 = N at *
  generalize free7 l = res at *
  go_enter Tryd.func63, Tryd.ntmps63
  go_wp2_with (go_at_call 69; refine HM.out.mono ?_; rintro e w' ⟨rfl, rfl⟩)
  go_loop [3, 14] (fun v3 v14 => ∃ k : Nat, k ≤ N ∧ v14 = .int .i64 k ∧ v3 = .int .i64 ((cnt l 0 (64 * k) : Nat) : Int)) (fun _ v14 => N - (intOf v14).toNat)
  case atStart => exact ⟨0, Nat.zero_le _, rfl, rfl⟩
  case round =>
    obtain ⟨k, hk, rfl, rfl⟩ := hrel
    have hc := cnt_le l 0 (64 * k)
    by_cases hlt : k < N
    · have x2 := H2.out k hlt
      have HC := Lib.hid (fun w => onesCount7 (wd l k) (wd_lt l k) w)
      have hp := popAux_cnt l k 64 (Nat.le_refl _)
      have ha := cnt_add l 0 (64 * k) 64
      rw [Nat.zero_add, ← hp] at ha
      have hpl := popAux_le 64 (wd l k)
      have HA : Hid (cnt l 0 (64 * (k + 1)) = cnt l 0 (64 * k) + Lib.popAux 64 (wd l k)) := Lib.hid (by rw [show 64 * (k + 1) = 64 * k + 64 from by omega]; exact ha)
      have hi : (k : Int) < (N : Int) := by omega
      clear hp ha
      generalize Lib.popAux 64 (wd l k) = q at *
      generalize cnt l 0 (64 * k) = s at *
      generalize wd l k = W at *
      have e1 := wrap_of ((s : Int) + (q : Int)) (by omega) (by omega)
      have e2 := wrap_of ((k : Int) + 1) (by omega) (by omega)
      go_wp2_with (go_at_call 74; refine (HC.out _).mono ?_; rintro e w' ⟨rfl, rfl⟩)
      go_round
      case rel => exact ⟨k + 1, hlt, by simp, by rw [HA.out]; simp⟩
      case measure => simp [intOf]; omega
    · obtain rfl : k = N := by omega
      have hk2 : ¬ (k : Int) < (k : Int) := by omega
      go_wp2
      go_ret
      exact ⟨by rw [HE.out]; rfl, rfl⟩
theorem freeCount7_no {w : World} {v : Value} (h : Noa w v) :
    Calls Tryd.prog 63 #[v] w fun r w' => r = .returned (.int .i64 0) ∧ w' = w := by
  have HM := Lib.hid (made7_no h)
  clear h
  go_enter Tryd.func63, Tryd.ntmps63
  go_wp2_with (go_at_call 69; refine HM.out.mono ?_; rintro e w' ⟨rfl, rfl⟩)
  go_ret
  exact ⟨rfl, rfl⟩
/-- Is page i taken? -/
def has7 (l : List Bool) (i : Int) : Bool := decide (0 ≤ i ∧ i < l.length) && !l.getD i.toNat false
theorem hasPage7 {w : World} {p g : Nat} {l : List Bool} (h : Al w p g l) (i : Int) :
    Calls Tryd.prog 50 #[.pointer (some ⟨p, 0, none⟩), .int .i64 i] w fun r w' => r = .returned (.bool (has7 l i)) ∧ Turn (fun _ => False) w w' := by
  have HM := Lib.hid (made7 h)
  have HT := Lib.hid (fun n hn => taken7 h n hn)
  have hle := h.le
  obtain ⟨c, rest, h1, h2, h3, h4, h5⟩ := h
  have x0 := h1.cell 0
  simp only [List.getElem?_cons_zero] at x0
  clear h1 h2 h5
  by_cases h0 : 0 ≤ i
  · obtain ⟨n, rfl⟩ : ∃ n : Nat, i = (n : Int) := ⟨i.toNat, by omega⟩
    by_cases hlt : n < l.length
    · have hlt2 : (n : Int) < (l.length : Int) := by omega
      have hr : has7 l n = !l.getD n false := by unfold has7; simp [hlt2, hlt]
      have HT2 := Lib.hid (HT.out n hlt)
      rw [hr]
      generalize (!l.getD n false) = res at *
      generalize l.length = N at *
      clear hr
      go_enter Tryd.func50, Tryd.ntmps50
      go_wp2_with (first | (go_at_call 69; refine HM.out.mono ?_; rintro e w' ⟨rfl, rfl⟩) | (go_at_call 70; refine HT2.out.mono ?_; rintro e w' ⟨rfl, rfl⟩))
      go_ret
      exact ⟨rfl, (Turn.refl _ _).drew⟩
    · have hlt2 : ¬ (n : Int) < (l.length : Int) := by omega
      have hr : has7 l n = false := by unfold has7; simp [hlt]
      rw [hr]
      clear hr HT
      have hlt3 : decide ((n : Int) < (l.length : Int)) = false := by simpa using hlt2
      have hlt4 : decide (n < l.length) = false := by simpa using hlt
      generalize l.length = N at *
      go_enter Tryd.func50, Tryd.ntmps50
      go_wp2_with (go_at_call 69; refine HM.out.mono ?_; rintro e w' ⟨rfl, rfl⟩)
      go_ret
      exact ⟨rfl, Turn.refl _ _⟩
  · have h02 : decide (0 ≤ i) = false := by simpa using h0
    have hr : has7 l i = false := by unfold has7; simp [h0]
    rw [hr]
    clear hr HT
    generalize l.length = N at *
    go_enter Tryd.func50, Tryd.ntmps50
    go_wp2_with (go_at_call 69; refine HM.out.mono ?_; rintro e w' ⟨rfl, rfl⟩)
    go_ret
    exact ⟨rfl, Turn.refl _ _⟩
theorem hasPage7_no {w : World} {v : Value} (h : Noa w v) (i : Int) :
    Calls Tryd.prog 50 #[v, .int .i64 i] w fun r w' => r = .returned (.bool false) ∧ w' = w := by
  have HM := Lib.hid (made7_no h)
  clear h
  go_enter Tryd.func50, Tryd.ntmps50
  go_wp2_with (go_at_call 69; refine HM.out.mono ?_; rintro e w' ⟨rfl, rfl⟩)
  go_ret
  exact ⟨rfl, rfl⟩
/-- Claim of page i. -/
def clm7 (l : List Bool) (i : Int) : List Bool × Int := if i < 0 ∨ l.length ≤ i then (l, 6) else if l.getD i.toNat false then (flip l i.toNat 1, 0) else (l, 8)
theorem claim7 {w : World} {p g : Nat} {l : List Bool} (h : Al w p g l) (i : Int) :
    Calls Tryd.prog 51 #[.pointer (some ⟨p, 0, none⟩), .int .i64 i] w fun r w' => r = .returned (.int .i64 (clm7 l i).2) ∧ Al w' p g (clm7 l i).1 ∧ Turn (· = g) w w' := by
  have HM := Lib.hid (made7 h)
  have HT := Lib.hid (fun n hn => taken7 h n hn)
  have HA := Lib.hid h
  have hle := h.le
  obtain ⟨c, rest, h1, h2, h3, h4, h5⟩ := h
  have x0 := h1.cell 0
  simp only [List.getElem?_cons_zero] at x0
  clear h1 h2 h5
  by_cases h0 : 0 ≤ i
  · obtain ⟨n, rfl⟩ : ∃ n : Nat, i = (n : Int) := ⟨i.toNat, by omega⟩
    have h0b : ((n : Int) < 0) = False := by simp
    by_cases hlt : n < l.length
    · have hlt2 : (n : Int) < (l.length : Int) := by omega
      have HT2 := Lib.hid (HT.out n hlt)
      have HU := Lib.hid (turn7 HA.out.drew n 1 (by omega))
      have hr : clm7 l n = if l.getD n false then (flip l n 1, 0) else (l, 8) := by
        unfold clm7
        rw [if_neg (by omega), Int.toNat_natCast]
      cases hb : l.getD n false with
      | true =>
        rw [hb] at hr HT2
        have HR : Hid (clm7 l n = (flip l n 1, 0)) := hr
        rw [HR.out]
        clear hr hb HT h0 h0b
        generalize flip l n 1 = X at *
        have hlt4 : decide (l.length ≤ n) = false := by simpa using hlt
        generalize l.length = N at *
        go_enter Tryd.func51, Tryd.ntmps51
        go_wp2_with (first | (go_at_call 69; refine HM.out.mono ?_; rintro e w' ⟨rfl, rfl⟩) | (go_at_call 70; refine HT2.out.mono ?_; rintro e w' ⟨rfl, rfl⟩) | (go_at_call 64; refine HU.out.mono ?_; rintro e w' ⟨⟨v, rfl⟩, ha, ht⟩))
        go_ret
        exact ⟨rfl, ha, (Turn.refl _ _).drew.trans ht⟩
      | false =>
        rw [hb] at hr HT2
        have HR : Hid (clm7 l n = (l, 8)) := hr
        rw [HR.out]
        clear hr hb HT HU h0 h0b
        have hlt4 : decide (l.length ≤ n) = false := by simpa using hlt
        have hlen : l.length = l.length := rfl
        generalize hN : l.length = N at *
        clear hN hlen
        go_enter Tryd.func51, Tryd.ntmps51
        go_wp2_with (first | (go_at_call 69; refine HM.out.mono ?_; rintro e w' ⟨rfl, rfl⟩) | (go_at_call 70; refine HT2.out.mono ?_; rintro e w' ⟨rfl, rfl⟩))
        go_ret
        exact ⟨rfl, HA.out.drew, (Turn.refl _ _).drew⟩
    · have hlt2 : (l.length : Int) ≤ (n : Int) := by omega
      have HR : Hid (clm7 l n = (l, 6)) := Lib.hid (by unfold clm7; rw [if_pos (by omega)])
      rw [HR.out]
      clear HT
      have hlt4 : decide (l.length ≤ n) = true := by simpa using hlt
      generalize hN : l.length = N at *
      clear hN
      go_enter Tryd.func51, Tryd.ntmps51
      go_wp2_with (go_at_call 69; refine HM.out.mono ?_; rintro e w' ⟨rfl, rfl⟩)
      go_ret
      exact ⟨rfl, HA.out, Turn.refl _ _⟩
  · have h02 : i < 0 := by omega
    have HR : Hid (clm7 l i = (l, 6)) := Lib.hid (by unfold clm7; rw [if_pos (by omega)])
    rw [HR.out]
    clear HT
    generalize hN : l.length = N at *
    clear hN
    go_enter Tryd.func51, Tryd.ntmps51
    go_wp2_with (go_at_call 69; refine HM.out.mono ?_; rintro e w' ⟨rfl, rfl⟩)
    go_ret
    exact ⟨rfl, HA.out, Turn.refl _ _⟩
theorem claim7_no {w : World} {v : Value} (h : Noa w v) (i : Int) :
    Calls Tryd.prog 51 #[v, .int .i64 i] w fun r w' => r = .returned (.int .i64 1) ∧ w' = w := by
  have HM := Lib.hid (made7_no h)
  clear h
  go_enter Tryd.func51, Tryd.ntmps51
  go_wp2_with (go_at_call 69; refine HM.out.mono ?_; rintro e w' ⟨rfl, rfl⟩)
  go_ret
  exact ⟨rfl, rfl⟩
end Go.Proofs.YtinnpbabkbppmaaDoor
