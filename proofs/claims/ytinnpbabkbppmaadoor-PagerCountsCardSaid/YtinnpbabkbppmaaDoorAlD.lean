/- Layer 7: pages turned, counted; calls that turn. -/
import Derived.Test.YtinnpbabkbppmaaDoorAlC
namespace Go.Proofs.YtinnpbabkbppmaaDoor
open Go.RowKit
set_option linter.unusedVariables false
set_option maxRecDepth 100000

theorem al_put {w : World} {p g : Nat} {l : List Bool} {u : Value} (h : Al w p g l) (i : Nat) (hi : i < l.length) (hu : u = .int .u64 ((wd l (i / 64) ^^^ 2 ^ (i % 64) : Nat) : Int)) :
    Al (w.setCell ⟨g, i / 64, none⟩ u) p g (l.set i (!l.getD i false)) := by
  obtain ⟨c, rest, h1, h2, h3, h4, h5, h6, h7, h8, h9⟩ := h
  refine ⟨c, rest, ?_, ?_, by rw [List.length_set]; exact h3, by rw [List.length_set]; exact h4, h5, h6, h7, ?_, by rw [List.length_set]; exact h9⟩
  · rw [List.length_set]; exact h1.far h7 u
  · have := h2.put (i / 64) u
    rw [List.set_append_left _ _ (by rw [len_words]; omega), hu, wd_turn l i hi, words_set l i _ hi] at this
    rw [hu, wd_turn l i hi]
    exact this
  · exact h8.turn ((Turn.refl (· = g) w).setCell (p := ⟨g, i / 64, none⟩) (.inl rfl) u) (fun h => h6 h.symm)
set_option maxHeartbeats 1000000 in
theorem turn7 {w : World} {p g : Nat} {l : List Bool} (h : Al w p g l) (i k : Nat) (hik : i + k ≤ l.length) :
    Calls Tryd.prog 64 #[.pointer (some ⟨p, 0, none⟩), .int .i64 i, .int .i64 k] w fun r w' => (∃ v, r = .returned v) ∧ Al w' p g (flip l i k) ∧ Turn (· = g) w w' := by
  have hle := h.le
  have HA := Lib.hid h
  clear h
  go_enter Tryd.func64, Tryd.ntmps64
  go_wp2
  go_loopw [6] (fun v6 wr => ∃ j : Nat, j ≤ k ∧ v6 = .int .i64 ((i + j : Nat) : Int) ∧ Al wr p g (flip l i j) ∧ Turn (· = g) w wr) (fun v6 _ => (i + k) - (intOf v6).toNat)
  case atStart => exact ⟨0, Nat.zero_le _, rfl, HA.out, Turn.refl _ _⟩
  case round =>
    obtain ⟨j, hj, rfl, ha, ht⟩ := hrel
    have HJ := Lib.hid ha
    have HT := Lib.hid ht
    have e1 := wrap_of ((i : Int) + (k : Int)) (by omega) (by omega)
    by_cases hlt : j < k
    · have hL := len_flip l i j
      have hij : i + j < (flip l i j).length := by rw [hL]; omega
      have HP := Lib.hid (place7 (i + j) (by omega) wr)
      obtain ⟨c, rest, h1, h2, h3⟩ := ha
      have hN : (i + j) / 64 < (flip l i j).length / 64 + 1 := by omega
      have x1 := h1.drew.cell 1
      simp only [List.getElem?_cons_zero, List.getElem?_cons_succ] at x1
      have x2 := h2.drew.cell ((i + j) / 64)
      rw [List.getElem?_append_left (by rw [len_words]; exact hN), words_at _ _ hN] at x2
      have x3 := h2.drew.free ((i + j) / 64)
      have hx := bits_xor_u64_nat (wd (flip l i j) ((i + j) / 64)) (2 ^ ((i + j) % 64)) (wd_lt _ _) (Nat.pow_lt_pow_right (by decide) (Nat.mod_lt _ (by decide)) : _ < 2 ^ 64)
      have HS := Lib.hid (fun u hu => al_put (w := wr.drew) (u := u) HJ.out.drew (i + j) hij hu)
      have HS2 := Lib.hid (fun (u : Value) => ((HT.out.drew).setCell (p := ⟨g, (i + j) / 64, none⟩) (.inl rfl) u))
      have HF : Hid ((flip l i j).set (i + j) (!(flip l i j).getD (i + j) false) = flip l i (j + 1)) := Lib.hid rfl
      have ei : (((i + j) / 64 : Nat) : Int) < (((flip l i j).length / 64 + 1 : Nat) : Int) := by omega
      have lt2 : ((i + j : Nat) : Int) < (i : Int) + (k : Int) := by omega
      have e2 := wrap_of (((i + j : Nat) : Int) + 1) (by omega) (by omega)
      have e4 : ((i + j : Nat) : Int) + 1 = ((i + (j + 1) : Nat) : Int) := by omega
      clear h1 h2 h3 ht hL
      generalize (flip l i j).length / 64 + 1 = N at *
      generalize (wd (flip l i j) ((i + j) / 64)) = W at *
      generalize 2 ^ ((i + j) % 64) = P at *
      generalize (i + j) / 64 = q at *
      clear hij
      generalize hm : i + j = m at *
      clear e4
      go_wp2_with (go_at_call 75; refine HP.out.mono ?_; rintro e w' ⟨rfl, rfl⟩)
      go_roundw
      case rel => exact ⟨j + 1, hlt, by rw [show i + (j + 1) = m + 1 from by omega]; simp, by rw [← HF.out]; exact HS.out _ rfl, HS2.out _⟩
      case measure => simp [intOf]; omega
    · obtain rfl : j = k := by omega
      clear ha ht
      go_wp2
      go_end0
      exact ⟨⟨_, rfl⟩, HJ.out, HT.out⟩
end Go.Proofs.YtinnpbabkbppmaaDoor
