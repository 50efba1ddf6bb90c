/- sort.Search by its contract. -/
import Derived.Test.YtjkfgbmlhglnfaaKern
namespace Go.Proofs.Ytjkfgbmlhglnfaa
open Go.RowKit
set_option linter.unusedVariables false
set_option maxRecDepth 100000

set_option maxHeartbeats 4000000 in
/-- sort.Search: how many places are still false. -/
theorem search_n (g : Nat) (cb : Array Value) (n : Nat) (p : Nat → Bool) (w : World) (eg : ∀ args w, (callFunc g args).run Try.prog w = .ok (.enter g args) w) (hn : n ≤ 1000000000000000)
    (hf : ∀ X, Turn (fun _ => False) w X → ∀ i, i < n → Calls Try.prog g (#[.int .i64 i] ++ cb) X fun e w' => e = .returned (.bool (p i)) ∧ Turn (fun _ => False) X w')
    (hmono : ∀ a b, a ≤ b → b < n → p a = true → p b = true) :
    Calls Try.prog 166 #[.int .i64 n, .func (.func g) #[] cb] w fun e w' => (∃ r : Nat, e = .returned (.int .i64 r) ∧ r ≤ n ∧ (∀ i, i < r → p i = false) ∧ (r < n → p r = true)) ∧ Turn (fun _ => False) w w' := by
  have HF := Lib.hid hf
  have HM := Lib.hid hmono
  clear hf hmono
  go_enter Try.func166, Try.ntmps166
  go_wp2
  go_loopw [5, 6, 7] (fun s5 s6 _ wr => ∃ lo hi : Nat, s5 = .int .i64 lo ∧ s6 = .int .i64 hi ∧ lo ≤ hi ∧ hi ≤ n ∧ Hid ((∀ t, t < lo → p t = false) ∧ (∀ t, hi ≤ t → t < n → p t = true)) ∧ Turn (fun _ => False) w wr) (fun s5 s6 _ _ => (intOf s6).toNat - (intOf s5).toNat)
  case atStart => exact ⟨0, n, rfl, rfl, Nat.zero_le _, Nat.le_refl _, Lib.hid ⟨fun t ht => absurd ht (Nat.not_lt_zero _), fun t h1 h2 => by omega⟩, Turn.refl _ w⟩
  case round =>
    obtain ⟨lo, hi, rfl, rfl, hlh, hin, HI, hT⟩ := hrel
    have TT := Lib.hid hT
    by_cases hlt : lo < hi
    · obtain ⟨m, hm⟩ : ∃ m, m = (lo + hi) / 2 := ⟨_, rfl⟩
      have hc := HF.out _ hT m (by omega)
      have e1 : ((lo : Int) + (hi : Int)) / 2 = (m : Int) := by omega
      have hlt2 : (lo : Int) < (hi : Int) := by omega
      have hm1 : lo ≤ m := by omega
      have hm2 : m < hi := by omega
      have HC := Lib.hid hc
      clear hT hc hm
      cases hp : p m <;> rw [hp] at HC
      · have HP := Lib.hid hp
        clear hp
        go_wp2_with fail
        refine HC.out.mono ?_
        rintro e w1 ⟨rfl, ht1⟩
        have T1 := Lib.hid (TT.out.trans ht1)
        have I2 : Hid ((∀ t, t < m + 1 → p t = false) ∧ (∀ t, hi ≤ t → t < n → p t = true)) := Lib.hid ⟨fun t ht => (by
            cases h : p t with
            | false => rfl
            | true => have := HM.out t m (by omega) (by omega) h; rw [HP.out] at this; cases this), HI.out.2⟩
        clear ht1
        go_wp2_with fail
        go_roundw
        case rel => exact ⟨m + 1, hi, by go_num, rfl, by omega, hin, I2, T1.out⟩
        case measure => simp [intOf]; omega
      · have HP := Lib.hid hp
        clear hp
        go_wp2_with fail
        refine HC.out.mono ?_
        rintro e w1 ⟨rfl, ht1⟩
        have T1 := Lib.hid (TT.out.trans ht1)
        have I2 : Hid ((∀ t, t < lo → p t = false) ∧ (∀ t, m ≤ t → t < n → p t = true)) := Lib.hid ⟨HI.out.1, fun t ht htn => HM.out m t ht htn HP.out⟩
        clear ht1
        go_wp2_with fail
        go_roundw
        case rel => exact ⟨lo, m, rfl, rfl, by omega, by omega, I2, T1.out⟩
        case measure => simp [intOf]; omega
    · obtain rfl : hi = lo := by omega
      have hlt2 : ¬ (hi : Int) < (hi : Int) := by omega
      clear hT
      go_wp2_with fail
      go_ret
      exact ⟨⟨_, rfl, hin, HI.out.1, fun h => HI.out.2 _ (Nat.le_refl _) h⟩, TT.out⟩
end Go.Proofs.Ytjkfgbmlhglnfaa
