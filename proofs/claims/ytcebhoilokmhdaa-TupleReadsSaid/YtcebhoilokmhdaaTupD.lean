/- Layer 2: comparing: cmp.Compare, cmp.Or, compareParts. -/
import Derived.Test.YtcebhoilokmhdaaTupC
import Derived.StillTailTactics
import Derived.Laws.Cover1
namespace Go.Proofs.Ytcebhoilokmhdaa
open Go.RowKit
set_option linter.unusedVariables false

/-- How two numbers stand. -/
def ci (x y : Int) : Int := if x < y then -1 else if y < x then 1 else 0
/-- How two texts stand. -/
def cs (x y : ByteArray) : Int := if Op.bytesLess x.toList y.toList = true then -1 else if (x.toList == y.toList) = true then 0 else 1
def or3 (a b c : Int) : Int := if a ≠ 0 then a else if b ≠ 0 then b else c
/-- How two parts stand. -/
def cp (p q : Pt) : Int := or3 (ci p.k q.k) (cs p.s q.s) (ci (tn p.k p.n) (tn q.k q.n))

theorem compareK (x y : Int) (w : World) : Calls Try.prog 100 #[.int .i64 x, .int .i64 y] w fun e w' => e = .returned (.int .i64 (ci x y)) ∧ w = w' := by
  have hc : (x < y ∧ ci x y = -1) ∨ (¬ x < y ∧ y < x ∧ ci x y = 1) ∨ (¬ x < y ∧ ¬ y < x ∧ ci x y = 0) := by unfold ci; split <;> (try split) <;> omega
  obtain ⟨c, hcc⟩ : ∃ c, ci x y = c := ⟨_, rfl⟩
  rw [hcc] at hc ⊢
  clear hcc
  rcases hc with ⟨h1, rfl⟩ | ⟨h1, h2, rfl⟩ | ⟨h1, h2, rfl⟩
  all_goals
    go_enter Try.func100, Try.ntmps100
    go_wp2
    go_ret
    exact ⟨rfl, rfl⟩
theorem compareW (x y : Int) (w : World) : Calls Try.prog 102 #[.int .u64 x, .int .u64 y] w fun e w' => e = .returned (.int .i64 (ci x y)) ∧ w = w' := by
  have hc : (x < y ∧ ci x y = -1) ∨ (¬ x < y ∧ y < x ∧ ci x y = 1) ∨ (¬ x < y ∧ ¬ y < x ∧ ci x y = 0) := by unfold ci; split <;> (try split) <;> omega
  obtain ⟨c, hcc⟩ : ∃ c, ci x y = c := ⟨_, rfl⟩
  rw [hcc] at hc ⊢
  clear hcc
  rcases hc with ⟨h1, rfl⟩ | ⟨h1, h2, rfl⟩ | ⟨h1, h2, rfl⟩
  all_goals
    go_enter Try.func102, Try.ntmps102
    go_wp2
    go_ret
    exact ⟨rfl, rfl⟩
theorem compareS (x y : ByteArray) (w : World) : Calls Try.prog 101 #[.string x, .string y] w fun e w' => e = .returned (.int .i64 (cs x y)) ∧ w = w' := by
  obtain ⟨c, hcc⟩ : ∃ c, cs x y = c := ⟨_, rfl⟩
  rw [hcc]
  unfold cs at hcc
  cases h1 : Op.bytesLess x.toList y.toList
  · cases h2 : x.toList == y.toList
    · rw [h1, h2] at hcc
      obtain rfl : c = 1 := by rw [← hcc]; rfl
      clear hcc
      go_enter Try.func101, Try.ntmps101
      go_wp2
      go_ret
      exact ⟨rfl, rfl⟩
    · rw [h1, h2] at hcc
      obtain rfl : c = 0 := by rw [← hcc]; rfl
      clear hcc
      go_enter Try.func101, Try.ntmps101
      go_wp2
      go_ret
      exact ⟨rfl, rfl⟩
  · rw [h1] at hcc
    obtain rfl : c = -1 := by rw [← hcc]; rfl
    clear hcc
    go_enter Try.func101, Try.ntmps101
    go_wp2
    go_ret
    exact ⟨rfl, rfl⟩

theorem or3_any (g t : Nat) (a b c : Int) (w : World) (h : Blk w g t [.int .i64 a, .int .i64 b, .int .i64 c]) :
    Calls Try.prog 99 #[.slice (some ⟨g, 0, none⟩) 3 3] w fun e w' => e = .returned (.int .i64 (or3 a b c)) ∧ w = w' := by
  have c0 : w.cell? ⟨g, 0, none⟩ = some (.int .i64 a) := h.cell 0
  have c1 : w.cell? ⟨g, 1, none⟩ = some (.int .i64 b) := h.cell 1
  have c2 : w.cell? ⟨g, 2, none⟩ = some (.int .i64 c) := h.cell 2
  clear h
  by_cases ha : a = 0
  · subst ha
    by_cases hb : b = 0
    · subst hb
      by_cases hc : c = 0
      · subst hc
        go_enter Try.func99, Try.ntmps99
        go_wp2
        go_loop [8] (fun i => ∃ j : Nat, j ≤ 3 ∧ i = .int .i64 j) (fun i => 3 - (intOf i).toNat)
        case atStart => exact ⟨0, by omega, rfl⟩
        case round =>
          obtain ⟨j, hj, rfl⟩ := hrel
          have hc : j = 0 ∨ j = 1 ∨ j = 2 ∨ j = 3 := by omega
          rcases hc with rfl | rfl | rfl | rfl
          · go_wp2; go_round
            case rel => exact ⟨1, by omega, by go_num⟩
            case measure => simp [intOf]
          · go_wp2; go_round
            case rel => exact ⟨2, by omega, by go_num⟩
            case measure => simp [intOf]
          · go_wp2; go_round
            case rel => exact ⟨3, by omega, by go_num⟩
            case measure => simp [intOf]
          · go_wp2; go_ret; exact ⟨rfl, rfl⟩
      · have HO := Lib.hid (show or3 0 0 c = c from rfl)
        have h1 : (c != 0) = true := by simpa using hc
        have h2 : (c == 0) = false := by simpa using hc
        clear hc
        go_enter Try.func99, Try.ntmps99
        go_wp2
        go_loop [8] (fun i => ∃ j : Nat, j ≤ 2 ∧ i = .int .i64 j) (fun i => 3 - (intOf i).toNat)
        case atStart => exact ⟨0, by omega, rfl⟩
        case round =>
          obtain ⟨j, hj, rfl⟩ := hrel
          have hc : j = 0 ∨ j = 1 ∨ j = 2 := by omega
          rcases hc with rfl | rfl | rfl
          · go_wp2; go_round
            case rel => exact ⟨1, by omega, by go_num⟩
            case measure => simp [intOf]
          · go_wp2; go_round
            case rel => exact ⟨2, by omega, by go_num⟩
            case measure => simp [intOf]
          · go_wp2; go_ret; rw [HO.out]; exact ⟨rfl, rfl⟩
    · have HO := Lib.hid (show or3 0 b c = b from by unfold or3; rw [if_neg (by simp), if_pos hb])
      have h1 : (b != 0) = true := by simpa using hb
      have h2 : (b == 0) = false := by simpa using hb
      clear hb
      go_enter Try.func99, Try.ntmps99
      go_wp2
      go_loop [8] (fun i => ∃ j : Nat, j ≤ 1 ∧ i = .int .i64 j) (fun i => 3 - (intOf i).toNat)
      case atStart => exact ⟨0, by omega, rfl⟩
      case round =>
        obtain ⟨j, hj, rfl⟩ := hrel
        have hc : j = 0 ∨ j = 1 := by omega
        rcases hc with rfl | rfl
        · go_wp2; go_round
          case rel => exact ⟨1, by omega, by go_num⟩
          case measure => simp [intOf]
        · go_wp2; go_ret; rw [HO.out]; exact ⟨rfl, rfl⟩
  · have HO := Lib.hid (show or3 a b c = a from by unfold or3; rw [if_pos ha])
    have h1 : (a != 0) = true := by simpa using ha
    have h2 : (a == 0) = false := by simpa using ha
    clear ha
    go_enter Try.func99, Try.ntmps99
    go_wp2
    go_loop [8] (fun i => i = .int .i64 0) (fun i => 3 - (intOf i).toNat)
    case atStart => rfl
    case round =>
      obtain rfl := hrel
      go_wp2; go_ret; rw [HO.out]; exact ⟨rfl, rfl⟩

set_option maxRecDepth 100000 in
set_option maxHeartbeats 1000000 in
theorem compareParts_any (p q : Pt) (hp0 : -9223372036854775808 ≤ p.n) (hp1 : p.n ≤ 9223372036854775807) (hq0 : -9223372036854775808 ≤ q.n) (hq1 : q.n ≤ 9223372036854775807) (w : World) :
    Calls Try.prog 75 #[.agg #[.int .i64 p.k, .int .i64 p.n, .string p.s], .agg #[.int .i64 q.k, .int .i64 q.n, .string q.s]] w fun e w' => e = .returned (.int .i64 (cp p q)) ∧ Below w.heap.size w w' := by
  unfold cp
  obtain ⟨a, ha⟩ : ∃ a, ci p.k q.k = a := ⟨_, rfl⟩
  obtain ⟨b, hb⟩ : ∃ b, cs p.s q.s = b := ⟨_, rfl⟩
  obtain ⟨c, hc⟩ : ∃ c, ci (tn p.k p.n) (tn q.k q.n) = c := ⟨_, rfl⟩
  rw [ha, hb, hc]
  have HA := Lib.hid ha
  have HB := Lib.hid hb
  have HC := Lib.hid hc
  clear ha hb hc
  go_enter Try.func75, Try.ntmps75
  go_wp2
  refine wp_region_still_tail 21 (by kernel_rfl) (by kernel_rfl) ?_
  simp only [List.take_succ_cons, List.take_zero, List.drop_succ_cons, List.drop_zero]
  change wpStill _ _ (World.drew _) _ _ _
  repeat still_step
  still_call ((compareK p.k q.k _).mono fun _ _ h => ⟨h.1, h.2.symm⟩)
  rw [HA.out]
  repeat still_step
  still_call ((compareS p.s q.s _).mono fun _ _ h => ⟨h.1, h.2.symm⟩)
  rw [HB.out]
  repeat still_step
  still_call ((turn_up p.k p.n hp0 hp1 _).mono fun _ _ h => ⟨h.1, h.2.symm⟩)
  repeat still_step
  still_call ((turn_up q.k q.n hq0 hq1 _).mono fun _ _ h => ⟨h.1, h.2.symm⟩)
  repeat still_step
  still_call ((compareW (tn p.k p.n) (tn q.k q.n) _).mono fun _ _ h => ⟨h.1, h.2.symm⟩)
  rw [HC.out]
  repeat still_step
  refine wpStill_nil ?_
  change wpList _ _ _ _ _ (World.drew _)
  go_wp2_with (go_at_call 99; refine (or3_any _ 3 a b c _ (by first | exact Blk.new_ _ _ _ (by simp) | exact (Blk.new_ _ _ _ (by simp)).drew)).mono ?_; rintro e w' ⟨rfl, rfl⟩)
  go_ret
  exact ⟨rfl, by first | exact (((((Below.refl _ _).alloc (Nat.le_refl _) _).alloc (by simp) _).drew).alloc (by simp; omega) _) | exact (((((Below.refl _ _).alloc (Nat.le_refl _) _).alloc (by simp) _).alloc (by simp; omega) _)).drew⟩
end Go.Proofs.Ytcebhoilokmhdaa
