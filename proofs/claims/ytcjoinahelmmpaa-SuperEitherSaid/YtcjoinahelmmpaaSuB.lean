/- Layer 11: arrays of bytes that are the same; Check, the document's Right and Check. -/
import Derived.Test.YtcjoinahelmmpaaSuA
import Derived.Deep.QuietTactic
import Derived.BigQuiet
namespace Go.Proofs.Ytcjoinahelmmpaa
open Go.RowKit
set_option linter.unusedVariables false
set_option maxRecDepth 100000

theorem size_u8 (w : World) : (sizeOf 5).run Try.prog w = .ok 1 w := by kernel_rfl
theorem part_u8 (xs : List UInt8) (i : Nat) (c : UInt8) (hc : xs[i]? = some c) (w : World) : (part 5 (bv xs).toArray (i * 1)).run Try.prog w = .ok (u8v c) w :=
  run_part_plain w (by kernel_rfl) (by rw [Nat.mul_one, List.getElem?_toArray, bv_at, hc]; rfl)
theorem eq_bytes (d n : Nat) (t : TypeId) (ht : Try.prog.underlying t = some (.array n 5)) (xs ys : List UInt8) (hx : xs.length = n) (hy : ys.length = n) (w : World) :
    (Op.equalIn (d + 1 + 1) t (.agg (bv xs).toArray) (.agg (bv ys).toArray)).run Try.prog w = .ok (decide (xs = ys)) w := by
  rw [Op.equalIn]
  simp only [Sem.run_bind, run_underlying ht, Result.andThen_ok, size_u8, Std.Legacy.Range.forIn_eq_forIn_range', Std.Legacy.Range.size]
  have key : ∀ k s, s + k = n → Sem.run Try.prog (forIn (List.range' s k) ((none : Option Bool), ()) fun i _ => do
      let a ← part 5 (bv xs).toArray (i * 1)
      let b ← part 5 (bv ys).toArray (i * 1)
      let c ← Op.equalIn (d + 1) 5 a b
      if (!c) = true then pure (ForInStep.done (some false, ())) else pure (ForInStep.yield (none, ()))) w = .ok (if xs.drop s = ys.drop s then (none, ()) else (some false, ())) w := by
    intro k
    induction k with
    | zero =>
      intro s hs
      rw [List.drop_eq_nil_of_le (by omega), List.drop_eq_nil_of_le (by omega), if_pos rfl]
      simp [List.range', Sem.run_pure]
    | succ k ih =>
      intro s hs
      have h1 : s < xs.length := by omega
      have h2 : s < ys.length := by omega
      have e1 : xs[s]? = some xs[s] := List.getElem?_eq_getElem h1
      have e2 : ys[s]? = some ys[s] := List.getElem?_eq_getElem h2
      rw [List.range'_succ, List.forIn_cons]
      have hq := run_equalIn_int (P := Try.prog) w d 5 .u8 .u8 (xs[s].toNat : Int) (ys[s].toNat : Int) Try.underlying5
      simp only [Sem.run_bind, part_u8 xs s _ e1, part_u8 ys s _ e2, Result.andThen_ok, u8v, hq]
      rw [List.drop_eq_getElem_cons h1, List.drop_eq_getElem_cons h2]
      by_cases hc : xs[s] = ys[s]
      · have hb : ((xs[s].toNat : Int) == (ys[s].toNat : Int)) = true := by simp [hc]
        rw [hb]
        simp only [Bool.not_true, Bool.false_eq_true, if_false, Sem.run_pure, Result.andThen_ok]
        rw [ih (s + 1) (by omega)]
        by_cases hd : xs.drop (s + 1) = ys.drop (s + 1)
        · rw [if_pos hd, if_pos (by rw [hc, hd])]
        · rw [if_neg hd, if_neg (fun h => hd (List.cons.inj h).2)]
      · have hb : ((xs[s].toNat : Int) == (ys[s].toNat : Int)) = false := by
          simp only [beq_eq_false_iff_ne, ne_eq]
          intro h
          exact hc (UInt8.toNat_inj.1 (by omega))
        rw [hb]
        simp only [Bool.not_false, if_true, Sem.run_pure, Result.andThen_ok]
        rw [if_neg (fun h => hc (List.cons.inj h).1)]
  rw [show (n - 0 + 1 - 1) / 1 = n from by omega, key n 0 (by omega)]
  simp only [Result.andThen_ok, List.drop_zero]
  by_cases h : xs = ys
  · rw [if_pos h, decide_eq_true h]; rfl
  · rw [if_neg h, decide_eq_false h]; rfl
def ubox (s : Sup) : Obj := .cells #[.int .i64 s.g, .int .i64 s.r, .int .i64 s.t, .int .i64 s.e, .int .i64 s.l, .int .i64 s.m] 23
theorem within_yes (n a b : Int) (h1 : a ≤ n) (h2 : n ≤ b) (w : World) : Calls Try.prog 37 #[.int .i64 n, .int .i64 a, .int .i64 b] w fun e w' => e = .returned (.bool true) ∧ w = w' := by
  have h2' : decide (n ≤ b) = true := decide_eq_true h2
  go_enter Try.func37, Try.ntmps37
  go_wp2
  go_ret
  exact ⟨rfl, rfl⟩
theorem within_no (n a b : Int) (h : n < a ∨ (a ≤ n ∧ b < n)) (w : World) : Calls Try.prog 37 #[.int .i64 n, .int .i64 a, .int .i64 b] w fun e w' => e = .returned (.bool false) ∧ w = w' := by
  rcases h with h1 | ⟨h1, h2⟩
  · have h1' : decide (a ≤ n) = false := decide_eq_false (by omega)
    go_enter Try.func37, Try.ntmps37
    go_wp2
    go_ret
    exact ⟨rfl, rfl⟩
  · have h2' : decide (n ≤ b) = false := decide_eq_false (by omega)
    go_enter Try.func37, Try.ntmps37
    go_wp2
    go_ret
    exact ⟨rfl, rfl⟩
theorem keyU (s : Sup) : (rU s = false ∧ (s.g < 0 ∨ (0 ≤ s.g ∧ 1152921504606846976 < s.g))) ∨ (rU s = false ∧ (0 ≤ s.g ∧ s.g ≤ 1152921504606846976) ∧ (s.r < -1 ∨ (-1 ≤ s.r ∧ 16383 < s.r)))
    ∨ (rU s = false ∧ (0 ≤ s.g ∧ s.g ≤ 1152921504606846976) ∧ (-1 ≤ s.r ∧ s.r ≤ 16383) ∧ (s.t < 0 ∨ (0 ≤ s.t ∧ 1152921504606846976 < s.t)))
    ∨ (rU s = false ∧ (0 ≤ s.g ∧ s.g ≤ 1152921504606846976) ∧ (-1 ≤ s.r ∧ s.r ≤ 16383) ∧ (0 ≤ s.t ∧ s.t ≤ 1152921504606846976) ∧ (s.e < 0 ∨ (0 ≤ s.e ∧ 2147483647 < s.e)))
    ∨ (rU s = false ∧ (0 ≤ s.g ∧ s.g ≤ 1152921504606846976) ∧ (-1 ≤ s.r ∧ s.r ≤ 16383) ∧ (0 ≤ s.t ∧ s.t ≤ 1152921504606846976) ∧ (0 ≤ s.e ∧ s.e ≤ 2147483647) ∧ (s.l < 0 ∨ (0 ≤ s.l ∧ 1152921504606846976 < s.l)))
    ∨ (rU s = false ∧ (0 ≤ s.g ∧ s.g ≤ 1152921504606846976) ∧ (-1 ≤ s.r ∧ s.r ≤ 16383) ∧ (0 ≤ s.t ∧ s.t ≤ 1152921504606846976) ∧ (0 ≤ s.e ∧ s.e ≤ 2147483647) ∧ (0 ≤ s.l ∧ s.l ≤ 1152921504606846976) ∧ (s.m < 0 ∨ (0 ≤ s.m ∧ s.l < s.m)))
    ∨ (rU s = true ∧ (0 ≤ s.g ∧ s.g ≤ 1152921504606846976) ∧ (-1 ≤ s.r ∧ s.r ≤ 16383) ∧ (0 ≤ s.t ∧ s.t ≤ 1152921504606846976) ∧ (0 ≤ s.e ∧ s.e ≤ 2147483647) ∧ (0 ≤ s.l ∧ s.l ≤ 1152921504606846976) ∧ (0 ≤ s.m ∧ s.m ≤ s.l)) := by
  by_cases a1 : 0 ≤ s.g ∧ s.g ≤ 1152921504606846976
  · refine .inr ?_
    by_cases a2 : -1 ≤ s.r ∧ s.r ≤ 16383
    · refine .inr ?_
      by_cases a3 : 0 ≤ s.t ∧ s.t ≤ 1152921504606846976
      · refine .inr ?_
        by_cases a4 : 0 ≤ s.e ∧ s.e ≤ 2147483647
        · refine .inr ?_
          by_cases a5 : 0 ≤ s.l ∧ s.l ≤ 1152921504606846976
          · refine .inr ?_
            by_cases a6 : 0 ≤ s.m ∧ s.m ≤ s.l
            · exact .inr ⟨decide_eq_true ⟨a1.1, a1.2, a2.1, a2.2, a3.1, a3.2, a4.1, a4.2, a5.1, a5.2, a6.1, a6.2⟩, a1, a2, a3, a4, a5, a6⟩
            · exact .inl ⟨decide_eq_false fun h => a6 ⟨h.2.2.2.2.2.2.2.2.2.2.1, h.2.2.2.2.2.2.2.2.2.2.2⟩, a1, a2, a3, a4, a5, by omega⟩
          · exact .inl ⟨decide_eq_false fun h => a5 ⟨h.2.2.2.2.2.2.2.2.1, h.2.2.2.2.2.2.2.2.2.1⟩, a1, a2, a3, a4, by omega⟩
        · exact .inl ⟨decide_eq_false fun h => a4 ⟨h.2.2.2.2.2.2.1, h.2.2.2.2.2.2.2.1⟩, a1, a2, a3, by omega⟩
      · exact .inl ⟨decide_eq_false fun h => a3 ⟨h.2.2.2.2.1, h.2.2.2.2.2.1⟩, a1, a2, by omega⟩
    · exact .inl ⟨decide_eq_false fun h => a2 ⟨h.2.2.1, h.2.2.2.1⟩, a1, by omega⟩
  · exact .inl ⟨decide_eq_false fun h => a1 ⟨h.1, h.2.1⟩, by omega⟩
set_option maxHeartbeats 2000000 in
theorem checkU (s : Sup) (w : World) : Calls Try.prog 12 #[uv s] w fun e w' => e = .returned (.int .i64 (if rU s then 0 else 2)) ∧ w' = w.alloc (ubox s) := by
  have key := keyU s
  obtain ⟨g, r, t, e, l, m⟩ := s
  unfold uv ubox
  simp only at key ⊢
  generalize rU ⟨g, r, t, e, l, m⟩ = R at *
  rcases key with ⟨rfl, h1⟩ | ⟨rfl, h1, h2⟩ | ⟨rfl, h1, h2, h3⟩ | ⟨rfl, h1, h2, h3, h4⟩ | ⟨rfl, h1, h2, h3, h4, h5⟩ | ⟨rfl, h1, h2, h3, h4, h5, h6⟩ | ⟨rfl, h1, h2, h3, h4, h5, h6⟩
  all_goals
    go_enter Try.func12, Try.ntmps12
    go_wp2_with (first
      | (go_at_call 37; refine (within_yes _ _ _ (by omega) (by omega) _).mono ?_; rintro e w' ⟨rfl, rfl⟩)
      | (go_at_call 37; refine (within_no _ _ _ (by omega) _).mono ?_; rintro e w' ⟨rfl, rfl⟩))
    go_ret
    exact ⟨rfl, rfl⟩
set_option maxHeartbeats 2000000 in
theorem refRightU (s : Sup) (w : World) : Calls Try.prog 34 #[uv s] w fun e w' => e = .returned (.bool (rU s)) ∧ w' = w.alloc (ubox s) := by
  have key := keyU s
  obtain ⟨g, r, t, e, l, m⟩ := s
  unfold uv ubox
  simp only at key ⊢
  generalize rU ⟨g, r, t, e, l, m⟩ = R at *
  have no : ∀ a b : Int, b < a → decide (a ≤ b) = false := fun a b h => decide_eq_false (by omega)
  have no2 : ∀ a b : Int, b ≤ a → decide (a < b) = false := fun a b h => decide_eq_false (by omega)
  rcases key with ⟨rfl, h1 | ⟨h0, h1⟩⟩ | ⟨rfl, h1, h2 | ⟨h0, h2⟩⟩ | ⟨rfl, h1, h2, h3 | ⟨h0, h3⟩⟩ | ⟨rfl, h1, h2, h3, h4 | ⟨h0, h4⟩⟩ | ⟨rfl, h1, h2, h3, h4, h5 | ⟨h0, h5⟩⟩ | ⟨rfl, h1, h2, h3, h4, h5, h6 | ⟨h0, h6⟩⟩ | ⟨rfl, h1, h2, h3, h4, h5, h6⟩
  all_goals
    (try have k1 := no _ _ h1)
    (try have k2 := no _ _ h2)
    (try have k2' := no2 r 16384 (by omega))
    (try have k3 := no _ _ h3)
    (try have k4 := no _ _ h4)
    (try have k5 := no _ _ h5)
    (try have k6 := no _ _ h6)
    clear no no2
    go_enter Try.func34, Try.ntmps34
    go_wp2
    all_goals
      go_ret
      exact ⟨by first | rfl | (simp; omega) | simp [*], rfl⟩
theorem refCheckU (s : Sup) (w : World) : Calls Try.prog 13 #[uv s] w fun e w' => e = .returned (.int .i64 (if rU s then 0 else 2)) ∧ Turn (fun _ => False) w w' := by
  have HR := Lib.hid (refRightU s)
  obtain ⟨g, r, t, e, l, m⟩ := s
  unfold uv at *
  simp only at HR ⊢
  generalize rU ⟨g, r, t, e, l, m⟩ = R at *
  cases R
  all_goals
    go_enter Try.func13, Try.ntmps13
    go_wp2_with (go_at_call 34; refine (HR.out _).mono ?_; rintro e w' ⟨rfl, rfl⟩)
    go_ret
    exact ⟨rfl, ((Turn.refl _ _).alloc _).alloc _⟩
end Go.Proofs.Ytcjoinahelmmpaa
