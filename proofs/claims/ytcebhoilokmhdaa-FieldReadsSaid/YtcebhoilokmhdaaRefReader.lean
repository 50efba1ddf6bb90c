/- The document's answer's reader (ambryref01.Reader): its calls. -/
import Derived.Test.YtcebhoilokmhdaaVal
import Derived.Test.YtcebhoilokmhdaaApp2
import Derived.StillTailTactics
namespace Go.Proofs.Ytcebhoilokmhdaa
open Go.RowKit
set_option linter.unusedVariables false

theorem failed_any (S : ByteArray) (at_ er e : Int) (w : World) :
    Calls Try.prog 53 #[.agg #[.string S, .int .i64 at_, .int .i64 er], .int .i64 e] w fun r w' => r = .returned (.agg #[.string S, .int .i64 at_, .int .i64 e]) ∧
      w' = (w.alloc (.cells #[.string S, .int .i64 at_, .int .i64 er] 34)).alloc (.cells #[.string S, .int .i64 at_, .int .i64 e] 34) := by
  go_enter Try.func53, Try.ntmps53
  go_wp2
  exact bodyPost_ret (v := .agg #[.string S, .int .i64 at_, .int .i64 e]) (by simp [results, Try.results53, go_sem]) rfl ⟨rfl, rfl⟩

theorem refEnd_any (S : ByteArray) (l : List UInt8) (hS : S.size = l.length) (at_ er : Nat) (w : World) :
    Calls Try.prog 29 #[.agg #[.string S, .int .i64 at_, .int .i64 er]] w fun r w' => r = .returned (.int .i64 (re_ l at_ er)) ∧ Below w.heap.size w w' := by
  have HS := Lib.hid hS
  by_cases h0 : er = 0
  · subst h0
    by_cases ha : at_ < l.length
    · have HR := Lib.hid (show re_ l at_ 0 = 5 from by simp [re_, ha])
      have ha' : (at_ : Int) < S.size := by omega
      clear hS
      go_enter Try.func29, Try.ntmps29
      go_wp2
      go_ret
      rw [HR.out]
      exact ⟨rfl, (Below.refl _ _).alloc (Nat.le_refl _) _⟩
    · have HR := Lib.hid (show re_ l at_ 0 = 0 from by simp [re_, ha])
      have ha' : ¬ ((at_ : Int) < S.size) := by omega
      clear hS
      go_enter Try.func29, Try.ntmps29
      go_wp2
      go_ret
      rw [HR.out]
      exact ⟨rfl, (Below.refl _ _).alloc (Nat.le_refl _) _⟩
  · have HR := Lib.hid (show re_ l at_ er = er from by simp [re_, h0])
    have hne : ((er : Int) == 0) = false := by simp; omega
    have hne' : ((er : Int) != 0) = true := by simp; omega
    clear hS
    go_enter Try.func29, Try.ntmps29
    go_wp2
    go_ret
    rw [HR.out]
    exact ⟨rfl, (Below.refl _ _).alloc (Nat.le_refl _) _⟩

/-- The document's reader of l: at a place, with an error. -/
def rv (S : ByteArray) (at_ er : Nat) : Value := .agg #[.string S, .int .i64 at_, .int .i64 er]

/-- A block that holds the document's reader. -/
def rb (S : ByteArray) (at_ er : Int) : Obj := .cells #[.string S, .int .i64 at_, .int .i64 er] 34
theorem wrap64_0 : wrap64 ((0 : Nat) : Int) = 0 := by simp [wrap64]

theorem refNum_err (S : ByteArray) (at_ er k : Nat) (h0 : er ≠ 0) (w : World) :
    Calls Try.prog 22 #[rv S at_ er, .int .i64 k] w fun r w' => r = .returned (.tuple #[rv S at_ er, .int .i64 0]) ∧ w' = (w.alloc (rb S at_ er)).alloc (rb S at_ er) := by
  have hne : ((er : Int) == 0) = false := by simp; omega
  have hne' : ((er : Int) != 0) = true := by simp; omega
  unfold rv rb
  go_enter Try.func22, Try.ntmps22
  go_wp2
  exact bodyPost_ret (v := .tuple #[.agg #[.string S, .int .i64 at_, .int .i64 er], .int .i64 0]) (by simp [results, Try.results22, go_sem]) rfl ⟨rfl, rfl⟩

theorem refNum_short (S : ByteArray) (at_ k : Nat) (h1 : (S.size : Int) - at_ < k) (h2 : S.size ≤ 140737488355000) (h3 : at_ ≤ 140737488355000) (w : World) :
    Calls Try.prog 22 #[rv S at_ 0, .int .i64 k] w fun r w' => r = .returned (.tuple #[rv S at_ 3, .int .i64 0]) ∧
      w' = (((w.alloc (rb S at_ 0)).alloc (rb S at_ 3)).alloc (rb S at_ 0)).alloc (rb S at_ 3) := by
  unfold rv rb
  go_enter Try.func22, Try.ntmps22
  go_wp2_with (go_at_call 53; refine (failed_any S at_ 0 3 _).mono ?_; rintro e w1 ⟨rfl, rfl⟩)
  exact bodyPost_ret (v := .tuple #[.agg #[.string S, .int .i64 at_, .int .i64 3], .int .i64 0]) (by simp [results, Try.results22, go_sem]) rfl ⟨rfl, rfl⟩

set_option maxRecDepth 100000 in
set_option maxHeartbeats 400000 in
theorem refNum_ok (S : ByteArray) (l : List UInt8) (hS : S = ⟨l.toArray⟩) (at_ k : Nat) (hk : k ≤ 8) (hs : at_ + k ≤ l.length) (hl2 : l.length ≤ 140737488355000) (w : World) :
    Calls Try.prog 22 #[rv S at_ 0, .int .i64 k] w fun r w' => r = .returned (.tuple #[rv S (at_ + k) 0, .int .i64 (wrap64 (num k l at_))]) ∧ w' = ((w.alloc (rb S at_ 0)).alloc (rb S ((at_ : Int) + k) 0)).drew := by
  have hsz : S.size = l.length := by rw [hS]; simp [ByteArray.size]
  have HS := Lib.hid hS
  have h1 : ¬ ((S.size : Int) - at_ < k) := by omega
  have h2 : (at_ : Int) + k ≤ 140737488355000 := by omega
  have HKL := Lib.hid hs
  have HSZ := Lib.hid hsz
  have hsz3 : S.size ≤ 140737488355000 := by omega
  clear hS hs hsz
  unfold rv rb
  go_enter Try.func22, Try.ntmps22
  go_wp2
  have hsum : IntKind.i64.wrap ((at_ : Int) + k) = (at_ : Int) + k := by rw [IntKind.wrap_i64]; omega
  refine wp_region_still_tail 13 (by kernel_rfl) (by kernel_rfl) ?_
  simp only [List.take_succ_cons, List.take_zero, List.drop_succ_cons, List.drop_zero]
  change wpStill _ _ (World.drew _) _ _ _
  repeat still_step
  still_call ((refNumber_any S l HS.out at_ k hk HKL.out hl2 _).mono fun _ _ h => ⟨h.1, h.2.symm⟩)
  repeat still_step
  refine wpStill_nil ?_
  change wpList _ _ _ _ _ (World.drew _)
  go_wp2
  exact bodyPost_ret (v := .tuple #[.agg #[.string S, .int .i64 (at_ + k : Nat), .int .i64 0], .int .i64 (wrap64 (num k l at_))]) (by simp [results, Try.results22, go_sem]) rfl ⟨rfl, rfl⟩

theorem refNum_any (S : ByteArray) (l : List UInt8) (hS : S = ⟨l.toArray⟩) (at_ er k : Nat) (hk : k ≤ 8) (ha : at_ ≤ l.length) (hl2 : l.length ≤ 140737488355000) (v at' er' : Nat) (hv : rw_ k l at_ er = (v, at', er')) (w : World) :
    Calls Try.prog 22 #[rv S at_ er, .int .i64 k] w fun r w' => r = .returned (.tuple #[rv S at' er', .int .i64 (wrap64 v)]) ∧ Below w.heap.size w w' := by
  have hsz : S.size = l.length := by rw [hS]; simp [ByteArray.size]
  by_cases h0 : er = 0
  · subst h0
    by_cases hs : l.length < at_ + k
    · simp only [rw_, if_pos hs, if_true, Prod.mk.injEq] at hv
      obtain ⟨rfl, rfl, rfl⟩ := hv
      refine (refNum_short S at_ k (by omega) (by omega) (by omega) w).mono ?_
      rintro e w' ⟨rfl, rfl⟩
      rw [wrap64_0]
      exact ⟨rfl, ((((Below.refl _ _).alloc (Nat.le_refl _) _).alloc (by simp) _).alloc (by simp; omega) _).alloc (by simp; omega) _⟩
    · simp only [rw_, if_neg hs, if_true, Prod.mk.injEq] at hv
      obtain ⟨rfl, rfl, rfl⟩ := hv
      refine (refNum_ok S l hS at_ k hk (by omega) hl2 w).mono ?_
      rintro e w' ⟨rfl, rfl⟩
      exact ⟨rfl, (((Below.refl _ _).alloc (Nat.le_refl _) _).alloc (by simp) _).drew⟩
  · simp only [rw_, if_neg h0, Prod.mk.injEq] at hv
    obtain ⟨rfl, rfl, rfl⟩ := hv
    refine (refNum_err S at_ er k h0 w).mono ?_
    rintro e w' ⟨rfl, rfl⟩
    rw [wrap64_0]
    exact ⟨rfl, ((Below.refl _ _).alloc (Nat.le_refl _) _).alloc (by simp) _⟩
end Go.Proofs.Ytcebhoilokmhdaa
