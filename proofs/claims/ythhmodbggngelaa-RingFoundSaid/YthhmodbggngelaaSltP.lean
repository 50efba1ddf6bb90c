/- Layer 5: does a slot follow another one. -/
import Derived.Test.YthhmodbggngelaaSltB
import Derived.Test.YthhmodbggngelaaSltO
namespace Go.Proofs.Ythhmodbggngelaa
open Go.RowKit
set_option linter.unusedVariables false
set_option maxRecDepth 100000

def fol5 (a s : St) : Bool := decide (s.q = wrap64 (a.q + 1)) && (decide (s.e = a.e) || (s.f && decide (a.e < s.e)))
theorem fol_key (a s : St) : (s.q ≠ wrap64 (a.q + 1) ∧ fol5 a s = false) ∨ (s.q = wrap64 (a.q + 1) ∧ s.e = a.e ∧ fol5 a s = true) ∨ (s.q = wrap64 (a.q + 1) ∧ s.e ≠ a.e ∧ s.f = false ∧ fol5 a s = false)
    ∨ (s.q = wrap64 (a.q + 1) ∧ s.e ≠ a.e ∧ s.f = true ∧ a.e < s.e ∧ fol5 a s = true) ∨ (s.q = wrap64 (a.q + 1) ∧ s.e ≠ a.e ∧ s.f = true ∧ ¬ a.e < s.e ∧ fol5 a s = false) := by
  unfold fol5
  by_cases h1 : s.q = wrap64 (a.q + 1)
  · by_cases h2 : s.e = a.e
    · exact .inr (.inl ⟨h1, h2, by simp [h1, h2]⟩)
    · cases h3 : s.f
      · exact .inr (.inr (.inl ⟨h1, h2, rfl, by simp [h2]⟩))
      · by_cases h4 : a.e < s.e
        · exact .inr (.inr (.inr (.inl ⟨h1, h2, rfl, h4, by simp [h1, h4]⟩)))
        · exact .inr (.inr (.inr (.inr ⟨h1, h2, rfl, h4, by simp [h2, h4]⟩)))
  · exact .inl ⟨h1, by simp [h1]⟩
set_option maxHeartbeats 4000000 in
theorem follows5 (a s : St) (w : World) : Calls Try.prog 55 #[stv a, stv s] w fun e w' => e = .returned (.bool (fol5 a s)) ∧ w' = (w.alloc (sbox a)).alloc (sbox s) := by
  have key := fol_key a s
  generalize fol5 a s = r at *
  obtain ⟨e, q, f, z, d⟩ := a
  obtain ⟨e2, q2, f2, z2, d2⟩ := s
  unfold stv sbox
  simp only at key ⊢
  have hw := IntWalk.i64_left (q + 1)
  obtain ⟨Q, hQ⟩ : ∃ Q, wrap64 (q + 1) = Q := ⟨_, rfl⟩
  rw [hQ] at hw key
  clear hQ
  rcases key with ⟨h1, rfl⟩ | ⟨h1, h2, rfl⟩ | ⟨h1, h2, h3, rfl⟩ | ⟨h1, h2, h3, h4, rfl⟩ | ⟨h1, h2, h3, h4, rfl⟩
  · have t1 : (q2 == Q) = false := by simpa using h1
    have t2 : (q2 != Q) = true := by simpa using h1
    clear h1
    go_enter Try.func55, Try.ntmps55
    go_wp2
    go_ret
    exact ⟨rfl, rfl⟩
  · subst h1 h2
    go_enter Try.func55, Try.ntmps55
    go_wp2
    go_ret
    exact ⟨rfl, rfl⟩
  · subst h1 h3
    have t3 : (e2 == e) = false := by simpa using h2
    clear h2
    go_enter Try.func55, Try.ntmps55
    go_wp2
    go_ret
    exact ⟨rfl, rfl⟩
  · subst h1 h3
    have t3 : (e2 == e) = false := by simpa using h2
    have t4 : decide (e < e2) = true := by simpa using h4
    clear h2
    go_enter Try.func55, Try.ntmps55
    go_wp2
    go_ret
    exact ⟨rfl, rfl⟩
  · subst h1 h3
    have t3 : (e2 == e) = false := by simpa using h2
    have t4 : decide (e < e2) = false := by simpa using h4
    have t5 : e2 ≤ e := by omega
    clear h2
    go_enter Try.func55, Try.ntmps55
    go_wp2
    go_ret
    exact ⟨rfl, rfl⟩
end Go.Proofs.Ythhmodbggngelaa
/- Layer 5: how many slots are right and follow one another. -/
namespace Go.Proofs.Ythhmodbggngelaa
open Go.RowKit
set_option linter.unusedVariables false
set_option maxRecDepth 100000

/-- Is slot number i right, and does it follow? -/
def adv5 (R : List St) (i : Nat) : Bool := match R[i]? with
  | none => false
  | some s => r5 s && (match i with | 0 => true | k + 1 => match R[k]? with | none => false | some a => fol5 a s)
set_option maxHeartbeats 2000000 in
theorem following5 (R : List St) (hR : R.length ≤ 1000000) (v : Value) (w : World) (h1 : Row5 w v R) :
    Calls Try.prog 39 #[v] w fun r w' => ∃ k : Nat, r = .returned (.int .i64 k) ∧ k ≤ R.length ∧ (∀ i, i < k → adv5 R i = true) ∧ adv5 R k = false ∧ Below w.heap.size w w' := by
  have HRow := Lib.hid h1
  obtain ⟨A1, c1, rfl, r1⟩ := h1
  have HR1 := Lib.hid r1
  clear r1
  obtain ⟨n, hn⟩ : ∃ n, R.length = n := ⟨_, rfl⟩
  have HN := Lib.hid hn
  rw [hn] at hR ⊢
  clear hn
  go_enter Try.func39, Try.ntmps39
  go_wp2
  go_loopw [7] (fun i wr => ∃ j : Nat, j ≤ n ∧ i = .int .i64 j ∧ Below w.heap.size w wr ∧ ∀ i, i < j → adv5 R i = true) (fun i _ => n - (intOf i).toNat)
  case atStart => exact ⟨0, Nat.zero_le _, rfl, Below.refl _ _, fun i h => absurd h (Nat.not_lt_zero _)⟩
  case round =>
    obtain ⟨j, hj, rfl, hbl, hadv⟩ := hrel
    have HA := Lib.hid hadv
    have HBL := Lib.hid hbl
    clear hadv
    by_cases hlt : j < n
    · obtain ⟨b1, rfl, lt1, q1⟩ := HR1.out (by rw [HN.out]; omega)
      obtain ⟨s, hs⟩ : ∃ s, R[j]? = some s := ⟨_, List.getElem?_eq_getElem (by rw [HN.out]; omega)⟩
      have hlt1 : b1 < wr.heap.size := Nat.lt_of_lt_of_le lt1 hbl.size
      have x0 := (hbl.cell (p := ⟨b1, j * 5 + 0, none⟩) lt1).trans (q1 j s hs 0 (by decide))
      have x1 := (hbl.cell (p := ⟨b1, j * 5 + 1, none⟩) lt1).trans (q1 j s hs 1 (by decide))
      have x2 := (hbl.cell (p := ⟨b1, j * 5 + 2, none⟩) lt1).trans (q1 j s hs 2 (by decide))
      have x3 := (hbl.cell (p := ⟨b1, j * 5 + 3, none⟩) lt1).trans (q1 j s hs 3 (by decide))
      have x4 := (hbl.cell (p := ⟨b1, j * 5 + 4, none⟩) lt1).trans (q1 j s hs 4 (by decide))
      have HQ := Lib.hid q1
      have HS := Lib.hid hs
      simp only [scells, List.getElem?_cons_zero, List.getElem?_cons_succ, Nat.add_zero] at x0 x1 x2 x3 x4
      have hi1 : (j : Int) < (n : Int) := by omega
      have hi2 : (0 : Int) ≤ (j : Int) := by omega
      have z3 := wrap_of ((j : Int) + 1) (by omega) (by omega)
      clear q1 hs
      go_wp2
      -- region
      cases hr : r5 s
      · have HC : Hid (∀ W, Calls Try.prog 41 #[.agg #[.int .i64 s.e, .int .i64 s.q, .bool s.f, .bool s.z, .string s.d]] W fun e w' => ∃ v, e = .returned v ∧ v = .int .i64 2 ∧ w' = W.alloc (.cells #[.int .i64 s.e, .int .i64 s.q, .bool s.f, .bool s.z, .string s.d] 81)) := Lib.hid (fun W => (check5 s W).mono (fun e w' h => ⟨_, h.1, by rw [hr]; rfl, h.2⟩))
        have HAD : Hid (adv5 R j = false) := Lib.hid (by unfold adv5; rw [HS.out]; simp [hr])
        clear hr
        have G0 := Lib.hid (Blk.new wr 81 [.int .i64 s.e, .int .i64 s.q, .bool s.f, .bool s.z, .string s.d])
        have B0 := Lib.hid ((Below.refl wr.heap.size wr).alloc (Nat.le_refl _) (.cells #[.int .i64 s.e, .int .i64 s.q, .bool s.f, .bool s.z, .string s.d] 81))
        refine wp_region_noPanic ?_
        refine wp_region_held_drew (S := fun X => X.cell? ⟨wr.heap.size, 0, none⟩ = some (.int .i64 s.e) ∧ X.cell? ⟨wr.heap.size, 1, none⟩ = some (.int .i64 s.q) ∧ X.cell? ⟨wr.heap.size, 2, none⟩ = some (.bool s.f) ∧ X.cell? ⟨wr.heap.size, 3, none⟩ = some (.bool s.z) ∧ X.cell? ⟨wr.heap.size, 4, none⟩ = some (.string s.d)) (by kernel_rfl) ⟨G0.out.drew.cell 0, G0.out.drew.cell 1, G0.out.drew.cell 2, G0.out.drew.cell 3, G0.out.drew.cell 4⟩ (fun hHeld => ?_)
        refine wpAnyH_take (i := 0) (v := ?_) rfl (by kernel_rfl) (by kernel_rfl) (by kernel_rfl) (fun _ _ _ h => h) (Or.inl ⟨by rfl, ?_⟩) (by assumption) ?_
        rotate_left 1
        · intro w' hSw
          obtain ⟨x0, x1, x2, x3, x4⟩ := hSw
          go_simp
          all_goals first | with_reducible rfl | (rw [if_pos (by omega)]; with_reducible rfl) | (rw [if_neg (by omega)]; with_reducible rfl)
        try simp only [List.getElem_toArray, List.getElem_cons_zero, Act.put, List.setIfInBounds_toArray, List.set_cons_zero, List.set_cons_succ]
        refine wpAnyH_ready (rs := [1]) (by kernel_rfl) (by simp) ?_
        refine AllReadyH.cons rfl (fun K hK => ?_) AllReadyH.nil
        refine step_call rfl 41 Try.f41 _ _ rfl Try.func41 (by kernel_rfl) (by kernel_rfl) _ _ (HC.out _) (by go_simp) ?_
        rintro v1 w1 ⟨rfl, rfl⟩
        refine hK.out _ _ ⟨(G0.out.drew.alloc _).cell 0, (G0.out.drew.alloc _).cell 1, (G0.out.drew.alloc _).cell 2, (G0.out.drew.alloc _).cell 3, (G0.out.drew.alloc _).cell 4⟩ (fun hHeld => ?_)
        clear hK K
        try simp only [List.getElem_toArray, List.getElem_cons_zero, List.getElem_cons_succ, Act.put, List.setIfInBounds_toArray, List.set_cons_zero, List.set_cons_succ]
        refine wpAnyH_take (i := 2) (v := ?_) rfl (by kernel_rfl) (by kernel_rfl) (by kernel_rfl) (fun _ _ _ h => h) (Or.inl ⟨by rfl, ?_⟩) (by assumption) ?_
        rotate_left 1
        · intro w' hSw
          obtain ⟨x0, x1, x2, x3, x4⟩ := hSw
          go_simp
          all_goals first | with_reducible rfl | (rw [if_pos (by omega)]; with_reducible rfl) | (rw [if_neg (by omega)]; with_reducible rfl)
        try simp only [List.getElem_toArray, List.getElem_cons_zero, List.getElem_cons_succ, Act.put, List.setIfInBounds_toArray, List.set_cons_zero, List.set_cons_succ]
        refine wpAnyH_take (i := 3) (v := ?_) rfl (by kernel_rfl) (by kernel_rfl) (by kernel_rfl) (fun _ _ _ h => h) (Or.inl ⟨by rfl, ?_⟩) (by assumption) ?_
        rotate_left 1
        · intro w' hSw
          obtain ⟨x0, x1, x2, x3, x4⟩ := hSw
          go_simp
          all_goals first | with_reducible rfl | (rw [if_pos (by omega)]; with_reducible rfl) | (rw [if_neg (by omega)]; with_reducible rfl)
        try simp only [List.getElem_toArray, List.getElem_cons_zero, List.getElem_cons_succ, Act.put, List.setIfInBounds_toArray, List.set_cons_zero, List.set_cons_succ]
        refine wpAnyH_take (i := 4) (v := undef) rfl (by kernel_rfl) (by kernel_rfl) (by kernel_rfl) (fun _ _ _ h => h) (Or.inr ⟨by rfl, rfl⟩) (by assumption) ?_
        try simp only [List.getElem_toArray, List.getElem_cons_zero, List.getElem_cons_succ, Act.put, List.setIfInBounds_toArray, List.set_cons_zero, List.set_cons_succ]
        refine wpAnyH_take (i := 5) (v := undef) rfl (by kernel_rfl) (by kernel_rfl) (by kernel_rfl) (fun _ _ _ h => h) (Or.inr ⟨by rfl, rfl⟩) (by assumption) ?_
        try simp only [List.getElem_toArray, List.getElem_cons_zero, List.getElem_cons_succ, Act.put, List.setIfInBounds_toArray, List.set_cons_zero, List.set_cons_succ]
        refine wpAnyH_take (i := 6) (v := undef) rfl (by kernel_rfl) (by kernel_rfl) (by kernel_rfl) (fun _ _ _ h => h) (Or.inr ⟨by rfl, rfl⟩) (by assumption) ?_
        try simp only [List.getElem_toArray, List.getElem_cons_zero, List.getElem_cons_succ, Act.put, List.setIfInBounds_toArray, List.set_cons_zero, List.set_cons_succ]
        refine wpAnyH_take (i := 7) (v := undef) rfl (by kernel_rfl) (by kernel_rfl) (by kernel_rfl) (fun _ _ _ h => h) (Or.inr ⟨by rfl, rfl⟩) (by assumption) ?_
        try simp only [List.getElem_toArray, List.getElem_cons_zero, List.getElem_cons_succ, Act.put, List.setIfInBounds_toArray, List.set_cons_zero, List.set_cons_succ]
        refine wpAnyH_take (i := 8) (v := undef) rfl (by kernel_rfl) (by kernel_rfl) (by kernel_rfl) (fun _ _ _ h => h) (Or.inr ⟨by rfl, rfl⟩) (by assumption) ?_
        try simp only [List.getElem_toArray, List.getElem_cons_zero, List.getElem_cons_succ, Act.put, List.setIfInBounds_toArray, List.set_cons_zero, List.set_cons_succ]
        refine wpAnyH_take (i := 9) (v := undef) rfl (by kernel_rfl) (by kernel_rfl) (by kernel_rfl) (fun _ _ _ h => h) (Or.inr ⟨by rfl, rfl⟩) (by assumption) ?_
        try simp only [List.getElem_toArray, List.getElem_cons_zero, List.getElem_cons_succ, Act.put, List.setIfInBounds_toArray, List.set_cons_zero, List.set_cons_succ]
        refine wpAnyH_take (i := 10) (v := undef) rfl (by kernel_rfl) (by kernel_rfl) (by kernel_rfl) (fun _ _ _ h => h) (Or.inr ⟨by rfl, rfl⟩) (by assumption) ?_
        try simp only [List.getElem_toArray, List.getElem_cons_zero, List.getElem_cons_succ, Act.put, List.setIfInBounds_toArray, List.set_cons_zero, List.set_cons_succ]
        refine wpAnyH_take (i := 11) (v := undef) rfl (by kernel_rfl) (by kernel_rfl) (by kernel_rfl) (fun _ _ _ h => h) (Or.inr ⟨by rfl, rfl⟩) (by assumption) ?_
        try simp only [List.getElem_toArray, List.getElem_cons_zero, List.getElem_cons_succ, Act.put, List.setIfInBounds_toArray, List.set_cons_zero, List.set_cons_succ]
        refine wpAnyH_take (i := 12) (v := undef) rfl (by kernel_rfl) (by kernel_rfl) (by kernel_rfl) (fun _ _ _ h => h) (Or.inr ⟨by rfl, rfl⟩) (by assumption) ?_
        try simp only [List.getElem_toArray, List.getElem_cons_zero, List.getElem_cons_succ, Act.put, List.setIfInBounds_toArray, List.set_cons_zero, List.set_cons_succ]
        refine wpAnyH_take (i := 13) (v := undef) rfl (by kernel_rfl) (by kernel_rfl) (by kernel_rfl) (fun _ _ _ h => h) (Or.inr ⟨by rfl, rfl⟩) (by assumption) ?_
        try simp only [List.getElem_toArray, List.getElem_cons_zero, List.getElem_cons_succ, Act.put, List.setIfInBounds_toArray, List.set_cons_zero, List.set_cons_succ]
        refine wpAnyH_take (i := 14) (v := undef) rfl (by kernel_rfl) (by kernel_rfl) (by kernel_rfl) (fun _ _ _ h => h) (Or.inr ⟨by rfl, rfl⟩) (by assumption) ?_
        try simp only [List.getElem_toArray, List.getElem_cons_zero, List.getElem_cons_succ, Act.put, List.setIfInBounds_toArray, List.set_cons_zero, List.set_cons_succ]
        refine wpAnyH_take (i := 15) (v := undef) rfl (by kernel_rfl) (by kernel_rfl) (by kernel_rfl) (fun _ _ _ h => h) (Or.inr ⟨by rfl, rfl⟩) (by assumption) ?_
        try simp only [List.getElem_toArray, List.getElem_cons_zero, List.getElem_cons_succ, Act.put, List.setIfInBounds_toArray, List.set_cons_zero, List.set_cons_succ]
        refine wpAnyH_take (i := 16) (v := ?_) rfl (by kernel_rfl) (by kernel_rfl) (by kernel_rfl) (fun _ _ _ h => h) (Or.inl ⟨by rfl, ?_⟩) (by assumption) ?_
        rotate_left 1
        · intro w' hSw
          obtain ⟨x0, x1, x2, x3, x4⟩ := hSw
          go_simp
          all_goals first | with_reducible rfl | (rw [if_pos (by omega)]; with_reducible rfl) | (rw [if_neg (by omega)]; with_reducible rfl)
        try simp only [List.getElem_toArray, List.getElem_cons_zero, List.getElem_cons_succ, Act.put, List.setIfInBounds_toArray, List.set_cons_zero, List.set_cons_succ]
        refine wpAnyH_done (by kernel_rfl) ?_ _
        refine NoPanic.normal ?_
        go_wp2
        go_ret
        exact ⟨j, rfl, Nat.le_of_lt hlt, HA.out, HAD.out, HBL.out.trans ((B0.out.drew.alloc B0.out.size _).mono HBL.out.size)⟩
      · by_cases hj0 : j = 0
        · have HC : Hid (∀ W, Calls Try.prog 41 #[.agg #[.int .i64 s.e, .int .i64 s.q, .bool s.f, .bool s.z, .string s.d]] W fun e w' => ∃ v, e = .returned v ∧ v = .int .i64 0 ∧ w' = W.alloc (.cells #[.int .i64 s.e, .int .i64 s.q, .bool s.f, .bool s.z, .string s.d] 81)) := Lib.hid (fun W => (check5 s W).mono (fun e w' h => ⟨_, h.1, by rw [hr]; rfl, h.2⟩))
          have HAD : Hid (adv5 R j = true) := Lib.hid (by unfold adv5; rw [HS.out, hj0]; simp [hr])
          have hd : decide ((0 : Int) < (j : Int)) = false := by simp; omega
          clear hr
          have G0 := Lib.hid (Blk.new wr 81 [.int .i64 s.e, .int .i64 s.q, .bool s.f, .bool s.z, .string s.d])
          have B0 := Lib.hid ((Below.refl wr.heap.size wr).alloc (Nat.le_refl _) (.cells #[.int .i64 s.e, .int .i64 s.q, .bool s.f, .bool s.z, .string s.d] 81))
          refine wp_region_noPanic ?_
          refine wp_region_held_drew (S := fun X => X.cell? ⟨wr.heap.size, 0, none⟩ = some (.int .i64 s.e) ∧ X.cell? ⟨wr.heap.size, 1, none⟩ = some (.int .i64 s.q) ∧ X.cell? ⟨wr.heap.size, 2, none⟩ = some (.bool s.f) ∧ X.cell? ⟨wr.heap.size, 3, none⟩ = some (.bool s.z) ∧ X.cell? ⟨wr.heap.size, 4, none⟩ = some (.string s.d)) (by kernel_rfl) ⟨G0.out.drew.cell 0, G0.out.drew.cell 1, G0.out.drew.cell 2, G0.out.drew.cell 3, G0.out.drew.cell 4⟩ (fun hHeld => ?_)
          refine wpAnyH_take (i := 0) (v := ?_) rfl (by kernel_rfl) (by kernel_rfl) (by kernel_rfl) (fun _ _ _ h => h) (Or.inl ⟨by rfl, ?_⟩) (by assumption) ?_
          rotate_left 1
          · intro w' hSw
            obtain ⟨x0, x1, x2, x3, x4⟩ := hSw
            go_simp
            all_goals first | with_reducible rfl | (rw [if_pos (by omega)]; with_reducible rfl) | (rw [if_neg (by omega)]; with_reducible rfl)
          try simp only [List.getElem_toArray, List.getElem_cons_zero, Act.put, List.setIfInBounds_toArray, List.set_cons_zero, List.set_cons_succ]
          refine wpAnyH_ready (rs := [1]) (by kernel_rfl) (by simp) ?_
          refine AllReadyH.cons rfl (fun K hK => ?_) AllReadyH.nil
          refine step_call rfl 41 Try.f41 _ _ rfl Try.func41 (by kernel_rfl) (by kernel_rfl) _ _ (HC.out _) (by go_simp) ?_
          rintro v1 w1 ⟨rfl, rfl⟩
          refine hK.out _ _ ⟨(G0.out.drew.alloc _).cell 0, (G0.out.drew.alloc _).cell 1, (G0.out.drew.alloc _).cell 2, (G0.out.drew.alloc _).cell 3, (G0.out.drew.alloc _).cell 4⟩ (fun hHeld => ?_)
          clear hK K
          try simp only [List.getElem_toArray, List.getElem_cons_zero, List.getElem_cons_succ, Act.put, List.setIfInBounds_toArray, List.set_cons_zero, List.set_cons_succ]
          refine wpAnyH_take (i := 2) (v := ?_) rfl (by kernel_rfl) (by kernel_rfl) (by kernel_rfl) (fun _ _ _ h => h) (Or.inl ⟨by rfl, ?_⟩) (by assumption) ?_
          rotate_left 1
          · intro w' hSw
            obtain ⟨x0, x1, x2, x3, x4⟩ := hSw
            go_simp
            all_goals first | with_reducible rfl | (rw [if_pos (by omega)]; with_reducible rfl) | (rw [if_neg (by omega)]; with_reducible rfl)
          try simp only [List.getElem_toArray, List.getElem_cons_zero, List.getElem_cons_succ, Act.put, List.setIfInBounds_toArray, List.set_cons_zero, List.set_cons_succ]
          refine wpAnyH_take (i := 3) (v := ?_) rfl (by kernel_rfl) (by kernel_rfl) (by kernel_rfl) (fun _ _ _ h => h) (Or.inl ⟨by rfl, ?_⟩) (by assumption) ?_
          rotate_left 1
          · intro w' hSw
            obtain ⟨x0, x1, x2, x3, x4⟩ := hSw
            go_simp
            all_goals first | with_reducible rfl | (rw [if_pos (by omega)]; with_reducible rfl) | (rw [if_neg (by omega)]; with_reducible rfl)
          try simp only [List.getElem_toArray, List.getElem_cons_zero, List.getElem_cons_succ, Act.put, List.setIfInBounds_toArray, List.set_cons_zero, List.set_cons_succ]
          refine wpAnyH_take (i := 4) (v := ?_) rfl (by kernel_rfl) (by kernel_rfl) (by kernel_rfl) (fun _ _ _ h => h) (Or.inl ⟨by rfl, ?_⟩) (by assumption) ?_
          rotate_left 1
          · intro w' hSw
            obtain ⟨x0, x1, x2, x3, x4⟩ := hSw
            go_simp
            all_goals first | with_reducible rfl | (rw [if_pos (by omega)]; with_reducible rfl) | (rw [if_neg (by omega)]; with_reducible rfl)
          try simp only [List.getElem_toArray, List.getElem_cons_zero, List.getElem_cons_succ, Act.put, List.setIfInBounds_toArray, List.set_cons_zero, List.set_cons_succ]
          refine wpAnyH_take (i := 5) (v := ?_) rfl (by kernel_rfl) (by kernel_rfl) (by kernel_rfl) (fun _ _ _ h => h) (Or.inl ⟨by rfl, ?_⟩) (by assumption) ?_
          rotate_left 1
          · intro w' hSw
            obtain ⟨x0, x1, x2, x3, x4⟩ := hSw
            go_simp
            all_goals first | with_reducible rfl | (rw [if_pos (by omega)]; with_reducible rfl) | (rw [if_neg (by omega)]; with_reducible rfl)
          try simp only [List.getElem_toArray, List.getElem_cons_zero, List.getElem_cons_succ, Act.put, List.setIfInBounds_toArray, List.set_cons_zero, List.set_cons_succ]
          refine wpAnyH_take (i := 6) (v := ?_) rfl (by kernel_rfl) (by kernel_rfl) (by kernel_rfl) (fun _ _ _ h => h) (Or.inl ⟨by rfl, ?_⟩) (by assumption) ?_
          rotate_left 1
          · intro w' hSw
            obtain ⟨x0, x1, x2, x3, x4⟩ := hSw
            go_simp
            all_goals first | with_reducible rfl | (rw [if_pos (by omega)]; with_reducible rfl) | (rw [if_neg (by omega)]; with_reducible rfl)
          try simp only [List.getElem_toArray, List.getElem_cons_zero, List.getElem_cons_succ, Act.put, List.setIfInBounds_toArray, List.set_cons_zero, List.set_cons_succ]
          refine wpAnyH_take (i := 7) (v := undef) rfl (by kernel_rfl) (by kernel_rfl) (by kernel_rfl) (fun _ _ _ h => h) (Or.inr ⟨by rfl, rfl⟩) (by assumption) ?_
          try simp only [List.getElem_toArray, List.getElem_cons_zero, List.getElem_cons_succ, Act.put, List.setIfInBounds_toArray, List.set_cons_zero, List.set_cons_succ]
          refine wpAnyH_take (i := 8) (v := undef) rfl (by kernel_rfl) (by kernel_rfl) (by kernel_rfl) (fun _ _ _ h => h) (Or.inr ⟨by rfl, rfl⟩) (by assumption) ?_
          try simp only [List.getElem_toArray, List.getElem_cons_zero, List.getElem_cons_succ, Act.put, List.setIfInBounds_toArray, List.set_cons_zero, List.set_cons_succ]
          refine wpAnyH_take (i := 9) (v := undef) rfl (by kernel_rfl) (by kernel_rfl) (by kernel_rfl) (fun _ _ _ h => h) (Or.inr ⟨by rfl, rfl⟩) (by assumption) ?_
          try simp only [List.getElem_toArray, List.getElem_cons_zero, List.getElem_cons_succ, Act.put, List.setIfInBounds_toArray, List.set_cons_zero, List.set_cons_succ]
          refine wpAnyH_take (i := 10) (v := undef) rfl (by kernel_rfl) (by kernel_rfl) (by kernel_rfl) (fun _ _ _ h => h) (Or.inr ⟨by rfl, rfl⟩) (by assumption) ?_
          try simp only [List.getElem_toArray, List.getElem_cons_zero, List.getElem_cons_succ, Act.put, List.setIfInBounds_toArray, List.set_cons_zero, List.set_cons_succ]
          refine wpAnyH_take (i := 11) (v := undef) rfl (by kernel_rfl) (by kernel_rfl) (by kernel_rfl) (fun _ _ _ h => h) (Or.inr ⟨by rfl, rfl⟩) (by assumption) ?_
          try simp only [List.getElem_toArray, List.getElem_cons_zero, List.getElem_cons_succ, Act.put, List.setIfInBounds_toArray, List.set_cons_zero, List.set_cons_succ]
          refine wpAnyH_take (i := 12) (v := undef) rfl (by kernel_rfl) (by kernel_rfl) (by kernel_rfl) (fun _ _ _ h => h) (Or.inr ⟨by rfl, rfl⟩) (by assumption) ?_
          try simp only [List.getElem_toArray, List.getElem_cons_zero, List.getElem_cons_succ, Act.put, List.setIfInBounds_toArray, List.set_cons_zero, List.set_cons_succ]
          refine wpAnyH_take (i := 13) (v := undef) rfl (by kernel_rfl) (by kernel_rfl) (by kernel_rfl) (fun _ _ _ h => h) (Or.inr ⟨by rfl, rfl⟩) (by assumption) ?_
          try simp only [List.getElem_toArray, List.getElem_cons_zero, List.getElem_cons_succ, Act.put, List.setIfInBounds_toArray, List.set_cons_zero, List.set_cons_succ]
          refine wpAnyH_take (i := 14) (v := undef) rfl (by kernel_rfl) (by kernel_rfl) (by kernel_rfl) (fun _ _ _ h => h) (Or.inr ⟨by rfl, rfl⟩) (by assumption) ?_
          try simp only [List.getElem_toArray, List.getElem_cons_zero, List.getElem_cons_succ, Act.put, List.setIfInBounds_toArray, List.set_cons_zero, List.set_cons_succ]
          refine wpAnyH_take (i := 15) (v := ?_) rfl (by kernel_rfl) (by kernel_rfl) (by kernel_rfl) (fun _ _ _ h => h) (Or.inl ⟨by rfl, ?_⟩) (by assumption) ?_
          rotate_left 1
          · intro w' hSw
            obtain ⟨x0, x1, x2, x3, x4⟩ := hSw
            go_simp
            all_goals first | with_reducible rfl | (rw [if_pos (by omega)]; with_reducible rfl) | (rw [if_neg (by omega)]; with_reducible rfl)
          try simp only [List.getElem_toArray, List.getElem_cons_zero, List.getElem_cons_succ, Act.put, List.setIfInBounds_toArray, List.set_cons_zero, List.set_cons_succ]
          refine wpAnyH_take (i := 16) (v := ?_) rfl (by kernel_rfl) (by kernel_rfl) (by kernel_rfl) (fun _ _ _ h => h) (Or.inl ⟨by rfl, ?_⟩) (by assumption) ?_
          rotate_left 1
          · intro w' hSw
            obtain ⟨x0, x1, x2, x3, x4⟩ := hSw
            go_simp
            all_goals first | with_reducible rfl | (rw [if_pos (by omega)]; with_reducible rfl) | (rw [if_neg (by omega)]; with_reducible rfl)
          try simp only [List.getElem_toArray, List.getElem_cons_zero, List.getElem_cons_succ, Act.put, List.setIfInBounds_toArray, List.set_cons_zero, List.set_cons_succ]
          refine wpAnyH_done (by kernel_rfl) ?_ _
          refine NoPanic.normal ?_
          go_wp2
          go_roundw
          case rel => exact ⟨j + 1, hlt, by first | (simp; done) | (simp; omega), HBL.out.trans ((B0.out.drew.alloc B0.out.size _).mono HBL.out.size), fun i hi => by rcases Nat.lt_succ_iff_lt_or_eq.1 hi with h | h; exact HA.out i h; rw [h]; exact HAD.out⟩
          case measure => simp [intOf]; omega
        · obtain ⟨a, ha⟩ : ∃ a, R[j - 1]? = some a := ⟨_, List.getElem?_eq_getElem (by rw [HN.out]; omega)⟩
          cases hf : fol5 a s
          · have HC : Hid (∀ W, Calls Try.prog 41 #[.agg #[.int .i64 s.e, .int .i64 s.q, .bool s.f, .bool s.z, .string s.d]] W fun e w' => ∃ v, e = .returned v ∧ v = .int .i64 0 ∧ w' = W.alloc (.cells #[.int .i64 s.e, .int .i64 s.q, .bool s.f, .bool s.z, .string s.d] 81)) := Lib.hid (fun W => (check5 s W).mono (fun e w' h => ⟨_, h.1, by rw [hr]; rfl, h.2⟩))
            have HAD : Hid (adv5 R j = false) := Lib.hid (by obtain ⟨k, rfl⟩ : ∃ k, j = k + 1 := ⟨j - 1, by omega⟩; unfold adv5; rw [HS.out]; simp only [Nat.add_sub_cancel] at ha; simp [hr, ha, hf])
            have HF : Hid (∀ W, Calls Try.prog 55 #[.agg #[.int .i64 a.e, .int .i64 a.q, .bool a.f, .bool a.z, .string a.d], .agg #[.int .i64 s.e, .int .i64 s.q, .bool s.f, .bool s.z, .string s.d]] W fun e w' => ∃ v, e = .returned v ∧ v = .bool false ∧ w' = (W.alloc (.cells #[.int .i64 a.e, .int .i64 a.q, .bool a.f, .bool a.z, .string a.d] 81)).alloc (.cells #[.int .i64 s.e, .int .i64 s.q, .bool s.f, .bool s.z, .string s.d] 81)) := Lib.hid (fun W => (follows5 a s W).mono (fun e w' h => ⟨_, h.1, by rw [hf], h.2⟩))
            have hd : decide ((0 : Int) < (j : Int)) = true := by simp; omega
            have hi5 : (1 : Int) ≤ (j : Int) := by omega
            have hi6 : (0 : Int) ≤ (j : Int) - 1 := by omega
            have hi7 : (j : Int) - 1 < (n : Int) := by omega
            have hit : ((j : Int) - 1).toNat = j - 1 := by omega
            have z6 := wrap_of ((j : Int) - 1) (by omega) (by omega)
            have HY : Hid (∀ k, k < 5 → ∀ X, Below wr.heap.size wr X → X.cell? ⟨b1, (j - 1) * 5 + k, none⟩ = (scells a)[k]?) := Lib.hid (fun k hk X hX => (hX.cell (p := ⟨b1, (j - 1) * 5 + k, none⟩) hlt1).trans ((HBL.out.cell (p := ⟨b1, (j - 1) * 5 + k, none⟩) lt1).trans (HQ.out (j - 1) a ha k hk)))
            clear hr hf ha
            have G0 := Lib.hid (Blk.new wr 81 [.int .i64 s.e, .int .i64 s.q, .bool s.f, .bool s.z, .string s.d])
            have B0 := Lib.hid ((Below.refl wr.heap.size wr).alloc (Nat.le_refl _) (.cells #[.int .i64 s.e, .int .i64 s.q, .bool s.f, .bool s.z, .string s.d] 81))
            refine wp_region_noPanic ?_
            refine wp_region_held_drew (S := fun X => X.cell? ⟨wr.heap.size, 0, none⟩ = some (.int .i64 s.e) ∧ X.cell? ⟨wr.heap.size, 1, none⟩ = some (.int .i64 s.q) ∧ X.cell? ⟨wr.heap.size, 2, none⟩ = some (.bool s.f) ∧ X.cell? ⟨wr.heap.size, 3, none⟩ = some (.bool s.z) ∧ X.cell? ⟨wr.heap.size, 4, none⟩ = some (.string s.d) ∧ X.cell? ⟨b1, (j - 1) * 5, none⟩ = some (.int .i64 a.e) ∧ X.cell? ⟨b1, (j - 1) * 5 + 1, none⟩ = some (.int .i64 a.q) ∧ X.cell? ⟨b1, (j - 1) * 5 + 2, none⟩ = some (.bool a.f) ∧ X.cell? ⟨b1, (j - 1) * 5 + 3, none⟩ = some (.bool a.z) ∧ X.cell? ⟨b1, (j - 1) * 5 + 4, none⟩ = some (.string a.d)) (by kernel_rfl) ⟨G0.out.drew.cell 0, G0.out.drew.cell 1, G0.out.drew.cell 2, G0.out.drew.cell 3, G0.out.drew.cell 4, HY.out 0 (by decide) _ (B0.out.drew), HY.out 1 (by decide) _ (B0.out.drew), HY.out 2 (by decide) _ (B0.out.drew), HY.out 3 (by decide) _ (B0.out.drew), HY.out 4 (by decide) _ (B0.out.drew)⟩ (fun hHeld => ?_)
            refine wpAnyH_take (i := 0) (v := ?_) rfl (by kernel_rfl) (by kernel_rfl) (by kernel_rfl) (fun _ _ _ h => h) (Or.inl ⟨by rfl, ?_⟩) (by assumption) ?_
            rotate_left 1
            · intro w' hSw
              obtain ⟨x0, x1, x2, x3, x4, y0, y1, y2, y3, y4⟩ := hSw
              go_simp
              all_goals first | with_reducible rfl | (rw [if_pos (by omega)]; with_reducible rfl) | (rw [if_neg (by omega)]; with_reducible rfl)
            try simp only [List.getElem_toArray, List.getElem_cons_zero, Act.put, List.setIfInBounds_toArray, List.set_cons_zero, List.set_cons_succ]
            refine wpAnyH_ready (rs := [1]) (by kernel_rfl) (by simp) ?_
            refine AllReadyH.cons rfl (fun K hK => ?_) AllReadyH.nil
            refine step_call rfl 41 Try.f41 _ _ rfl Try.func41 (by kernel_rfl) (by kernel_rfl) _ _ (HC.out _) (by go_simp) ?_
            rintro v1 w1 ⟨rfl, rfl⟩
            refine hK.out _ _ ⟨(G0.out.drew.alloc _).cell 0, (G0.out.drew.alloc _).cell 1, (G0.out.drew.alloc _).cell 2, (G0.out.drew.alloc _).cell 3, (G0.out.drew.alloc _).cell 4, HY.out 0 (by decide) _ (B0.out.drew.alloc B0.out.size _), HY.out 1 (by decide) _ (B0.out.drew.alloc B0.out.size _), HY.out 2 (by decide) _ (B0.out.drew.alloc B0.out.size _), HY.out 3 (by decide) _ (B0.out.drew.alloc B0.out.size _), HY.out 4 (by decide) _ (B0.out.drew.alloc B0.out.size _)⟩ (fun hHeld => ?_)
            clear hK K
            try simp only [List.getElem_toArray, List.getElem_cons_zero, List.getElem_cons_succ, Act.put, List.setIfInBounds_toArray, List.set_cons_zero, List.set_cons_succ]
            refine wpAnyH_take (i := 2) (v := ?_) rfl (by kernel_rfl) (by kernel_rfl) (by kernel_rfl) (fun _ _ _ h => h) (Or.inl ⟨by rfl, ?_⟩) (by assumption) ?_
            rotate_left 1
            · intro w' hSw
              obtain ⟨x0, x1, x2, x3, x4, y0, y1, y2, y3, y4⟩ := hSw
              go_simp
              all_goals first | with_reducible rfl | (rw [if_pos (by omega)]; with_reducible rfl) | (rw [if_neg (by omega)]; with_reducible rfl)
            try simp only [List.getElem_toArray, List.getElem_cons_zero, List.getElem_cons_succ, Act.put, List.setIfInBounds_toArray, List.set_cons_zero, List.set_cons_succ]
            refine wpAnyH_take (i := 3) (v := ?_) rfl (by kernel_rfl) (by kernel_rfl) (by kernel_rfl) (fun _ _ _ h => h) (Or.inl ⟨by rfl, ?_⟩) (by assumption) ?_
            rotate_left 1
            · intro w' hSw
              obtain ⟨x0, x1, x2, x3, x4, y0, y1, y2, y3, y4⟩ := hSw
              go_simp
              all_goals first | with_reducible rfl | (rw [if_pos (by omega)]; with_reducible rfl) | (rw [if_neg (by omega)]; with_reducible rfl)
            try simp only [List.getElem_toArray, List.getElem_cons_zero, List.getElem_cons_succ, Act.put, List.setIfInBounds_toArray, List.set_cons_zero, List.set_cons_succ]
            refine wpAnyH_take (i := 4) (v := ?_) rfl (by kernel_rfl) (by kernel_rfl) (by kernel_rfl) (fun _ _ _ h => h) (Or.inl ⟨by rfl, ?_⟩) (by assumption) ?_
            rotate_left 1
            · intro w' hSw
              obtain ⟨x0, x1, x2, x3, x4, y0, y1, y2, y3, y4⟩ := hSw
              go_simp
              all_goals first | with_reducible rfl | (rw [if_pos (by omega)]; with_reducible rfl) | (rw [if_neg (by omega)]; with_reducible rfl)
            try simp only [List.getElem_toArray, List.getElem_cons_zero, List.getElem_cons_succ, Act.put, List.setIfInBounds_toArray, List.set_cons_zero, List.set_cons_succ]
            refine wpAnyH_take (i := 5) (v := .bool true) rfl (by kernel_rfl) (by kernel_rfl) (by kernel_rfl) (fun _ _ _ h => h) (Or.inl ⟨by rfl, ?_⟩) (by assumption) ?_
            · intro w' hSw
              clear hSw hHeld
              go_simp
              omega
            try simp only [List.getElem_toArray, List.getElem_cons_zero, List.getElem_cons_succ, Act.put, List.setIfInBounds_toArray, List.set_cons_zero, List.set_cons_succ]
            refine wpAnyH_take (i := 6) (v := ?_) rfl (by kernel_rfl) (by kernel_rfl) (by kernel_rfl) (fun _ _ _ h => h) (Or.inl ⟨by rfl, ?_⟩) (by assumption) ?_
            rotate_left 1
            · intro w' hSw
              obtain ⟨x0, x1, x2, x3, x4, y0, y1, y2, y3, y4⟩ := hSw
              go_simp
              all_goals first | with_reducible rfl | (rw [if_pos (by omega)]; with_reducible rfl) | (rw [if_neg (by omega)]; with_reducible rfl)
            try simp only [List.getElem_toArray, List.getElem_cons_zero, List.getElem_cons_succ, Act.put, List.setIfInBounds_toArray, List.set_cons_zero, List.set_cons_succ]
            refine wpAnyH_take (i := 7) (v := ?_) rfl (by kernel_rfl) (by kernel_rfl) (by kernel_rfl) (fun _ _ _ h => h) (Or.inl ⟨by rfl, ?_⟩) (by assumption) ?_
            rotate_left 1
            · intro w' hSw
              obtain ⟨x0, x1, x2, x3, x4, y0, y1, y2, y3, y4⟩ := hSw
              go_simp
              all_goals first | with_reducible rfl | (rw [if_pos (by omega)]; with_reducible rfl) | (rw [if_neg (by omega)]; with_reducible rfl)
            try simp only [List.getElem_toArray, List.getElem_cons_zero, List.getElem_cons_succ, Act.put, List.setIfInBounds_toArray, List.set_cons_zero, List.set_cons_succ]
            refine wpAnyH_take (i := 8) (v := ?_) rfl (by kernel_rfl) (by kernel_rfl) (by kernel_rfl) (fun _ _ _ h => h) (Or.inl ⟨by rfl, ?_⟩) (by assumption) ?_
            rotate_left 1
            · intro w' hSw
              obtain ⟨x0, x1, x2, x3, x4, y0, y1, y2, y3, y4⟩ := hSw
              go_simp
              all_goals first | with_reducible rfl | (rw [if_pos (by omega)]; with_reducible rfl) | (rw [if_neg (by omega)]; with_reducible rfl)
            try simp only [List.getElem_toArray, List.getElem_cons_zero, List.getElem_cons_succ, Act.put, List.setIfInBounds_toArray, List.set_cons_zero, List.set_cons_succ]
            refine wpAnyH_take (i := 9) (v := ?_) rfl (by kernel_rfl) (by kernel_rfl) (by kernel_rfl) (fun _ _ _ h => h) (Or.inl ⟨by rfl, ?_⟩) (by assumption) ?_
            rotate_left 1
            · intro w' hSw
              obtain ⟨x0, x1, x2, x3, x4, y0, y1, y2, y3, y4⟩ := hSw
              go_simp
              all_goals first | with_reducible rfl | (rw [if_pos (by omega)]; with_reducible rfl) | (rw [if_neg (by omega)]; with_reducible rfl)
            try simp only [List.getElem_toArray, List.getElem_cons_zero, List.getElem_cons_succ, Act.put, List.setIfInBounds_toArray, List.set_cons_zero, List.set_cons_succ]
            refine wpAnyH_take (i := 10) (v := ?_) rfl (by kernel_rfl) (by kernel_rfl) (by kernel_rfl) (fun _ _ _ h => h) (Or.inl ⟨by rfl, ?_⟩) (by assumption) ?_
            rotate_left 1
            · intro w' hSw
              obtain ⟨x0, x1, x2, x3, x4, y0, y1, y2, y3, y4⟩ := hSw
              go_simp
              all_goals first | with_reducible rfl | (rw [if_pos (by omega)]; with_reducible rfl) | (rw [if_neg (by omega)]; with_reducible rfl)
            try simp only [List.getElem_toArray, List.getElem_cons_zero, List.getElem_cons_succ, Act.put, List.setIfInBounds_toArray, List.set_cons_zero, List.set_cons_succ]
            refine wpAnyH_take (i := 11) (v := ?_) rfl (by kernel_rfl) (by kernel_rfl) (by kernel_rfl) (fun _ _ _ h => h) (Or.inl ⟨by rfl, ?_⟩) (by assumption) ?_
            rotate_left 1
            · intro w' hSw
              obtain ⟨x0, x1, x2, x3, x4, y0, y1, y2, y3, y4⟩ := hSw
              go_simp
              all_goals first | with_reducible rfl | (rw [if_pos (by omega)]; with_reducible rfl) | (rw [if_neg (by omega)]; with_reducible rfl)
            try simp only [List.getElem_toArray, List.getElem_cons_zero, List.getElem_cons_succ, Act.put, List.setIfInBounds_toArray, List.set_cons_zero, List.set_cons_succ]
            refine wpAnyH_take (i := 12) (v := ?_) rfl (by kernel_rfl) (by kernel_rfl) (by kernel_rfl) (fun _ _ _ h => h) (Or.inl ⟨by rfl, ?_⟩) (by assumption) ?_
            rotate_left 1
            · intro w' hSw
              obtain ⟨x0, x1, x2, x3, x4, y0, y1, y2, y3, y4⟩ := hSw
              go_simp
              all_goals first | with_reducible rfl | (rw [if_pos (by omega)]; with_reducible rfl) | (rw [if_neg (by omega)]; with_reducible rfl)
            try simp only [List.getElem_toArray, List.getElem_cons_zero, List.getElem_cons_succ, Act.put, List.setIfInBounds_toArray, List.set_cons_zero, List.set_cons_succ]
            refine wpAnyH_ready (rs := [13]) (by kernel_rfl) (by simp) ?_
            refine AllReadyH.cons rfl (fun K hK => ?_) AllReadyH.nil
            refine step_call_on 55 Try.f55 _ _ rfl Try.func55 (by kernel_rfl) (by kernel_rfl) _ _ (HF.out _) (by go_simp) (by first | rfl | go_simp) ?_
            rintro v13 w13 ⟨rfl, rfl⟩
            refine hK.out _ _ ⟨(((G0.out.drew.alloc _).alloc _).alloc _).cell 0, (((G0.out.drew.alloc _).alloc _).alloc _).cell 1, (((G0.out.drew.alloc _).alloc _).alloc _).cell 2, (((G0.out.drew.alloc _).alloc _).alloc _).cell 3, (((G0.out.drew.alloc _).alloc _).alloc _).cell 4, HY.out 0 (by decide) _ (((B0.out.drew.alloc B0.out.size _).alloc (by simp; omega) _).alloc (by simp; omega) _), HY.out 1 (by decide) _ (((B0.out.drew.alloc B0.out.size _).alloc (by simp; omega) _).alloc (by simp; omega) _), HY.out 2 (by decide) _ (((B0.out.drew.alloc B0.out.size _).alloc (by simp; omega) _).alloc (by simp; omega) _), HY.out 3 (by decide) _ (((B0.out.drew.alloc B0.out.size _).alloc (by simp; omega) _).alloc (by simp; omega) _), HY.out 4 (by decide) _ (((B0.out.drew.alloc B0.out.size _).alloc (by simp; omega) _).alloc (by simp; omega) _)⟩ (fun hHeld => ?_)
            clear hK K
            try simp only [List.getElem_toArray, List.getElem_cons_zero, List.getElem_cons_succ, Act.put, List.setIfInBounds_toArray, List.set_cons_zero, List.set_cons_succ]
            refine wpAnyH_take (i := 14) (v := ?_) rfl (by kernel_rfl) (by kernel_rfl) (by kernel_rfl) (fun _ _ _ h => h) (Or.inl ⟨by rfl, ?_⟩) (by assumption) ?_
            rotate_left 1
            · intro w' hSw
              obtain ⟨x0, x1, x2, x3, x4, y0, y1, y2, y3, y4⟩ := hSw
              go_simp
              all_goals first | with_reducible rfl | (rw [if_pos (by omega)]; with_reducible rfl) | (rw [if_neg (by omega)]; with_reducible rfl)
            try simp only [List.getElem_toArray, List.getElem_cons_zero, List.getElem_cons_succ, Act.put, List.setIfInBounds_toArray, List.set_cons_zero, List.set_cons_succ]
            refine wpAnyH_take (i := 15) (v := ?_) rfl (by kernel_rfl) (by kernel_rfl) (by kernel_rfl) (fun _ _ _ h => h) (Or.inl ⟨by rfl, ?_⟩) (by assumption) ?_
            rotate_left 1
            · intro w' hSw
              obtain ⟨x0, x1, x2, x3, x4, y0, y1, y2, y3, y4⟩ := hSw
              go_simp
              all_goals first | with_reducible rfl | (rw [if_pos (by omega)]; with_reducible rfl) | (rw [if_neg (by omega)]; with_reducible rfl)
            try simp only [List.getElem_toArray, List.getElem_cons_zero, List.getElem_cons_succ, Act.put, List.setIfInBounds_toArray, List.set_cons_zero, List.set_cons_succ]
            refine wpAnyH_take (i := 16) (v := ?_) rfl (by kernel_rfl) (by kernel_rfl) (by kernel_rfl) (fun _ _ _ h => h) (Or.inl ⟨by rfl, ?_⟩) (by assumption) ?_
            rotate_left 1
            · intro w' hSw
              obtain ⟨x0, x1, x2, x3, x4, y0, y1, y2, y3, y4⟩ := hSw
              go_simp
              all_goals first | with_reducible rfl | (rw [if_pos (by omega)]; with_reducible rfl) | (rw [if_neg (by omega)]; with_reducible rfl)
            try simp only [List.getElem_toArray, List.getElem_cons_zero, List.getElem_cons_succ, Act.put, List.setIfInBounds_toArray, List.set_cons_zero, List.set_cons_succ]
            refine wpAnyH_done (by kernel_rfl) ?_ _
            refine NoPanic.normal ?_
            go_wp2
            go_ret
            exact ⟨j, rfl, Nat.le_of_lt hlt, HA.out, HAD.out, HBL.out.trans ((((B0.out.drew.alloc B0.out.size _).alloc (by simp; omega) _).alloc (by simp; omega) _).mono HBL.out.size)⟩
          · have HC : Hid (∀ W, Calls Try.prog 41 #[.agg #[.int .i64 s.e, .int .i64 s.q, .bool s.f, .bool s.z, .string s.d]] W fun e w' => ∃ v, e = .returned v ∧ v = .int .i64 0 ∧ w' = W.alloc (.cells #[.int .i64 s.e, .int .i64 s.q, .bool s.f, .bool s.z, .string s.d] 81)) := Lib.hid (fun W => (check5 s W).mono (fun e w' h => ⟨_, h.1, by rw [hr]; rfl, h.2⟩))
            have HAD : Hid (adv5 R j = true) := Lib.hid (by obtain ⟨k, rfl⟩ : ∃ k, j = k + 1 := ⟨j - 1, by omega⟩; unfold adv5; rw [HS.out]; simp only [Nat.add_sub_cancel] at ha; simp [hr, ha, hf])
            have HF : Hid (∀ W, Calls Try.prog 55 #[.agg #[.int .i64 a.e, .int .i64 a.q, .bool a.f, .bool a.z, .string a.d], .agg #[.int .i64 s.e, .int .i64 s.q, .bool s.f, .bool s.z, .string s.d]] W fun e w' => ∃ v, e = .returned v ∧ v = .bool true ∧ w' = (W.alloc (.cells #[.int .i64 a.e, .int .i64 a.q, .bool a.f, .bool a.z, .string a.d] 81)).alloc (.cells #[.int .i64 s.e, .int .i64 s.q, .bool s.f, .bool s.z, .string s.d] 81)) := Lib.hid (fun W => (follows5 a s W).mono (fun e w' h => ⟨_, h.1, by rw [hf], h.2⟩))
            have hd : decide ((0 : Int) < (j : Int)) = true := by simp; omega
            have hi5 : (1 : Int) ≤ (j : Int) := by omega
            have hi6 : (0 : Int) ≤ (j : Int) - 1 := by omega
            have hi7 : (j : Int) - 1 < (n : Int) := by omega
            have hit : ((j : Int) - 1).toNat = j - 1 := by omega
            have z6 := wrap_of ((j : Int) - 1) (by omega) (by omega)
            have HY : Hid (∀ k, k < 5 → ∀ X, Below wr.heap.size wr X → X.cell? ⟨b1, (j - 1) * 5 + k, none⟩ = (scells a)[k]?) := Lib.hid (fun k hk X hX => (hX.cell (p := ⟨b1, (j - 1) * 5 + k, none⟩) hlt1).trans ((HBL.out.cell (p := ⟨b1, (j - 1) * 5 + k, none⟩) lt1).trans (HQ.out (j - 1) a ha k hk)))
            clear hr hf ha
            have G0 := Lib.hid (Blk.new wr 81 [.int .i64 s.e, .int .i64 s.q, .bool s.f, .bool s.z, .string s.d])
            have B0 := Lib.hid ((Below.refl wr.heap.size wr).alloc (Nat.le_refl _) (.cells #[.int .i64 s.e, .int .i64 s.q, .bool s.f, .bool s.z, .string s.d] 81))
            refine wp_region_noPanic ?_
            refine wp_region_held_drew (S := fun X => X.cell? ⟨wr.heap.size, 0, none⟩ = some (.int .i64 s.e) ∧ X.cell? ⟨wr.heap.size, 1, none⟩ = some (.int .i64 s.q) ∧ X.cell? ⟨wr.heap.size, 2, none⟩ = some (.bool s.f) ∧ X.cell? ⟨wr.heap.size, 3, none⟩ = some (.bool s.z) ∧ X.cell? ⟨wr.heap.size, 4, none⟩ = some (.string s.d) ∧ X.cell? ⟨b1, (j - 1) * 5, none⟩ = some (.int .i64 a.e) ∧ X.cell? ⟨b1, (j - 1) * 5 + 1, none⟩ = some (.int .i64 a.q) ∧ X.cell? ⟨b1, (j - 1) * 5 + 2, none⟩ = some (.bool a.f) ∧ X.cell? ⟨b1, (j - 1) * 5 + 3, none⟩ = some (.bool a.z) ∧ X.cell? ⟨b1, (j - 1) * 5 + 4, none⟩ = some (.string a.d)) (by kernel_rfl) ⟨G0.out.drew.cell 0, G0.out.drew.cell 1, G0.out.drew.cell 2, G0.out.drew.cell 3, G0.out.drew.cell 4, HY.out 0 (by decide) _ (B0.out.drew), HY.out 1 (by decide) _ (B0.out.drew), HY.out 2 (by decide) _ (B0.out.drew), HY.out 3 (by decide) _ (B0.out.drew), HY.out 4 (by decide) _ (B0.out.drew)⟩ (fun hHeld => ?_)
            refine wpAnyH_take (i := 0) (v := ?_) rfl (by kernel_rfl) (by kernel_rfl) (by kernel_rfl) (fun _ _ _ h => h) (Or.inl ⟨by rfl, ?_⟩) (by assumption) ?_
            rotate_left 1
            · intro w' hSw
              obtain ⟨x0, x1, x2, x3, x4, y0, y1, y2, y3, y4⟩ := hSw
              go_simp
              all_goals first | with_reducible rfl | (rw [if_pos (by omega)]; with_reducible rfl) | (rw [if_neg (by omega)]; with_reducible rfl)
            try simp only [List.getElem_toArray, List.getElem_cons_zero, Act.put, List.setIfInBounds_toArray, List.set_cons_zero, List.set_cons_succ]
            refine wpAnyH_ready (rs := [1]) (by kernel_rfl) (by simp) ?_
            refine AllReadyH.cons rfl (fun K hK => ?_) AllReadyH.nil
            refine step_call rfl 41 Try.f41 _ _ rfl Try.func41 (by kernel_rfl) (by kernel_rfl) _ _ (HC.out _) (by go_simp) ?_
            rintro v1 w1 ⟨rfl, rfl⟩
            refine hK.out _ _ ⟨(G0.out.drew.alloc _).cell 0, (G0.out.drew.alloc _).cell 1, (G0.out.drew.alloc _).cell 2, (G0.out.drew.alloc _).cell 3, (G0.out.drew.alloc _).cell 4, HY.out 0 (by decide) _ (B0.out.drew.alloc B0.out.size _), HY.out 1 (by decide) _ (B0.out.drew.alloc B0.out.size _), HY.out 2 (by decide) _ (B0.out.drew.alloc B0.out.size _), HY.out 3 (by decide) _ (B0.out.drew.alloc B0.out.size _), HY.out 4 (by decide) _ (B0.out.drew.alloc B0.out.size _)⟩ (fun hHeld => ?_)
            clear hK K
            try simp only [List.getElem_toArray, List.getElem_cons_zero, List.getElem_cons_succ, Act.put, List.setIfInBounds_toArray, List.set_cons_zero, List.set_cons_succ]
            refine wpAnyH_take (i := 2) (v := ?_) rfl (by kernel_rfl) (by kernel_rfl) (by kernel_rfl) (fun _ _ _ h => h) (Or.inl ⟨by rfl, ?_⟩) (by assumption) ?_
            rotate_left 1
            · intro w' hSw
              obtain ⟨x0, x1, x2, x3, x4, y0, y1, y2, y3, y4⟩ := hSw
              go_simp
              all_goals first | with_reducible rfl | (rw [if_pos (by omega)]; with_reducible rfl) | (rw [if_neg (by omega)]; with_reducible rfl)
            try simp only [List.getElem_toArray, List.getElem_cons_zero, List.getElem_cons_succ, Act.put, List.setIfInBounds_toArray, List.set_cons_zero, List.set_cons_succ]
            refine wpAnyH_take (i := 3) (v := ?_) rfl (by kernel_rfl) (by kernel_rfl) (by kernel_rfl) (fun _ _ _ h => h) (Or.inl ⟨by rfl, ?_⟩) (by assumption) ?_
            rotate_left 1
            · intro w' hSw
              obtain ⟨x0, x1, x2, x3, x4, y0, y1, y2, y3, y4⟩ := hSw
              go_simp
              all_goals first | with_reducible rfl | (rw [if_pos (by omega)]; with_reducible rfl) | (rw [if_neg (by omega)]; with_reducible rfl)
            try simp only [List.getElem_toArray, List.getElem_cons_zero, List.getElem_cons_succ, Act.put, List.setIfInBounds_toArray, List.set_cons_zero, List.set_cons_succ]
            refine wpAnyH_take (i := 4) (v := ?_) rfl (by kernel_rfl) (by kernel_rfl) (by kernel_rfl) (fun _ _ _ h => h) (Or.inl ⟨by rfl, ?_⟩) (by assumption) ?_
            rotate_left 1
            · intro w' hSw
              obtain ⟨x0, x1, x2, x3, x4, y0, y1, y2, y3, y4⟩ := hSw
              go_simp
              all_goals first | with_reducible rfl | (rw [if_pos (by omega)]; with_reducible rfl) | (rw [if_neg (by omega)]; with_reducible rfl)
            try simp only [List.getElem_toArray, List.getElem_cons_zero, List.getElem_cons_succ, Act.put, List.setIfInBounds_toArray, List.set_cons_zero, List.set_cons_succ]
            refine wpAnyH_take (i := 5) (v := .bool true) rfl (by kernel_rfl) (by kernel_rfl) (by kernel_rfl) (fun _ _ _ h => h) (Or.inl ⟨by rfl, ?_⟩) (by assumption) ?_
            · intro w' hSw
              clear hSw hHeld
              go_simp
              omega
            try simp only [List.getElem_toArray, List.getElem_cons_zero, List.getElem_cons_succ, Act.put, List.setIfInBounds_toArray, List.set_cons_zero, List.set_cons_succ]
            refine wpAnyH_take (i := 6) (v := ?_) rfl (by kernel_rfl) (by kernel_rfl) (by kernel_rfl) (fun _ _ _ h => h) (Or.inl ⟨by rfl, ?_⟩) (by assumption) ?_
            rotate_left 1
            · intro w' hSw
              obtain ⟨x0, x1, x2, x3, x4, y0, y1, y2, y3, y4⟩ := hSw
              go_simp
              all_goals first | with_reducible rfl | (rw [if_pos (by omega)]; with_reducible rfl) | (rw [if_neg (by omega)]; with_reducible rfl)
            try simp only [List.getElem_toArray, List.getElem_cons_zero, List.getElem_cons_succ, Act.put, List.setIfInBounds_toArray, List.set_cons_zero, List.set_cons_succ]
            refine wpAnyH_take (i := 7) (v := ?_) rfl (by kernel_rfl) (by kernel_rfl) (by kernel_rfl) (fun _ _ _ h => h) (Or.inl ⟨by rfl, ?_⟩) (by assumption) ?_
            rotate_left 1
            · intro w' hSw
              obtain ⟨x0, x1, x2, x3, x4, y0, y1, y2, y3, y4⟩ := hSw
              go_simp
              all_goals first | with_reducible rfl | (rw [if_pos (by omega)]; with_reducible rfl) | (rw [if_neg (by omega)]; with_reducible rfl)
            try simp only [List.getElem_toArray, List.getElem_cons_zero, List.getElem_cons_succ, Act.put, List.setIfInBounds_toArray, List.set_cons_zero, List.set_cons_succ]
            refine wpAnyH_take (i := 8) (v := ?_) rfl (by kernel_rfl) (by kernel_rfl) (by kernel_rfl) (fun _ _ _ h => h) (Or.inl ⟨by rfl, ?_⟩) (by assumption) ?_
            rotate_left 1
            · intro w' hSw
              obtain ⟨x0, x1, x2, x3, x4, y0, y1, y2, y3, y4⟩ := hSw
              go_simp
              all_goals first | with_reducible rfl | (rw [if_pos (by omega)]; with_reducible rfl) | (rw [if_neg (by omega)]; with_reducible rfl)
            try simp only [List.getElem_toArray, List.getElem_cons_zero, List.getElem_cons_succ, Act.put, List.setIfInBounds_toArray, List.set_cons_zero, List.set_cons_succ]
            refine wpAnyH_take (i := 9) (v := ?_) rfl (by kernel_rfl) (by kernel_rfl) (by kernel_rfl) (fun _ _ _ h => h) (Or.inl ⟨by rfl, ?_⟩) (by assumption) ?_
            rotate_left 1
            · intro w' hSw
              obtain ⟨x0, x1, x2, x3, x4, y0, y1, y2, y3, y4⟩ := hSw
              go_simp
              all_goals first | with_reducible rfl | (rw [if_pos (by omega)]; with_reducible rfl) | (rw [if_neg (by omega)]; with_reducible rfl)
            try simp only [List.getElem_toArray, List.getElem_cons_zero, List.getElem_cons_succ, Act.put, List.setIfInBounds_toArray, List.set_cons_zero, List.set_cons_succ]
            refine wpAnyH_take (i := 10) (v := ?_) rfl (by kernel_rfl) (by kernel_rfl) (by kernel_rfl) (fun _ _ _ h => h) (Or.inl ⟨by rfl, ?_⟩) (by assumption) ?_
            rotate_left 1
            · intro w' hSw
              obtain ⟨x0, x1, x2, x3, x4, y0, y1, y2, y3, y4⟩ := hSw
              go_simp
              all_goals first | with_reducible rfl | (rw [if_pos (by omega)]; with_reducible rfl) | (rw [if_neg (by omega)]; with_reducible rfl)
            try simp only [List.getElem_toArray, List.getElem_cons_zero, List.getElem_cons_succ, Act.put, List.setIfInBounds_toArray, List.set_cons_zero, List.set_cons_succ]
            refine wpAnyH_take (i := 11) (v := ?_) rfl (by kernel_rfl) (by kernel_rfl) (by kernel_rfl) (fun _ _ _ h => h) (Or.inl ⟨by rfl, ?_⟩) (by assumption) ?_
            rotate_left 1
            · intro w' hSw
              obtain ⟨x0, x1, x2, x3, x4, y0, y1, y2, y3, y4⟩ := hSw
              go_simp
              all_goals first | with_reducible rfl | (rw [if_pos (by omega)]; with_reducible rfl) | (rw [if_neg (by omega)]; with_reducible rfl)
            try simp only [List.getElem_toArray, List.getElem_cons_zero, List.getElem_cons_succ, Act.put, List.setIfInBounds_toArray, List.set_cons_zero, List.set_cons_succ]
            refine wpAnyH_take (i := 12) (v := ?_) rfl (by kernel_rfl) (by kernel_rfl) (by kernel_rfl) (fun _ _ _ h => h) (Or.inl ⟨by rfl, ?_⟩) (by assumption) ?_
            rotate_left 1
            · intro w' hSw
              obtain ⟨x0, x1, x2, x3, x4, y0, y1, y2, y3, y4⟩ := hSw
              go_simp
              all_goals first | with_reducible rfl | (rw [if_pos (by omega)]; with_reducible rfl) | (rw [if_neg (by omega)]; with_reducible rfl)
            try simp only [List.getElem_toArray, List.getElem_cons_zero, List.getElem_cons_succ, Act.put, List.setIfInBounds_toArray, List.set_cons_zero, List.set_cons_succ]
            refine wpAnyH_ready (rs := [13]) (by kernel_rfl) (by simp) ?_
            refine AllReadyH.cons rfl (fun K hK => ?_) AllReadyH.nil
            refine step_call_on 55 Try.f55 _ _ rfl Try.func55 (by kernel_rfl) (by kernel_rfl) _ _ (HF.out _) (by go_simp) (by first | rfl | go_simp) ?_
            rintro v13 w13 ⟨rfl, rfl⟩
            refine hK.out _ _ ⟨(((G0.out.drew.alloc _).alloc _).alloc _).cell 0, (((G0.out.drew.alloc _).alloc _).alloc _).cell 1, (((G0.out.drew.alloc _).alloc _).alloc _).cell 2, (((G0.out.drew.alloc _).alloc _).alloc _).cell 3, (((G0.out.drew.alloc _).alloc _).alloc _).cell 4, HY.out 0 (by decide) _ (((B0.out.drew.alloc B0.out.size _).alloc (by simp; omega) _).alloc (by simp; omega) _), HY.out 1 (by decide) _ (((B0.out.drew.alloc B0.out.size _).alloc (by simp; omega) _).alloc (by simp; omega) _), HY.out 2 (by decide) _ (((B0.out.drew.alloc B0.out.size _).alloc (by simp; omega) _).alloc (by simp; omega) _), HY.out 3 (by decide) _ (((B0.out.drew.alloc B0.out.size _).alloc (by simp; omega) _).alloc (by simp; omega) _), HY.out 4 (by decide) _ (((B0.out.drew.alloc B0.out.size _).alloc (by simp; omega) _).alloc (by simp; omega) _)⟩ (fun hHeld => ?_)
            clear hK K
            try simp only [List.getElem_toArray, List.getElem_cons_zero, List.getElem_cons_succ, Act.put, List.setIfInBounds_toArray, List.set_cons_zero, List.set_cons_succ]
            refine wpAnyH_take (i := 14) (v := ?_) rfl (by kernel_rfl) (by kernel_rfl) (by kernel_rfl) (fun _ _ _ h => h) (Or.inl ⟨by rfl, ?_⟩) (by assumption) ?_
            rotate_left 1
            · intro w' hSw
              obtain ⟨x0, x1, x2, x3, x4, y0, y1, y2, y3, y4⟩ := hSw
              go_simp
              all_goals first | with_reducible rfl | (rw [if_pos (by omega)]; with_reducible rfl) | (rw [if_neg (by omega)]; with_reducible rfl)
            try simp only [List.getElem_toArray, List.getElem_cons_zero, List.getElem_cons_succ, Act.put, List.setIfInBounds_toArray, List.set_cons_zero, List.set_cons_succ]
            refine wpAnyH_take (i := 15) (v := ?_) rfl (by kernel_rfl) (by kernel_rfl) (by kernel_rfl) (fun _ _ _ h => h) (Or.inl ⟨by rfl, ?_⟩) (by assumption) ?_
            rotate_left 1
            · intro w' hSw
              obtain ⟨x0, x1, x2, x3, x4, y0, y1, y2, y3, y4⟩ := hSw
              go_simp
              all_goals first | with_reducible rfl | (rw [if_pos (by omega)]; with_reducible rfl) | (rw [if_neg (by omega)]; with_reducible rfl)
            try simp only [List.getElem_toArray, List.getElem_cons_zero, List.getElem_cons_succ, Act.put, List.setIfInBounds_toArray, List.set_cons_zero, List.set_cons_succ]
            refine wpAnyH_take (i := 16) (v := ?_) rfl (by kernel_rfl) (by kernel_rfl) (by kernel_rfl) (fun _ _ _ h => h) (Or.inl ⟨by rfl, ?_⟩) (by assumption) ?_
            rotate_left 1
            · intro w' hSw
              obtain ⟨x0, x1, x2, x3, x4, y0, y1, y2, y3, y4⟩ := hSw
              go_simp
              all_goals first | with_reducible rfl | (rw [if_pos (by omega)]; with_reducible rfl) | (rw [if_neg (by omega)]; with_reducible rfl)
            try simp only [List.getElem_toArray, List.getElem_cons_zero, List.getElem_cons_succ, Act.put, List.setIfInBounds_toArray, List.set_cons_zero, List.set_cons_succ]
            refine wpAnyH_done (by kernel_rfl) ?_ _
            refine NoPanic.normal ?_
            go_wp2
            go_roundw
            case rel => exact ⟨j + 1, hlt, by first | (simp; done) | (simp; omega), HBL.out.trans ((((B0.out.drew.alloc B0.out.size _).alloc (by simp; omega) _).alloc (by simp; omega) _).mono HBL.out.size), fun i hi => by rcases Nat.lt_succ_iff_lt_or_eq.1 hi with h | h; exact HA.out i h; rw [h]; exact HAD.out⟩
            case measure => simp [intOf]; omega
      -- end of region
    · obtain rfl : j = n := by omega
      have HAN : Hid (adv5 R j = false) := Lib.hid (by unfold adv5; rw [List.getElem?_eq_none (by rw [HN.out]; omega)])
      go_wp2
      go_ret
      exact ⟨j, rfl, Nat.le_refl _, HA.out, HAN.out, hbl⟩
end Go.Proofs.Ythhmodbggngelaa
