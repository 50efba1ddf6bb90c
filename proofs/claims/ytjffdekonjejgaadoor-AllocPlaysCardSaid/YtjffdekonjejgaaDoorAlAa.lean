/- Layer 7: a call of both. -/
import Derived.Test.YtjffdekonjejgaaDoorAlZ
namespace Go.Proofs.YtjffdekonjejgaaDoor
open Go.RowKit
set_option linter.unusedVariables false
set_option maxRecDepth 100000

theorem tf_apart {W : World} {v : Value} {l l' : List Bool} {p g : Nat} (h : Tf W v l) (ha : Al W p g l') : ∀ q, v.ownBlock = some q → ¬ q = g := by
  obtain ⟨b, c, r, rfl, hb⟩ := h
  obtain ⟨c2, rest, _, h2, _⟩ := ha
  intro q hq e
  simp [Value.ownBlock] at hq
  subst hq
  subst e
  exact absurd (hb.same h2).1 (by decide)
theorem blk_apart {W : World} {t q : Nat} {cs : List Value} {l' : List Bool} {p g : Nat} (hb : Blk W q t cs) (ht : t ≠ 62) (ha : Al W p g l') : ¬ q = g := by
  obtain ⟨c2, rest, _, h2, _⟩ := ha
  intro e
  subst e
  exact ht (hb.same h2).1
/-- How a call of both ends. -/
def StepPost (w : World) (p g n : Nat) (r : Ending) (w' : World) : Prop := ∃ p' g' v' l', r = .returned (.tuple #[.pointer (some ⟨p', 0, none⟩), .agg #[v'], .bool true]) ∧ Al w' p' g' l' ∧ Tf w' v' l' ∧ l'.length = n ∧ (w.heap.size ≤ p' ∨ p' = p) ∧ (w.heap.size ≤ g' ∨ g' = g) ∧ Turn (· = g) w w'
/-- The world in which a call of both begins. -/
theorem step_world (w : World) (v : Value) (q : Ac) : ∃ W3, W3 = ((w.alloc (.cells #[v] 29)).alloc (.cells #[.int .i64 q.k, .int .i64 q.i, .int .i64 q.c] 36)).alloc (.cells #[.slice none 0 0] 29) ∧ Turn (fun _ => False) w W3 ∧ W3.heap.size = w.heap.size + 1 + 1 + 1 ∧
    Blk W3 w.heap.size 29 [v] ∧ Blk W3 (w.heap.size + 1) 36 [.int .i64 q.k, .int .i64 q.i, .int .i64 q.c] ∧ Blk W3 (w.heap.size + 1 + 1) 29 [.slice none 0 0] :=
  ⟨_, rfl, (((Turn.refl _ w).alloc _).alloc _).alloc _, by simp, ((Blk.new w 29 [v]).alloc _).alloc _, (Blk.new_ _ 36 [.int .i64 q.k, .int .i64 q.i, .int .i64 q.c] (by simp)).alloc _, Blk.new_ _ 29 [.slice none 0 0] (by simp)⟩
set_option maxHeartbeats 8000000 in
theorem step7_any {w : World} {p g : Nat} {l : List Bool} {v : Value} (ha : Al w p g l) (hv : Tf w v l) (q : Ac) (hi : -9223372036854775808 ≤ q.i ∧ q.i ≤ 9223372036854775807) (hc : -9223372036854775808 ≤ q.c ∧ q.c ≤ 9223372036854775807) :
    Calls Tryd.prog 11 #[.pointer (some ⟨p, 0, none⟩), .agg #[v], .agg #[.int .i64 q.k, .int .i64 q.i, .int .i64 q.c]] w (StepPost w p g l.length) := by
  obtain ⟨W3, hW3, t3, s3, b0, b1, b2⟩ := step_world w v q
  have HW3 := Lib.hid hW3
  have HA := Lib.hid ha
  have HV := Lib.hid hv
  have T3 := Lib.hid t3
  have B0 := Lib.hid b0
  have B1 := Lib.hid b1
  have B2 := Lib.hid b2
  have A3 := Lib.hid (ha.still t3)
  have V3 := Lib.hid (hv.still t3)
  have hl := ha.le
  have hl0 := ha.pos
  have hpl := ha.ltp
  have hgl := ha.ltg
  obtain ⟨vb, vc, hvs⟩ := hv.sl
  obtain ⟨N, hN⟩ : ∃ N, N = l.length := ⟨_, rfl⟩
  have HN := Lib.hid hN
  rw [← hN] at hvs hl hl0
  subst hvs
  obtain ⟨qk, qi, qc⟩ := q
  simp only at hi hc hW3 b0 b1 b2 B0 B1 B2 HW3 ⊢
  have x0 := b0.cell 0
  have x1 := b1.cell 0
  have x2 := b1.cell 1
  have x3 := b1.cell 2
  have x4 := b2.cell 0
  have x5 := b2.free 0
  simp only [List.getElem?_cons_zero, List.getElem?_cons_succ] at x0 x1 x2 x3 x4
  clear ha hv t3 b0 b1 b2 hN hW3
  by_cases hk1 : qk = 1
  · subst hk1
    have HC := Lib.hid (refClaim7 _ l qi (by rw [← HN.out]; exact hl) (by rw [← HN.out]; exact hl0) W3 V3.out)
    have HL := Lib.hid (len_clm7 l qi)
    have HCA := Lib.hid (fun W (hW : Al W p g l) => claim7 hW qi)
    generalize clm7 l qi = X at *
    go_enter Tryd.func11, Tryd.ntmps11
    go_wp2_with (go_at_call 24; rw [← HW3.out]; refine HC.out.mono ?_; rintro e W4 ⟨v4, rfl, hv4, ht4⟩; obtain ⟨b4, c4, rfl⟩ := hv4.sl; have V4 := Lib.hid hv4; have T4 := Lib.hid ht4; clear hv4 ht4)
    have N5 := Lib.hid (Blk.new W4 29 [.slice (some ⟨b4, 0, none⟩) X.1.length c4])
    have T5 := Lib.hid ((T4.out.alloc (.cells #[.slice (some ⟨b4, 0, none⟩) X.1.length c4] 29)).drew)
    have A5 := Lib.hid (A3.out.still T5.out)
    have V5 := Lib.hid (V4.out.still (((Turn.refl (fun _ => False) W4).alloc (.cells #[.slice (some ⟨b4, 0, none⟩) X.1.length c4] 29)).drew))
    have R5 := Lib.hid (B2.out.turn T5.out (fun h => h))
    have Q5 := Lib.hid (B1.out.turn T5.out (fun h => h))
    have hs4 := T4.out.size
    have hg1 := Lib.hid (blk_apart Q5.out (by decide) A5.out)
    have hg2 := Lib.hid (blk_apart R5.out (by decide) A5.out)
    have hg3 := Lib.hid (blk_apart N5.out.drew (by decide) A5.out)
    refine wp_region_noPanic ?_
    refine wp_region_held_drew (S := fun Y => Y.cell? ⟨W4.heap.size, 0, none⟩ = some (.slice (some ⟨b4, 0, none⟩) X.1.length c4) ∧ Y.cell? ⟨w.heap.size + 1, 1, none⟩ = some (.int .i64 qi) ∧ Y.cell? ⟨w.heap.size + 1, 2, none⟩ = some (.int .i64 qc)) (by kernel_rfl) ⟨N5.out.drew.cell 0, Q5.out.cell 1, Q5.out.cell 2⟩ (fun hHeld => ?_)
    -- region 4
    refine wpAnyH_take (i := 0) (v := ?_) rfl (by kernel_rfl) (by kernel_rfl) (by kernel_rfl) (fun _ _ _ h => h) (Or.inl ⟨by rfl, ?_⟩) (by assumption) ?_
    rotate_left 1
    · intro w' hSw
      go_simp
      all_goals first | with_reducible rfl | (rw [if_neg (by omega)]; done) | (rw [if_pos (by omega)]; done) | (rw [if_neg (by omega)]; with_reducible rfl) | (rw [if_pos (by omega)]; with_reducible rfl)
    try simp only [List.getElem_toArray, List.getElem_cons_zero, Act.put, List.setIfInBounds_toArray, List.set_cons_zero, List.set_cons_succ]
    refine wpAnyH_take (i := 1) (v := ?_) rfl (by kernel_rfl) (by kernel_rfl) (by kernel_rfl) (fun _ _ _ h => h) (Or.inl ⟨by rfl, ?_⟩) (by assumption) ?_
    rotate_left 1
    · intro w' hSw
      obtain ⟨p0, p1, p2⟩ := hSw
      go_simp
      all_goals first | with_reducible rfl | (rw [if_neg (by omega)]; done) | (rw [if_pos (by omega)]; done) | (rw [if_neg (by omega)]; with_reducible rfl) | (rw [if_pos (by omega)]; with_reducible rfl)
    try simp only [List.getElem_toArray, List.getElem_cons_zero, List.getElem_cons_succ, Act.put, List.setIfInBounds_toArray, List.set_cons_zero, List.set_cons_succ]
    refine wpAnyH_take (i := 2) (v := ?_) rfl (by kernel_rfl) (by kernel_rfl) (by kernel_rfl) (fun _ _ _ h => h) (Or.inl ⟨by rfl, ?_⟩) (by assumption) ?_
    rotate_left 1
    · intro w' hSw
      go_simp
      all_goals first | with_reducible rfl | (rw [if_neg (by omega)]; done) | (rw [if_pos (by omega)]; done) | (rw [if_neg (by omega)]; with_reducible rfl) | (rw [if_pos (by omega)]; with_reducible rfl)
    try simp only [List.getElem_toArray, List.getElem_cons_zero, List.getElem_cons_succ, Act.put, List.setIfInBounds_toArray, List.set_cons_zero, List.set_cons_succ]
    refine wpAnyH_take (i := 3) (v := ?_) rfl (by kernel_rfl) (by kernel_rfl) (by kernel_rfl) (fun _ _ _ h => h) (Or.inl ⟨by rfl, ?_⟩) (by assumption) ?_
    rotate_left 1
    · intro w' hSw
      go_simp
      all_goals first | with_reducible rfl | (rw [if_neg (by omega)]; done) | (rw [if_pos (by omega)]; done) | (rw [if_neg (by omega)]; with_reducible rfl) | (rw [if_pos (by omega)]; with_reducible rfl)
    try simp only [List.getElem_toArray, List.getElem_cons_zero, List.getElem_cons_succ, Act.put, List.setIfInBounds_toArray, List.set_cons_zero, List.set_cons_succ]
    refine wpAnyH_take (i := 4) (v := ?_) rfl (by kernel_rfl) (by kernel_rfl) (by kernel_rfl) (fun _ _ _ h => h) (Or.inl ⟨by rfl, ?_⟩) (by assumption) ?_
    rotate_left 1
    · intro w' hSw
      obtain ⟨p0, p1, p2⟩ := hSw
      go_simp
      all_goals first | with_reducible rfl | (rw [if_neg (by omega)]; done) | (rw [if_pos (by omega)]; done) | (rw [if_neg (by omega)]; with_reducible rfl) | (rw [if_pos (by omega)]; with_reducible rfl)
    try simp only [List.getElem_toArray, List.getElem_cons_zero, List.getElem_cons_succ, Act.put, List.setIfInBounds_toArray, List.set_cons_zero, List.set_cons_succ]
    refine wpAnyH_take (i := 6) (v := ?_) rfl (by kernel_rfl) (by kernel_rfl) (by kernel_rfl) (fun _ _ _ h => h) (Or.inl ⟨by rfl, ?_⟩) (by assumption) ?_
    rotate_left 1
    · intro w' hSw
      go_simp
      all_goals first | with_reducible rfl | (rw [if_neg (by omega)]; done) | (rw [if_pos (by omega)]; done) | (rw [if_neg (by omega)]; with_reducible rfl) | (rw [if_pos (by omega)]; with_reducible rfl)
    try simp only [List.getElem_toArray, List.getElem_cons_zero, List.getElem_cons_succ, Act.put, List.setIfInBounds_toArray, List.set_cons_zero, List.set_cons_succ]
    refine wpAnyH_ready (rs := [5]) (by kernel_rfl) (by simp) ?_
    refine AllReadyH.cons rfl (fun K hK => ?_) AllReadyH.nil
    refine step_call rfl 22 Tryd.f22 _ _ rfl Tryd.func22 (by kernel_rfl) (by kernel_rfl) _ _ ((HCA.out _ A5.out).mono (fun e w' h => (⟨_, h.1, rfl, h.2⟩ : ∃ v, e = .returned v ∧ (v = .int .i64 X.2 ∧ Al w' p g X.1 ∧ Turn (· = g) (W4.alloc (.cells #[.slice (some ⟨b4, 0, none⟩) X.1.length c4] 29)).drew w')))) (by go_simp) ?_
    rintro v6 w6 ⟨rfl, ha6, ht6⟩
    have A6 := Lib.hid ha6
    have T6 := Lib.hid ht6
    have R6 := Lib.hid (R5.out.turn ht6 hg2.out)
    have Q6 := Lib.hid (Q5.out.turn ht6 hg1.out)
    have N6 := Lib.hid (N5.out.drew.turn ht6 hg3.out)
    have V6 := Lib.hid (V5.out.turn ht6 (tf_apart V5.out A5.out))
    have r6 := R6.out.cell 0
    have rz6 := R6.out.free 0
    simp only [List.getElem?_cons_zero] at r6
    clear ha6 ht6
    refine hK.out _ _ ⟨N6.out.cell 0, Q6.out.cell 1, Q6.out.cell 2⟩ (fun hHeld => ?_)
    clear hK K
    try simp only [List.getElem_toArray, List.getElem_cons_zero, List.getElem_cons_succ, Act.put, List.setIfInBounds_toArray, List.set_cons_zero, List.set_cons_succ]
    refine wpAnyH_take (i := 7) (v := ?_) rfl (by kernel_rfl) (by kernel_rfl) (by kernel_rfl) (fun _ _ _ h => h) (Or.inl ⟨by rfl, ?_⟩) (by assumption) ?_
    rotate_left 1
    · intro w' hSw
      go_simp
      all_goals first | with_reducible rfl | (rw [if_neg (by omega)]; done) | (rw [if_pos (by omega)]; done) | (rw [if_neg (by omega)]; with_reducible rfl) | (rw [if_pos (by omega)]; with_reducible rfl)
    try simp only [List.getElem_toArray, List.getElem_cons_zero, List.getElem_cons_succ, Act.put, List.setIfInBounds_toArray, List.set_cons_zero, List.set_cons_succ]
    refine wpAnyH_take (i := 8) (v := ?_) rfl (by kernel_rfl) (by kernel_rfl) (by kernel_rfl) (fun _ _ _ h => h) (Or.inl ⟨by rfl, ?_⟩) (by assumption) ?_
    rotate_left 1
    · intro w' hSw
      go_simp
      all_goals first | with_reducible rfl | (rw [if_neg (by omega)]; done) | (rw [if_pos (by omega)]; done) | (rw [if_neg (by omega)]; with_reducible rfl) | (rw [if_pos (by omega)]; with_reducible rfl)
    try simp only [List.getElem_toArray, List.getElem_cons_zero, List.getElem_cons_succ, Act.put, List.setIfInBounds_toArray, List.set_cons_zero, List.set_cons_succ]
    refine wpAnyH_ready (rs := [9]) (by kernel_rfl) (by simp) ?_
    refine AllReadyH.cons rfl (fun K hK => ?_) AllReadyH.nil
    go_simp
    have TS := Lib.hid ((Turn.refl (fun k => k = w.heap.size + 1 + 1) w6).setCell (p := ⟨w.heap.size + 1 + 1, 0, none⟩) (.inl rfl) (.slice (some ⟨b4, 0, none⟩) X.1.length c4))
    have hgR : ¬ g = w.heap.size + 1 + 1 := fun e => hg2.out e.symm
    refine hK.out _ _ ⟨(N6.out.turn TS.out (by omega)).cell 0, (Q6.out.turn TS.out (by omega)).cell 1, (Q6.out.turn TS.out (by omega)).cell 2⟩ (fun hHeld => ?_)
    clear hK K
    try simp only [List.getElem_toArray, List.getElem_cons_zero, List.getElem_cons_succ, Act.put, List.setIfInBounds_toArray, List.set_cons_zero, List.set_cons_succ]
    refine wpAnyH_take (i := 10) (v := ?_) rfl (by kernel_rfl) (by kernel_rfl) (by kernel_rfl) (fun _ _ _ h => h) (Or.inl ⟨by rfl, ?_⟩) (by assumption) ?_
    rotate_left 1
    · intro w' hSw
      go_simp
      all_goals first | with_reducible rfl | (rw [if_neg (by omega)]; done) | (rw [if_pos (by omega)]; done) | (rw [if_neg (by omega)]; with_reducible rfl) | (rw [if_pos (by omega)]; with_reducible rfl)
    try simp only [List.getElem_toArray, List.getElem_cons_zero, List.getElem_cons_succ, Act.put, List.setIfInBounds_toArray, List.set_cons_zero, List.set_cons_succ]
    refine wpAnyH_done (by kernel_rfl) ?_ _
    refine NoPanic.normal ?_
    -- region 4 end
    clear hHeld
    go_wp2
    have z0 := (R6.out.put 0 (.slice (some ⟨b4, 0, none⟩) X.1.length c4)).cell 0
    simp only [List.set_cons_zero, List.getElem?_cons_zero] at z0
    refine bodyPost_ret (v := .tuple #[.pointer (some ⟨p, 0, none⟩), .agg #[.slice (some ⟨b4, 0, none⟩) X.1.length c4], .bool true]) (by simp [results, Tryd.results11, go_sem, z0]) rfl ?_
    exact ⟨p, g, _, X.1, rfl, A6.out.turn TS.out (by omega) hgR (by omega), V6.out.turn TS.out (fun q hq e => tf_far V6.out R6.out q hq e), HL.out, .inr rfl, .inr rfl, ((((T3.out.trans T5.out).mono (T := fun k => k = g) (fun _ _ h => h.elim)).trans T6.out).trans_new TS.out (fun k hk h => by omega))⟩
  · by_cases hk2 : qk = 2
    · subst hk2
      have HC := Lib.hid (refGive7 _ l qi qc hi hc (by rw [← HN.out]; exact hl) (by rw [← HN.out]; exact hl0) W3 V3.out)
      have HL := Lib.hid (len_giv7 l qi qc)
      have HCA := Lib.hid (fun W (hW : Al W p g l) => give7 hW qi qc hi hc)
      generalize giv7 l qi qc = X at *
      clear hk1
      go_enter Tryd.func11, Tryd.ntmps11
      go_wp2_with (go_at_call 25; rw [← HW3.out]; refine HC.out.mono ?_; rintro e W4 ⟨v4, rfl, hv4, ht4⟩; obtain ⟨b4, c4, rfl⟩ := hv4.sl; have V4 := Lib.hid hv4; have T4 := Lib.hid ht4; clear hv4 ht4)
      have N5 := Lib.hid (Blk.new W4 29 [.slice (some ⟨b4, 0, none⟩) X.1.length c4])
      have T5 := Lib.hid ((T4.out.alloc (.cells #[.slice (some ⟨b4, 0, none⟩) X.1.length c4] 29)).drew)
      have A5 := Lib.hid (A3.out.still T5.out)
      have V5 := Lib.hid (V4.out.still (((Turn.refl (fun _ => False) W4).alloc (.cells #[.slice (some ⟨b4, 0, none⟩) X.1.length c4] 29)).drew))
      have R5 := Lib.hid (B2.out.turn T5.out (fun h => h))
      have Q5 := Lib.hid (B1.out.turn T5.out (fun h => h))
      have hs4 := T4.out.size
      have hg1 := Lib.hid (blk_apart Q5.out (by decide) A5.out)
      have hg2 := Lib.hid (blk_apart R5.out (by decide) A5.out)
      have hg3 := Lib.hid (blk_apart N5.out.drew (by decide) A5.out)
      refine wp_region_noPanic ?_
      refine wp_region_held_drew (S := fun Y => Y.cell? ⟨W4.heap.size, 0, none⟩ = some (.slice (some ⟨b4, 0, none⟩) X.1.length c4) ∧ Y.cell? ⟨w.heap.size + 1, 1, none⟩ = some (.int .i64 qi) ∧ Y.cell? ⟨w.heap.size + 1, 2, none⟩ = some (.int .i64 qc)) (by kernel_rfl) ⟨N5.out.drew.cell 0, Q5.out.cell 1, Q5.out.cell 2⟩ (fun hHeld => ?_)
      -- region 7
      refine wpAnyH_take (i := 0) (v := ?_) rfl (by kernel_rfl) (by kernel_rfl) (by kernel_rfl) (fun _ _ _ h => h) (Or.inl ⟨by rfl, ?_⟩) (by assumption) ?_
      rotate_left 1
      · intro w' hSw
        go_simp
        all_goals first | with_reducible rfl | (rw [if_neg (by omega)]; done) | (rw [if_pos (by omega)]; done) | (rw [if_neg (by omega)]; with_reducible rfl) | (rw [if_pos (by omega)]; with_reducible rfl)
      try simp only [List.getElem_toArray, List.getElem_cons_zero, Act.put, List.setIfInBounds_toArray, List.set_cons_zero, List.set_cons_succ]
      refine wpAnyH_take (i := 1) (v := ?_) rfl (by kernel_rfl) (by kernel_rfl) (by kernel_rfl) (fun _ _ _ h => h) (Or.inl ⟨by rfl, ?_⟩) (by assumption) ?_
      rotate_left 1
      · intro w' hSw
        obtain ⟨p0, p1, p2⟩ := hSw
        go_simp
        all_goals first | with_reducible rfl | (rw [if_neg (by omega)]; done) | (rw [if_pos (by omega)]; done) | (rw [if_neg (by omega)]; with_reducible rfl) | (rw [if_pos (by omega)]; with_reducible rfl)
      try simp only [List.getElem_toArray, List.getElem_cons_zero, List.getElem_cons_succ, Act.put, List.setIfInBounds_toArray, List.set_cons_zero, List.set_cons_succ]
      refine wpAnyH_take (i := 2) (v := ?_) rfl (by kernel_rfl) (by kernel_rfl) (by kernel_rfl) (fun _ _ _ h => h) (Or.inl ⟨by rfl, ?_⟩) (by assumption) ?_
      rotate_left 1
      · intro w' hSw
        go_simp
        all_goals first | with_reducible rfl | (rw [if_neg (by omega)]; done) | (rw [if_pos (by omega)]; done) | (rw [if_neg (by omega)]; with_reducible rfl) | (rw [if_pos (by omega)]; with_reducible rfl)
      try simp only [List.getElem_toArray, List.getElem_cons_zero, List.getElem_cons_succ, Act.put, List.setIfInBounds_toArray, List.set_cons_zero, List.set_cons_succ]
      refine wpAnyH_take (i := 3) (v := ?_) rfl (by kernel_rfl) (by kernel_rfl) (by kernel_rfl) (fun _ _ _ h => h) (Or.inl ⟨by rfl, ?_⟩) (by assumption) ?_
      rotate_left 1
      · intro w' hSw
        go_simp
        all_goals first | with_reducible rfl | (rw [if_neg (by omega)]; done) | (rw [if_pos (by omega)]; done) | (rw [if_neg (by omega)]; with_reducible rfl) | (rw [if_pos (by omega)]; with_reducible rfl)
      try simp only [List.getElem_toArray, List.getElem_cons_zero, List.getElem_cons_succ, Act.put, List.setIfInBounds_toArray, List.set_cons_zero, List.set_cons_succ]
      refine wpAnyH_take (i := 4) (v := ?_) rfl (by kernel_rfl) (by kernel_rfl) (by kernel_rfl) (fun _ _ _ h => h) (Or.inl ⟨by rfl, ?_⟩) (by assumption) ?_
      rotate_left 1
      · intro w' hSw
        obtain ⟨p0, p1, p2⟩ := hSw
        go_simp
        all_goals first | with_reducible rfl | (rw [if_neg (by omega)]; done) | (rw [if_pos (by omega)]; done) | (rw [if_neg (by omega)]; with_reducible rfl) | (rw [if_pos (by omega)]; with_reducible rfl)
      try simp only [List.getElem_toArray, List.getElem_cons_zero, List.getElem_cons_succ, Act.put, List.setIfInBounds_toArray, List.set_cons_zero, List.set_cons_succ]
      refine wpAnyH_take (i := 5) (v := ?_) rfl (by kernel_rfl) (by kernel_rfl) (by kernel_rfl) (fun _ _ _ h => h) (Or.inl ⟨by rfl, ?_⟩) (by assumption) ?_
      rotate_left 1
      · intro w' hSw
        go_simp
        all_goals first | with_reducible rfl | (rw [if_neg (by omega)]; done) | (rw [if_pos (by omega)]; done) | (rw [if_neg (by omega)]; with_reducible rfl) | (rw [if_pos (by omega)]; with_reducible rfl)
      try simp only [List.getElem_toArray, List.getElem_cons_zero, List.getElem_cons_succ, Act.put, List.setIfInBounds_toArray, List.set_cons_zero, List.set_cons_succ]
      refine wpAnyH_take (i := 6) (v := ?_) rfl (by kernel_rfl) (by kernel_rfl) (by kernel_rfl) (fun _ _ _ h => h) (Or.inl ⟨by rfl, ?_⟩) (by assumption) ?_
      rotate_left 1
      · intro w' hSw
        obtain ⟨p0, p1, p2⟩ := hSw
        go_simp
        all_goals first | with_reducible rfl | (rw [if_neg (by omega)]; done) | (rw [if_pos (by omega)]; done) | (rw [if_neg (by omega)]; with_reducible rfl) | (rw [if_pos (by omega)]; with_reducible rfl)
      try simp only [List.getElem_toArray, List.getElem_cons_zero, List.getElem_cons_succ, Act.put, List.setIfInBounds_toArray, List.set_cons_zero, List.set_cons_succ]
      refine wpAnyH_take (i := 8) (v := ?_) rfl (by kernel_rfl) (by kernel_rfl) (by kernel_rfl) (fun _ _ _ h => h) (Or.inl ⟨by rfl, ?_⟩) (by assumption) ?_
      rotate_left 1
      · intro w' hSw
        go_simp
        all_goals first | with_reducible rfl | (rw [if_neg (by omega)]; done) | (rw [if_pos (by omega)]; done) | (rw [if_neg (by omega)]; with_reducible rfl) | (rw [if_pos (by omega)]; with_reducible rfl)
      try simp only [List.getElem_toArray, List.getElem_cons_zero, List.getElem_cons_succ, Act.put, List.setIfInBounds_toArray, List.set_cons_zero, List.set_cons_succ]
      refine wpAnyH_ready (rs := [7]) (by kernel_rfl) (by simp) ?_
      refine AllReadyH.cons rfl (fun K hK => ?_) AllReadyH.nil
      refine step_call rfl 21 Tryd.f21 _ _ rfl Tryd.func21 (by kernel_rfl) (by kernel_rfl) _ _ ((HCA.out _ A5.out).mono (fun e w' h => (⟨_, h.1, rfl, h.2⟩ : ∃ v, e = .returned v ∧ (v = .int .i64 X.2 ∧ Al w' p g X.1 ∧ Turn (· = g) (W4.alloc (.cells #[.slice (some ⟨b4, 0, none⟩) X.1.length c4] 29)).drew w')))) (by go_simp) ?_
      rintro v6 w6 ⟨rfl, ha6, ht6⟩
      have A6 := Lib.hid ha6
      have T6 := Lib.hid ht6
      have R6 := Lib.hid (R5.out.turn ht6 hg2.out)
      have Q6 := Lib.hid (Q5.out.turn ht6 hg1.out)
      have N6 := Lib.hid (N5.out.drew.turn ht6 hg3.out)
      have V6 := Lib.hid (V5.out.turn ht6 (tf_apart V5.out A5.out))
      have r6 := R6.out.cell 0
      have rz6 := R6.out.free 0
      simp only [List.getElem?_cons_zero] at r6
      clear ha6 ht6
      refine hK.out _ _ ⟨N6.out.cell 0, Q6.out.cell 1, Q6.out.cell 2⟩ (fun hHeld => ?_)
      clear hK K
      try simp only [List.getElem_toArray, List.getElem_cons_zero, List.getElem_cons_succ, Act.put, List.setIfInBounds_toArray, List.set_cons_zero, List.set_cons_succ]
      refine wpAnyH_take (i := 9) (v := ?_) rfl (by kernel_rfl) (by kernel_rfl) (by kernel_rfl) (fun _ _ _ h => h) (Or.inl ⟨by rfl, ?_⟩) (by assumption) ?_
      rotate_left 1
      · intro w' hSw
        go_simp
        all_goals first | with_reducible rfl | (rw [if_neg (by omega)]; done) | (rw [if_pos (by omega)]; done) | (rw [if_neg (by omega)]; with_reducible rfl) | (rw [if_pos (by omega)]; with_reducible rfl)
      try simp only [List.getElem_toArray, List.getElem_cons_zero, List.getElem_cons_succ, Act.put, List.setIfInBounds_toArray, List.set_cons_zero, List.set_cons_succ]
      refine wpAnyH_take (i := 10) (v := ?_) rfl (by kernel_rfl) (by kernel_rfl) (by kernel_rfl) (fun _ _ _ h => h) (Or.inl ⟨by rfl, ?_⟩) (by assumption) ?_
      rotate_left 1
      · intro w' hSw
        go_simp
        all_goals first | with_reducible rfl | (rw [if_neg (by omega)]; done) | (rw [if_pos (by omega)]; done) | (rw [if_neg (by omega)]; with_reducible rfl) | (rw [if_pos (by omega)]; with_reducible rfl)
      try simp only [List.getElem_toArray, List.getElem_cons_zero, List.getElem_cons_succ, Act.put, List.setIfInBounds_toArray, List.set_cons_zero, List.set_cons_succ]
      refine wpAnyH_ready (rs := [11]) (by kernel_rfl) (by simp) ?_
      refine AllReadyH.cons rfl (fun K hK => ?_) AllReadyH.nil
      go_simp
      have TS := Lib.hid ((Turn.refl (fun k => k = w.heap.size + 1 + 1) w6).setCell (p := ⟨w.heap.size + 1 + 1, 0, none⟩) (.inl rfl) (.slice (some ⟨b4, 0, none⟩) X.1.length c4))
      have hgR : ¬ g = w.heap.size + 1 + 1 := fun e => hg2.out e.symm
      refine hK.out _ _ ⟨(N6.out.turn TS.out (by omega)).cell 0, (Q6.out.turn TS.out (by omega)).cell 1, (Q6.out.turn TS.out (by omega)).cell 2⟩ (fun hHeld => ?_)
      clear hK K
      try simp only [List.getElem_toArray, List.getElem_cons_zero, List.getElem_cons_succ, Act.put, List.setIfInBounds_toArray, List.set_cons_zero, List.set_cons_succ]
      refine wpAnyH_take (i := 12) (v := ?_) rfl (by kernel_rfl) (by kernel_rfl) (by kernel_rfl) (fun _ _ _ h => h) (Or.inl ⟨by rfl, ?_⟩) (by assumption) ?_
      rotate_left 1
      · intro w' hSw
        go_simp
        all_goals first | with_reducible rfl | (rw [if_neg (by omega)]; done) | (rw [if_pos (by omega)]; done) | (rw [if_neg (by omega)]; with_reducible rfl) | (rw [if_pos (by omega)]; with_reducible rfl)
      try simp only [List.getElem_toArray, List.getElem_cons_zero, List.getElem_cons_succ, Act.put, List.setIfInBounds_toArray, List.set_cons_zero, List.set_cons_succ]
      refine wpAnyH_done (by kernel_rfl) ?_ _
      refine NoPanic.normal ?_
      -- region 7 end
      clear hHeld
      go_wp2
      have z0 := (R6.out.put 0 (.slice (some ⟨b4, 0, none⟩) X.1.length c4)).cell 0
      simp only [List.set_cons_zero, List.getElem?_cons_zero] at z0
      refine bodyPost_ret (v := .tuple #[.pointer (some ⟨p, 0, none⟩), .agg #[.slice (some ⟨b4, 0, none⟩) X.1.length c4], .bool true]) (by simp [results, Tryd.results11, go_sem, z0]) rfl ?_
      exact ⟨p, g, _, X.1, rfl, A6.out.turn TS.out (by omega) hgR (by omega), V6.out.turn TS.out (fun q hq e => tf_far V6.out R6.out q hq e), HL.out, .inr rfl, .inr rfl, ((((T3.out.trans T5.out).mono (T := fun k => k = g) (fun _ _ h => h.elim)).trans T6.out).trans_new TS.out (fun k hk h => by omega))⟩
    · by_cases hk3 : qk = 3
      · subst hk3
        have HCP := Lib.hid (copy7 A3.out)
        clear hk1 hk2
        go_enter Tryd.func11, Tryd.ntmps11
        go_wp2_with fail
        rw [← HW3.out]
        refine HCP.out.mono ?_
        rintro e W4 ⟨p4, g4, rfl, ha4, hp4, hg4, ht4⟩
        have A4 := Lib.hid ha4
        have T4 := Lib.hid ht4
        have HTK := Lib.hid (take7 (A3.out.still ht4) 1 (by decide))
        clear ha4 ht4
        generalize tak7 l 1 = Y at *
        go_wp2_with fail
        refine HTK.out.mono ?_
        rintro e W5 ⟨rfl, ha5, ht5⟩
        have A5 := Lib.hid (A4.out.turn ht5 (by omega) (by omega) (by have h := A3.out; obtain ⟨c1, rest1, _, _, _, _, _, h0, _⟩ := h; omega))
        have T5 := Lib.hid (((T3.out.trans T4.out).mono (T := fun k => k = g) (fun _ _ h => h.elim)).trans ht5)
        have hgV := tf_apart (V3.out.still T4.out) (A3.out.still T4.out)
        have V5 := Lib.hid ((V3.out.still T4.out).turn ht5 hgV)
        have R5 := Lib.hid ((B2.out.turn T4.out (fun h => h)).turn ht5 (blk_apart (B2.out.turn T4.out (fun h => h)) (by decide) (A3.out.still T4.out)))
        have M5 := Lib.hid ((B0.out.turn T4.out (fun h => h)).turn ht5 (blk_apart (B0.out.turn T4.out (fun h => h)) (by decide) (A3.out.still T4.out)))
        have hsz4 := T4.out.size
        clear ha5 ht5
        have r5 := R5.out.drew.cell 0
        have rz5 := R5.out.drew.free 0
        simp only [List.getElem?_cons_zero] at r5
        go_wp2_with fail
        refine wp_region_noPanic ?_
        refine wp_region_held_drew (S := fun Y => Y.cell? ⟨w.heap.size, 0, none⟩ = some (.slice (some ⟨vb, 0, none⟩) N vc)) (by kernel_rfl) (M5.out.drew.cell 0) (fun hHeld => ?_)
        -- region 11
        refine wpAnyH_take (i := 0) (v := ?_) rfl (by kernel_rfl) (by kernel_rfl) (by kernel_rfl) (fun _ _ _ h => h) (Or.inl ⟨by rfl, ?_⟩) (by assumption) ?_
        rotate_left 1
        · intro w' hSw
          go_simp
          all_goals first | with_reducible rfl | (rw [if_neg (by omega)]; done) | (rw [if_pos (by omega)]; done) | (rw [if_neg (by omega)]; with_reducible rfl) | (rw [if_pos (by omega)]; with_reducible rfl)
        try simp only [List.getElem_toArray, List.getElem_cons_zero, Act.put, List.setIfInBounds_toArray, List.set_cons_zero, List.set_cons_succ]
        refine wpAnyH_take (i := 1) (v := ?_) rfl (by kernel_rfl) (by kernel_rfl) (by kernel_rfl) (fun _ _ _ h => h) (Or.inl ⟨by rfl, ?_⟩) (by assumption) ?_
        rotate_left 1
        · intro w' hSw
          obtain p0 := hSw
          go_simp
          all_goals first | with_reducible rfl | (rw [if_neg (by omega)]; done) | (rw [if_pos (by omega)]; done) | (rw [if_neg (by omega)]; with_reducible rfl) | (rw [if_pos (by omega)]; with_reducible rfl)
        try simp only [List.getElem_toArray, List.getElem_cons_zero, List.getElem_cons_succ, Act.put, List.setIfInBounds_toArray, List.set_cons_zero, List.set_cons_succ]
        refine wpAnyH_take (i := 2) (v := ?_) rfl (by kernel_rfl) (by kernel_rfl) (by kernel_rfl) (fun _ _ _ h => h) (Or.inl ⟨by rfl, ?_⟩) (by assumption) ?_
        rotate_left 1
        · intro w' hSw
          go_simp
          all_goals first | with_reducible rfl | (rw [if_neg (by omega)]; done) | (rw [if_pos (by omega)]; done) | (rw [if_neg (by omega)]; with_reducible rfl) | (rw [if_pos (by omega)]; with_reducible rfl)
        try simp only [List.getElem_toArray, List.getElem_cons_zero, List.getElem_cons_succ, Act.put, List.setIfInBounds_toArray, List.set_cons_zero, List.set_cons_succ]
        refine wpAnyH_take (i := 3) (v := ?_) rfl (by kernel_rfl) (by kernel_rfl) (by kernel_rfl) (fun _ _ _ h => h) (Or.inl ⟨by rfl, ?_⟩) (by assumption) ?_
        rotate_left 1
        · intro w' hSw
          go_simp
          all_goals first | with_reducible rfl | (rw [if_neg (by omega)]; done) | (rw [if_pos (by omega)]; done) | (rw [if_neg (by omega)]; with_reducible rfl) | (rw [if_pos (by omega)]; with_reducible rfl)
        try simp only [List.getElem_toArray, List.getElem_cons_zero, List.getElem_cons_succ, Act.put, List.setIfInBounds_toArray, List.set_cons_zero, List.set_cons_succ]
        refine wpAnyH_take (i := 4) (v := ?_) rfl (by kernel_rfl) (by kernel_rfl) (by kernel_rfl) (fun _ _ _ h => h) (Or.inl ⟨by rfl, ?_⟩) (by assumption) ?_
        rotate_left 1
        · intro w' hSw
          go_simp
          all_goals first | with_reducible rfl | (rw [if_neg (by omega)]; done) | (rw [if_pos (by omega)]; done) | (rw [if_neg (by omega)]; with_reducible rfl) | (rw [if_pos (by omega)]; with_reducible rfl)
        try simp only [List.getElem_toArray, List.getElem_cons_zero, List.getElem_cons_succ, Act.put, List.setIfInBounds_toArray, List.set_cons_zero, List.set_cons_succ]
        refine wpAnyH_ready (rs := [5]) (by kernel_rfl) (by simp) ?_
        refine AllReadyH.cons rfl (fun K hK => ?_) AllReadyH.nil
        go_simp
        have TS := Lib.hid ((Turn.refl (fun k => k = w.heap.size + 1 + 1) W5.drew).setCell (p := ⟨w.heap.size + 1 + 1, 0, none⟩) (.inl rfl) (.slice (some ⟨vb, 0, none⟩) N vc))
        refine hK.out _ _ ((M5.out.drew.turn TS.out (by omega)).cell 0) (fun hHeld => ?_)
        clear hK K
        try simp only [List.getElem_toArray, List.getElem_cons_zero, List.getElem_cons_succ, Act.put, List.setIfInBounds_toArray, List.set_cons_zero, List.set_cons_succ]
        refine wpAnyH_take (i := 6) (v := ?_) rfl (by kernel_rfl) (by kernel_rfl) (by kernel_rfl) (fun _ _ _ h => h) (Or.inl ⟨by rfl, ?_⟩) (by assumption) ?_
        rotate_left 1
        · intro w' hSw
          go_simp
          all_goals first | with_reducible rfl | (rw [if_neg (by omega)]; done) | (rw [if_pos (by omega)]; done) | (rw [if_neg (by omega)]; with_reducible rfl) | (rw [if_pos (by omega)]; with_reducible rfl)
        try simp only [List.getElem_toArray, List.getElem_cons_zero, List.getElem_cons_succ, Act.put, List.setIfInBounds_toArray, List.set_cons_zero, List.set_cons_succ]
        refine wpAnyH_done (by kernel_rfl) ?_ _
        refine NoPanic.normal ?_
        -- region 11 end
        clear hHeld
        go_wp2
        have z0 := (R5.out.put 0 (.slice (some ⟨vb, 0, none⟩) N vc)).cell 0
        simp only [List.set_cons_zero, List.getElem?_cons_zero] at z0
        refine bodyPost_ret (v := .tuple #[.pointer (some ⟨p4, 0, none⟩), .agg #[.slice (some ⟨vb, 0, none⟩) N vc], .bool true]) (by simp [results, Tryd.results11, go_sem, z0]) rfl ?_
        exact ⟨p4, g4, _, l, rfl, A5.out.drew.turn TS.out (by omega) (by omega) (by omega), V5.out.still ((Turn.refl _ _).drew) |>.turn TS.out (tf_far (V5.out.still ((Turn.refl _ _).drew)) R5.out.drew), rfl, .inl (by omega), .inl (by omega), T5.out.drew.trans_new TS.out (fun k hk h => by omega)⟩
      · have hb1 : (qk == 1) = false := by simpa using hk1
        have hb2 : (qk == 2) = false := by simpa using hk2
        have hb3 : (qk == 3) = false := by simpa using hk3
        have HC := Lib.hid (refTake7 _ l qc hc.2 (by rw [← HN.out]; exact hl) (by rw [← HN.out]; exact hl0) W3 V3.out)
        have HL := Lib.hid (len_tak7 l qc)
        have HCA := Lib.hid (fun W (hW : Al W p g l) => take7 hW qc hc.2)
        generalize tak7 l qc = X at *
        clear hk1 hk2 hk3
        go_enter Tryd.func11, Tryd.ntmps11
        go_wp2_with (go_at_call 26; rw [← HW3.out]; refine HC.out.mono ?_; rintro e W4 ⟨v4, rfl, hv4, ht4⟩; obtain ⟨b4, c4, rfl⟩ := hv4.sl; have V4 := Lib.hid hv4; have T4 := Lib.hid ht4; have hs4 := ht4.size; have hs5 : w.heap.size + 1 < W4.heap.size := (by omega); have q4 := (B1.out.turn ht4 (fun h => h)).cell 2; simp only [List.getElem?_cons_zero, List.getElem?_cons_succ] at q4; clear hv4 ht4)
        have N5 := Lib.hid (Blk.new W4 29 [.slice (some ⟨b4, 0, none⟩) X.1.length c4])
        have T5 := Lib.hid (T4.out.alloc (.cells #[.slice (some ⟨b4, 0, none⟩) X.1.length c4] 29))
        have A5 := Lib.hid (A3.out.still T5.out)
        have V5 := Lib.hid (V4.out.still ((Turn.refl (fun _ => False) W4).alloc (.cells #[.slice (some ⟨b4, 0, none⟩) X.1.length c4] 29)))
        have R5 := Lib.hid (B2.out.turn T5.out (fun h => h))
        have hg2 := Lib.hid (blk_apart R5.out (by decide) A5.out)
        have hg3 := Lib.hid (blk_apart N5.out (by decide) A5.out)
        refine (HCA.out _ A5.out).mono ?_
        rintro e w6 ⟨rfl, ha6, ht6⟩
        have A6 := Lib.hid ha6
        have T6 := Lib.hid ht6
        have R6 := Lib.hid (R5.out.turn ht6 hg2.out)
        have N6 := Lib.hid (N5.out.turn ht6 hg3.out)
        have V6 := Lib.hid (V5.out.turn ht6 (tf_apart V5.out A5.out))
        have r6 := R6.out.drew.cell 0
        have rz6 := R6.out.drew.free 0
        simp only [List.getElem?_cons_zero] at r6
        clear ha6 ht6
        go_wp2_with fail
        refine wp_region_noPanic ?_
        refine wp_region_held_drew (S := fun Y => Y.cell? ⟨W4.heap.size, 0, none⟩ = some (.slice (some ⟨b4, 0, none⟩) X.1.length c4)) (by kernel_rfl) (N6.out.drew.cell 0) (fun hHeld => ?_)
        -- region 14
        refine wpAnyH_take (i := 0) (v := ?_) rfl (by kernel_rfl) (by kernel_rfl) (by kernel_rfl) (fun _ _ _ h => h) (Or.inl ⟨by rfl, ?_⟩) (by assumption) ?_
        rotate_left 1
        · intro w' hSw
          go_simp
          all_goals first | with_reducible rfl | (rw [if_neg (by omega)]; done) | (rw [if_pos (by omega)]; done) | (rw [if_neg (by omega)]; with_reducible rfl) | (rw [if_pos (by omega)]; with_reducible rfl)
        try simp only [List.getElem_toArray, List.getElem_cons_zero, Act.put, List.setIfInBounds_toArray, List.set_cons_zero, List.set_cons_succ]
        refine wpAnyH_take (i := 1) (v := ?_) rfl (by kernel_rfl) (by kernel_rfl) (by kernel_rfl) (fun _ _ _ h => h) (Or.inl ⟨by rfl, ?_⟩) (by assumption) ?_
        rotate_left 1
        · intro w' hSw
          obtain p0 := hSw
          go_simp
          all_goals first | with_reducible rfl | (rw [if_neg (by omega)]; done) | (rw [if_pos (by omega)]; done) | (rw [if_neg (by omega)]; with_reducible rfl) | (rw [if_pos (by omega)]; with_reducible rfl)
        try simp only [List.getElem_toArray, List.getElem_cons_zero, List.getElem_cons_succ, Act.put, List.setIfInBounds_toArray, List.set_cons_zero, List.set_cons_succ]
        refine wpAnyH_take (i := 2) (v := ?_) rfl (by kernel_rfl) (by kernel_rfl) (by kernel_rfl) (fun _ _ _ h => h) (Or.inl ⟨by rfl, ?_⟩) (by assumption) ?_
        rotate_left 1
        · intro w' hSw
          go_simp
          all_goals first | with_reducible rfl | (rw [if_neg (by omega)]; done) | (rw [if_pos (by omega)]; done) | (rw [if_neg (by omega)]; with_reducible rfl) | (rw [if_pos (by omega)]; with_reducible rfl)
        try simp only [List.getElem_toArray, List.getElem_cons_zero, List.getElem_cons_succ, Act.put, List.setIfInBounds_toArray, List.set_cons_zero, List.set_cons_succ]
        refine wpAnyH_take (i := 3) (v := ?_) rfl (by kernel_rfl) (by kernel_rfl) (by kernel_rfl) (fun _ _ _ h => h) (Or.inl ⟨by rfl, ?_⟩) (by assumption) ?_
        rotate_left 1
        · intro w' hSw
          go_simp
          all_goals first | with_reducible rfl | (rw [if_neg (by omega)]; done) | (rw [if_pos (by omega)]; done) | (rw [if_neg (by omega)]; with_reducible rfl) | (rw [if_pos (by omega)]; with_reducible rfl)
        try simp only [List.getElem_toArray, List.getElem_cons_zero, List.getElem_cons_succ, Act.put, List.setIfInBounds_toArray, List.set_cons_zero, List.set_cons_succ]
        refine wpAnyH_take (i := 4) (v := ?_) rfl (by kernel_rfl) (by kernel_rfl) (by kernel_rfl) (fun _ _ _ h => h) (Or.inl ⟨by rfl, ?_⟩) (by assumption) ?_
        rotate_left 1
        · intro w' hSw
          go_simp
          all_goals first | with_reducible rfl | (rw [if_neg (by omega)]; done) | (rw [if_pos (by omega)]; done) | (rw [if_neg (by omega)]; with_reducible rfl) | (rw [if_pos (by omega)]; with_reducible rfl)
        try simp only [List.getElem_toArray, List.getElem_cons_zero, List.getElem_cons_succ, Act.put, List.setIfInBounds_toArray, List.set_cons_zero, List.set_cons_succ]
        refine wpAnyH_take (i := 5) (v := ?_) rfl (by kernel_rfl) (by kernel_rfl) (by kernel_rfl) (fun _ _ _ h => h) (Or.inl ⟨by rfl, ?_⟩) (by assumption) ?_
        rotate_left 1
        · intro w' hSw
          go_simp
          all_goals first | with_reducible rfl | (rw [if_neg (by omega)]; done) | (rw [if_pos (by omega)]; done) | (rw [if_neg (by omega)]; with_reducible rfl) | (rw [if_pos (by omega)]; with_reducible rfl)
        try simp only [List.getElem_toArray, List.getElem_cons_zero, List.getElem_cons_succ, Act.put, List.setIfInBounds_toArray, List.set_cons_zero, List.set_cons_succ]
        refine wpAnyH_take (i := 6) (v := ?_) rfl (by kernel_rfl) (by kernel_rfl) (by kernel_rfl) (fun _ _ _ h => h) (Or.inl ⟨by rfl, ?_⟩) (by assumption) ?_
        rotate_left 1
        · intro w' hSw
          go_simp
          all_goals first | with_reducible rfl | (rw [if_neg (by omega)]; done) | (rw [if_pos (by omega)]; done) | (rw [if_neg (by omega)]; with_reducible rfl) | (rw [if_pos (by omega)]; with_reducible rfl)
        try simp only [List.getElem_toArray, List.getElem_cons_zero, List.getElem_cons_succ, Act.put, List.setIfInBounds_toArray, List.set_cons_zero, List.set_cons_succ]
        refine wpAnyH_take (i := 7) (v := ?_) rfl (by kernel_rfl) (by kernel_rfl) (by kernel_rfl) (fun _ _ _ h => h) (Or.inl ⟨by rfl, ?_⟩) (by assumption) ?_
        rotate_left 1
        · intro w' hSw
          go_simp
          all_goals first | with_reducible rfl | (rw [if_neg (by omega)]; done) | (rw [if_pos (by omega)]; done) | (rw [if_neg (by omega)]; with_reducible rfl) | (rw [if_pos (by omega)]; with_reducible rfl)
        try simp only [List.getElem_toArray, List.getElem_cons_zero, List.getElem_cons_succ, Act.put, List.setIfInBounds_toArray, List.set_cons_zero, List.set_cons_succ]
        refine wpAnyH_take (i := 8) (v := ?_) rfl (by kernel_rfl) (by kernel_rfl) (by kernel_rfl) (fun _ _ _ h => h) (Or.inl ⟨by rfl, ?_⟩) (by assumption) ?_
        rotate_left 1
        · intro w' hSw
          go_simp
          all_goals first | with_reducible rfl | (rw [if_neg (by omega)]; done) | (rw [if_pos (by omega)]; done) | (rw [if_neg (by omega)]; with_reducible rfl) | (rw [if_pos (by omega)]; with_reducible rfl)
        try simp only [List.getElem_toArray, List.getElem_cons_zero, List.getElem_cons_succ, Act.put, List.setIfInBounds_toArray, List.set_cons_zero, List.set_cons_succ]
        refine wpAnyH_take (i := 9) (v := ?_) rfl (by kernel_rfl) (by kernel_rfl) (by kernel_rfl) (fun _ _ _ h => h) (Or.inl ⟨by rfl, ?_⟩) (by assumption) ?_
        rotate_left 1
        · intro w' hSw
          go_simp
          all_goals first | with_reducible rfl | (rw [if_neg (by omega)]; done) | (rw [if_pos (by omega)]; done) | (rw [if_neg (by omega)]; with_reducible rfl) | (rw [if_pos (by omega)]; with_reducible rfl)
        try simp only [List.getElem_toArray, List.getElem_cons_zero, List.getElem_cons_succ, Act.put, List.setIfInBounds_toArray, List.set_cons_zero, List.set_cons_succ]
        refine wpAnyH_take (i := 10) (v := ?_) rfl (by kernel_rfl) (by kernel_rfl) (by kernel_rfl) (fun _ _ _ h => h) (Or.inl ⟨by rfl, ?_⟩) (by assumption) ?_
        rotate_left 1
        · intro w' hSw
          go_simp
          all_goals first | with_reducible rfl | (rw [if_neg (by omega)]; done) | (rw [if_pos (by omega)]; done) | (rw [if_neg (by omega)]; with_reducible rfl) | (rw [if_pos (by omega)]; with_reducible rfl)
        try simp only [List.getElem_toArray, List.getElem_cons_zero, List.getElem_cons_succ, Act.put, List.setIfInBounds_toArray, List.set_cons_zero, List.set_cons_succ]
        refine wpAnyH_ready (rs := [11]) (by kernel_rfl) (by simp) ?_
        refine AllReadyH.cons rfl (fun K hK => ?_) AllReadyH.nil
        go_simp
        have TS := Lib.hid ((Turn.refl (fun k => k = w.heap.size + 1 + 1) w6.drew).setCell (p := ⟨w.heap.size + 1 + 1, 0, none⟩) (.inl rfl) (.slice (some ⟨b4, 0, none⟩) X.1.length c4))
        have hgR : ¬ g = w.heap.size + 1 + 1 := fun e => hg2.out e.symm
        refine hK.out _ _ ((N6.out.drew.turn TS.out (by omega)).cell 0) (fun hHeld => ?_)
        clear hK K
        try simp only [List.getElem_toArray, List.getElem_cons_zero, List.getElem_cons_succ, Act.put, List.setIfInBounds_toArray, List.set_cons_zero, List.set_cons_succ]
        refine wpAnyH_take (i := 12) (v := ?_) rfl (by kernel_rfl) (by kernel_rfl) (by kernel_rfl) (fun _ _ _ h => h) (Or.inl ⟨by rfl, ?_⟩) (by assumption) ?_
        rotate_left 1
        · intro w' hSw
          go_simp
          all_goals first | with_reducible rfl | (rw [if_neg (by omega)]; done) | (rw [if_pos (by omega)]; done) | (rw [if_neg (by omega)]; with_reducible rfl) | (rw [if_pos (by omega)]; with_reducible rfl)
        try simp only [List.getElem_toArray, List.getElem_cons_zero, List.getElem_cons_succ, Act.put, List.setIfInBounds_toArray, List.set_cons_zero, List.set_cons_succ]
        refine wpAnyH_done (by kernel_rfl) ?_ _
        refine NoPanic.normal ?_
        -- region 14 end
        clear hHeld
        go_wp2
        have z0 := (R6.out.put 0 (.slice (some ⟨b4, 0, none⟩) X.1.length c4)).cell 0
        simp only [List.set_cons_zero, List.getElem?_cons_zero] at z0
        refine bodyPost_ret (v := .tuple #[.pointer (some ⟨p, 0, none⟩), .agg #[.slice (some ⟨b4, 0, none⟩) X.1.length c4], .bool true]) (by simp [results, Tryd.results11, go_sem, z0]) rfl ?_
        exact ⟨p, g, _, X.1, rfl, A6.out.drew.turn TS.out (by omega) hgR (by omega), (V6.out.still ((Turn.refl _ _).drew)).turn TS.out (tf_far (V6.out.still ((Turn.refl _ _).drew)) R6.out.drew), HL.out, .inr rfl, .inr rfl, ((((T3.out.trans T5.out).mono (T := fun k => k = g) (fun _ _ h => h.elim)).trans T6.out).drew.trans_new TS.out (fun k hk h => by omega))⟩
end Go.Proofs.YtjffdekonjejgaaDoor
