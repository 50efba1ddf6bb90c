/- Layer 14: the statements' step: Vacuum. (mkSpBd.py) -/
import Derived.Test.YtobddfpdijmgiaaSpBc
namespace Go.Proofs.Ytobddfpdijmgiaa
open Go.RowKit Go.Shelf
set_option linter.unusedVariables false
set_option linter.unusedSimpArgs false
set_option maxRecDepth 100000
attribute [local go_sem] Oper.semAt_some

set_option maxHeartbeats 8000000 in
theorem step_vac14 {w : World} {q g : Nat} {vk mv lv : Value} {M Md : List (Itm × Value)} {last mark : Int} {N : Nat} (t : Int) (h : St14 w q vk g M last mark mv Md N) (hN : N ≤ 20000) (hlv : ∃ A n c, lv = .slice A n c) (ht : -100 ≤ t ∧ t ≤ 1099511627776) :
    Calls Try.prog 21 #[.pointer (some ⟨q, 0, none⟩), .agg #[mv, .int .i64 last, .int .i64 mark], .agg #[.int .i64 1, .int .i64 t, lv]] w fun e w' => ∃ v, e = .returned v ∧ Stq w q vk g (M.map (fun p : Itm × Value => p.1)) last mark 1 t N v w' := by
  obtain ⟨LA, ln, lc, rfl⟩ := hlv
  obtain ⟨AM, cM, rfl, _⟩ := h.ix
  have hrg := h.rng
  have hq := wrap_of (mark + t) (by omega) (by omega)
  have BM := h.bm.le (K := 100000) (by omega)
  have BD := bm_map BM h.eq
  obtain ⟨m, hm⟩ : ∃ m, mark + t = m := ⟨_, rfl⟩
  obtain ⟨er, her⟩ : ∃ x : Int, (if m < mark ∨ last < m then 2 else 0) = x := ⟨_, rfl⟩
  obtain ⟨mk, hmk⟩ : ∃ x : Int, (if m < mark ∨ last < m then mark else m) = x := ⟨_, rfl⟩
  obtain ⟨I2, hI2⟩ : ∃ x : List Itm, (if m < mark ∨ last < m then M.map (fun p : Itm × Value => p.1) else vcm (M.map (fun p : Itm × Value => p.1)) m) = x := ⟨_, rfl⟩
  have HWF : Hid (Wf I2 last ∧ BI N I2 ∧ 0 ≤ mk ∧ mk ≤ last ∧ (mk = mark ∨ (1 : Int) = 1 ∧ mk = mark + t) ∧ ∀ s, mark ≤ s → mk ≤ s → s ≤ last → s ≤ last ∧ Sm14 I2 (M.map (fun p : Itm × Value => p.1)) s) := Lib.hid (by
    rw [← hI2, ← hmk]
    by_cases hb : m < mark ∨ last < m
    · rw [if_pos hb, if_pos hb]; exact ⟨h.wf, bi_of h.bm, hrg.1, hrg.2.1, .inl rfl, fun s _ _ h3 => ⟨h3, Sm14.refl _ _⟩⟩
    · rw [if_neg hb, if_neg hb]; exact ⟨vcm_wf h.wf m, vcm_bi (bi_of h.bm) m, by omega, by omega, .inr ⟨rfl, hm.symm⟩, fun s _ h2 h3 => ⟨h3, sm_vcm h2 _ h.wf.1 (fun x hx => ((fit_iff x last).1 (h.wf.2 x hx)).2.2.1)⟩⟩)
  obtain ⟨W0, hW0⟩ : ∃ W, ((w.alloc (.cells #[.slice AM Md.length cM, .int .i64 last, .int .i64 mark] 32)).alloc (.cells #[.int .i64 1, .int .i64 t, .slice LA ln lc] 45)).alloc (.cells #[.slice none 0 0, .int .i64 0, .int .i64 0] 32) = W := ⟨_, rfl⟩
  have HW0S : Hid (W0.heap.size = w.heap.size + 3) := Lib.hid (by rw [← hW0]; simp)
  have TW : Hid (Turn (fun _ => False) w W0) := Lib.hid (hW0 ▸ (((Turn.refl _ _).alloc _).alloc _).alloc _)
  have BA : Hid (Blk W0 w.heap.size 32 [.slice AM Md.length cM, .int .i64 last, .int .i64 mark]) := Lib.hid (hW0 ▸ ((Blk.new _ _ _).alloc _).alloc _)
  have BQ : Hid (Blk W0 (w.heap.size + 1) 45 [.int .i64 1, .int .i64 t, .slice LA ln lc]) := Lib.hid (hW0 ▸ (Blk.new_ _ _ _ (by simp)).alloc _)
  have BR : Hid (Blk W0 (w.heap.size + 2) 32 [.slice none 0 0, .int .i64 0, .int .i64 0]) := Lib.hid (hW0 ▸ Blk.new_ _ _ _ (by simp))
  have HVD : Hid (∀ X, Turn (fun _ => False) w X → Calls Try.prog 60 #[.agg #[.slice AM Md.length cM, .int .i64 last, .int .i64 mark], .int .i64 m] X fun e w' => ∃ A n c, e = .returned (.tuple #[.agg #[.slice A n c, .int .i64 last, .int .i64 mk], .int .i64 er]) ∧ (∃ M2, Ix w' (.slice A n c) M2 ∧ M2.map (fun p : Itm × Value => p.1) = I2 ∧ ∀ k, k < X.heap.size → Ap14 k (.slice AM Md.length cM) Md → Ap14 k (.slice A n c) M2) ∧ Turn (fun _ => False) X w') := Lib.hid (fun X hX => (refVacuum14 Md _ last mark m X (h.ix.still hX) BD.1 (fun p hp => (BD.2 p hp).1)).mono fun e w' ⟨v', e', h1, h2, h3, h4⟩ => by
    subst h2
    rw [her, hmk] at h1
    by_cases hb : m < mark ∨ last < m
    · rw [if_pos hb] at h3 hI2
      subst h3
      exact ⟨_, _, _, h1, ⟨Md, (h.ix.still hX).still h4, h.eq.trans hI2, fun k _ hk => hk⟩, h4⟩
    · rw [if_neg hb] at h3 hI2
      obtain ⟨M2, k1, k2, k3⟩ := h3
      obtain ⟨A, c, e⟩ := own_slice_ k2.1
      subst e
      have hl : M2.length ≤ 100000 := by
        have e1 := congrArg List.length k1
        rw [List.length_map] at e1
        rw [e1]
        exact Nat.le_trans (vcm_bi (bi_of BD) m).1 (Nat.le_refl _)
      refine ⟨A, _, c, h1, ⟨M2, k2.ix (by omega), k1.trans (by rw [h.eq]; exact hI2), fun k hk _ => ⟨fun hp b hb2 => ?_, fun p hp h0 b hb2 => ?_⟩⟩, h4⟩
      · have := (own_ge9 k2.1 b (by cases A <;> simp_all [vb, Value.ownBlock])).1
        omega
      · have := k3 p hp h0 b hb2
        omega)
  have HVP : Hid (∀ X, Turn (fun _ => False) w X → Calls Try.prog 52 #[.pointer (some ⟨q, 0, none⟩), .int .i64 m] X fun e w' => ∃ v, e = .returned v ∧ v = .int .i64 er ∧ (∃ vk' M', Sp w' q vk' g M' last mk ∧ M'.map (fun p : Itm × Value => p.1) = I2 ∧ ∀ k, Sw q vk' g k → Sw q vk g k ∨ X.heap.size ≤ k) ∧ Turn (Sw q vk g) X w') := Lib.hid (fun X hX => by
    by_cases hb : m < mark ∨ last < m
    · refine (vacuum_14b m (h.sp.still hX) hb).mono fun e w' ⟨h1, h2⟩ => ⟨_, h1, ?_, ⟨vk, M, ?_, ?_, fun k hk => .inl hk⟩, h2.mono (fun k _ h => h.elim)⟩
      · rw [← her, if_pos hb]
      · rw [← hmk, if_pos hb]; exact (h.sp.still hX).still h2
      · rw [← hI2, if_pos hb]
    · refine (vacuum_14 m (h.sp.still hX) BM hb).mono fun e w' ⟨h1, vk', M', k1, k2, k3, k4⟩ => ⟨_, h1, ?_, ⟨vk', M', ?_, ?_, k3⟩, k4⟩
      · rw [← her, if_neg hb]
      · rw [← hmk, if_neg hb]; exact k1
      · rw [← hI2, if_neg hb]; exact k2)
  have HS := Lib.hid h
  have HM := Lib.hid hm
  rw [hm] at hq
  have hwm : IntKind.i64.wrap (mark + t) = m := by rw [hm]; exact hq
  obtain ⟨a0, a1, a2, _, _, _⟩ := cells3 BA.out
  obtain ⟨b0, b1, b2, _, _, _⟩ := cells3 BQ.out
  clear h her hmk hI2 hm hrg BM BD hq
  go_enter Try.func21, Try.ntmps21
  go_wp2_with (go_at_call 60; refine (HVD.out _ TW.out).mono ?_; rintro e w2 ⟨A2, n2, c2, rfl, hm2, ht2⟩; clear hW0; have M2 := Lib.hid hm2; have T2 := Lib.hid ht2; clear hm2 ht2; )
  obtain ⟨W5, hW5⟩ : ∃ W, w2.alloc (.cells #[.slice A2 n2 c2, .int .i64 last, .int .i64 mk] 32) = W := ⟨_, rfl⟩
  rw [hW5]
  have hsw := HS.out.sp.below
  have hsz0 : W0.heap.size = w.heap.size + 3 := HW0S.out
  have hsz2 := T2.out.size
  have hsz5 : W5.heap.size = w2.heap.size + 1 := by rw [← hW5]; simp
  have T5 : Hid (Turn (fun _ => False) W0 W5) := Lib.hid (hW5 ▸ T2.out.alloc _)
  have T25 : Hid (Turn (fun _ => False) w2 W5) := Lib.hid (hW5 ▸ (Turn.refl _ _).alloc _)
  have BX : Hid (Blk W5 w2.heap.size 32 [.slice A2 n2 c2, .int .i64 last, .int .i64 mk]) := Lib.hid (hW5 ▸ Blk.new _ _ _)
  have HBX : Hid (∀ X, Turn (fun k => Sw q vk g k ∨ k = w.heap.size + 2) W5 X → X.cell? ⟨w2.heap.size, 0, none⟩ = some (.slice A2 n2 c2) ∧ X.cell? ⟨w2.heap.size, 1, none⟩ = some (.int .i64 last) ∧ X.cell? ⟨w2.heap.size, 2, none⟩ = some (.int .i64 mk) ∧ X.cell? ⟨w.heap.size, 2, none⟩ = some (.int .i64 mark) ∧ X.cell? ⟨w.heap.size + 1, 1, none⟩ = some (.int .i64 t)) := Lib.hid (fun X hX => by
    have n1 : ∀ k, w.heap.size ≤ k → k ≠ w.heap.size + 2 → ¬ (Sw q vk g k ∨ k = w.heap.size + 2) := fun k h1 h2 h3 => h3.elim (fun h4 => by have := hsw k h4; omega) h2
    have bx := BX.out.turn hX (n1 _ (by omega) (by omega))
    exact ⟨bx.cell 0, bx.cell 1, bx.cell 2, ((BA.out.turn T5.out (fun h => h)).turn hX (n1 _ (by omega) (by omega))).cell 2, ((BQ.out.turn T5.out (fun h => h)).turn hX (n1 _ (by omega) (by omega))).cell 1⟩)
  have HVP5 : Hid (∀ X, Turn (fun _ => False) W5 X → Calls Try.prog 52 #[.pointer (some ⟨q, 0, none⟩), .int .i64 m] X fun e w' => ∃ v, e = .returned v ∧ v = .int .i64 er ∧ (∃ vk' M', Sp w' q vk' g M' last mk ∧ M'.map (fun p : Itm × Value => p.1) = I2 ∧ ∀ k, Sw q vk' g k → Sw q vk g k ∨ X.heap.size ≤ k) ∧ Turn (Sw q vk g) X w') := Lib.hid (fun X hX => HVP.out X ((TW.out.trans T5.out).trans hX))
  clear hW5 a0 a1 a2 b0 b1 b2
  -- region A
  have T0 : Hid (Turn (fun k => Sw q vk g k ∨ k = w.heap.size + 2) W5 W5.drew) := Lib.hid (Turn.refl _ _).drew
  refine wp_region_noPanic ?_
  refine wp_region_held_drew (S := (fun X => Turn (fun k => Sw q vk g k ∨ k = w.heap.size + 2) W5 X)) (by kernel_rfl) T0.out (fun hHeld => ?_)
  clear hHeld
  refine wpAnyH_take (i := 0) (v := ?_) rfl (by kernel_rfl) (by kernel_rfl) (by kernel_rfl) (fun _ _ _ h => h) (Or.inl ⟨by rfl, ?_⟩) (by assumption) ?_
  rotate_left 1
  · intro w' hSw
    go_simp
    all_goals first | with_reducible rfl | (rw [if_neg (by omega)]; done) | (rw [if_pos (by omega)]; done) | (rw [if_neg (by omega)]; with_reducible rfl) | (rw [if_pos (by omega)]; with_reducible rfl)
  try simp only [List.getElem_toArray, List.getElem_cons_zero, List.getElem_cons_succ, Act.put, List.setIfInBounds_toArray, List.set_cons_zero, List.set_cons_succ]
  refine wpAnyH_take (i := 1) (v := ?_) rfl (by kernel_rfl) (by kernel_rfl) (by kernel_rfl) (fun _ _ _ h => h) (Or.inl ⟨by rfl, ?_⟩) (by assumption) ?_
  rotate_left 1
  · intro w' hSw
    obtain ⟨y0, y1, y2, y3, y4⟩ := HBX.out _ hSw
    go_simp
    all_goals first | with_reducible rfl | (rw [if_neg (by omega)]; done) | (rw [if_pos (by omega)]; done) | (rw [if_neg (by omega)]; with_reducible rfl) | (rw [if_pos (by omega)]; with_reducible rfl)
  try simp only [List.getElem_toArray, List.getElem_cons_zero, List.getElem_cons_succ, Act.put, List.setIfInBounds_toArray, List.set_cons_zero, List.set_cons_succ]
  refine wpAnyH_take (i := 2) (v := ?_) rfl (by kernel_rfl) (by kernel_rfl) (by kernel_rfl) (fun _ _ _ h => h) (Or.inl ⟨by rfl, ?_⟩) (by assumption) ?_
  rotate_left 1
  · intro w' hSw
    go_simp
    all_goals first | with_reducible rfl | (rw [if_neg (by omega)]; done) | (rw [if_pos (by omega)]; done) | (rw [if_neg (by omega)]; with_reducible rfl) | (rw [if_pos (by omega)]; with_reducible rfl)
  try simp only [List.getElem_toArray, List.getElem_cons_zero, List.getElem_cons_succ, Act.put, List.setIfInBounds_toArray, List.set_cons_zero, List.set_cons_succ]
  refine wpAnyH_take (i := 3) (v := ?_) rfl (by kernel_rfl) (by kernel_rfl) (by kernel_rfl) (fun _ _ _ h => h) (Or.inl ⟨by rfl, ?_⟩) (by assumption) ?_
  rotate_left 1
  · intro w' hSw
    go_simp
    all_goals first | with_reducible rfl | (rw [if_neg (by omega)]; done) | (rw [if_pos (by omega)]; done) | (rw [if_neg (by omega)]; with_reducible rfl) | (rw [if_pos (by omega)]; with_reducible rfl)
  try simp only [List.getElem_toArray, List.getElem_cons_zero, List.getElem_cons_succ, Act.put, List.setIfInBounds_toArray, List.set_cons_zero, List.set_cons_succ]
  refine wpAnyH_take (i := 4) (v := ?_) rfl (by kernel_rfl) (by kernel_rfl) (by kernel_rfl) (fun _ _ _ h => h) (Or.inl ⟨by rfl, ?_⟩) (by assumption) ?_
  rotate_left 1
  · intro w' hSw
    obtain ⟨y0, y1, y2, y3, y4⟩ := HBX.out _ hSw
    go_simp
    all_goals first | with_reducible rfl | (rw [if_neg (by omega)]; done) | (rw [if_pos (by omega)]; done) | (rw [if_neg (by omega)]; with_reducible rfl) | (rw [if_pos (by omega)]; with_reducible rfl)
  try simp only [List.getElem_toArray, List.getElem_cons_zero, List.getElem_cons_succ, Act.put, List.setIfInBounds_toArray, List.set_cons_zero, List.set_cons_succ]
  refine wpAnyH_take (i := 5) (v := ?_) rfl (by kernel_rfl) (by kernel_rfl) (by kernel_rfl) (fun _ _ _ h => h) (Or.inl ⟨by rfl, ?_⟩) (by assumption) ?_
  rotate_left 1
  · intro w' hSw
    go_simp
    all_goals first | with_reducible rfl | (rw [if_neg (by omega)]; done) | (rw [if_pos (by omega)]; done) | (rw [if_neg (by omega)]; with_reducible rfl) | (rw [if_pos (by omega)]; with_reducible rfl)
  try simp only [List.getElem_toArray, List.getElem_cons_zero, List.getElem_cons_succ, Act.put, List.setIfInBounds_toArray, List.set_cons_zero, List.set_cons_succ]
  refine wpAnyH_take (i := 6) (v := ?_) rfl (by kernel_rfl) (by kernel_rfl) (by kernel_rfl) (fun _ _ _ h => h) (Or.inl ⟨by rfl, ?_⟩) (by assumption) ?_
  rotate_left 1
  · intro w' hSw
    obtain ⟨y0, y1, y2, y3, y4⟩ := HBX.out _ hSw
    go_simp
    all_goals first | with_reducible rfl | (rw [if_neg (by omega)]; done) | (rw [if_pos (by omega)]; done) | (rw [if_neg (by omega)]; with_reducible rfl) | (rw [if_pos (by omega)]; with_reducible rfl)
  try simp only [List.getElem_toArray, List.getElem_cons_zero, List.getElem_cons_succ, Act.put, List.setIfInBounds_toArray, List.set_cons_zero, List.set_cons_succ]
  refine wpAnyH_take (i := 7) (v := ?_) rfl (by kernel_rfl) (by kernel_rfl) (by kernel_rfl) (fun _ _ _ h => h) (Or.inl ⟨by rfl, ?_⟩) (by assumption) ?_
  rotate_left 1
  · intro w' hSw
    go_simp
    all_goals first | with_reducible rfl | (rw [if_neg (by omega)]; done) | (rw [if_pos (by omega)]; done) | (rw [if_neg (by omega)]; with_reducible rfl) | (rw [if_pos (by omega)]; with_reducible rfl)
  try simp only [List.getElem_toArray, List.getElem_cons_zero, List.getElem_cons_succ, Act.put, List.setIfInBounds_toArray, List.set_cons_zero, List.set_cons_succ]
  refine wpAnyH_take (i := 9) (v := ?_) rfl (by kernel_rfl) (by kernel_rfl) (by kernel_rfl) (fun _ _ _ h => h) (Or.inl ⟨by rfl, ?_⟩) (by assumption) ?_
  rotate_left 1
  · intro w' hSw
    go_simp
    all_goals first | with_reducible rfl | (rw [if_neg (by omega)]; done) | (rw [if_pos (by omega)]; done) | (rw [if_neg (by omega)]; with_reducible rfl) | (rw [if_pos (by omega)]; with_reducible rfl)
  try simp only [List.getElem_toArray, List.getElem_cons_zero, List.getElem_cons_succ, Act.put, List.setIfInBounds_toArray, List.set_cons_zero, List.set_cons_succ]
  refine wpAnyH_ready (rs := [8]) (by kernel_rfl) (by simp) ?_
  refine AllReadyH.cons rfl (fun K hK => ?_) AllReadyH.nil
  refine step_call rfl 52 Try.f52 _ _ rfl Try.func52 (by kernel_rfl) (by kernel_rfl) _ _ (HVP5.out _ (Turn.refl _ _).drew) (by go_simp) ?_
  rintro v8 w8 ⟨rfl, ⟨vk8, M8, hs8, he8, hf8⟩, ht8⟩
  have S8 := Lib.hid hs8
  have E8 := Lib.hid he8
  have F8 := Lib.hid hf8
  have T8 : Hid (Turn (Sw q vk g) W5 w8) := Lib.hid (((Turn.refl _ _).drew).trans ht8)
  have TS8 : Hid (Turn (fun k => Sw q vk g k ∨ k = w.heap.size + 2) W5 w8) := Lib.hid (T8.out.mono (fun k _ h => .inl h))
  have B8 := Lib.hid ((BR.out.turn T5.out (fun h => h)).turn T8.out (fun h => by have := hsw _ h; omega))
  clear hs8 he8 hf8 ht8
  refine hK.out _ _ TS8.out (fun hHeld => ?_)
  clear hHeld hK K
  try simp only [List.getElem_toArray, List.getElem_cons_zero, List.getElem_cons_succ, Act.put, List.setIfInBounds_toArray, List.set_cons_zero, List.set_cons_succ]
  refine wpAnyH_take (i := 10) (v := ?_) rfl (by kernel_rfl) (by kernel_rfl) (by kernel_rfl) (fun _ _ _ h => h) (Or.inl ⟨by rfl, ?_⟩) (by assumption) ?_
  rotate_left 1
  · intro w' hSw
    go_simp
    all_goals first | with_reducible rfl | (rw [if_neg (by omega)]; done) | (rw [if_pos (by omega)]; done) | (rw [if_neg (by omega)]; with_reducible rfl) | (rw [if_pos (by omega)]; with_reducible rfl)
  try simp only [List.getElem_toArray, List.getElem_cons_zero, List.getElem_cons_succ, Act.put, List.setIfInBounds_toArray, List.set_cons_zero, List.set_cons_succ]
  refine wpAnyH_take (i := 11) (v := ?_) rfl (by kernel_rfl) (by kernel_rfl) (by kernel_rfl) (fun _ _ _ h => h) (Or.inl ⟨by rfl, ?_⟩) (by assumption) ?_
  rotate_left 1
  · intro w' hSw
    go_simp
    all_goals first | with_reducible rfl | (rw [if_neg (by omega)]; done) | (rw [if_pos (by omega)]; done) | (rw [if_neg (by omega)]; with_reducible rfl) | (rw [if_pos (by omega)]; with_reducible rfl)
  try simp only [List.getElem_toArray, List.getElem_cons_zero, List.getElem_cons_succ, Act.put, List.setIfInBounds_toArray, List.set_cons_zero, List.set_cons_succ]
  refine wpAnyH_ready (rs := [12]) (by kernel_rfl) (by simp) ?_
  refine AllReadyH.cons rfl (fun K hK => ?_) AllReadyH.nil
  obtain ⟨r0, r1, r2, r3, r4, r5⟩ := cells3 B8.out
  have HF := Lib.hid (box3 B8.out (.slice A2 n2 c2) (.int .i64 last) (.int .i64 mk))
  go_simp
  have TS9 := Lib.hid (TS8.out.trans (HF.out.2.1.mono (fun k _ h => .inr h)))
  refine hK.out _ _ TS9.out (fun hHeld => ?_)
  clear hHeld hK K
  try simp only [List.getElem_toArray, List.getElem_cons_zero, List.getElem_cons_succ, Act.put, List.setIfInBounds_toArray, List.set_cons_zero, List.set_cons_succ]
  refine wpAnyH_take (i := 13) (v := ?_) rfl (by kernel_rfl) (by kernel_rfl) (by kernel_rfl) (fun _ _ _ h => h) (Or.inl ⟨by rfl, ?_⟩) (by assumption) ?_
  rotate_left 1
  · intro w' hSw
    go_simp
    all_goals first | with_reducible rfl | (rw [if_neg (by omega)]; done) | (rw [if_pos (by omega)]; done) | (rw [if_neg (by omega)]; with_reducible rfl) | (rw [if_pos (by omega)]; with_reducible rfl)
  try simp only [List.getElem_toArray, List.getElem_cons_zero, List.getElem_cons_succ, Act.put, List.setIfInBounds_toArray, List.set_cons_zero, List.set_cons_succ]
  refine wpAnyH_done (by kernel_rfl) ?_ _
  refine NoPanic.normal ?_
  obtain ⟨_, TS, k0, k1, k2⟩ := HF.out
  go_wp2_with fail
  obtain ⟨Md2, z1, z2, z3⟩ := M2.out
  obtain ⟨z4, z5, z6, z7, z9, z10⟩ := HWF.out
  have z8 := HS.out.rng
  exact bodyPost_ret (v := .tuple #[.pointer (some ⟨q, 0, none⟩), .agg #[.slice A2 n2 c2, .int .i64 last, .int .i64 mk], .bool true]) (by simp [results, Try.results21, go_sem, k0, k1, k2]) rfl ⟨_, rfl, stp_end (z9.imp id (fun h => ⟨rfl, h.2⟩)) z10 HS.out (TW.out.trans T5.out) (by omega) (by omega) B8.out (by simp) (z1.still T25.out) (fun k hk => z3 k (by have := hsw k hk; omega) (HS.out.ap k hk)) (z3 _ (by omega) (HS.out.ix.ap (by omega))) z2 S8.out F8.out T8.out E8.out z4 z5 ⟨z6, z7, z8.2.2⟩ TS⟩
  -- region end A
end Go.Proofs.Ytobddfpdijmgiaa
