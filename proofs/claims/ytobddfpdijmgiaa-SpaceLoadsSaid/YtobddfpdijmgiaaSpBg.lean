/- Layer 14: the statements' step: Load. (mkSpBf.py) -/
import Derived.Test.YtobddfpdijmgiaaSpBf
namespace Go.Proofs.Ytobddfpdijmgiaa
open Go.RowKit Go.Shelf
set_option linter.unusedVariables false
set_option linter.unusedSimpArgs false
set_option maxRecDepth 100000
attribute [local go_sem] Oper.semAt_some

set_option maxHeartbeats 8000000 in
theorem step_lod14 {w : World} {q g : Nat} {vk mv lv : Value} {M Md : List (Itm × Value)} {last mark : Int} {N : Nat} (t : Int) (h : St14 w q vk g M last mark mv Md N) (hN : N ≤ 20000) (hlv : ∃ A n c, lv = .slice A n c) :
    Calls Try.prog 21 #[.pointer (some ⟨q, 0, none⟩), .agg #[mv, .int .i64 last, .int .i64 mark], .agg #[.int .i64 3, .int .i64 t, lv]] w fun e w' => ∃ v, e = .returned v ∧ Stq w q vk g (M.map (fun p : Itm × Value => p.1)) last mark 3 t N v w' := by
  obtain ⟨LA, ln, lc, rfl⟩ := hlv
  obtain ⟨AM, cM, rfl, _⟩ := h.ix
  have hrg := h.rng
  obtain ⟨W0, hW0⟩ : ∃ W, ((w.alloc (.cells #[.slice AM Md.length cM, .int .i64 last, .int .i64 mark] 32)).alloc (.cells #[.int .i64 3, .int .i64 t, .slice LA ln lc] 45)).alloc (.cells #[.slice none 0 0, .int .i64 0, .int .i64 0] 32) = W := ⟨_, rfl⟩
  have HW0S : Hid (W0.heap.size = w.heap.size + 3) := Lib.hid (by rw [← hW0]; simp)
  have TW : Hid (Turn (fun _ => False) w W0) := Lib.hid (hW0 ▸ (((Turn.refl _ _).alloc _).alloc _).alloc _)
  have BA : Hid (Blk W0 w.heap.size 32 [.slice AM Md.length cM, .int .i64 last, .int .i64 mark]) := Lib.hid (hW0 ▸ ((Blk.new _ _ _).alloc _).alloc _)
  have BQ : Hid (Blk W0 (w.heap.size + 1) 45 [.int .i64 3, .int .i64 t, .slice LA ln lc]) := Lib.hid (hW0 ▸ (Blk.new_ _ _ _ (by simp)).alloc _)
  have BR : Hid (Blk W0 (w.heap.size + 2) 32 [.slice none 0 0, .int .i64 0, .int .i64 0]) := Lib.hid (hW0 ▸ Blk.new_ _ _ _ (by simp))
  have BM := h.bm.le (K := 100000) (by omega)
  have HIT : Hid (∀ X, Turn (fun _ => False) w X → Calls Try.prog 29 #[.pointer (some ⟨q, 0, none⟩)] X fun e w' => ∃ A n c Ms, e = .returned (.slice A n c) ∧ Ix w' (.slice A n c) Ms ∧ Ms.map (fun p : Itm × Value => p.1) = M.map (fun p : Itm × Value => p.1) ∧ (∀ p ∈ Ms, Cv p.2) ∧ Turn (fun _ => False) X w') := Lib.hid (fun X hX => (items_14 (h.sp.still hX) BM).mono fun e w' ⟨v, Ms, h1, h2, h3, h4, h5⟩ => by
    obtain ⟨A, c, e⟩ := own_slice_ h2.1
    subst e
    exact ⟨A, _, c, Ms, h1, h2.ix (by have := (bm_map BM h3).1; omega), h3, fun p hp => (h4 p hp).1, h5⟩)
  have HLA : Hid (∀ X, Turn (fun _ => False) w X → Calls Try.prog 28 #[.pointer (some ⟨q, 0, none⟩)] X fun e w' => e = .returned (.int .i64 last) ∧ w' = X) := Lib.hid (fun X hX => last14 (h.sp.still hX))
  have HMK : Hid (∀ X, Turn (fun _ => False) w X → Calls Try.prog 24 #[.pointer (some ⟨q, 0, none⟩)] X fun e w' => e = .returned (.int .i64 mark) ∧ w' = X) := Lib.hid (fun X hX => mark14 (h.sp.still hX))
  have HLD : Hid (∀ X A n c Ms, Ix X (.slice A n c) Ms → Ms.map (fun p : Itm × Value => p.1) = M.map (fun p : Itm × Value => p.1) → (∀ p ∈ Ms, Cv p.2) → Calls Try.prog 15 #[.slice A n c, .int .i64 last, .int .i64 mark] X fun e w' => ∃ q2 vk2 g2 M2, e = .returned (.tuple #[.pointer (some ⟨q2, 0, none⟩), .int .i64 0]) ∧ Sp w' q2 vk2 g2 M2 last mark ∧ M2.map (fun p : Itm × Value => p.1) = M.map (fun p : Itm × Value => p.1) ∧ (∀ k, Sw q2 vk2 g2 k → X.heap.size ≤ k) ∧ Turn (fun _ => False) X w') := Lib.hid (fun X A n c Ms hix hm hcv => by
    have bm := bm_map BM hm
    refine (load_14 Ms _ last mark X hix ⟨bm.1, fun p hp => ⟨(bm.2 p hp).1, by have := (bm.2 p hp).2; unfold maxLen; omega⟩⟩ hcv (by omega)).mono fun e w' ⟨h1, h2⟩ => ?_
    have ho : okI (Ms.map (fun p : Itm × Value => p.1)) last = true := by rw [hm]; exact wf_okI h.wf
    rcases h1 with ⟨_, q2, vk2, g2, M2, k1, k2, k3, k4⟩ | ⟨k1, _⟩
    · exact ⟨q2, vk2, g2, M2, k1, k2, k3.trans hm, k4, h2⟩
    · rw [ho] at k1; cases k1)
  have HS := Lib.hid h
  obtain ⟨b0, b1, b2, _, _, _⟩ := cells3 BQ.out
  clear h hrg BM
  go_enter Try.func21, Try.ntmps21
  go_wp2_with (first
    | (go_at_call 29; refine (HIT.out _ TW.out).mono ?_; rintro e w1 ⟨A1, n1, c1, Ms, rfl, hs1, he1, hf1, ht1⟩; clear hW0; have S1 := Lib.hid hs1; have E1 := Lib.hid he1; have F1 := Lib.hid hf1; have T1 := Lib.hid ht1; clear hs1 he1 hf1 ht1)
    | (go_at_call 28; refine (HLA.out _ (TW.out.trans T1.out)).mono ?_; rintro e w' ⟨rfl, rfl⟩)
    | (go_at_call 24; refine (HMK.out _ (TW.out.trans T1.out)).mono ?_; rintro e w' ⟨rfl, rfl⟩)
    | (go_at_call 15; refine (HLD.out _ _ _ _ Ms S1.out E1.out F1.out).mono ?_; rintro e w4 ⟨q2, vk2, g2, M2, rfl, hs2, he2, hf2, ht2⟩; have S4 := Lib.hid hs2; have E2 := Lib.hid he2; have F2 := Lib.hid hf2; have T2 := Lib.hid ht2; clear hs2 he2 hf2 ht2))
  have hsz0 : W0.heap.size = w.heap.size + 3 := HW0S.out
  have T04 : Hid (Turn (fun _ => False) W0 w4) := Lib.hid (Turn.trans (Turn.trans (Turn.refl _ _) T1.out) T2.out)
  have hf2 : ∀ k, Sw q2 vk2 g2 k → W0.heap.size ≤ k := fun k hk => Nat.le_trans T1.out.size (F2.out k hk)
  have BA4 : Hid (Blk w4 w.heap.size 32 [.slice AM Md.length cM, .int .i64 last, .int .i64 mark]) := Lib.hid (BA.out.turn T04.out (fun h => h))
  have B4 : Hid (Blk w4 (w.heap.size + 2) 32 [.slice none 0 0, .int .i64 0, .int .i64 0]) := Lib.hid (BR.out.turn T04.out (fun h => h))
  have HBX : Hid (∀ X, Turn (fun k => k = w.heap.size + 2) w4 X → X.cell? ⟨w.heap.size, 0, none⟩ = some (.slice AM Md.length cM) ∧ X.cell? ⟨w.heap.size, 1, none⟩ = some (.int .i64 last) ∧ X.cell? ⟨w.heap.size, 2, none⟩ = some (.int .i64 mark)) := Lib.hid (fun X hX => by
    have b := BA4.out.turn hX (fun e => by omega)
    exact ⟨b.cell 0, b.cell 1, b.cell 2⟩)
  -- region A
  have T0 : Hid (Turn (fun k => k = w.heap.size + 2) w4 w4.drew) := Lib.hid (Turn.refl _ _).drew
  refine wp_region_noPanic ?_
  refine wp_region_held_drew (S := (fun X => Turn (fun k => k = w.heap.size + 2) w4 X)) (by kernel_rfl) T0.out (fun hHeld => ?_)
  clear hHeld
  refine wpAnyH_take (i := 0) (v := ?_) rfl (by kernel_rfl) (by kernel_rfl) (by kernel_rfl) (fun _ _ _ h => h) (Or.inl ⟨by rfl, ?_⟩) (by assumption) ?_
  rotate_left 1
  · intro w' hSw
    go_simp
    all_goals first | with_reducible rfl | (rw [if_neg (by omega)]; done) | (rw [if_pos (by omega)]; done) | (rw [if_neg (by omega)]; with_reducible rfl) | (rw [if_pos (by omega)]; with_reducible rfl)
  try simp only [List.getElem_toArray, List.getElem_cons_zero, List.getElem_cons_succ, Act.put, List.setIfInBounds_toArray, List.set_cons_zero, List.set_cons_succ]
  refine wpAnyH_take (i := 1) (v := ?_) rfl (by kernel_rfl) (by kernel_rfl) (by kernel_rfl) (fun _ _ _ h => h) (Or.inl ⟨by rfl, ?_⟩) (by assumption) ?_
  rotate_left 1
  · intro w' hSw
    obtain ⟨y0, y1, y2⟩ := HBX.out _ hSw
    go_simp
    all_goals first | with_reducible rfl | (rw [if_neg (by omega)]; done) | (rw [if_pos (by omega)]; done) | (rw [if_neg (by omega)]; with_reducible rfl) | (rw [if_pos (by omega)]; with_reducible rfl)
  try simp only [List.getElem_toArray, List.getElem_cons_zero, List.getElem_cons_succ, Act.put, List.setIfInBounds_toArray, List.set_cons_zero, List.set_cons_succ]
  refine wpAnyH_take (i := 2) (v := ?_) rfl (by kernel_rfl) (by kernel_rfl) (by kernel_rfl) (fun _ _ _ h => h) (Or.inl ⟨by rfl, ?_⟩) (by assumption) ?_
  rotate_left 1
  · intro w' hSw
    go_simp
    all_goals first | with_reducible rfl | (rw [if_neg (by omega)]; done) | (rw [if_pos (by omega)]; done) | (rw [if_neg (by omega)]; with_reducible rfl) | (rw [if_pos (by omega)]; with_reducible rfl)
  try simp only [List.getElem_toArray, List.getElem_cons_zero, List.getElem_cons_succ, Act.put, List.setIfInBounds_toArray, List.set_cons_zero, List.set_cons_succ]
  refine wpAnyH_take (i := 3) (v := ?_) rfl (by kernel_rfl) (by kernel_rfl) (by kernel_rfl) (fun _ _ _ h => h) (Or.inl ⟨by rfl, ?_⟩) (by assumption) ?_
  rotate_left 1
  · intro w' hSw
    go_simp
    all_goals first | with_reducible rfl | (rw [if_neg (by omega)]; done) | (rw [if_pos (by omega)]; done) | (rw [if_neg (by omega)]; with_reducible rfl) | (rw [if_pos (by omega)]; with_reducible rfl)
  try simp only [List.getElem_toArray, List.getElem_cons_zero, List.getElem_cons_succ, Act.put, List.setIfInBounds_toArray, List.set_cons_zero, List.set_cons_succ]
  refine wpAnyH_take (i := 4) (v := ?_) rfl (by kernel_rfl) (by kernel_rfl) (by kernel_rfl) (fun _ _ _ h => h) (Or.inl ⟨by rfl, ?_⟩) (by assumption) ?_
  rotate_left 1
  · intro w' hSw
    go_simp
    all_goals first | with_reducible rfl | (rw [if_neg (by omega)]; done) | (rw [if_pos (by omega)]; done) | (rw [if_neg (by omega)]; with_reducible rfl) | (rw [if_pos (by omega)]; with_reducible rfl)
  try simp only [List.getElem_toArray, List.getElem_cons_zero, List.getElem_cons_succ, Act.put, List.setIfInBounds_toArray, List.set_cons_zero, List.set_cons_succ]
  refine wpAnyH_take (i := 5) (v := ?_) rfl (by kernel_rfl) (by kernel_rfl) (by kernel_rfl) (fun _ _ _ h => h) (Or.inl ⟨by rfl, ?_⟩) (by assumption) ?_
  rotate_left 1
  · intro w' hSw
    go_simp
    all_goals first | with_reducible rfl | (rw [if_neg (by omega)]; done) | (rw [if_pos (by omega)]; done) | (rw [if_neg (by omega)]; with_reducible rfl) | (rw [if_pos (by omega)]; with_reducible rfl)
  try simp only [List.getElem_toArray, List.getElem_cons_zero, List.getElem_cons_succ, Act.put, List.setIfInBounds_toArray, List.set_cons_zero, List.set_cons_succ]
  refine wpAnyH_take (i := 6) (v := ?_) rfl (by kernel_rfl) (by kernel_rfl) (by kernel_rfl) (fun _ _ _ h => h) (Or.inl ⟨by rfl, ?_⟩) (by assumption) ?_
  rotate_left 1
  · intro w' hSw
    go_simp
    all_goals first | with_reducible rfl | (rw [if_neg (by omega)]; done) | (rw [if_pos (by omega)]; done) | (rw [if_neg (by omega)]; with_reducible rfl) | (rw [if_pos (by omega)]; with_reducible rfl)
  try simp only [List.getElem_toArray, List.getElem_cons_zero, List.getElem_cons_succ, Act.put, List.setIfInBounds_toArray, List.set_cons_zero, List.set_cons_succ]
  refine wpAnyH_take (i := 7) (v := ?_) rfl (by kernel_rfl) (by kernel_rfl) (by kernel_rfl) (fun _ _ _ h => h) (Or.inl ⟨by rfl, ?_⟩) (by assumption) ?_
  rotate_left 1
  · intro w' hSw
    go_simp
    all_goals first | with_reducible rfl | (rw [if_neg (by omega)]; done) | (rw [if_pos (by omega)]; done) | (rw [if_neg (by omega)]; with_reducible rfl) | (rw [if_pos (by omega)]; with_reducible rfl)
  try simp only [List.getElem_toArray, List.getElem_cons_zero, List.getElem_cons_succ, Act.put, List.setIfInBounds_toArray, List.set_cons_zero, List.set_cons_succ]
  refine wpAnyH_take (i := 8) (v := ?_) rfl (by kernel_rfl) (by kernel_rfl) (by kernel_rfl) (fun _ _ _ h => h) (Or.inl ⟨by rfl, ?_⟩) (by assumption) ?_
  rotate_left 1
  · intro w' hSw
    go_simp
    all_goals first | with_reducible rfl | (rw [if_neg (by omega)]; done) | (rw [if_pos (by omega)]; done) | (rw [if_neg (by omega)]; with_reducible rfl) | (rw [if_pos (by omega)]; with_reducible rfl)
  try simp only [List.getElem_toArray, List.getElem_cons_zero, List.getElem_cons_succ, Act.put, List.setIfInBounds_toArray, List.set_cons_zero, List.set_cons_succ]
  refine wpAnyH_ready (rs := [9]) (by kernel_rfl) (by simp) ?_
  refine AllReadyH.cons rfl (fun K hK => ?_) AllReadyH.nil
  obtain ⟨r0, r1, r2, r3, r4, r5⟩ := cells3 B4.out
  have HF := Lib.hid (box3 B4.out (.slice AM Md.length cM) (.int .i64 last) (.int .i64 mark))
  go_simp
  have TS9 : Hid (Turn (fun k => k = w.heap.size + 2) w4 _) := Lib.hid (HF.out.2.1).drew
  refine hK.out _ _ TS9.out (fun hHeld => ?_)
  clear hHeld hK K
  try simp only [List.getElem_toArray, List.getElem_cons_zero, List.getElem_cons_succ, Act.put, List.setIfInBounds_toArray, List.set_cons_zero, List.set_cons_succ]
  refine wpAnyH_take (i := 10) (v := ?_) rfl (by kernel_rfl) (by kernel_rfl) (by kernel_rfl) (fun _ _ _ h => h) (Or.inl ⟨by rfl, ?_⟩) (by assumption) ?_
  rotate_left 1
  · intro w' hSw
    go_simp
    all_goals first | with_reducible rfl | (rw [if_neg (by omega)]; done) | (rw [if_pos (by omega)]; done) | (rw [if_neg (by omega)]; with_reducible rfl) | (rw [if_pos (by omega)]; with_reducible rfl)
  try simp only [List.getElem_toArray, List.getElem_cons_zero, List.getElem_cons_succ, Act.put, List.setIfInBounds_toArray, List.set_cons_zero, List.set_cons_succ]
  refine wpAnyH_done (by kernel_rfl) ?_ _
  refine NoPanic.normal ?_
  obtain ⟨_, _, k0, k1, k2⟩ := HF.out
  go_wp2_with fail
  exact bodyPost_ret (v := .tuple #[.pointer (some ⟨q2, 0, none⟩), .agg #[.slice AM Md.length cM, .int .i64 last, .int .i64 mark], .bool true]) (by simp [results, Try.results21, go_sem, k0, k1, k2]) rfl ⟨_, rfl, stp_new (B := W0.heap.size) (r := w.heap.size + 2) HS.out (by omega) (by omega) S4.out E2.out hf2 (fun p hp h0 b hb e => by subst e; exact vr_not_blk (S4.out.vers p hp).1.1 h0 hb B4.out (by simp)) ((TW.out.trans T04.out).mono (fun k _ h => h.elim)) TS9.out⟩
  -- region end A
end Go.Proofs.Ytobddfpdijmgiaa
