/- Layer 14: the statements' step: Copy. (mkSpBf.py) -/
import Derived.Test.YtobddfpdijmgiaaSpBc
namespace Go.Proofs.Ytobddfpdijmgiaa
open Go.RowKit Go.Shelf
set_option linter.unusedVariables false
set_option linter.unusedSimpArgs false
set_option maxRecDepth 100000
attribute [local go_sem] Oper.semAt_some

theorem mch_zz : mch [⟨⟨#[122, 122]⟩, ⟨#[122, 122]⟩, false⟩] = true := by decide
theorem cx_zz (w : World) : Cx (w.alloc (.cells #[.string ⟨#[122, 122]⟩, .string ⟨#[122, 122]⟩, .bool false] 95)) (.slice (some ⟨w.heap.size, 0, none⟩) 1 1) [⟨⟨#[122, 122]⟩, ⟨#[122, 122]⟩, false⟩] := cx_new w [⟨⟨#[122, 122]⟩, ⟨#[122, 122]⟩, false⟩] 1 _ rfl rfl (by decide)
/-- How a step ends that goes on with another space, apart from the old one. -/
theorem stp_new {w w4 w9 : World} {q g r q2 g2 : Nat} {vk mv vk2 : Value} {M Md M2 : List (Itm × Value)} {last mark k t : Int} {N B : Nat} (h : St14 w q vk g M last mark mv Md N)
    (hr : w.heap.size ≤ r) (hrB : r < B) (s4 : Sp w4 q2 vk2 g2 M2 last mark) (e2 : M2.map (fun p : Itm × Value => p.1) = M.map (fun p : Itm × Value => p.1)) (f2 : ∀ k, Sw q2 vk2 g2 k → B ≤ k) (v2 : ∀ p ∈ M2, 0 < p.1.vs.length → ∀ b, vb p.2 = some b → b ≠ r)
    (t4 : Turn (Sw q vk g) w w4) (ts : Turn (fun k => k = r) w4 w9) :
    Stq w q vk g (M.map (fun p : Itm × Value => p.1)) last mark k t N (.tuple #[.pointer (some ⟨q2, 0, none⟩), .agg #[mv, .int .i64 last, .int .i64 mark], .bool true]) w9 := by
  have hne : ∀ k, Sw q2 vk2 g2 k → k ≠ r := fun k hk e => by have := f2 k hk; omega
  refine ⟨q2, vk2, g2, M2, last, mark, mv, Md, rfl, ⟨?_, ?_, h.eq.trans e2.symm, e2 ▸ h.wf, h.rng, fun k hk => h.ix.ap (by have := f2 k hk; omega), bm_map h.bm e2⟩, fun k hk => .inr (by have := f2 k hk; omega), t4.trans_new ts (fun k hk e => by omega), .inl rfl, fun s _ _ h3 => ⟨h3, by rw [e2]; exact Sm14.refl _ _⟩⟩
  · exact s4.turn ts (hne _ (.inl rfl)) (hne _ (.inr (.inl rfl))) (fun k hk => hne k (.inr (.inr hk))) (fun p hp h0 b hb2 => v2 p hp h0 b hb2)
  · exact (h.ix.turnS h.ap t4).turn (h.ix.ap hr) ts
set_option maxHeartbeats 8000000 in
theorem step_cpy14 {w : World} {q g : Nat} {vk mv lv : Value} {M Md : List (Itm × Value)} {last mark : Int} {N : Nat} (t : Int) (h : St14 w q vk g M last mark mv Md N) (hN : N ≤ 20000) (hlv : ∃ A n c, lv = .slice A n c) :
    Calls Try.prog 21 #[.pointer (some ⟨q, 0, none⟩), .agg #[mv, .int .i64 last, .int .i64 mark], .agg #[.int .i64 2, .int .i64 t, lv]] w fun e w' => ∃ v, e = .returned v ∧ Stq w q vk g (M.map (fun p : Itm × Value => p.1)) last mark 2 t N v w' := by
  obtain ⟨LA, ln, lc, rfl⟩ := hlv
  obtain ⟨AM, cM, rfl, _⟩ := h.ix
  have hrg := h.rng
  obtain ⟨W0, hW0⟩ : ∃ W, ((w.alloc (.cells #[.slice AM Md.length cM, .int .i64 last, .int .i64 mark] 32)).alloc (.cells #[.int .i64 2, .int .i64 t, .slice LA ln lc] 45)).alloc (.cells #[.slice none 0 0, .int .i64 0, .int .i64 0] 32) = W := ⟨_, rfl⟩
  have HW0S : Hid (W0.heap.size = w.heap.size + 3) := Lib.hid (by rw [← hW0]; simp)
  have TW : Hid (Turn (fun _ => False) w W0) := Lib.hid (hW0 ▸ (((Turn.refl _ _).alloc _).alloc _).alloc _)
  have BA : Hid (Blk W0 w.heap.size 32 [.slice AM Md.length cM, .int .i64 last, .int .i64 mark]) := Lib.hid (hW0 ▸ ((Blk.new _ _ _).alloc _).alloc _)
  have BQ : Hid (Blk W0 (w.heap.size + 1) 45 [.int .i64 2, .int .i64 t, .slice LA ln lc]) := Lib.hid (hW0 ▸ (Blk.new_ _ _ _ (by simp)).alloc _)
  have BR : Hid (Blk W0 (w.heap.size + 2) 32 [.slice none 0 0, .int .i64 0, .int .i64 0]) := Lib.hid (hW0 ▸ Blk.new_ _ _ _ (by simp))
  have hq := wrap_of (last + 1) (by omega) (by omega)
  have hwm : IntKind.i64.wrap (last + 1) = last + 1 := hq
  have HCP : Hid (∀ X, Turn (fun _ => False) w X → Calls Try.prog 61 #[.pointer (some ⟨q, 0, none⟩)] X fun e w' => ∃ q' vk' g' M', e = .returned (.pointer (some ⟨q', 0, none⟩)) ∧ Sp w' q' vk' g' M' last mark ∧ M'.map (fun p : Itm × Value => p.1) = M.map (fun p : Itm × Value => p.1) ∧ ((∀ k, Sw q' vk' g' k → X.heap.size ≤ k) ∧ Vf14 X.heap.size M') ∧ Turn (fun _ => False) X w') := Lib.hid (fun X hX => copy_14 (h.sp.still hX) (h.bm.le (by omega)))
  have HAP : Hid (∀ X v, Turn (fun _ => False) w X → Cx X v [⟨⟨#[122, 122]⟩, ⟨#[122, 122]⟩, false⟩] → (∀ b, vb v = some b → w.heap.size ≤ b) → Calls Try.prog 26 #[.pointer (some ⟨q, 0, none⟩), .int .i64 (last + 1), v] X fun e w' => ∃ n : Int, e = .returned (.int .i64 n) ∧ Turn (Sw q vk g) X w') := Lib.hid (fun X v hX hcx hf => by
    by_cases hb : (1152921504606846976 : Int) < last + 1
    · exact (apply_14b _ _ (last + 1) (h.sp.still hX) hcx (by decide) (.inr (.inl hb))).mono fun e w' ⟨h1, h2⟩ => ⟨_, h1, h2.mono (fun k _ h => h.elim)⟩
    · refine (apply_14 _ _ (last + 1) (h.sp.still hX) hcx (fun _ b hb2 hs => ?_) (h.bm.le (by omega)) (by decide) h.wf (by omega) (by omega) hb mch_zz).mono fun e w' ⟨h1, vk', M', k1, k2, k3, k4⟩ => ⟨_, h1, k4⟩
      have h5 := h.sp.below b hs
      have h6 := hf b hb2
      omega)
  have HS := Lib.hid h
  obtain ⟨a0, a1, a2, _, _, _⟩ := cells3 BA.out
  obtain ⟨b0, b1, b2, _, _, _⟩ := cells3 BQ.out
  clear h hrg hq
  go_enter Try.func21, Try.ntmps21
  go_wp2_with (first
    | (go_at_call 61; refine (HCP.out _ TW.out).mono ?_; rintro e w2 ⟨q2, vk2, g2, M2, rfl, hs2, he2, hf2, ht2⟩; clear hW0; have S2 := Lib.hid hs2; have E2 := Lib.hid he2; have F2 := Lib.hid hf2; have T2 := Lib.hid ht2; clear hs2 he2 hf2 ht2; obtain ⟨a0, a1, a2, _, _, _⟩ := cells3 (BA.out.turn T2.out (fun h => h)))
    | (go_at_call 26; refine (HAP.out _ _ ((TW.out.trans T2.out).alloc _) (cx_zz w2) (fun b hb => by cases hb; exact (TW.out.trans T2.out).size)).mono ?_; rintro e w4 ⟨n4, rfl, ht4⟩; have T4 : Hid (Turn (Sw q vk g) w2 w4) := Lib.hid (((Turn.refl _ _).alloc _).trans ht4); clear ht4 a0 a1 a2))
  have hsw := HS.out.sp.below
  have hsz0 : W0.heap.size = w.heap.size + 3 := HW0S.out
  have T04 : Hid (Turn (Sw q vk g) W0 w4) := Lib.hid ((T2.out.mono (fun k _ h => h.elim)).trans T4.out)
  have hns : ∀ k, w.heap.size ≤ k → ¬ Sw q vk g k := fun k h1 h2 => by have := hsw k h2; omega
  have BA4 : Hid (Blk w4 w.heap.size 32 [.slice AM Md.length cM, .int .i64 last, .int .i64 mark]) := Lib.hid (BA.out.turn T04.out (hns _ (by omega)))
  have B4 : Hid (Blk w4 (w.heap.size + 2) 32 [.slice none 0 0, .int .i64 0, .int .i64 0]) := Lib.hid (BR.out.turn T04.out (hns _ (by omega)))
  have S4 : Hid (Sp w4 q2 vk2 g2 M2 last mark) := Lib.hid (S2.out.turn T4.out (hns _ (by have := F2.out.1 _ (.inl rfl); omega)) (hns _ (by have := F2.out.1 _ (.inr (.inl rfl)); omega)) (fun k hk => hns _ (by have := F2.out.1 _ (.inr (.inr hk)); omega)) (fun p hp h0 b hb => hns _ (by have := F2.out.2 p hp h0 b hb; omega)))
  have HBX : Hid (∀ X, Turn (fun k => k = w.heap.size + 2) w4 X → X.cell? ⟨w.heap.size, 0, none⟩ = some (.slice AM Md.length cM) ∧ X.cell? ⟨w.heap.size, 1, none⟩ = some (.int .i64 last) ∧ X.cell? ⟨w.heap.size, 2, none⟩ = some (.int .i64 mark)) := Lib.hid (fun X hX => by
    have b := BA4.out.turn hX (fun e => by omega)
    exact ⟨b.cell 0, b.cell 1, b.cell 2⟩)
  -- region A
  have T0 : Hid (Turn (fun k => k = w.heap.size + 2) w4 w4.drew) := Lib.hid (Turn.refl _ _).drew
  refine wp_region_noPanic ?_
  refine wp_region_held_drew (S := (fun X => Turn (fun k => k = w.heap.size + 2) w4 X)) (by kernel_rfl) T0.out (fun hHeld => ?_)
  clear hHeld
  refine wpAnyH_take (i := 0) (v := ?_) rfl (by kernel_rfl) (by kernel_rfl) (by kernel_rfl) (fun _ _ _ h => h) (Or.inl ⟨by rfl, ?_⟩) (by assumption) ?_
  rotate_left 1
  · intro w' hSw
    go_simp
    all_goals first | with_reducible rfl | (rw [if_neg (by omega)]; done) | (rw [if_pos (by omega)]; done) | (rw [if_neg (by omega)]; with_reducible rfl) | (rw [if_pos (by omega)]; with_reducible rfl)
  try simp only [List.getElem_toArray, List.getElem_cons_zero, List.getElem_cons_succ, Act.put, List.setIfInBounds_toArray, List.set_cons_zero, List.set_cons_succ]
  refine wpAnyH_take (i := 1) (v := ?_) rfl (by kernel_rfl) (by kernel_rfl) (by kernel_rfl) (fun _ _ _ h => h) (Or.inl ⟨by rfl, ?_⟩) (by assumption) ?_
  rotate_left 1
  · intro w' hSw
    obtain ⟨y0, y1, y2⟩ := HBX.out _ hSw
    go_simp
    all_goals first | with_reducible rfl | (rw [if_neg (by omega)]; done) | (rw [if_pos (by omega)]; done) | (rw [if_neg (by omega)]; with_reducible rfl) | (rw [if_pos (by omega)]; with_reducible rfl)
  try simp only [List.getElem_toArray, List.getElem_cons_zero, List.getElem_cons_succ, Act.put, List.setIfInBounds_toArray, List.set_cons_zero, List.set_cons_succ]
  refine wpAnyH_take (i := 2) (v := ?_) rfl (by kernel_rfl) (by kernel_rfl) (by kernel_rfl) (fun _ _ _ h => h) (Or.inl ⟨by rfl, ?_⟩) (by assumption) ?_
  rotate_left 1
  · intro w' hSw
    go_simp
    all_goals first | with_reducible rfl | (rw [if_neg (by omega)]; done) | (rw [if_pos (by omega)]; done) | (rw [if_neg (by omega)]; with_reducible rfl) | (rw [if_pos (by omega)]; with_reducible rfl)
  try simp only [List.getElem_toArray, List.getElem_cons_zero, List.getElem_cons_succ, Act.put, List.setIfInBounds_toArray, List.set_cons_zero, List.set_cons_succ]
  refine wpAnyH_take (i := 3) (v := ?_) rfl (by kernel_rfl) (by kernel_rfl) (by kernel_rfl) (fun _ _ _ h => h) (Or.inl ⟨by rfl, ?_⟩) (by assumption) ?_
  rotate_left 1
  · intro w' hSw
    go_simp
    all_goals first | with_reducible rfl | (rw [if_neg (by omega)]; done) | (rw [if_pos (by omega)]; done) | (rw [if_neg (by omega)]; with_reducible rfl) | (rw [if_pos (by omega)]; with_reducible rfl)
  try simp only [List.getElem_toArray, List.getElem_cons_zero, List.getElem_cons_succ, Act.put, List.setIfInBounds_toArray, List.set_cons_zero, List.set_cons_succ]
  refine wpAnyH_take (i := 4) (v := ?_) rfl (by kernel_rfl) (by kernel_rfl) (by kernel_rfl) (fun _ _ _ h => h) (Or.inl ⟨by rfl, ?_⟩) (by assumption) ?_
  rotate_left 1
  · intro w' hSw
    go_simp
    all_goals first | with_reducible rfl | (rw [if_neg (by omega)]; done) | (rw [if_pos (by omega)]; done) | (rw [if_neg (by omega)]; with_reducible rfl) | (rw [if_pos (by omega)]; with_reducible rfl)
  try simp only [List.getElem_toArray, List.getElem_cons_zero, List.getElem_cons_succ, Act.put, List.setIfInBounds_toArray, List.set_cons_zero, List.set_cons_succ]
  refine wpAnyH_ready (rs := [5]) (by kernel_rfl) (by simp) ?_
  refine AllReadyH.cons rfl (fun K hK => ?_) AllReadyH.nil
  obtain ⟨r0, r1, r2, r3, r4, r5⟩ := cells3 B4.out
  have HF := Lib.hid (box3 B4.out (.slice AM Md.length cM) (.int .i64 last) (.int .i64 mark))
  go_simp
  have TS9 : Hid (Turn (fun k => k = w.heap.size + 2) w4 _) := Lib.hid (HF.out.2.1).drew
  refine hK.out _ _ TS9.out (fun hHeld => ?_)
  clear hHeld hK K
  try simp only [List.getElem_toArray, List.getElem_cons_zero, List.getElem_cons_succ, Act.put, List.setIfInBounds_toArray, List.set_cons_zero, List.set_cons_succ]
  refine wpAnyH_take (i := 6) (v := ?_) rfl (by kernel_rfl) (by kernel_rfl) (by kernel_rfl) (fun _ _ _ h => h) (Or.inl ⟨by rfl, ?_⟩) (by assumption) ?_
  rotate_left 1
  · intro w' hSw
    go_simp
    all_goals first | with_reducible rfl | (rw [if_neg (by omega)]; done) | (rw [if_pos (by omega)]; done) | (rw [if_neg (by omega)]; with_reducible rfl) | (rw [if_pos (by omega)]; with_reducible rfl)
  try simp only [List.getElem_toArray, List.getElem_cons_zero, List.getElem_cons_succ, Act.put, List.setIfInBounds_toArray, List.set_cons_zero, List.set_cons_succ]
  refine wpAnyH_done (by kernel_rfl) ?_ _
  refine NoPanic.normal ?_
  obtain ⟨_, _, k0, k1, k2⟩ := HF.out
  go_wp2_with fail
  exact bodyPost_ret (v := .tuple #[.pointer (some ⟨q2, 0, none⟩), .agg #[.slice AM Md.length cM, .int .i64 last, .int .i64 mark], .bool true]) (by simp [results, Try.results21, go_sem, k0, k1, k2]) rfl ⟨_, rfl, stp_new (B := W0.heap.size) (r := w.heap.size + 2) HS.out (by omega) (by omega) S4.out E2.out (fun k hk => F2.out.1 k hk) (fun p hp h0 b hb e => by have := F2.out.2 p hp h0 b hb; have := T2.out.size; omega) ((TW.out.mono (fun k _ h => h.elim)).trans T04.out) TS9.out⟩
  -- region end A
end Go.Proofs.Ytobddfpdijmgiaa
