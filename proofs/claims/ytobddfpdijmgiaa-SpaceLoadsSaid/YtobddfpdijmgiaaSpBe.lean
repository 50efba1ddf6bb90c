/- Layer 14: the statements' step: Apply. (mkSpBe.py) -/
import Derived.Test.YtobddfpdijmgiaaSpBc
namespace Go.Proofs.Ytobddfpdijmgiaa
open Go.RowKit Go.Shelf
set_option linter.unusedVariables false
set_option linter.unusedSimpArgs false
set_option maxRecDepth 100000
attribute [local go_sem] Oper.semAt_some

theorem info_ch14 : (Try.prog.info? 95).map (fun i => (i.zero, i.size, i.bytes)) = some (some (.agg #[.string ByteArray.empty, .string ByteArray.empty, .bool false]), 3, 40) := by kernel_rfl
theorem ccs_one (L : List Cg) : ∀ u ∈ L.flatMap cc, u.oneCell' = true := fun u hu => by
  obtain ⟨p, hp, hx⟩ := List.mem_flatMap.1 hu
  simp [cc] at hx
  rcases hx with rfl | rfl | rfl <;> rfl
theorem step_bare14 {P : Program} {w : World} {ops : Array Oper} {o : Oper} {a : Act} {K : Act → World → Prop} {Q : Exit → Act → World → Prop} {E : Prop} (hgd : o.guard = none) (x y : Operand) (t : TypeId)
    (ho : o.op = .call { callee := .builtin .append, args := #[x, y], argTypes := #[t, t] })
    (e : TypeId) (z : Value) (size bytes : Nat) (ht : P.underlying t = some (.slice e)) (hi : (P.info? e).map (fun i => (i.zero, i.size, i.bytes)) = some (some z, size, bytes)) (hzs : z.cells.size = size) (hsz : 0 < size)
    (AO : Option Addr) (hx : a.eval x = .slice AO 0 0)
    (A : Option Addr) (m c : Nat) (news : List Value) (hy : a.eval y = .slice A m c) (hl : news.length = m * size) (hr : Rc w A news) (h1 : ∀ u ∈ news, u.oneCell' = true)
    (h63 : m ≤ maxLen) (hbytes : m * bytes ≤ 140737488355328)
    (h : ∀ A' c' w', Rc w' A' news → (m ≤ c' ∧ (0 < m → ∀ a, A' = some a → w.heap.size ≤ a.block)) → Turn (fun _ => False) w w' → K (a.put o.dst (.slice A' m c')) w') :
    if Region.wanted o (yielded ops a.tmps) = true then Oper.wp P o a w K Q else E := by
  have hw : Region.wanted o (yielded ops a.tmps) = true := by simp [Region.wanted, hgd]
  rw [if_pos hw]
  cases hi' : P.info? e with
  | none => rw [hi'] at hi; cases hi
  | some i =>
    rw [hi'] at hi
    simp at hi
    obtain ⟨hz, hs, hb⟩ := hi
    obtain ⟨A', c', w', hrun, h2, hmc, h3⟩ := run_app_bare (P := P) w t o.type e i z size bytes ht hi' hz hs hb hzs hsz AO A m c news hl hr h1 h63 hbytes
    unfold Oper.wp execOp
    simp only [ho, resolve, invoke, builtin, Sem.run_bind, Sem.run_pure, Result.andThen_ok, List.map_toArray, List.map_cons, List.map_nil, hx, hy, hrun]
    exact h _ _ _ h2 hmc h3
set_option maxHeartbeats 8000000 in
theorem step_apl14 {w : World} {q g : Nat} {vk mv lv : Value} {M Md : List (Itm × Value)} {last mark : Int} {N : Nat} (k t : Int) (L : List Cg) (h : St14 w q vk g M last mark mv Md N) (hN : N ≤ 20000) (hlv : Cx w lv L) (hL : L.length ≤ 1000) (ht : -100 ≤ t ∧ t ≤ 1099511627776) (hk1 : ¬ k = 1) (hk2 : ¬ k = 2) (hk3 : ¬ k = 3) :
    Calls Try.prog 21 #[.pointer (some ⟨q, 0, none⟩), .agg #[mv, .int .i64 last, .int .i64 mark], .agg #[.int .i64 k, .int .i64 t, lv]] w fun e w' => ∃ v, e = .returned v ∧ Stq w q vk g (M.map (fun p : Itm × Value => p.1)) last mark k t (N + L.length + 1) v w' := by
  have HCX := Lib.hid hlv
  obtain ⟨LA, lc, rfl, _⟩ := hlv
  obtain ⟨AM, cM, rfl, _⟩ := h.ix
  obtain ⟨ln, hln⟩ : ∃ n, L.length = n := ⟨_, rfl⟩
  have HLN := Lib.hid hln
  have hrg := h.rng
  have hq := wrap_of (last + t) (by omega) (by omega)
  have BM := h.bm.le (K := 50000) (by omega)
  have BD := bm_map BM h.eq
  obtain ⟨m, hm⟩ : ∃ m, last + t = m := ⟨_, rfl⟩
  obtain ⟨er, her⟩ : ∃ x : Int, (if m ≤ last ∨ 1152921504606846976 < m ∨ mch L = false then (if m ≤ last ∨ 1152921504606846976 < m then 18 else 2) else 0) = x := ⟨_, rfl⟩
  obtain ⟨la, hla⟩ : ∃ x : Int, (if m ≤ last ∨ 1152921504606846976 < m ∨ mch L = false then last else m) = x := ⟨_, rfl⟩
  obtain ⟨I2, hI2⟩ : ∃ x : List Itm, (if m ≤ last ∨ 1152921504606846976 < m ∨ mch L = false then M.map (fun p : Itm × Value => p.1) else aplR (M.map (fun p : Itm × Value => p.1)) m L) = x := ⟨_, rfl⟩
  have hgood : ¬ (m ≤ last ∨ 1152921504606846976 < m ∨ mch L = false) → ¬ m ≤ last ∧ ¬ 1152921504606846976 < m ∧ mch L = true := fun hb => ⟨fun h => hb (.inl h), fun h => hb (.inr (.inl h)), by cases hh : mch L with | true => rfl | false => exact absurd (.inr (.inr hh)) hb⟩
  have HAW : Hid (¬ (m ≤ last ∨ 1152921504606846976 < m ∨ mch L = false) → Wf (aplR (M.map (fun p : Itm × Value => p.1)) m L) m ∧ apl (M.map (fun p : Itm × Value => p.1)) m L = aplR (M.map (fun p : Itm × Value => p.1)) m L) := Lib.hid (fun hb => aplR_wf h.wf (by omega) (by have := (hgood hb).1; omega) (by have := (hgood hb).2.1; omega) _ L rfl (mch_ok (hgood hb).2.2))
  have HWF : Hid (Wf I2 la ∧ BI (N + L.length + 1) I2 ∧ mark ≤ la ∧ la ≤ 1152921504606846976 ∧ ∀ s, mark ≤ s → mark ≤ s → s ≤ last → s ≤ la ∧ Sm14 I2 (M.map (fun p : Itm × Value => p.1)) s) := Lib.hid (by
    rw [← hI2, ← hla]
    by_cases hb : m ≤ last ∨ 1152921504606846976 < m ∨ mch L = false
    · rw [if_pos hb, if_pos hb]; exact ⟨h.wf, (bi_of h.bm).le (by omega), hrg.2.1, hrg.2.2, fun s _ _ h3 => ⟨h3, Sm14.refl _ _⟩⟩
    · rw [if_neg hb, if_neg hb]
      have h1 := hgood hb
      exact ⟨(HAW.out hb).1, aplR_bi (bi_of h.bm) (HAW.out hb).1, by omega, by omega, fun s _ _ h3 => ⟨by omega, sm_aplR h.wf (by omega) (by omega) (by omega) h3 _ L rfl (mch_ok h1.2.2)⟩⟩)
  obtain ⟨W0, hW0⟩ : ∃ W, ((w.alloc (.cells #[.slice AM Md.length cM, .int .i64 last, .int .i64 mark] 32)).alloc (.cells #[.int .i64 k, .int .i64 t, .slice LA ln lc] 45)).alloc (.cells #[.slice none 0 0, .int .i64 0, .int .i64 0] 32) = W := ⟨_, rfl⟩
  have HW0S : Hid (W0.heap.size = w.heap.size + 3) := Lib.hid (by rw [← hW0]; simp)
  have TW : Hid (Turn (fun _ => False) w W0) := Lib.hid (hW0 ▸ (((Turn.refl _ _).alloc _).alloc _).alloc _)
  have BA : Hid (Blk W0 w.heap.size 32 [.slice AM Md.length cM, .int .i64 last, .int .i64 mark]) := Lib.hid (hW0 ▸ ((Blk.new _ _ _).alloc _).alloc _)
  have BQ : Hid (Blk W0 (w.heap.size + 1) 45 [.int .i64 k, .int .i64 t, .slice LA ln lc]) := Lib.hid (hW0 ▸ (Blk.new_ _ _ _ (by simp)).alloc _)
  have BR : Hid (Blk W0 (w.heap.size + 2) 32 [.slice none 0 0, .int .i64 0, .int .i64 0]) := Lib.hid (hW0 ▸ Blk.new_ _ _ _ (by simp))
  have HVD : Hid (∀ X, Turn (fun _ => False) w X → Calls Try.prog 62 #[.agg #[.slice AM Md.length cM, .int .i64 last, .int .i64 mark], .int .i64 m, .slice LA ln lc] X fun e w' => ∃ A n c, e = .returned (.tuple #[.agg #[.slice A n c, .int .i64 la, .int .i64 mark], .int .i64 er]) ∧ (∃ M2, Ix w' (.slice A n c) M2 ∧ M2.map (fun p : Itm × Value => p.1) = I2 ∧ ∀ k, k < X.heap.size → Ap14 k (.slice AM Md.length cM) Md → Ap14 k (.slice A n c) M2) ∧ Turn (fun _ => False) X w') := Lib.hid (fun X hX => by
    have hcx := HCX.out.still hX
    rw [HLN.out] at hcx
    by_cases hb : m ≤ last ∨ 1152921504606846976 < m ∨ mch L = false
    · refine (refApply14_bad L _ _ _ _ last mark m X hcx hb).mono fun e w' ⟨h1, h2⟩ => ⟨_, _, _, ?_, ⟨Md, (h.ix.still hX).still h2, ?_, fun k _ hk => hk⟩, h2⟩
      · rw [h1, ← her, ← hla, if_pos hb, if_pos hb]
      · rw [← hI2, if_pos hb]; exact h.eq
    · have hg := hgood hb
      refine (refApply14 Md L _ _ last mark m X (h.ix.still hX) hcx BD.1 hL (fun p hp => (BD.2 p hp).1) (fun p hp => by have := (BD.2 p hp).2; omega) hg.1 hg.2.1 hg.2.2).mono fun e w' ⟨v', h1, ⟨M2, k1, k2, _, _, _, k3⟩, h2⟩ => ?_
      obtain ⟨A, c, e, _⟩ := id k1
      subst e
      refine ⟨A, _, c, ?_, ⟨M2, k1, ?_, k3⟩, h2⟩
      · rw [h1, ← her, ← hla, if_neg hb, if_neg hb]
      · rw [k2, h.eq, ← hI2, if_neg hb]; exact (HAW.out hb).2)
  have HVP : Hid (∀ X, Turn (fun _ => False) w X → ∀ A c, Cx X (.slice A ln c) L → (0 < ln → ∀ a, A = some a → w.heap.size ≤ a.block) → Calls Try.prog 26 #[.pointer (some ⟨q, 0, none⟩), .int .i64 m, .slice A ln c] X fun e w' => ∃ v, e = .returned v ∧ v = .int .i64 er ∧ (∃ vk' M', Sp w' q vk' g M' la mark ∧ M'.map (fun p : Itm × Value => p.1) = I2 ∧ ∀ k, Sw q vk' g k → Sw q vk g k ∨ X.heap.size ≤ k) ∧ Turn (Sw q vk g) X w') := Lib.hid (fun X hX A c hcx hfr => by
    by_cases hb : m ≤ last ∨ 1152921504606846976 < m ∨ mch L = false
    · refine (apply_14b L _ m (h.sp.still hX) hcx hL hb).mono fun e w' ⟨h1, h2⟩ => ⟨_, h1, ?_, ⟨vk, M, ?_, ?_, fun k hk => .inl hk⟩, h2.mono (fun k _ h => h.elim)⟩
      · rw [← her, if_pos hb]
      · rw [← hla, if_pos hb]; exact (h.sp.still hX).still h2
      · rw [← hI2, if_pos hb]
    · have hg := hgood hb
      refine (apply_14 L _ m (h.sp.still hX) hcx (fun h0 b hb2 hs => ?_) BM hL h.wf (by omega) hg.1 hg.2.1 hg.2.2).mono fun e w' ⟨h1, vk', M', k1, k2, k3, k4⟩ => ⟨_, h1, ?_, ⟨vk', M', ?_, ?_, k3⟩, k4⟩
      · have h5 := h.sp.below b hs
        cases A with
        | none => cases hb2
        | some a =>
          have h6 := hfr (by rw [← HLN.out]; exact h0) a rfl
          have h7 : some a.block = some b := hb2
          cases h7
          omega
      · rw [← her, if_neg hb]
      · rw [← hla, if_neg hb]; exact k1
      · rw [← hI2, if_neg hb]; exact k2)
  have HS := Lib.hid h
  have hln2 : ln ≤ 1000 := by omega
  have HRC : Hid (Rc w LA (L.flatMap cc)) := Lib.hid (by obtain ⟨A', c', e, _, hr⟩ := HCX.out; injection e with e1 e2 e3; rw [e1]; exact hr)
  have hwm : IntKind.i64.wrap (last + t) = m := by rw [hq]; exact hm
  obtain ⟨a0, a1, a2, _, _, _⟩ := cells3 BA.out
  obtain ⟨b0, b1, b2, _, _, _⟩ := cells3 BQ.out
  rw [hln] at HWF ⊢
  clear h her hla hI2 hrg BM BD hq hgood HAW HCX hln hL hm
  go_enter Try.func21, Try.ntmps21
  go_wp2_with (go_at_call 62; refine (HVD.out _ TW.out).mono ?_; rintro e w2 ⟨A2, n2, c2, rfl, hm2, ht2⟩; clear hW0; have M2 := Lib.hid hm2; have T2 := Lib.hid ht2; clear hm2 ht2)
  obtain ⟨W5, hW5⟩ : ∃ W, w2.alloc (.cells #[.slice A2 n2 c2, .int .i64 la, .int .i64 mark] 32) = W := ⟨_, rfl⟩
  rw [hW5]
  have hsw := HS.out.sp.below
  have hsz0 : W0.heap.size = w.heap.size + 3 := HW0S.out
  have hsz2 := T2.out.size
  have hsz5 : W5.heap.size = w2.heap.size + 1 := by rw [← hW5]; simp
  have T5 : Hid (Turn (fun _ => False) W0 W5) := Lib.hid (hW5 ▸ T2.out.alloc _)
  have T25 : Hid (Turn (fun _ => False) w2 W5) := Lib.hid (hW5 ▸ (Turn.refl _ _).alloc _)
  have BX : Hid (Blk W5 w2.heap.size 32 [.slice A2 n2 c2, .int .i64 la, .int .i64 mark]) := Lib.hid (hW5 ▸ Blk.new _ _ _)
  have HBX : Hid (∀ X, Turn (fun k => Sw q vk g k ∨ k = w.heap.size + 2) W5 X → X.cell? ⟨w2.heap.size, 0, none⟩ = some (.slice A2 n2 c2) ∧ X.cell? ⟨w2.heap.size, 1, none⟩ = some (.int .i64 la) ∧ X.cell? ⟨w2.heap.size, 2, none⟩ = some (.int .i64 mark) ∧ X.cell? ⟨w.heap.size, 1, none⟩ = some (.int .i64 last) ∧ X.cell? ⟨w.heap.size + 1, 1, none⟩ = some (.int .i64 t) ∧ X.cell? ⟨w.heap.size + 1, 2, none⟩ = some (.slice LA ln lc)) := Lib.hid (fun X hX => by
    have n1 : ∀ k, w.heap.size ≤ k → k ≠ w.heap.size + 2 → ¬ (Sw q vk g k ∨ k = w.heap.size + 2) := fun k h1 h2 h3 => h3.elim (fun h4 => by have := hsw k h4; omega) h2
    have bx := BX.out.turn hX (n1 _ (by omega) (by omega))
    have bq := (BQ.out.turn T5.out (fun h => h)).turn hX (n1 _ (by omega) (by omega))
    exact ⟨bx.cell 0, bx.cell 1, bx.cell 2, ((BA.out.turn T5.out (fun h => h)).turn hX (n1 _ (by omega) (by omega))).cell 1, bq.cell 1, bq.cell 2⟩)
  have HRC5 : Hid (∀ X, Turn (fun _ => False) W5 X → Rc X LA (L.flatMap cc)) := Lib.hid (fun X hX => HRC.out.still ((TW.out.trans T5.out).trans hX))
  have HVP5 : Hid (∀ X, Turn (fun _ => False) W5 X → ∀ A c, Rc X A (L.flatMap cc) → (0 < ln → ∀ a, A = some a → W5.heap.size ≤ a.block) → Calls Try.prog 26 #[.pointer (some ⟨q, 0, none⟩), .int .i64 m, .slice A ln c] X fun e w' => ∃ v, e = .returned v ∧ v = .int .i64 er ∧ (∃ vk' M', Sp w' q vk' g M' la mark ∧ M'.map (fun p : Itm × Value => p.1) = I2 ∧ ∀ k, Sw q vk' g k → Sw q vk g k ∨ X.heap.size ≤ k) ∧ Turn (Sw q vk g) X w') := Lib.hid (fun X hX A c hr hf => HVP.out X ((TW.out.trans T5.out).trans hX) A c ⟨A, c, by rw [HLN.out], by rw [HLN.out]; omega, hr⟩ (fun h0 a e => by have := hf h0 a e; omega))
  clear hW5 a0 a1 a2 b0 b1 b2
  -- region A
  have T0 : Hid (Turn (fun k => Sw q vk g k ∨ k = w.heap.size + 2) W5 W5.drew) := Lib.hid (Turn.refl _ _).drew
  refine wp_region_noPanic ?_
  refine wp_region_held_drew (S := (fun X => Turn (fun k => Sw q vk g k ∨ k = w.heap.size + 2) W5 X)) (by kernel_rfl) T0.out (fun hHeld => ?_)
  clear hHeld
  refine wpAnyH_take (i := 0) (v := ?_) rfl (by kernel_rfl) (by kernel_rfl) (by kernel_rfl) (fun _ _ _ h => h) (Or.inl ⟨by rfl, ?_⟩) (by assumption) ?_
  rotate_left 1
  · intro w' hSw
    go_simp
    all_goals first | with_reducible rfl | (rw [if_neg (by omega)]; done) | (rw [if_pos (by omega)]; done) | (rw [if_neg (by omega)]; with_reducible rfl) | (rw [if_pos (by omega)]; with_reducible rfl)
  try simp only [List.getElem_toArray, List.getElem_cons_zero, List.getElem_cons_succ, Act.put, List.setIfInBounds_toArray, List.set_cons_zero, List.set_cons_succ]
  refine wpAnyH_take (i := 1) (v := ?_) rfl (by kernel_rfl) (by kernel_rfl) (by kernel_rfl) (fun _ _ _ h => h) (Or.inl ⟨by rfl, ?_⟩) (by assumption) ?_
  rotate_left 1
  · intro w' hSw
    obtain ⟨y0, y1, y2, y3, y4, y5⟩ := HBX.out _ hSw
    go_simp
    all_goals first | with_reducible rfl | (rw [if_neg (by omega)]; done) | (rw [if_pos (by omega)]; done) | (rw [if_neg (by omega)]; with_reducible rfl) | (rw [if_pos (by omega)]; with_reducible rfl)
  try simp only [List.getElem_toArray, List.getElem_cons_zero, List.getElem_cons_succ, Act.put, List.setIfInBounds_toArray, List.set_cons_zero, List.set_cons_succ]
  refine wpAnyH_take (i := 2) (v := ?_) rfl (by kernel_rfl) (by kernel_rfl) (by kernel_rfl) (fun _ _ _ h => h) (Or.inl ⟨by rfl, ?_⟩) (by assumption) ?_
  rotate_left 1
  · intro w' hSw
    go_simp
    all_goals first | with_reducible rfl | (rw [if_neg (by omega)]; done) | (rw [if_pos (by omega)]; done) | (rw [if_neg (by omega)]; with_reducible rfl) | (rw [if_pos (by omega)]; with_reducible rfl)
  try simp only [List.getElem_toArray, List.getElem_cons_zero, List.getElem_cons_succ, Act.put, List.setIfInBounds_toArray, List.set_cons_zero, List.set_cons_succ]
  refine wpAnyH_take (i := 3) (v := ?_) rfl (by kernel_rfl) (by kernel_rfl) (by kernel_rfl) (fun _ _ _ h => h) (Or.inl ⟨by rfl, ?_⟩) (by assumption) ?_
  rotate_left 1
  · intro w' hSw
    go_simp
    all_goals first | with_reducible rfl | (rw [if_neg (by omega)]; done) | (rw [if_pos (by omega)]; done) | (rw [if_neg (by omega)]; with_reducible rfl) | (rw [if_pos (by omega)]; with_reducible rfl)
  try simp only [List.getElem_toArray, List.getElem_cons_zero, List.getElem_cons_succ, Act.put, List.setIfInBounds_toArray, List.set_cons_zero, List.set_cons_succ]
  refine wpAnyH_take (i := 4) (v := ?_) rfl (by kernel_rfl) (by kernel_rfl) (by kernel_rfl) (fun _ _ _ h => h) (Or.inl ⟨by rfl, ?_⟩) (by assumption) ?_
  rotate_left 1
  · intro w' hSw
    obtain ⟨y0, y1, y2, y3, y4, y5⟩ := HBX.out _ hSw
    go_simp
    all_goals first | with_reducible rfl | (rw [if_neg (by omega)]; done) | (rw [if_pos (by omega)]; done) | (rw [if_neg (by omega)]; with_reducible rfl) | (rw [if_pos (by omega)]; with_reducible rfl)
  try simp only [List.getElem_toArray, List.getElem_cons_zero, List.getElem_cons_succ, Act.put, List.setIfInBounds_toArray, List.set_cons_zero, List.set_cons_succ]
  refine wpAnyH_take (i := 5) (v := ?_) rfl (by kernel_rfl) (by kernel_rfl) (by kernel_rfl) (fun _ _ _ h => h) (Or.inl ⟨by rfl, ?_⟩) (by assumption) ?_
  rotate_left 1
  · intro w' hSw
    go_simp
    all_goals first | with_reducible rfl | (rw [if_neg (by omega)]; done) | (rw [if_pos (by omega)]; done) | (rw [if_neg (by omega)]; with_reducible rfl) | (rw [if_pos (by omega)]; with_reducible rfl)
  try simp only [List.getElem_toArray, List.getElem_cons_zero, List.getElem_cons_succ, Act.put, List.setIfInBounds_toArray, List.set_cons_zero, List.set_cons_succ]
  refine wpAnyH_take (i := 6) (v := ?_) rfl (by kernel_rfl) (by kernel_rfl) (by kernel_rfl) (fun _ _ _ h => h) (Or.inl ⟨by rfl, ?_⟩) (by assumption) ?_
  rotate_left 1
  · intro w' hSw
    obtain ⟨y0, y1, y2, y3, y4, y5⟩ := HBX.out _ hSw
    go_simp
    all_goals first | with_reducible rfl | (rw [if_neg (by omega)]; done) | (rw [if_pos (by omega)]; done) | (rw [if_neg (by omega)]; with_reducible rfl) | (rw [if_pos (by omega)]; with_reducible rfl)
  try simp only [List.getElem_toArray, List.getElem_cons_zero, List.getElem_cons_succ, Act.put, List.setIfInBounds_toArray, List.set_cons_zero, List.set_cons_succ]
  refine wpAnyH_take (i := 7) (v := ?_) rfl (by kernel_rfl) (by kernel_rfl) (by kernel_rfl) (fun _ _ _ h => h) (Or.inl ⟨by rfl, ?_⟩) (by assumption) ?_
  rotate_left 1
  · intro w' hSw
    go_simp
    all_goals first | with_reducible rfl | (rw [if_neg (by omega)]; done) | (rw [if_pos (by omega)]; done) | (rw [if_neg (by omega)]; with_reducible rfl) | (rw [if_pos (by omega)]; with_reducible rfl)
  try simp only [List.getElem_toArray, List.getElem_cons_zero, List.getElem_cons_succ, Act.put, List.setIfInBounds_toArray, List.set_cons_zero, List.set_cons_succ]
  refine wpAnyH_take (i := 9) (v := ?_) rfl (by kernel_rfl) (by kernel_rfl) (by kernel_rfl) (fun _ _ _ h => h) (Or.inl ⟨by rfl, ?_⟩) (by assumption) ?_
  rotate_left 1
  · intro w' hSw
    go_simp
    all_goals first | with_reducible rfl | (rw [if_neg (by omega)]; done) | (rw [if_pos (by omega)]; done) | (rw [if_neg (by omega)]; with_reducible rfl) | (rw [if_pos (by omega)]; with_reducible rfl)
  try simp only [List.getElem_toArray, List.getElem_cons_zero, List.getElem_cons_succ, Act.put, List.setIfInBounds_toArray, List.set_cons_zero, List.set_cons_succ]
  refine wpAnyH_take (i := 10) (v := ?_) rfl (by kernel_rfl) (by kernel_rfl) (by kernel_rfl) (fun _ _ _ h => h) (Or.inl ⟨by rfl, ?_⟩) (by assumption) ?_
  rotate_left 1
  · intro w' hSw
    obtain ⟨y0, y1, y2, y3, y4, y5⟩ := HBX.out _ hSw
    go_simp
    all_goals first | with_reducible rfl | (rw [if_neg (by omega)]; done) | (rw [if_pos (by omega)]; done) | (rw [if_neg (by omega)]; with_reducible rfl) | (rw [if_pos (by omega)]; with_reducible rfl)
  try simp only [List.getElem_toArray, List.getElem_cons_zero, List.getElem_cons_succ, Act.put, List.setIfInBounds_toArray, List.set_cons_zero, List.set_cons_succ]
  refine wpAnyH_take (i := 13) (v := ?_) rfl (by kernel_rfl) (by kernel_rfl) (by kernel_rfl) (fun _ _ _ h => h) (Or.inl ⟨by rfl, ?_⟩) (by assumption) ?_
  rotate_left 1
  · intro w' hSw
    go_simp
    all_goals first | with_reducible rfl | (rw [if_neg (by omega)]; done) | (rw [if_pos (by omega)]; done) | (rw [if_neg (by omega)]; with_reducible rfl) | (rw [if_pos (by omega)]; with_reducible rfl)
  try simp only [List.getElem_toArray, List.getElem_cons_zero, List.getElem_cons_succ, Act.put, List.setIfInBounds_toArray, List.set_cons_zero, List.set_cons_succ]
  refine wpAnyH_ready (rs := [8]) (by kernel_rfl) (by simp) ?_
  refine AllReadyH.cons rfl (fun K hK => ?_) AllReadyH.nil
  go_simp
  have T1F : Hid (Turn (fun _ => False) W5 (W5.drew.alloc (.cells #[] 95))) := Lib.hid ((Turn.refl _ _).drew.alloc _)
  have T1 : Hid (Turn (fun k => Sw q vk g k ∨ k = w.heap.size + 2) W5 (W5.drew.alloc (.cells #[] 95))) := Lib.hid (T1F.out.mono (fun k _ h => h.elim))
  refine hK.out _ _ T1.out (fun hHeld => ?_)
  clear hHeld hK K
  try simp only [List.getElem_toArray, List.getElem_cons_zero, List.getElem_cons_succ, Act.put, List.setIfInBounds_toArray, List.set_cons_zero, List.set_cons_succ]
  refine wpAnyH_ready (rs := [11]) (by kernel_rfl) (by simp) ?_
  refine AllReadyH.cons rfl (fun K hK => ?_) AllReadyH.nil
  refine step_bare14 rfl _ _ 43 rfl 95 _ 3 40 Try.underlying43 info_ch14 rfl (by decide) _ rfl LA ln lc (L.flatMap cc) rfl (by rw [flat_len cc_len, HLN.out]) (HRC5.out _ T1F.out) (ccs_one _) (by unfold maxLen; omega) (by omega) ?_
  intro A9 c9 w9 hr9 hm9 ht9
  have R9 := Lib.hid hr9
  have M9 := Lib.hid hm9
  have T9F : Hid (Turn (fun _ => False) W5 w9) := Lib.hid (T1F.out.trans ht9)
  have T9 : Hid (Turn (fun k => Sw q vk g k ∨ k = w.heap.size + 2) W5 w9) := Lib.hid (T9F.out.mono (fun k _ h => h.elim))
  clear hr9 hm9 ht9
  refine hK.out _ _ T9.out (fun hHeld => ?_)
  clear hHeld hK K
  try simp only [List.getElem_toArray, List.getElem_cons_zero, List.getElem_cons_succ, Act.put, List.setIfInBounds_toArray, List.set_cons_zero, List.set_cons_succ]
  refine wpAnyH_ready (rs := [12]) (by kernel_rfl) (by simp) ?_
  refine AllReadyH.cons rfl (fun K hK => ?_) AllReadyH.nil
  refine step_call rfl 26 Try.f26 _ _ rfl Try.func26 (by kernel_rfl) (by kernel_rfl) _ _ (HVP5.out _ T9F.out A9 c9 R9.out (fun h0 a e => Nat.le_trans T1F.out.size (M9.out.2 h0 a e))) (by go_simp) ?_
  rintro v8 w8 ⟨rfl, ⟨vk8, M8, hs8, he8, hf8⟩, ht8⟩
  have S8 := Lib.hid hs8
  have E8 := Lib.hid he8
  have F8 : Hid (∀ k, Sw q vk8 g k → Sw q vk g k ∨ W5.heap.size ≤ k) := Lib.hid (fun k hk => (hf8 k hk).imp id (fun h => Nat.le_trans T9F.out.size h))
  have T8 : Hid (Turn (Sw q vk g) W5 w8) := Lib.hid ((T9F.out.mono (fun k _ h => h.elim)).trans ht8)
  have TS8 : Hid (Turn (fun k => Sw q vk g k ∨ k = w.heap.size + 2) W5 w8) := Lib.hid (T8.out.mono (fun k _ h => .inl h))
  have B8 := Lib.hid ((BR.out.turn T5.out (fun h => h)).turn T8.out (fun h => by have := hsw _ h; omega))
  clear hs8 he8 hf8 ht8
  refine hK.out _ _ TS8.out (fun hHeld => ?_)
  clear hHeld hK K
  try simp only [List.getElem_toArray, List.getElem_cons_zero, List.getElem_cons_succ, Act.put, List.setIfInBounds_toArray, List.set_cons_zero, List.set_cons_succ]
  refine wpAnyH_take (i := 14) (v := ?_) rfl (by kernel_rfl) (by kernel_rfl) (by kernel_rfl) (fun _ _ _ h => h) (Or.inl ⟨by rfl, ?_⟩) (by assumption) ?_
  rotate_left 1
  · intro w' hSw
    go_simp
    all_goals first | with_reducible rfl | (rw [if_neg (by omega)]; done) | (rw [if_pos (by omega)]; done) | (rw [if_neg (by omega)]; with_reducible rfl) | (rw [if_pos (by omega)]; with_reducible rfl)
  try simp only [List.getElem_toArray, List.getElem_cons_zero, List.getElem_cons_succ, Act.put, List.setIfInBounds_toArray, List.set_cons_zero, List.set_cons_succ]
  refine wpAnyH_take (i := 15) (v := ?_) rfl (by kernel_rfl) (by kernel_rfl) (by kernel_rfl) (fun _ _ _ h => h) (Or.inl ⟨by rfl, ?_⟩) (by assumption) ?_
  rotate_left 1
  · intro w' hSw
    go_simp
    all_goals first | with_reducible rfl | (rw [if_neg (by omega)]; done) | (rw [if_pos (by omega)]; done) | (rw [if_neg (by omega)]; with_reducible rfl) | (rw [if_pos (by omega)]; with_reducible rfl)
  try simp only [List.getElem_toArray, List.getElem_cons_zero, List.getElem_cons_succ, Act.put, List.setIfInBounds_toArray, List.set_cons_zero, List.set_cons_succ]
  refine wpAnyH_ready (rs := [16]) (by kernel_rfl) (by simp) ?_
  refine AllReadyH.cons rfl (fun K hK => ?_) AllReadyH.nil
  obtain ⟨r0, r1, r2, r3, r4, r5⟩ := cells3 B8.out
  have HF := Lib.hid (box3 B8.out (.slice A2 n2 c2) (.int .i64 la) (.int .i64 mark))
  go_simp
  have TS9 := Lib.hid (TS8.out.trans (HF.out.2.1.mono (fun k _ h => .inr h)))
  refine hK.out _ _ TS9.out (fun hHeld => ?_)
  clear hHeld hK K
  try simp only [List.getElem_toArray, List.getElem_cons_zero, List.getElem_cons_succ, Act.put, List.setIfInBounds_toArray, List.set_cons_zero, List.set_cons_succ]
  refine wpAnyH_take (i := 17) (v := ?_) rfl (by kernel_rfl) (by kernel_rfl) (by kernel_rfl) (fun _ _ _ h => h) (Or.inl ⟨by rfl, ?_⟩) (by assumption) ?_
  rotate_left 1
  · intro w' hSw
    go_simp
    all_goals first | with_reducible rfl | (rw [if_neg (by omega)]; done) | (rw [if_pos (by omega)]; done) | (rw [if_neg (by omega)]; with_reducible rfl) | (rw [if_pos (by omega)]; with_reducible rfl)
  try simp only [List.getElem_toArray, List.getElem_cons_zero, List.getElem_cons_succ, Act.put, List.setIfInBounds_toArray, List.set_cons_zero, List.set_cons_succ]
  refine wpAnyH_done (by kernel_rfl) ?_ _
  refine NoPanic.normal ?_
  obtain ⟨_, TS, k0, k1, k2⟩ := HF.out
  go_wp2_with fail
  obtain ⟨Md2, z1, z2, z3⟩ := M2.out
  obtain ⟨z4, z5, z6, z7, z9⟩ := HWF.out
  have z8 := HS.out.rng
  exact bodyPost_ret (v := .tuple #[.pointer (some ⟨q, 0, none⟩), .agg #[.slice A2 n2 c2, .int .i64 la, .int .i64 mark], .bool true]) (by simp [results, Try.results21, go_sem, k0, k1, k2]) rfl ⟨_, rfl, stp_end (.inl rfl) z9 HS.out (TW.out.trans T5.out) (by omega) (by omega) B8.out (by simp) (z1.still T25.out) (fun k hk => z3 k (by have := hsw k hk; omega) (HS.out.ap k hk)) (z3 _ (by omega) (HS.out.ix.ap (by omega))) z2 S8.out F8.out T8.out E8.out z4 z5 ⟨z8.1, z6, z7⟩ TS⟩
  -- region end A
end Go.Proofs.Ytobddfpdijmgiaa
