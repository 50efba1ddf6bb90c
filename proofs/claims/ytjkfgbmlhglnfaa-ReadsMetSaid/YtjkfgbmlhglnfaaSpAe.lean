/- Layer 14: the program's add, walked. (mkSpAb.py) -/
import Derived.Test.YtjkfgbmlhglnfaaSpAb
import Derived.Test.YtjkfgbmlhglnfaaSpAd
namespace Go.Proofs.Ytjkfgbmlhglnfaa
open Go.RowKit Go.Shelf
set_option linter.unusedVariables false
set_option linter.unusedSimpArgs false
set_option maxRecDepth 100000

theorem kr_slice {w : World} {v : Value} {K : List ByteArray} (h : Kr w v K) : ∃ A n c, v = .slice A n c := by
  obtain ⟨A, c, e⟩ := own_slice_ h
  exact ⟨A, _, c, e⟩
theorem look_vrT {w X : World} {q g : Nat} {vk : Value} {M : List (Itm × Value)} {last mark : Int} (h : Sp w q vk g M last mark) (ht : Turn (Sw q vk g) w X) (key : ByteArray) : Vr X ((look M key.toList).getD (.slice none 0 0)) (fndk M key) := by
  unfold look fndk
  cases hf : M.find? (fun p => p.1.k.toList == key.toList) with
  | none => exact vr_nil _
  | some p =>
    have h1 := (h.vers p (List.mem_of_find?_eq_some hf)).1
    exact h1.1.turn ht (fun hh b hb e => h1.2 hh b hb e)
set_option maxHeartbeats 8000000 in
theorem add_14 {w : World} {q g : Nat} {vk : Value} {M : List (Itm × Value)} {last mark : Int} (key : ByteArray) (x : Vn) (h : Sp w q vk g M last mark) (hM : M.length ≤ 10000000) (hV : ∀ p ∈ M, p.1.vs.length ≤ 9999999) (hk : key.size ≤ 128) (hne : (add13 (fndk M key) x).1 ≠ []) :
    Calls Try.prog 82 #[.pointer (some ⟨q, 0, none⟩), .string key, .agg #[.int .i64 x.t, .string x.s, .bool x.d]] w fun e w' => e = .returned (.tuple #[]) ∧ ∃ vk' u, Sp w' q vk' g (insI M (⟨key, (add13 (fndk M key) x).1⟩, u)) last mark ∧ (∀ k, Sw q vk' g k → Sw q vk g k ∨ w.heap.size ≤ k) ∧ Turn (Sw q vk g) w w' := by
  obtain ⟨xt, xs, xd⟩ := x
  simp only at hne ⊢
  have HSP := Lib.hid h
  have HBS := Lib.hid (fun W (hW : Turn (fun _ => False) w W) => bsearch14 (keysM M) vk key W (h.keys.turn hW (fun _ _ h => h)) h.ord (by simp [keysM]; omega))
  obtain ⟨W1, hW1⟩ : ∃ W, w.alloc (.cells #[.int .i64 xt, .string xs, .bool xd] 83) = W := ⟨_, rfl⟩
  have TW : Hid (Turn (fun _ => False) w W1) := Lib.hid (hW1 ▸ (Turn.refl _ _).alloc _)
  have XB : Hid (Blk W1 w.heap.size 83 [.int .i64 xt, .string xs, .bool xd]) := Lib.hid (hW1 ▸ Blk.new _ _ _)
  have HQG : Hid (¬ q = g) := Lib.hid h.sep.1
  have HVG : Hid (¬ w.heap.size = g) := Lib.hid (fun e => by have := h.map.lt; omega)
  obtain ⟨U, hU⟩ : ∃ U, (look M key.toList).getD (.slice none 0 0) = U := ⟨_, rfl⟩
  have HU := Lib.hid hU
  have hfb := fnd_bound hV key
  have HAD : Hid (∀ X, Turn (Sw q vk g) w X → Calls Try.prog 122 #[U, .agg #[.int .i64 xt, .string xs, .bool xd]] X fun e w' => ∃ v, e = .returned v ∧ (∃ v', v = .tuple #[v', .int .i64 (add13 (fndk M key) ⟨xt, xs, xd⟩).2] ∧ Vo X.heap.size w' v' (add13 (fndk M key) ⟨xt, xs, xd⟩).1 ∧ Turn (fun _ => False) X w')) := Lib.hid (fun X hX => (add_13 (fndk M key) U ⟨xt, xs, xd⟩ X (hU ▸ look_vrT h hX key) (by omega)).mono fun e w' ⟨v', h1, h2, h3⟩ => ⟨_, h1, v', rfl, h2, h3⟩)
  have HLA : (add13 (fndk M key) ⟨xt, xs, xd⟩).1.length ≤ 10000000 := Nat.le_trans (add13_len _ _) (by omega)
  have HHL := Lib.hid (has_look h.ord key)
  obtain ⟨C, hC⟩ : ∃ C, (add13 (fndk M key) ⟨xt, xs, xd⟩).1 = C := ⟨_, rfl⟩
  rw [hC] at HAD hne HLA ⊢
  have HLAST : Hid (∀ W5 w7 w9 vk5 v7, Blk W5 q 126 [vk5, .map (some g), .int .i64 last, .int .i64 mark] → Kr W5 vk5 (if hasK (keysM M) key then keysM M else insK (keysM M) (plK (keysM M) key) key) → Turn (Sw q vk g) w W5 → (∀ b, vk5.ownBlock = some b → vk.ownBlock = some b ∨ w.heap.size ≤ b) → Vo W5.heap.size w7 v7 C → Turn (fun _ => False) W5 w7 → Mp w9 g (if (look M key.toList).isSome then M.length else M.length + 1) (upd (look M) key.toList (some v7)) → Turn (fun k => k = g) w7 w9 →
      ∃ vk' u, Sp w9 q vk' g (insI M (⟨key, C⟩, u)) last mark ∧ (∀ k, Sw q vk' g k → Sw q vk g k ∨ w.heap.size ≤ k) ∧ Turn (Sw q vk g) w w9) := Lib.hid (fun W5 w7 w9 vk5 v7 b5 k5 t5 p5 hv7 t7 m9 t9 => by
    have tt : Turn (Sw q vk g) w w9 := (t5.trans (t7.mono (fun k _ h => h.elim))).trans_new t9 (fun k _ h => .inr (.inl h))
    have hs5 := b5.lt
    have hg5 : g < W5.heap.size := Nat.lt_of_lt_of_le h.map.lt t5.size
    refine ⟨vk5, v7, sp_put (z := ⟨key, C⟩) (u := v7) h _ (ris_insI h.ord _) (self_insI _ _) (fun p hp => mem_insI hp) (rest_insI ((⟨key, C⟩ : Itm), v7)) ?_ ((b5.turn t7 (fun h => h)).turn t9 HQG.out) ?_ m9 ⟨?_, fun hp b hb e => ?_⟩ hv7.cv hne tt p5, fun k hk => ?_, tt⟩
    · rw [len_insI, has_look h.ord key]
    · rw [keys_insI]
      refine (k5.turn t7 (fun _ _ h => h)).turn t9 (fun k hk e => ?_)
      subst e
      rcases p5 k hk with h1 | h1
      · exact (h.sep.2 k h1).2 rfl
      · have := h.map.lt; omega
    · refine (hv7.vr (by omega)).turn t9 (fun hp b hb e => ?_)
      have h3 : W5.heap.size ≤ b := own_ge14 hv7 b (by cases v7 with
        | slice ad n c => cases ad with
          | none => cases hb
          | some ad => exact hb
        | _ => cases hb)
      omega
    · have h3 : W5.heap.size ≤ b := own_ge14 hv7 b (by cases v7 with
        | slice ad n c => cases ad with
          | none => cases hb
          | some ad => exact hb
        | _ => cases hb)
      rcases e with e | e | e
      · omega
      · omega
      · have := k5.lt b e; omega
    · rcases hk with e | e | e
      · exact .inl (.inl e)
      · exact .inl (.inr (.inl e))
      · rcases p5 k e with h1 | h1
        · exact .inl (.inr (.inr h1))
        · exact .inr h1)
  have HPL := plK_le (keysM M) key
  have HKL : (keysM M).length ≤ 100000000 := by simp [keysM]; omega
  generalize hHK : hasK (keysM M) key = hk1 at *
  have H0 : Hid (∀ X, Turn (fun _ => False) w X → Blk X q 126 [vk, .map (some g), .int .i64 last, .int .i64 mark] ∧ Kr X vk (keysM M) ∧ Mp X g M.length (look M)) := Lib.hid (fun X hX => ⟨h.box.turn hX (fun h => h), h.keys.turn hX (fun _ _ h => h), h.map.turn hX (fun h => h)⟩)
  have HOQ : Hid (∀ b, vk.ownBlock = some b → b ≠ q ∧ b ≠ g ∧ b < w.heap.size) := Lib.hid (fun b hb => ⟨(h.sep.2 b hb).1, (h.sep.2 b hb).2, h.keys.lt b hb⟩)
  have HQL : q < w.heap.size := h.box.lt
  have HGL : g < w.heap.size := h.map.lt
  clear h hU hC hV hfb
  cases hk1 with
  | true =>
    simp only [if_true] at HLAST
    go_enter Try.func82, Try.ntmps82
    have z0 := (H0.out W1 TW.out).1.cell 0
    simp only [List.getElem?_cons_zero] at z0
    go_wp2_with (go_at_call 54; refine (HBS.out _ TW.out).mono ?_; rintro e W5 ⟨rfl, hta⟩; have TA := Lib.hid hta; clear hta)
    have TZ := Lib.hid (TW.out.trans TA.out)
    have B5 := Lib.hid (H0.out W5 TZ.out).1
    have K5 := Lib.hid (H0.out W5 TZ.out).2.1
    have M5 := Lib.hid (H0.out W5 TZ.out).2.2
    have T5 : Hid (Turn (Sw q vk g) w W5) := Lib.hid (TZ.out.mono (fun k _ h => h.elim))
    have X5 := Lib.hid (XB.out.turn TA.out (fun h => h))
    obtain ⟨vk5, hvk5⟩ : ∃ v, v = vk := ⟨_, rfl⟩
    have P5 : Hid (∀ b, vk5.ownBlock = some b → vk.ownBlock = some b ∨ w.heap.size ≤ b) := Lib.hid (fun b hb => .inl (hvk5 ▸ hb))
    rw [← hvk5] at B5 K5
    clear z0
      -- region A
    have HST : Hid (∀ X, Turn (fun _ => False) W5 X → X.cell? ⟨q, 1, none⟩ = some (.map (some g)) ∧ X.cell? ⟨w.heap.size, 0, none⟩ = some (.int .i64 xt) ∧ X.cell? ⟨w.heap.size, 1, none⟩ = some (.string xs) ∧ X.cell? ⟨w.heap.size, 2, none⟩ = some (.bool xd)) := Lib.hid (fun X hX => ⟨(B5.out.turn hX (fun h => h)).cell 1, (X5.out.turn hX (fun h => h)).cell 0, (X5.out.turn hX (fun h => h)).cell 1, (X5.out.turn hX (fun h => h)).cell 2⟩)
    have HS9 : Hid (∀ X Y, Turn (fun _ => False) W5 X → Turn (fun k => k = g) X Y → Y.cell? ⟨q, 1, none⟩ = some (.map (some g)) ∧ Y.cell? ⟨w.heap.size, 0, none⟩ = some (.int .i64 xt) ∧ Y.cell? ⟨w.heap.size, 1, none⟩ = some (.string xs) ∧ Y.cell? ⟨w.heap.size, 2, none⟩ = some (.bool xd)) := Lib.hid (fun X Y hX hY => ⟨((B5.out.turn hX (fun h => h)).turn hY HQG.out).cell 1, ((X5.out.turn hX (fun h => h)).turn hY HVG.out).cell 0, ((X5.out.turn hX (fun h => h)).turn hY HVG.out).cell 1, ((X5.out.turn hX (fun h => h)).turn hY HVG.out).cell 2⟩)
    have y5 := HST.out W5.drew (Turn.refl _ _).drew
    refine wp_region_noPanic ?_
    refine wp_region_held_drew (S := (fun X => X.cell? ⟨q, 1, none⟩ = some (.map (some g)) ∧ X.cell? ⟨w.heap.size, 0, none⟩ = some (.int .i64 xt) ∧ X.cell? ⟨w.heap.size, 1, none⟩ = some (.string xs) ∧ X.cell? ⟨w.heap.size, 2, none⟩ = some (.bool xd))) (by kernel_rfl) y5 (fun hHeld => ?_)
    clear hHeld
    refine wpAnyH_take (i := 0) (v := ?_) rfl (by kernel_rfl) (by kernel_rfl) (by kernel_rfl) (fun _ _ _ h => h) (Or.inl ⟨by rfl, ?_⟩) (by assumption) ?_
    rotate_left 1
    · intro w' hSw
      go_simp
      all_goals first | with_reducible rfl | (rw [if_neg (by omega)]; done) | (rw [if_pos (by omega)]; done) | (rw [if_neg (by omega)]; with_reducible rfl) | (rw [if_pos (by omega)]; with_reducible rfl)
    try simp only [List.getElem_toArray, List.getElem_cons_zero, List.getElem_cons_succ, Act.put, List.setIfInBounds_toArray, List.set_cons_zero, List.set_cons_succ]
    refine wpAnyH_take (i := 1) (v := ?_) rfl (by kernel_rfl) (by kernel_rfl) (by kernel_rfl) (fun _ _ _ h => h) (Or.inl ⟨by rfl, ?_⟩) (by assumption) ?_
    rotate_left 1
    · intro w' hSw
      go_simp
      all_goals first | with_reducible rfl | (rw [if_neg (by omega)]; done) | (rw [if_pos (by omega)]; done) | (rw [if_neg (by omega)]; with_reducible rfl) | (rw [if_pos (by omega)]; with_reducible rfl)
    try simp only [List.getElem_toArray, List.getElem_cons_zero, List.getElem_cons_succ, Act.put, List.setIfInBounds_toArray, List.set_cons_zero, List.set_cons_succ]
    refine wpAnyH_take (i := 2) (v := ?_) rfl (by kernel_rfl) (by kernel_rfl) (by kernel_rfl) (fun _ _ _ h => h) (Or.inl ⟨by rfl, ?_⟩) (by assumption) ?_
    rotate_left 1
    · intro w' hSw
      go_simp
      all_goals first | with_reducible rfl | (rw [if_neg (by omega)]; done) | (rw [if_pos (by omega)]; done) | (rw [if_neg (by omega)]; with_reducible rfl) | (rw [if_pos (by omega)]; with_reducible rfl)
    try simp only [List.getElem_toArray, List.getElem_cons_zero, List.getElem_cons_succ, Act.put, List.setIfInBounds_toArray, List.set_cons_zero, List.set_cons_succ]
    refine wpAnyH_take (i := 3) (v := ?_) rfl (by kernel_rfl) (by kernel_rfl) (by kernel_rfl) (fun _ _ _ h => h) (Or.inl ⟨by rfl, ?_⟩) (by assumption) ?_
    rotate_left 1
    · intro w' hSw
      obtain ⟨y1, y2, y3, y4⟩ := hSw
      go_simp
      all_goals first | with_reducible rfl | (rw [if_neg (by omega)]; done) | (rw [if_pos (by omega)]; done) | (rw [if_neg (by omega)]; with_reducible rfl) | (rw [if_pos (by omega)]; with_reducible rfl)
    try simp only [List.getElem_toArray, List.getElem_cons_zero, List.getElem_cons_succ, Act.put, List.setIfInBounds_toArray, List.set_cons_zero, List.set_cons_succ]
    refine wpAnyH_take (i := 4) (v := ?_) rfl (by kernel_rfl) (by kernel_rfl) (by kernel_rfl) (fun _ _ _ h => h) (Or.inl ⟨by rfl, ?_⟩) (by assumption) ?_
    rotate_left 1
    · intro w' hSw
      go_simp
      all_goals first | with_reducible rfl | (rw [if_neg (by omega)]; done) | (rw [if_pos (by omega)]; done) | (rw [if_neg (by omega)]; with_reducible rfl) | (rw [if_pos (by omega)]; with_reducible rfl)
    try simp only [List.getElem_toArray, List.getElem_cons_zero, List.getElem_cons_succ, Act.put, List.setIfInBounds_toArray, List.set_cons_zero, List.set_cons_succ]
    refine wpAnyH_take (i := 5) (v := ?_) rfl (by kernel_rfl) (by kernel_rfl) (by kernel_rfl) (fun _ _ _ h => h) (Or.inl ⟨by rfl, ?_⟩) (by assumption) ?_
    rotate_left 1
    · intro w' hSw
      go_simp
      all_goals first | with_reducible rfl | (rw [if_neg (by omega)]; done) | (rw [if_pos (by omega)]; done) | (rw [if_neg (by omega)]; with_reducible rfl) | (rw [if_pos (by omega)]; with_reducible rfl)
    try simp only [List.getElem_toArray, List.getElem_cons_zero, List.getElem_cons_succ, Act.put, List.setIfInBounds_toArray, List.set_cons_zero, List.set_cons_succ]
    refine wpAnyH_take (i := 6) (v := ?_) rfl (by kernel_rfl) (by kernel_rfl) (by kernel_rfl) (fun _ _ _ h => h) (Or.inl ⟨by rfl, ?_⟩) (by assumption) ?_
    rotate_left 1
    · intro w' hSw
      go_simp
      all_goals first | with_reducible rfl | (rw [if_neg (by omega)]; done) | (rw [if_pos (by omega)]; done) | (rw [if_neg (by omega)]; with_reducible rfl) | (rw [if_pos (by omega)]; with_reducible rfl)
    try simp only [List.getElem_toArray, List.getElem_cons_zero, List.getElem_cons_succ, Act.put, List.setIfInBounds_toArray, List.set_cons_zero, List.set_cons_succ]
    refine wpAnyH_take (i := 7) (v := ?_) rfl (by kernel_rfl) (by kernel_rfl) (by kernel_rfl) (fun _ _ _ h => h) (Or.inl ⟨by rfl, ?_⟩) (by assumption) ?_
    rotate_left 1
    · intro w' hSw
      go_simp
      all_goals first | with_reducible rfl | (rw [if_neg (by omega)]; done) | (rw [if_pos (by omega)]; done) | (rw [if_neg (by omega)]; with_reducible rfl) | (rw [if_pos (by omega)]; with_reducible rfl)
    try simp only [List.getElem_toArray, List.getElem_cons_zero, List.getElem_cons_succ, Act.put, List.setIfInBounds_toArray, List.set_cons_zero, List.set_cons_succ]
    refine wpAnyH_take (i := 8) (v := ?_) rfl (by kernel_rfl) (by kernel_rfl) (by kernel_rfl) (fun _ _ _ h => h) (Or.inl ⟨by rfl, ?_⟩) (by assumption) ?_
    rotate_left 1
    · intro w' hSw
      obtain ⟨y1, y2, y3, y4⟩ := hSw
      go_simp
      all_goals first | with_reducible rfl | (rw [if_neg (by omega)]; done) | (rw [if_pos (by omega)]; done) | (rw [if_neg (by omega)]; with_reducible rfl) | (rw [if_pos (by omega)]; with_reducible rfl)
    try simp only [List.getElem_toArray, List.getElem_cons_zero, List.getElem_cons_succ, Act.put, List.setIfInBounds_toArray, List.set_cons_zero, List.set_cons_succ]
    refine wpAnyH_take (i := 9) (v := ?_) rfl (by kernel_rfl) (by kernel_rfl) (by kernel_rfl) (fun _ _ _ h => h) (Or.inl ⟨by rfl, ?_⟩) (by assumption) ?_
    rotate_left 1
    · intro w' hSw
      go_simp
      all_goals first | with_reducible rfl | (rw [if_neg (by omega)]; done) | (rw [if_pos (by omega)]; done) | (rw [if_neg (by omega)]; with_reducible rfl) | (rw [if_pos (by omega)]; with_reducible rfl)
    try simp only [List.getElem_toArray, List.getElem_cons_zero, List.getElem_cons_succ, Act.put, List.setIfInBounds_toArray, List.set_cons_zero, List.set_cons_succ]
    refine wpAnyH_take (i := 11) (v := ?_) rfl (by kernel_rfl) (by kernel_rfl) (by kernel_rfl) (fun _ _ _ h => h) (Or.inl ⟨by rfl, ?_⟩) (by assumption) ?_
    rotate_left 1
    · intro w' hSw
      obtain ⟨y1, y2, y3, y4⟩ := hSw
      go_simp
      all_goals first | with_reducible rfl | (rw [if_neg (by omega)]; done) | (rw [if_pos (by omega)]; done) | (rw [if_neg (by omega)]; with_reducible rfl) | (rw [if_pos (by omega)]; with_reducible rfl)
    try simp only [List.getElem_toArray, List.getElem_cons_zero, List.getElem_cons_succ, Act.put, List.setIfInBounds_toArray, List.set_cons_zero, List.set_cons_succ]
    refine wpAnyH_ready (rs := [10]) (by kernel_rfl) (by simp) ?_
    refine AllReadyH.cons rfl (fun K hK => ?_) AllReadyH.nil
    refine step_lookup_mp rfl _ _ rfl g M.length (look M) key (by unfold maxLen; omega) rfl M5.out rfl ?_
    rw [HU.out]
    refine hK.out _ _ y5 (fun hHeld => ?_)
    clear hHeld hK K
    try simp only [List.getElem_toArray, List.getElem_cons_zero, List.getElem_cons_succ, Act.put, List.setIfInBounds_toArray, List.set_cons_zero, List.set_cons_succ]
    refine wpAnyH_ready (rs := [12]) (by kernel_rfl) (by simp) ?_
    refine AllReadyH.cons rfl (fun K hK => ?_) AllReadyH.nil
    refine step_call rfl 122 Try.f122 _ _ rfl Try.func122 (by kernel_rfl) (by kernel_rfl) _ _ (HAD.out _ (T5.out.trans (Turn.refl _ _).drew)) (by go_simp) ?_
    rintro v7 w7 ⟨v7', rfl, hv7, ht7⟩
    have V7 := Lib.hid hv7
    have T7 := Lib.hid ht7
    have y7 := HST.out w7 ((Turn.refl _ _).drew.trans ht7)
    clear hv7 ht7
    refine hK.out _ _ y7 (fun hHeld => ?_)
    clear hHeld hK K
    try simp only [List.getElem_toArray, List.getElem_cons_zero, List.getElem_cons_succ, Act.put, List.setIfInBounds_toArray, List.set_cons_zero, List.set_cons_succ]
    refine wpAnyH_take (i := 13) (v := ?_) rfl (by kernel_rfl) (by kernel_rfl) (by kernel_rfl) (fun _ _ _ h => h) (Or.inl ⟨by rfl, ?_⟩) (by assumption) ?_
    rotate_left 1
    · intro w' hSw
      go_simp
      all_goals first | with_reducible rfl | (rw [if_neg (by omega)]; done) | (rw [if_pos (by omega)]; done) | (rw [if_neg (by omega)]; with_reducible rfl) | (rw [if_pos (by omega)]; with_reducible rfl)
    try simp only [List.getElem_toArray, List.getElem_cons_zero, List.getElem_cons_succ, Act.put, List.setIfInBounds_toArray, List.set_cons_zero, List.set_cons_succ]
    refine wpAnyH_take (i := 14) (v := ?_) rfl (by kernel_rfl) (by kernel_rfl) (by kernel_rfl) (fun _ _ _ h => h) (Or.inl ⟨by rfl, ?_⟩) (by assumption) ?_
    rotate_left 1
    · intro w' hSw
      go_simp
      all_goals first | with_reducible rfl | (rw [if_neg (by omega)]; done) | (rw [if_pos (by omega)]; done) | (rw [if_neg (by omega)]; with_reducible rfl) | (rw [if_pos (by omega)]; with_reducible rfl)
    try simp only [List.getElem_toArray, List.getElem_cons_zero, List.getElem_cons_succ, Act.put, List.setIfInBounds_toArray, List.set_cons_zero, List.set_cons_succ]
    refine wpAnyH_take (i := 15) (v := ?_) rfl (by kernel_rfl) (by kernel_rfl) (by kernel_rfl) (fun _ _ _ h => h) (Or.inl ⟨by rfl, ?_⟩) (by assumption) ?_
    rotate_left 1
    · intro w' hSw
      go_simp
      all_goals first | with_reducible rfl | (rw [if_neg (by omega)]; done) | (rw [if_pos (by omega)]; done) | (rw [if_neg (by omega)]; with_reducible rfl) | (rw [if_pos (by omega)]; with_reducible rfl)
    try simp only [List.getElem_toArray, List.getElem_cons_zero, List.getElem_cons_succ, Act.put, List.setIfInBounds_toArray, List.set_cons_zero, List.set_cons_succ]
    refine wpAnyH_ready (rs := [16]) (by kernel_rfl) (by simp) ?_
    refine AllReadyH.cons rfl (fun K hK => ?_) AllReadyH.nil
    refine step_update_mp rfl 124 38 Try.underlying124 _ _ _ rfl g M.length (look M) key v7' (by unfold maxLen; omega) rfl (M5.out.still ((Turn.refl _ _).drew.trans T7.out)) (by unfold maxLen; omega) rfl rfl ?_
    intro w9 hm9 ht9
    have M9 := Lib.hid hm9
    have T9 := Lib.hid ht9
    have y10 := HS9.out w7 w9 ((Turn.refl _ _).drew.trans T7.out) ht9
    clear hm9 ht9
    refine hK.out _ _ y10 (fun hHeld => ?_)
    clear hHeld hK K
    try simp only [List.getElem_toArray, List.getElem_cons_zero, List.getElem_cons_succ, Act.put, List.setIfInBounds_toArray, List.set_cons_zero, List.set_cons_succ]
    refine wpAnyH_done (by kernel_rfl) ?_ _
    refine NoPanic.normal ?_
    go_wp2_with fail
    go_end0
    refine ⟨rfl, HLAST.out W5 w7 w9 vk5 v7' B5.out K5.out T5.out P5.out V7.out ((Turn.refl _ _).drew.trans T7.out) M9.out T9.out⟩
      -- region end A
  | false =>
    simp only [Bool.false_eq_true, if_false] at HLAST
    go_enter Try.func82, Try.ntmps82
    have z0 := (H0.out W1 TW.out).1.cell 0
    simp only [List.getElem?_cons_zero] at z0
    go_wp2_with (first | (go_at_call 54; refine (HBS.out _ TW.out).mono ?_; rintro e WA ⟨rfl, hta⟩; have TA := Lib.hid hta; have zA := (H0.out WA (TW.out.trans hta)).1.cell 0; simp only [List.getElem?_cons_zero] at zA; clear hta z0) | (go_at_call 55; refine (insert14 (keysM M) vk (plK (keysM M) key) WA.heap.size key _ ((H0.out _ ((TW.out.trans TA.out).alloc _)).2.1) HPL HKL (Blk.new WA 9 [.string key]) (fun e => by have := (HOQ.out _ e).2.2; have := (TW.out.trans TA.out).size; omega)).mono ?_; rintro e W3 ⟨v3, rfl, hk3, ht3, hp3, hb3⟩; obtain ⟨A3, n3, c3, rfl⟩ := kr_slice hk3; have K3 := Lib.hid hk3; have T3 := Lib.hid ht3; have P3 := Lib.hid hp3; have Q3 := Lib.hid ((H0.out _ ((TW.out.trans TA.out).alloc (.cells #[.string key] 9))).1.turn ht3 (fun e => (HOQ.out _ e).1 rfl)); have z3 := Q3.out.cell 0; have f3 := Q3.out.free 0; simp only [List.getElem?_cons_zero] at z3; clear hk3 ht3 hp3 hb3 zA))
    obtain ⟨v3, hv3⟩ : ∃ v, Value.slice A3 n3 c3 = v := ⟨_, rfl⟩
    obtain ⟨W5, hW5⟩ : ∃ W, W3.setCell ⟨q, 0, none⟩ (.slice A3 n3 c3) = W := ⟨_, rfl⟩
    rw [hv3] at K3 P3
    have TZ := Lib.hid (TW.out.trans TA.out)
    have hWAs := TZ.out.size
    have hAl : (WA.alloc (.cells #[.string key] 9)).heap.size = WA.heap.size + 1 := World.size_alloc _ _
    have TS : Hid (Turn (fun k => k = q) W3 W5) := Lib.hid (by rw [← hW5]; exact (Turn.refl (fun k => k = q) W3).setCell (p := ⟨q, 0, none⟩) (.inl rfl) _)
    have P5 : Hid (∀ b, v3.ownBlock = some b → vk.ownBlock = some b ∨ w.heap.size ≤ b) := Lib.hid (fun b hb => by
      rcases P3.out with e | e
      · exact .inl (e ▸ hb)
      · rw [e, hAl] at hb
        injection hb with hb
        exact .inr (by omega))
    have B5 : Hid (Blk W5 q 126 [v3, .map (some g), .int .i64 last, .int .i64 mark]) := Lib.hid (by rw [← hW5, hv3]; exact Q3.out.put 0 v3)
    have K5 : Hid (Kr W5 v3 (insK (keysM M) (plK (keysM M) key) key)) := Lib.hid (K3.out.turn TS.out (fun k hk e => by
      subst e
      rcases P5.out k hk with h1 | h1
      · exact (HOQ.out k h1).1 rfl
      · omega))
    have M5 : Hid (Mp W5 g M.length (look M)) := Lib.hid ((((H0.out _ ((TW.out.trans TA.out).alloc (.cells #[.string key] 9))).2.2).turn T3.out (fun e => (HOQ.out _ e).2.1 rfl)).turn TS.out (fun e => HQG.out e.symm))
    have T5 : Hid (Turn (Sw q vk g) w W5) := Lib.hid ((((TZ.out.mono (fun k _ h => h.elim)).alloc _).trans (T3.out.mono (fun k _ h => .inr (.inr h)))).trans_new TS.out (fun k _ h => .inl h))
    have X5 : Hid (Blk W5 w.heap.size 83 [.int .i64 xt, .string xs, .bool xd]) := Lib.hid ((((XB.out.turn TA.out (fun h => h)).alloc _).turn T3.out (fun e => by have := (HOQ.out _ e).2.2; omega)).turn TS.out (by omega))
    obtain ⟨vk5, hvk5⟩ : ∃ v, v = v3 := ⟨_, rfl⟩
    rw [← hvk5] at B5 K5 P5
    clear z3 f3
    rw [hW5]
      -- region B
    have HST : Hid (∀ X, Turn (fun _ => False) W5 X → X.cell? ⟨q, 1, none⟩ = some (.map (some g)) ∧ X.cell? ⟨w.heap.size, 0, none⟩ = some (.int .i64 xt) ∧ X.cell? ⟨w.heap.size, 1, none⟩ = some (.string xs) ∧ X.cell? ⟨w.heap.size, 2, none⟩ = some (.bool xd)) := Lib.hid (fun X hX => ⟨(B5.out.turn hX (fun h => h)).cell 1, (X5.out.turn hX (fun h => h)).cell 0, (X5.out.turn hX (fun h => h)).cell 1, (X5.out.turn hX (fun h => h)).cell 2⟩)
    have HS9 : Hid (∀ X Y, Turn (fun _ => False) W5 X → Turn (fun k => k = g) X Y → Y.cell? ⟨q, 1, none⟩ = some (.map (some g)) ∧ Y.cell? ⟨w.heap.size, 0, none⟩ = some (.int .i64 xt) ∧ Y.cell? ⟨w.heap.size, 1, none⟩ = some (.string xs) ∧ Y.cell? ⟨w.heap.size, 2, none⟩ = some (.bool xd)) := Lib.hid (fun X Y hX hY => ⟨((B5.out.turn hX (fun h => h)).turn hY HQG.out).cell 1, ((X5.out.turn hX (fun h => h)).turn hY HVG.out).cell 0, ((X5.out.turn hX (fun h => h)).turn hY HVG.out).cell 1, ((X5.out.turn hX (fun h => h)).turn hY HVG.out).cell 2⟩)
    have y5 := HST.out W5.drew (Turn.refl _ _).drew
    refine wp_region_noPanic ?_
    refine wp_region_held_drew (S := (fun X => X.cell? ⟨q, 1, none⟩ = some (.map (some g)) ∧ X.cell? ⟨w.heap.size, 0, none⟩ = some (.int .i64 xt) ∧ X.cell? ⟨w.heap.size, 1, none⟩ = some (.string xs) ∧ X.cell? ⟨w.heap.size, 2, none⟩ = some (.bool xd))) (by kernel_rfl) y5 (fun hHeld => ?_)
    clear hHeld
    refine wpAnyH_take (i := 0) (v := ?_) rfl (by kernel_rfl) (by kernel_rfl) (by kernel_rfl) (fun _ _ _ h => h) (Or.inl ⟨by rfl, ?_⟩) (by assumption) ?_
    rotate_left 1
    · intro w' hSw
      go_simp
      all_goals first | with_reducible rfl | (rw [if_neg (by omega)]; done) | (rw [if_pos (by omega)]; done) | (rw [if_neg (by omega)]; with_reducible rfl) | (rw [if_pos (by omega)]; with_reducible rfl)
    try simp only [List.getElem_toArray, List.getElem_cons_zero, List.getElem_cons_succ, Act.put, List.setIfInBounds_toArray, List.set_cons_zero, List.set_cons_succ]
    refine wpAnyH_take (i := 1) (v := ?_) rfl (by kernel_rfl) (by kernel_rfl) (by kernel_rfl) (fun _ _ _ h => h) (Or.inl ⟨by rfl, ?_⟩) (by assumption) ?_
    rotate_left 1
    · intro w' hSw
      go_simp
      all_goals first | with_reducible rfl | (rw [if_neg (by omega)]; done) | (rw [if_pos (by omega)]; done) | (rw [if_neg (by omega)]; with_reducible rfl) | (rw [if_pos (by omega)]; with_reducible rfl)
    try simp only [List.getElem_toArray, List.getElem_cons_zero, List.getElem_cons_succ, Act.put, List.setIfInBounds_toArray, List.set_cons_zero, List.set_cons_succ]
    refine wpAnyH_take (i := 2) (v := ?_) rfl (by kernel_rfl) (by kernel_rfl) (by kernel_rfl) (fun _ _ _ h => h) (Or.inl ⟨by rfl, ?_⟩) (by assumption) ?_
    rotate_left 1
    · intro w' hSw
      go_simp
      all_goals first | with_reducible rfl | (rw [if_neg (by omega)]; done) | (rw [if_pos (by omega)]; done) | (rw [if_neg (by omega)]; with_reducible rfl) | (rw [if_pos (by omega)]; with_reducible rfl)
    try simp only [List.getElem_toArray, List.getElem_cons_zero, List.getElem_cons_succ, Act.put, List.setIfInBounds_toArray, List.set_cons_zero, List.set_cons_succ]
    refine wpAnyH_take (i := 3) (v := ?_) rfl (by kernel_rfl) (by kernel_rfl) (by kernel_rfl) (fun _ _ _ h => h) (Or.inl ⟨by rfl, ?_⟩) (by assumption) ?_
    rotate_left 1
    · intro w' hSw
      obtain ⟨y1, y2, y3, y4⟩ := hSw
      go_simp
      all_goals first | with_reducible rfl | (rw [if_neg (by omega)]; done) | (rw [if_pos (by omega)]; done) | (rw [if_neg (by omega)]; with_reducible rfl) | (rw [if_pos (by omega)]; with_reducible rfl)
    try simp only [List.getElem_toArray, List.getElem_cons_zero, List.getElem_cons_succ, Act.put, List.setIfInBounds_toArray, List.set_cons_zero, List.set_cons_succ]
    refine wpAnyH_take (i := 4) (v := ?_) rfl (by kernel_rfl) (by kernel_rfl) (by kernel_rfl) (fun _ _ _ h => h) (Or.inl ⟨by rfl, ?_⟩) (by assumption) ?_
    rotate_left 1
    · intro w' hSw
      go_simp
      all_goals first | with_reducible rfl | (rw [if_neg (by omega)]; done) | (rw [if_pos (by omega)]; done) | (rw [if_neg (by omega)]; with_reducible rfl) | (rw [if_pos (by omega)]; with_reducible rfl)
    try simp only [List.getElem_toArray, List.getElem_cons_zero, List.getElem_cons_succ, Act.put, List.setIfInBounds_toArray, List.set_cons_zero, List.set_cons_succ]
    refine wpAnyH_take (i := 5) (v := ?_) rfl (by kernel_rfl) (by kernel_rfl) (by kernel_rfl) (fun _ _ _ h => h) (Or.inl ⟨by rfl, ?_⟩) (by assumption) ?_
    rotate_left 1
    · intro w' hSw
      go_simp
      all_goals first | with_reducible rfl | (rw [if_neg (by omega)]; done) | (rw [if_pos (by omega)]; done) | (rw [if_neg (by omega)]; with_reducible rfl) | (rw [if_pos (by omega)]; with_reducible rfl)
    try simp only [List.getElem_toArray, List.getElem_cons_zero, List.getElem_cons_succ, Act.put, List.setIfInBounds_toArray, List.set_cons_zero, List.set_cons_succ]
    refine wpAnyH_take (i := 6) (v := ?_) rfl (by kernel_rfl) (by kernel_rfl) (by kernel_rfl) (fun _ _ _ h => h) (Or.inl ⟨by rfl, ?_⟩) (by assumption) ?_
    rotate_left 1
    · intro w' hSw
      go_simp
      all_goals first | with_reducible rfl | (rw [if_neg (by omega)]; done) | (rw [if_pos (by omega)]; done) | (rw [if_neg (by omega)]; with_reducible rfl) | (rw [if_pos (by omega)]; with_reducible rfl)
    try simp only [List.getElem_toArray, List.getElem_cons_zero, List.getElem_cons_succ, Act.put, List.setIfInBounds_toArray, List.set_cons_zero, List.set_cons_succ]
    refine wpAnyH_take (i := 7) (v := ?_) rfl (by kernel_rfl) (by kernel_rfl) (by kernel_rfl) (fun _ _ _ h => h) (Or.inl ⟨by rfl, ?_⟩) (by assumption) ?_
    rotate_left 1
    · intro w' hSw
      go_simp
      all_goals first | with_reducible rfl | (rw [if_neg (by omega)]; done) | (rw [if_pos (by omega)]; done) | (rw [if_neg (by omega)]; with_reducible rfl) | (rw [if_pos (by omega)]; with_reducible rfl)
    try simp only [List.getElem_toArray, List.getElem_cons_zero, List.getElem_cons_succ, Act.put, List.setIfInBounds_toArray, List.set_cons_zero, List.set_cons_succ]
    refine wpAnyH_take (i := 8) (v := ?_) rfl (by kernel_rfl) (by kernel_rfl) (by kernel_rfl) (fun _ _ _ h => h) (Or.inl ⟨by rfl, ?_⟩) (by assumption) ?_
    rotate_left 1
    · intro w' hSw
      obtain ⟨y1, y2, y3, y4⟩ := hSw
      go_simp
      all_goals first | with_reducible rfl | (rw [if_neg (by omega)]; done) | (rw [if_pos (by omega)]; done) | (rw [if_neg (by omega)]; with_reducible rfl) | (rw [if_pos (by omega)]; with_reducible rfl)
    try simp only [List.getElem_toArray, List.getElem_cons_zero, List.getElem_cons_succ, Act.put, List.setIfInBounds_toArray, List.set_cons_zero, List.set_cons_succ]
    refine wpAnyH_take (i := 9) (v := ?_) rfl (by kernel_rfl) (by kernel_rfl) (by kernel_rfl) (fun _ _ _ h => h) (Or.inl ⟨by rfl, ?_⟩) (by assumption) ?_
    rotate_left 1
    · intro w' hSw
      go_simp
      all_goals first | with_reducible rfl | (rw [if_neg (by omega)]; done) | (rw [if_pos (by omega)]; done) | (rw [if_neg (by omega)]; with_reducible rfl) | (rw [if_pos (by omega)]; with_reducible rfl)
    try simp only [List.getElem_toArray, List.getElem_cons_zero, List.getElem_cons_succ, Act.put, List.setIfInBounds_toArray, List.set_cons_zero, List.set_cons_succ]
    refine wpAnyH_take (i := 11) (v := ?_) rfl (by kernel_rfl) (by kernel_rfl) (by kernel_rfl) (fun _ _ _ h => h) (Or.inl ⟨by rfl, ?_⟩) (by assumption) ?_
    rotate_left 1
    · intro w' hSw
      obtain ⟨y1, y2, y3, y4⟩ := hSw
      go_simp
      all_goals first | with_reducible rfl | (rw [if_neg (by omega)]; done) | (rw [if_pos (by omega)]; done) | (rw [if_neg (by omega)]; with_reducible rfl) | (rw [if_pos (by omega)]; with_reducible rfl)
    try simp only [List.getElem_toArray, List.getElem_cons_zero, List.getElem_cons_succ, Act.put, List.setIfInBounds_toArray, List.set_cons_zero, List.set_cons_succ]
    refine wpAnyH_ready (rs := [10]) (by kernel_rfl) (by simp) ?_
    refine AllReadyH.cons rfl (fun K hK => ?_) AllReadyH.nil
    refine step_lookup_mp rfl _ _ rfl g M.length (look M) key (by unfold maxLen; omega) rfl M5.out rfl ?_
    rw [HU.out]
    refine hK.out _ _ y5 (fun hHeld => ?_)
    clear hHeld hK K
    try simp only [List.getElem_toArray, List.getElem_cons_zero, List.getElem_cons_succ, Act.put, List.setIfInBounds_toArray, List.set_cons_zero, List.set_cons_succ]
    refine wpAnyH_ready (rs := [12]) (by kernel_rfl) (by simp) ?_
    refine AllReadyH.cons rfl (fun K hK => ?_) AllReadyH.nil
    refine step_call rfl 122 Try.f122 _ _ rfl Try.func122 (by kernel_rfl) (by kernel_rfl) _ _ (HAD.out _ (T5.out.trans (Turn.refl _ _).drew)) (by go_simp) ?_
    rintro v7 w7 ⟨v7', rfl, hv7, ht7⟩
    have V7 := Lib.hid hv7
    have T7 := Lib.hid ht7
    have y7 := HST.out w7 ((Turn.refl _ _).drew.trans ht7)
    clear hv7 ht7
    refine hK.out _ _ y7 (fun hHeld => ?_)
    clear hHeld hK K
    try simp only [List.getElem_toArray, List.getElem_cons_zero, List.getElem_cons_succ, Act.put, List.setIfInBounds_toArray, List.set_cons_zero, List.set_cons_succ]
    refine wpAnyH_take (i := 13) (v := ?_) rfl (by kernel_rfl) (by kernel_rfl) (by kernel_rfl) (fun _ _ _ h => h) (Or.inl ⟨by rfl, ?_⟩) (by assumption) ?_
    rotate_left 1
    · intro w' hSw
      go_simp
      all_goals first | with_reducible rfl | (rw [if_neg (by omega)]; done) | (rw [if_pos (by omega)]; done) | (rw [if_neg (by omega)]; with_reducible rfl) | (rw [if_pos (by omega)]; with_reducible rfl)
    try simp only [List.getElem_toArray, List.getElem_cons_zero, List.getElem_cons_succ, Act.put, List.setIfInBounds_toArray, List.set_cons_zero, List.set_cons_succ]
    refine wpAnyH_take (i := 14) (v := ?_) rfl (by kernel_rfl) (by kernel_rfl) (by kernel_rfl) (fun _ _ _ h => h) (Or.inl ⟨by rfl, ?_⟩) (by assumption) ?_
    rotate_left 1
    · intro w' hSw
      go_simp
      all_goals first | with_reducible rfl | (rw [if_neg (by omega)]; done) | (rw [if_pos (by omega)]; done) | (rw [if_neg (by omega)]; with_reducible rfl) | (rw [if_pos (by omega)]; with_reducible rfl)
    try simp only [List.getElem_toArray, List.getElem_cons_zero, List.getElem_cons_succ, Act.put, List.setIfInBounds_toArray, List.set_cons_zero, List.set_cons_succ]
    refine wpAnyH_take (i := 15) (v := ?_) rfl (by kernel_rfl) (by kernel_rfl) (by kernel_rfl) (fun _ _ _ h => h) (Or.inl ⟨by rfl, ?_⟩) (by assumption) ?_
    rotate_left 1
    · intro w' hSw
      go_simp
      all_goals first | with_reducible rfl | (rw [if_neg (by omega)]; done) | (rw [if_pos (by omega)]; done) | (rw [if_neg (by omega)]; with_reducible rfl) | (rw [if_pos (by omega)]; with_reducible rfl)
    try simp only [List.getElem_toArray, List.getElem_cons_zero, List.getElem_cons_succ, Act.put, List.setIfInBounds_toArray, List.set_cons_zero, List.set_cons_succ]
    refine wpAnyH_ready (rs := [16]) (by kernel_rfl) (by simp) ?_
    refine AllReadyH.cons rfl (fun K hK => ?_) AllReadyH.nil
    refine step_update_mp rfl 124 38 Try.underlying124 _ _ _ rfl g M.length (look M) key v7' (by unfold maxLen; omega) rfl (M5.out.still ((Turn.refl _ _).drew.trans T7.out)) (by unfold maxLen; omega) rfl rfl ?_
    intro w9 hm9 ht9
    have M9 := Lib.hid hm9
    have T9 := Lib.hid ht9
    have y10 := HS9.out w7 w9 ((Turn.refl _ _).drew.trans T7.out) ht9
    clear hm9 ht9
    refine hK.out _ _ y10 (fun hHeld => ?_)
    clear hHeld hK K
    try simp only [List.getElem_toArray, List.getElem_cons_zero, List.getElem_cons_succ, Act.put, List.setIfInBounds_toArray, List.set_cons_zero, List.set_cons_succ]
    refine wpAnyH_done (by kernel_rfl) ?_ _
    refine NoPanic.normal ?_
    go_wp2_with fail
    go_end0
    refine ⟨rfl, HLAST.out W5 w7 w9 vk5 v7' B5.out K5.out T5.out P5.out V7.out ((Turn.refl _ _).drew.trans T7.out) M9.out T9.out⟩
      -- region end B
end Go.Proofs.Ytjkfgbmlhglnfaa
/- Layer 14: the program's Apply. -/
namespace Go.Proofs.Ytjkfgbmlhglnfaa
open Go.RowKit Go.Shelf
set_option linter.unusedVariables false
set_option linter.unusedSimpArgs false
set_option maxRecDepth 100000

theorem fndI_len {I : List Itm} {N : Nat} (h : ∀ p ∈ I, p.vs.length ≤ N) (k : ByteArray) : (fndI I k).length ≤ N := by
  unfold fndI
  cases hf : I.find? (fun p => p.k.toList == k.toList) with
  | none => exact Nat.zero_le _
  | some p => exact h p (List.mem_of_find?_eq_some hf)
theorem insR_len (z : Itm) : ∀ L : List Itm, (insR z L).length ≤ L.length + 1
  | [] => by simp [insR]
  | x :: L => by
    have := insR_len z L
    rw [insR]
    split
    · simp only [List.length_cons]; omega
    · split <;> simp
theorem aplR_len {I0 : List Itm} {N : Nat} (t : Int) (hN : ∀ p ∈ I0, p.vs.length ≤ N) : ∀ (n : Nat) (C : List Cg), C.length = n → (aplR I0 t C).length ≤ I0.length + n ∧ ∀ p ∈ aplR I0 t C, p.vs.length ≤ N + 1
  | 0, C, hn => by
    obtain rfl := List.eq_nil_of_length_eq_zero hn
    exact ⟨Nat.le_refl _, fun p hp => by have := hN p hp; omega⟩
  | n + 1, C, hn => by
    obtain ⟨C', x, rfl⟩ : ∃ C' x, C = C' ++ [x] := by
      have hne : C ≠ [] := fun e => by rw [e] at hn; simp at hn
      exact ⟨C.dropLast, C.getLast hne, (List.dropLast_concat_getLast hne).symm⟩
    rw [List.length_append, List.length_singleton] at hn
    obtain ⟨g1, g2⟩ := aplR_len t hN n C' (by omega)
    rw [aplR_snoc]
    refine ⟨Nat.le_trans (insR_len _ _) (by omega), fun p hp => ?_⟩
    rcases mem_insR hp with rfl | hp
    · exact Nat.le_trans (add13_len _ _) (by have := fndI_len hN x.k; omega)
    · exact g2 p hp
theorem Sp.last {w : World} {q g : Nat} {vk : Value} {M : List (Itm × Value)} {last mark : Int} (h : Sp w q vk g M last mark) (t : Int) : Sp (w.setCell ⟨q, 2, none⟩ (.int .i64 t)) q vk g M t mark ∧ Turn (Sw q vk g) w (w.setCell ⟨q, 2, none⟩ (.int .i64 t)) := by
  have TS : Turn (fun k => k = q) w (w.setCell ⟨q, 2, none⟩ (.int .i64 t)) := (Turn.refl (fun k => k = q) w).setCell (p := ⟨q, 2, none⟩) (.inl rfl) _
  refine ⟨⟨h.box.put 2 _, h.keys.turn TS (fun k hk e => (h.sep.2 k hk).1 e), h.map.turn TS (fun e => h.sep.1 e.symm), fun p hp => ⟨⟨(h.vers p hp).1.1.turn TS (fun hh b hb e => (h.vers p hp).1.2 hh b hb (.inl e)), (h.vers p hp).1.2⟩, (h.vers p hp).2⟩, h.ord, h.sep⟩, TS.mono (fun k _ e => .inl e)⟩
set_option maxHeartbeats 4000000 in
theorem apply_14 {w : World} {q g : Nat} {vk : Value} {M : List (Itm × Value)} {last mark : Int} (L : List Cg) (vl : Value) (t : Int) (h : Sp w q vk g M last mark) (hc : Cx w vl L) (hap : 0 < L.length → ∀ b, vb vl = some b → ¬ Sw q vk g b) (hb : Bm 5000000 M) (hL : L.length ≤ 1000) (hwf : Wf (M.map (fun p : Itm × Value => p.1)) last) (h0 : 0 ≤ last) (hlo : ¬ t ≤ last) (hhi : ¬ 1152921504606846976 < t) (hm : mch L = true) :
    Calls Try.prog 34 #[.pointer (some ⟨q, 0, none⟩), .int .i64 t, vl] w fun e w' => e = .returned (.int .i64 0) ∧ ∃ vk' M', Sp w' q vk' g M' t mark ∧ M'.map (fun p : Itm × Value => p.1) = aplR (M.map (fun p : Itm × Value => p.1)) t L ∧ (∀ k, Sw q vk' g k → Sw q vk g k ∨ w.heap.size ≤ k) ∧ Turn (Sw q vk g) w w' := by
  have HM := Lib.hid (made14 h)
  have HRT := Lib.hid (right_14 L vl w hc (by omega))
  rw [hm] at HRT
  obtain ⟨hok, hnod⟩ := (mch_iff L).1 hm
  have HOK := Lib.hid hok
  have HND := Lib.hid hnod
  have HSP := Lib.hid h
  have HWF := Lib.hid hwf
  have HLEN := Lib.hid (fun C => aplR_len (I0 := M.map (fun p : Itm × Value => p.1)) (N := 5000000) t (fun p hp => by obtain ⟨r, hr, rfl⟩ := List.mem_map.1 hp; exact (hb.2 r hr).1) _ C rfl)
  have hM50 := hb.1
  obtain ⟨A, c, rfl, hll, hlr⟩ := hc
  obtain ⟨n, hn⟩ : ∃ n, L.length = n := ⟨_, rfl⟩
  have HN := Lib.hid hn
  have HR : Hid (∀ X, Turn (Sw q vk g) w X → Rc X A (L.flatMap cc)) := Lib.hid (fun X hX => hlr.turn hX (fun hp ad e hs => hap (by rw [flat_len cc_len] at hp; omega) ad.block (by rw [e]; rfl) hs))
  rw [hn] at hll hL HRT ⊢
  have c2 := h.box.cell 2
  simp only [List.getElem?_cons_succ, List.getElem?_cons_zero] at c2
  have C2 := Lib.hid c2
  have SP0 := Lib.hid h
  clear h hlr hn hap hwf hok hnod hm
  go_enter Try.func34, Try.ntmps34
  go_wp2_with (first | (go_at_call 80; refine HM.out.mono ?_; rintro e w' ⟨rfl, rfl⟩) | (go_at_call 81; refine HRT.out.mono ?_; rintro e w1 ⟨rfl, ht1⟩; have T1 := Lib.hid ht1; clear ht1))
  have hcl : Hid (∀ (k : Nat), Sw q vk g k → k < w'.heap.size) := Lib.hid HSP.out.below
  go_loopw [30] (fun v30 wr => ∃ (i : Nat) (vk' : Value) (M' : List (Itm × Value)), i ≤ n ∧ v30 = .int .i64 i ∧ Sp wr q vk' g M' last mark ∧ Hid (M'.map (fun p : Itm × Value => p.1) = aplR (M.map (fun p : Itm × Value => p.1)) t (L.take i)) ∧ Hid (∀ k, Sw q vk' g k → Sw q vk g k ∨ w'.heap.size ≤ k) ∧ Turn (Sw q vk g) w' wr) (fun v30 _ => n - (intOf v30).toNat)
  case atStart => exact ⟨0, vk, M, Nat.zero_le _, rfl, SP0.out.still T1.out, Lib.hid rfl, Lib.hid (fun k hk => .inl hk), T1.out.mono (fun k _ h => h.elim)⟩
  case round =>
    clear T1 SP0
    obtain ⟨i, vk', M', hi, rfl, hsp, HML, HFP, ht⟩ := hrel
    obtain ⟨wx, rfl⟩ : ∃ W, W = wr := ⟨_, rfl⟩
    by_cases hlt : i < n
    · have hl1 : (i : Int) < (n : Int) := by omega
      have hl0 : (0 : Int) ≤ (i : Int) := by omega
      have hq := wrap_of ((i : Int) + 1) (by omega) (by omega)
      obtain ⟨x, hx⟩ : ∃ x, L[i]? = some x := ⟨_, List.getElem?_eq_getElem (by rw [HN.out]; exact hlt)⟩
      have hok := HOK.out x (List.mem_of_getElem? hx)
      obtain ⟨b, o, rfl, hb1, hcc⟩ := (HR.out wx ht).chg (by rw [HN.out]; omega)
      obtain ⟨c0, c1, c2'⟩ := hcc wx (Turn.refl _ _) i x hx
      have hks : x.k.size ≤ 128 := by
        unfold ok1 at hok
        simp only [Bool.and_eq_true, decide_eq_true_eq] at hok
        exact hok.1
      obtain ⟨hl9, hv9⟩ := HLEN.out (L.take i)
      rw [← HML.out] at hl9 hv9
      rw [List.length_map, List.length_map, List.length_take] at hl9
      have hfnd : fndk M' x.k = fndI (M.map (fun p : Itm × Value => p.1)) x.k := by
        rw [fndk_map]
        refine (congrArg (fun I => fndI I x.k) HML.out).trans (fnd_aplR _ _ _ _ _ rfl ?_)
        have h1 : nod (L.take (i + 1)) := by
          have h2 := HND.out
          unfold nod at h2 ⊢
          rw [List.map_take]
          exact h2.sublist (List.take_sublist _ _)
        rw [take_next hx] at h1
        exact (nod_snoc.1 h1).2
      have hadd := add_ok HWF.out h0 (show last < t by omega) (by omega) hok
      have HAD := Lib.hid (fun W (hW : Turn (fun _ => False) wx W) => add_14 x.k ⟨t, x.v, x.d⟩ (hsp.still hW) (by omega) (fun p hp => by have := hv9 p.1 (List.mem_map.2 ⟨p, hp, rfl⟩); omega) hks (by rw [hfnd, hadd]; simp))
      rw [hfnd] at HAD
      have HNX : Hid (aplR (M.map (fun p : Itm × Value => p.1)) t (L.take (i + 1)) = insR ⟨x.k, (add13 (fndI (M.map (fun p : Itm × Value => p.1)) x.k) ⟨t, x.v, x.d⟩).1⟩ (M'.map (fun p : Itm × Value => p.1))) := Lib.hid (by rw [take_next hx, aplR_snoc, HML.out])
      obtain ⟨xk, xv, xd⟩ := x
      simp only at c0 c1 c2' HAD HNX
      generalize (add13 (fndI (M.map (fun p : Itm × Value => p.1)) xk) ⟨t, xv, xd⟩).1 = C at *
      obtain ⟨W2, hW2⟩ : ∃ W, wx.alloc (.cells #[.string xk, .string xv, .bool xd] 79) = W := ⟨_, rfl⟩
      have TT2 : Hid (Turn (fun _ => False) wx W2) := Lib.hid (hW2 ▸ (Turn.refl _ _).alloc _)
      have IB : Hid (Blk W2 wx.heap.size 79 [.string xk, .string xv, .bool xd]) := Lib.hid (hW2 ▸ Blk.new _ _ _)
      have e0 := IB.out.cell 0
      have e1 := IB.out.cell 1
      have e2 := IB.out.cell 2
      simp only [List.getElem?_cons_zero, List.getElem?_cons_succ] at e0 e1 e2
      have HT := Lib.hid ht
      clear hx hb1 hcc hsp ht hl9 hv9 hfnd hadd hok hks
      go_upto_region 10 with fail
      go_wp2_with (go_at_call 82; refine (HAD.out _ TT2.out).mono ?_; rintro e W9 ⟨rfl, vk9, u9, hs9, hf9, ht9⟩; have S9 := Lib.hid hs9; have F9 := Lib.hid hf9; have T9 := Lib.hid ht9; clear hs9 hf9 ht9)
      have hws := HT.out.size
      have hw2 := TT2.out.size
      go_roundw
      case rel => exact ⟨i + 1, vk9, _, by omega, by simp [hq], S9.out, Lib.hid (by rw [insI_map, HNX.out]), Lib.hid (fun k hk => by
          rcases F9.out k hk with h1 | h1
          · exact HFP.out k h1
          · exact .inr (by omega)), (HT.out.trans (TT2.out.mono (fun k _ h => h.elim))).trans_new T9.out (fun k hk h1 => by
          rcases HFP.out k h1 with h2 | h2
          · exact h2
          · omega)⟩
      case measure => simp [intOf, hq]; omega
    · obtain rfl : i = n := by omega
      have HALL : Hid (M'.map (fun p : Itm × Value => p.1) = aplR (M.map (fun p : Itm × Value => p.1)) t L) := Lib.hid (by rw [HML.out, ← HN.out, List.take_length])
      have HSL := Lib.hid (hsp.last t)
      have z2 := hsp.box.cell 2
      have f2 := hsp.box.free 2
      simp only [List.getElem?_cons_succ, List.getElem?_cons_zero] at z2
      have HT := Lib.hid ht
      clear hsp ht
      go_wp2_with fail
      go_ret
      exact ⟨rfl, vk', M', HSL.out.1, HALL.out, HFP.out, HT.out.trans_new HSL.out.2 (fun k hk h1 => by
        rcases HFP.out k h1 with h2 | h2
        · exact h2
        · omega)⟩
theorem apply_14b {w : World} {q g : Nat} {vk : Value} {M : List (Itm × Value)} {last mark : Int} (L : List Cg) (vl : Value) (t : Int) (h : Sp w q vk g M last mark) (hc : Cx w vl L) (hL : L.length ≤ 1000) (hbad : t ≤ last ∨ 1152921504606846976 < t ∨ mch L = false) :
    Calls Try.prog 34 #[.pointer (some ⟨q, 0, none⟩), .int .i64 t, vl] w fun e w' => e = .returned (.int .i64 (if t ≤ last ∨ 1152921504606846976 < t then 18 else 2)) ∧ Turn (fun _ => False) w w' := by
  have HM := Lib.hid (made14 h)
  have HRT := Lib.hid (right_14 L vl w hc (by omega))
  have c2 := h.box.cell 2
  simp only [List.getElem?_cons_succ, List.getElem?_cons_zero] at c2
  obtain ⟨A, c, rfl, hll, hlr⟩ := hc
  obtain ⟨n, hn⟩ : ∃ n, L.length = n := ⟨_, rfl⟩
  rw [hn] at HRT ⊢
  clear h hlr hn
  by_cases h1 : t ≤ last
  · rw [if_pos (.inl h1)]
    clear hbad
    go_enter Try.func34, Try.ntmps34
    go_wp2_with (go_at_call 80; refine HM.out.mono ?_; rintro e w' ⟨rfl, rfl⟩)
    go_ret
    exact ⟨rfl, Turn.refl _ _⟩
  · by_cases h2 : 1152921504606846976 < t
    · rw [if_pos (.inr h2)]
      clear hbad
      go_enter Try.func34, Try.ntmps34
      go_wp2_with (go_at_call 80; refine HM.out.mono ?_; rintro e w' ⟨rfl, rfl⟩)
      go_ret
      exact ⟨rfl, Turn.refl _ _⟩
    · rw [if_neg (by omega)]
      have hm : mch L = false := by
        rcases hbad with h | h | h
        · exact absurd h h1
        · exact absurd h h2
        · exact h
      rw [hm] at HRT
      clear hbad hm
      go_enter Try.func34, Try.ntmps34
      go_wp2_with (first | (go_at_call 80; refine HM.out.mono ?_; rintro e w' ⟨rfl, rfl⟩) | (go_at_call 81; refine HRT.out.mono ?_; rintro e w1 ⟨rfl, ht1⟩; have T1 := Lib.hid ht1; clear ht1))
      go_ret
      exact ⟨rfl, T1.out⟩
end Go.Proofs.Ytjkfgbmlhglnfaa
