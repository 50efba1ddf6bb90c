/- Layer 14: the statements' alike, asked. (mkSpBb.py) -/
import Derived.Test.YtobddfpdijmgiaaSpBa
namespace Go.Proofs.Ytobddfpdijmgiaa
open Go.RowKit Go.Shelf
set_option linter.unusedVariables false
set_option linter.unusedSimpArgs false
set_option maxRecDepth 100000
attribute [local go_sem] Oper.semAt_some

/-- A space, and the document's. -/
structure St14 (w : World) (q : Nat) (vk : Value) (g : Nat) (M : List (Itm × Value)) (last mark : Int) (mv : Value) (Md : List (Itm × Value)) (N : Nat) : Prop where
  sp : Sp w q vk g M last mark
  ix : Ix w mv Md
  eq : Md.map (fun p : Itm × Value => p.1) = M.map (fun p : Itm × Value => p.1)
  wf : Wf (M.map (fun p : Itm × Value => p.1)) last
  rng : 0 ≤ mark ∧ mark ≤ last ∧ last ≤ 1152921504606846976
  ap : ∀ k, Sw q vk g k → Ap14 k mv Md
  bm : Bm N M
theorem Bm.le {N K : Nat} {M : List (Itm × Value)} (h : Bm N M) (hk : N ≤ K) : Bm K M := ⟨by have := h.1; omega, fun p hp => ⟨by have := (h.2 p hp).1; omega, (h.2 p hp).2⟩⟩
theorem St14.still {w w' : World} {q g : Nat} {vk mv : Value} {M Md : List (Itm × Value)} {last mark : Int} {N : Nat} (h : St14 w q vk g M last mark mv Md N) (ht : Turn (fun _ => False) w w') : St14 w' q vk g M last mark mv Md N :=
  ⟨h.sp.still ht, h.ix.still ht, h.eq, h.wf, h.rng, h.ap, h.bm⟩
theorem get_eq14 {M Md : List (Itm × Value)} (he : Md.map (fun p : Itm × Value => p.1) = M.map (fun p : Itm × Value => p.1)) (last mark : Int) (key : ByteArray) (t : Int) : get14 Md last mark key t = get14 M last mark key t := by
  unfold get14
  have e : fndk Md key = fndk M key := by rw [fndk_map, fndk_map]; exact congrArg (fun I => fndI I key) he
  rw [e]
theorem snc_map14 (M : List (Itm × Value)) (a b : ByteArray) (t : Int) : snc14 M a b t = (M.map (fun p : Itm × Value => p.1)).any (fun x => win x.k a b && snc x.vs t) := by
  unfold snc14
  rw [List.any_map]
  rfl
theorem snc_eq14 {M Md : List (Itm × Value)} (he : Md.map (fun p : Itm × Value => p.1) = M.map (fun p : Itm × Value => p.1)) (a b : ByteArray) (t : Int) : snc14 Md a b t = snc14 M a b t := by
  rw [snc_map14, snc_map14, he]
def scsI (a b : ByteArray) (t most : Int) (out : List Pq2) (x : Itm) : List Pq2 :=
  if (at13 x.vs t).2 && (win x.k a b && (decide (most < 0) || decide ((out.length : Int) < most))) then out ++ [⟨x.k, (at13 x.vs t).1⟩] else out
theorem scl_map14 (M : List (Itm × Value)) (a b : ByteArray) (t most : Int) : scl M a b t most = (M.map (fun p : Itm × Value => p.1)).foldl (scsI a b t most) [] := by
  unfold scl
  rw [List.foldl_map]
  rfl
theorem scl_eq14 {M Md : List (Itm × Value)} (he : Md.map (fun p : Itm × Value => p.1) = M.map (fun p : Itm × Value => p.1)) (a b : ByteArray) (t most : Int) : scl Md a b t most = scl M a b t most := by
  rw [scl_map14, scl_map14, he]
theorem scl_len14 {M : List (Itm × Value)} (hr : risK (keysM M)) (a b : ByteArray) (t most : Int) : (scl M a b t most).length ≤ M.length := by
  rw [← out_all hr]
  refine Nat.le_trans (out_most M a b t most _).2 ?_
  unfold rngK
  exact Nat.le_trans (List.takeWhile_prefix _).length_le (by rw [List.length_drop]; omega)
theorem scan_u14 {w : World} {q g : Nat} {vk : Value} {M : List (Itm × Value)} {last mark : Int} (fa fb : ByteArray) (t most : Int) (h : Sp w q vk g M last mark) (hb : Bm 100000 M) (hka : fa.size ≤ 140737488351232) (hkb : fb.size ≤ 140737488351232) :
    Calls Try.prog 22 #[.pointer (some ⟨q, 0, none⟩), .string fa, .string fb, .int .i64 t, .int .i64 most] w fun e w' => ∃ v, e = .returned (.tuple #[v, .int .i64 (kept14 last mark t)]) ∧ Px w' v (if kept14 last mark t = 0 then scl M fa fb t most else []) ∧ Turn (fun _ => False) w w' := by
  by_cases hk : kept14 last mark t = 0
  · refine (scan_14 fa fb t most h hb hka hkb hk).mono fun e w' ⟨v, h1, h2, h3⟩ => ⟨v, by rw [h1, hk], ?_, h3⟩
    rw [if_pos hk]
    exact h2.px (by have := scl_len14 h.ord fa fb t most; have := hb.1; omega)
  · refine (scan_14e fa fb t most h hk).mono fun e w' ⟨h1, h3⟩ => ⟨_, h1, ?_, h3⟩
    rw [if_neg hk]
    exact (po_nil 0 w').px (by decide)
set_option maxHeartbeats 4000000 in
theorem alike_14 {w : World} {q g : Nat} {vk mv : Value} {M Md : List (Itm × Value)} {last mark : Int} {N : Nat} (h : St14 w q vk g M last mark mv Md N) (hN : N ≤ 100000) :
    Calls Try.prog 17 #[.pointer (some ⟨q, 0, none⟩), .agg #[mv, .int .i64 last, .int .i64 mark]] w fun e w' => e = .returned (.bool true) ∧ Turn (fun _ => False) w w' := by
  obtain ⟨AM, cM, rfl, _⟩ := h.ix
  obtain ⟨W0, hW0⟩ : ∃ W, w.alloc (.cells #[.slice AM Md.length cM, .int .i64 last, .int .i64 mark] 32) = W := ⟨_, rfl⟩
  have TW : Hid (Turn (fun _ => False) w W0) := Lib.hid (hW0 ▸ (Turn.refl _ _).alloc _)
  have HB : Hid (∀ X, Turn (fun _ => False) W0 X → X.cell? ⟨w.heap.size, 0, none⟩ = some (.slice AM Md.length cM) ∧ X.cell? ⟨w.heap.size, 1, none⟩ = some (.int .i64 last) ∧ X.cell? ⟨w.heap.size, 2, none⟩ = some (.int .i64 mark)) := Lib.hid (fun X hX => by
    have b := (hW0 ▸ Blk.new w 32 [.slice AM Md.length cM, .int .i64 last, .int .i64 mark] : Blk W0 w.heap.size 32 [.slice AM Md.length cM, .int .i64 last, .int .i64 mark]).turn hX (fun h => h)
    exact ⟨b.cell 0, b.cell 1, b.cell 2⟩)
  have BM := h.bm.le hN
  have HIT : Hid (∀ X, Turn (fun _ => False) W0 X → Calls Try.prog 29 #[.pointer (some ⟨q, 0, none⟩)] X fun e w' => ∃ v, e = .returned v ∧ ∃ A n c, v = .slice A n c ∧ (∃ Ms, Ix w' (.slice A n c) Ms ∧ Ms.map (fun p : Itm × Value => p.1) = M.map (fun p : Itm × Value => p.1)) ∧ Turn (fun _ => False) W0 w') := Lib.hid (fun X hX => (items_14 (h.sp.still (TW.out.trans hX)) BM).mono fun e w' ⟨v, Ms, h1, h2, h3, h4, h5⟩ => by
    obtain ⟨A, c, e⟩ := own_slice_ h2.1
    subst e
    exact ⟨_, h1, A, _, c, rfl, ⟨Ms, h2.ix (by have := (bm_map BM h3).1; omega), h3⟩, hX.trans h5⟩)
  have HSM : Hid (∀ X, Turn (fun _ => False) W0 X → ∀ A n c, (∃ Ms, Ix X (.slice A n c) Ms ∧ Ms.map (fun p : Itm × Value => p.1) = M.map (fun p : Itm × Value => p.1)) → Calls Try.prog 45 #[.slice A n c, .slice AM Md.length cM] X fun e w' => ∃ v, e = .returned v ∧ v = .bool true ∧ Turn (fun _ => False) W0 w') := Lib.hid (fun X hX A n c ⟨Ms, k1, k2⟩ => (refSame14 Ms Md (k2.trans h.eq.symm) _ _ X k1 (h.ix.still (TW.out.trans hX))).mono fun e w' ⟨h1, h2⟩ => ⟨_, h1, rfl, hX.trans h2⟩)
  have HLA : Hid (∀ X, Turn (fun _ => False) W0 X → Calls Try.prog 28 #[.pointer (some ⟨q, 0, none⟩)] X fun e w' => ∃ v, e = .returned v ∧ v = .int .i64 last ∧ Turn (fun _ => False) W0 w') := Lib.hid (fun X hX => (last14 (h.sp.still (TW.out.trans hX))).mono fun e w' ⟨h1, h2⟩ => ⟨_, h1, rfl, by rw [h2]; exact hX⟩)
  have HMK : Hid (∀ X, Turn (fun _ => False) W0 X → Calls Try.prog 24 #[.pointer (some ⟨q, 0, none⟩)] X fun e w' => ∃ v, e = .returned v ∧ v = .int .i64 mark ∧ Turn (fun _ => False) W0 w') := Lib.hid (fun X hX => (mark14 (h.sp.still (TW.out.trans hX))).mono fun e w' ⟨h1, h2⟩ => ⟨_, h1, rfl, by rw [h2]; exact hX⟩)
  clear h BM
  go_enter Try.func17, Try.ntmps17
  go_wp2_with fail
  clear hW0
  -- region A
  have T0 : Hid (Turn (fun _ => False) W0 W0.drew) := Lib.hid ((Turn.refl (fun _ => False) W0).drew)
  refine wp_region_noPanic ?_
  refine wp_region_held_drew (S := (fun X => Turn (fun _ => False) W0 X)) (by kernel_rfl) T0.out (fun hHeld => ?_)
  clear hHeld
  refine wpAnyH_take (i := 0) (v := ?_) rfl (by kernel_rfl) (by kernel_rfl) (by kernel_rfl) (fun _ _ _ h => h) (Or.inl ⟨by rfl, ?_⟩) (by assumption) ?_
  rotate_left 1
  · intro w' hSw
    go_simp
    all_goals first | with_reducible rfl | (rw [if_neg (by omega)]; done) | (rw [if_pos (by omega)]; done) | (rw [if_neg (by omega)]; with_reducible rfl) | (rw [if_pos (by omega)]; with_reducible rfl)
  try simp only [List.getElem_toArray, List.getElem_cons_zero, List.getElem_cons_succ, Act.put, List.setIfInBounds_toArray, List.set_cons_zero, List.set_cons_succ]
  refine wpAnyH_take (i := 1) (v := ?_) rfl (by kernel_rfl) (by kernel_rfl) (by kernel_rfl) (fun _ _ _ h => h) (Or.inl ⟨by rfl, ?_⟩) (by assumption) ?_
  rotate_left 1
  · intro w' hSw
    go_simp
    all_goals first | with_reducible rfl | (rw [if_neg (by omega)]; done) | (rw [if_pos (by omega)]; done) | (rw [if_neg (by omega)]; with_reducible rfl) | (rw [if_pos (by omega)]; with_reducible rfl)
  try simp only [List.getElem_toArray, List.getElem_cons_zero, List.getElem_cons_succ, Act.put, List.setIfInBounds_toArray, List.set_cons_zero, List.set_cons_succ]
  refine wpAnyH_take (i := 2) (v := ?_) rfl (by kernel_rfl) (by kernel_rfl) (by kernel_rfl) (fun _ _ _ h => h) (Or.inl ⟨by rfl, ?_⟩) (by assumption) ?_
  rotate_left 1
  · intro w' hSw
    go_simp
    all_goals first | with_reducible rfl | (rw [if_neg (by omega)]; done) | (rw [if_pos (by omega)]; done) | (rw [if_neg (by omega)]; with_reducible rfl) | (rw [if_pos (by omega)]; with_reducible rfl)
  try simp only [List.getElem_toArray, List.getElem_cons_zero, List.getElem_cons_succ, Act.put, List.setIfInBounds_toArray, List.set_cons_zero, List.set_cons_succ]
  refine wpAnyH_take (i := 3) (v := ?_) rfl (by kernel_rfl) (by kernel_rfl) (by kernel_rfl) (fun _ _ _ h => h) (Or.inl ⟨by rfl, ?_⟩) (by assumption) ?_
  rotate_left 1
  · intro w' hSw
    go_simp
    all_goals first | with_reducible rfl | (rw [if_neg (by omega)]; done) | (rw [if_pos (by omega)]; done) | (rw [if_neg (by omega)]; with_reducible rfl) | (rw [if_pos (by omega)]; with_reducible rfl)
  try simp only [List.getElem_toArray, List.getElem_cons_zero, List.getElem_cons_succ, Act.put, List.setIfInBounds_toArray, List.set_cons_zero, List.set_cons_succ]
  refine wpAnyH_take (i := 5) (v := ?_) rfl (by kernel_rfl) (by kernel_rfl) (by kernel_rfl) (fun _ _ _ h => h) (Or.inl ⟨by rfl, ?_⟩) (by assumption) ?_
  rotate_left 1
  · intro w' hSw
    go_simp
    all_goals first | with_reducible rfl | (rw [if_neg (by omega)]; done) | (rw [if_pos (by omega)]; done) | (rw [if_neg (by omega)]; with_reducible rfl) | (rw [if_pos (by omega)]; with_reducible rfl)
  try simp only [List.getElem_toArray, List.getElem_cons_zero, List.getElem_cons_succ, Act.put, List.setIfInBounds_toArray, List.set_cons_zero, List.set_cons_succ]
  refine wpAnyH_take (i := 6) (v := ?_) rfl (by kernel_rfl) (by kernel_rfl) (by kernel_rfl) (fun _ _ _ h => h) (Or.inl ⟨by rfl, ?_⟩) (by assumption) ?_
  rotate_left 1
  · intro w' hSw
    obtain ⟨y0, y1, y2⟩ := HB.out _ hSw
    go_simp
    all_goals first | with_reducible rfl | (rw [if_neg (by omega)]; done) | (rw [if_pos (by omega)]; done) | (rw [if_neg (by omega)]; with_reducible rfl) | (rw [if_pos (by omega)]; with_reducible rfl)
  try simp only [List.getElem_toArray, List.getElem_cons_zero, List.getElem_cons_succ, Act.put, List.setIfInBounds_toArray, List.set_cons_zero, List.set_cons_succ]
  refine wpAnyH_ready (rs := [4]) (by kernel_rfl) (by simp) ?_
  refine AllReadyH.cons rfl (fun K hK => ?_) AllReadyH.nil
  refine step_call_on 29 Try.f29 _ _ rfl Try.func29 (by kernel_rfl) (by kernel_rfl) _ _ (HIT.out _ T0.out) (by go_simp) (by first | rfl | go_simp) ?_
  rintro v4 w4 ⟨A4, n4, c4, rfl, hms, ht⟩
  have HMS := Lib.hid hms
  clear hms
  have T4 := Lib.hid ht
  clear ht
  refine hK.out _ _ T4.out (fun hHeld => ?_)
  clear hHeld hK K
  try simp only [List.getElem_toArray, List.getElem_cons_zero, List.getElem_cons_succ, Act.put, List.setIfInBounds_toArray, List.set_cons_zero, List.set_cons_succ]
  refine wpAnyH_ready (rs := [7]) (by kernel_rfl) (by simp) ?_
  refine AllReadyH.cons rfl (fun K hK => ?_) AllReadyH.nil
  refine step_call_on 45 Try.f45 _ _ rfl Try.func45 (by kernel_rfl) (by kernel_rfl) _ _ (HSM.out _ T4.out _ _ _ HMS.out) (by go_simp) (by first | rfl | go_simp) ?_
  rintro v7 w7 ⟨rfl, ht⟩
  have T7 := Lib.hid ht
  clear ht
  refine hK.out _ _ T7.out (fun hHeld => ?_)
  clear hHeld hK K
  try simp only [List.getElem_toArray, List.getElem_cons_zero, List.getElem_cons_succ, Act.put, List.setIfInBounds_toArray, List.set_cons_zero, List.set_cons_succ]
  refine wpAnyH_take (i := 8) (v := ?_) rfl (by kernel_rfl) (by kernel_rfl) (by kernel_rfl) (fun _ _ _ h => h) (Or.inl ⟨by rfl, ?_⟩) (by assumption) ?_
  rotate_left 1
  · intro w' hSw
    go_simp
    all_goals first | with_reducible rfl | (rw [if_neg (by omega)]; done) | (rw [if_pos (by omega)]; done) | (rw [if_neg (by omega)]; with_reducible rfl) | (rw [if_pos (by omega)]; with_reducible rfl)
  try simp only [List.getElem_toArray, List.getElem_cons_zero, List.getElem_cons_succ, Act.put, List.setIfInBounds_toArray, List.set_cons_zero, List.set_cons_succ]
  refine wpAnyH_take (i := 9) (v := ?_) rfl (by kernel_rfl) (by kernel_rfl) (by kernel_rfl) (fun _ _ _ h => h) (Or.inl ⟨by rfl, ?_⟩) (by assumption) ?_
  rotate_left 1
  · intro w' hSw
    go_simp
    all_goals first | with_reducible rfl | (rw [if_neg (by omega)]; done) | (rw [if_pos (by omega)]; done) | (rw [if_neg (by omega)]; with_reducible rfl) | (rw [if_pos (by omega)]; with_reducible rfl)
  try simp only [List.getElem_toArray, List.getElem_cons_zero, List.getElem_cons_succ, Act.put, List.setIfInBounds_toArray, List.set_cons_zero, List.set_cons_succ]
  refine wpAnyH_take (i := 10) (v := ?_) rfl (by kernel_rfl) (by kernel_rfl) (by kernel_rfl) (fun _ _ _ h => h) (Or.inl ⟨by rfl, ?_⟩) (by assumption) ?_
  rotate_left 1
  · intro w' hSw
    go_simp
    all_goals first | with_reducible rfl | (rw [if_neg (by omega)]; done) | (rw [if_pos (by omega)]; done) | (rw [if_neg (by omega)]; with_reducible rfl) | (rw [if_pos (by omega)]; with_reducible rfl)
  try simp only [List.getElem_toArray, List.getElem_cons_zero, List.getElem_cons_succ, Act.put, List.setIfInBounds_toArray, List.set_cons_zero, List.set_cons_succ]
  refine wpAnyH_take (i := 12) (v := ?_) rfl (by kernel_rfl) (by kernel_rfl) (by kernel_rfl) (fun _ _ _ h => h) (Or.inl ⟨by rfl, ?_⟩) (by assumption) ?_
  rotate_left 1
  · intro w' hSw
    go_simp
    all_goals first | with_reducible rfl | (rw [if_neg (by omega)]; done) | (rw [if_pos (by omega)]; done) | (rw [if_neg (by omega)]; with_reducible rfl) | (rw [if_pos (by omega)]; with_reducible rfl)
  try simp only [List.getElem_toArray, List.getElem_cons_zero, List.getElem_cons_succ, Act.put, List.setIfInBounds_toArray, List.set_cons_zero, List.set_cons_succ]
  refine wpAnyH_take (i := 13) (v := ?_) rfl (by kernel_rfl) (by kernel_rfl) (by kernel_rfl) (fun _ _ _ h => h) (Or.inl ⟨by rfl, ?_⟩) (by assumption) ?_
  rotate_left 1
  · intro w' hSw
    obtain ⟨y0, y1, y2⟩ := HB.out _ hSw
    go_simp
    all_goals first | with_reducible rfl | (rw [if_neg (by omega)]; done) | (rw [if_pos (by omega)]; done) | (rw [if_neg (by omega)]; with_reducible rfl) | (rw [if_pos (by omega)]; with_reducible rfl)
  try simp only [List.getElem_toArray, List.getElem_cons_zero, List.getElem_cons_succ, Act.put, List.setIfInBounds_toArray, List.set_cons_zero, List.set_cons_succ]
  refine wpAnyH_ready (rs := [11]) (by kernel_rfl) (by simp) ?_
  refine AllReadyH.cons rfl (fun K hK => ?_) AllReadyH.nil
  refine step_call_on 28 Try.f28 _ _ rfl Try.func28 (by kernel_rfl) (by kernel_rfl) _ _ (HLA.out _ T7.out) (by go_simp) (by first | rfl | go_simp) ?_
  rintro v11 w11 ⟨rfl, ht⟩
  have T11 := Lib.hid ht
  clear ht
  refine hK.out _ _ T11.out (fun hHeld => ?_)
  clear hHeld hK K
  try simp only [List.getElem_toArray, List.getElem_cons_zero, List.getElem_cons_succ, Act.put, List.setIfInBounds_toArray, List.set_cons_zero, List.set_cons_succ]
  refine wpAnyH_take (i := 14) (v := ?_) rfl (by kernel_rfl) (by kernel_rfl) (by kernel_rfl) (fun _ _ _ h => h) (Or.inl ⟨by rfl, ?_⟩) (by assumption) ?_
  rotate_left 1
  · intro w' hSw
    go_simp
    all_goals first | with_reducible rfl | (rw [if_neg (by omega)]; done) | (rw [if_pos (by omega)]; done) | (rw [if_neg (by omega)]; with_reducible rfl) | (rw [if_pos (by omega)]; with_reducible rfl)
  try simp only [List.getElem_toArray, List.getElem_cons_zero, List.getElem_cons_succ, Act.put, List.setIfInBounds_toArray, List.set_cons_zero, List.set_cons_succ]
  refine wpAnyH_take (i := 15) (v := ?_) rfl (by kernel_rfl) (by kernel_rfl) (by kernel_rfl) (fun _ _ _ h => h) (Or.inl ⟨by rfl, ?_⟩) (by assumption) ?_
  rotate_left 1
  · intro w' hSw
    go_simp
    all_goals first | with_reducible rfl | (rw [if_neg (by omega)]; done) | (rw [if_pos (by omega)]; done) | (rw [if_neg (by omega)]; with_reducible rfl) | (rw [if_pos (by omega)]; with_reducible rfl)
  try simp only [List.getElem_toArray, List.getElem_cons_zero, List.getElem_cons_succ, Act.put, List.setIfInBounds_toArray, List.set_cons_zero, List.set_cons_succ]
  refine wpAnyH_take (i := 16) (v := ?_) rfl (by kernel_rfl) (by kernel_rfl) (by kernel_rfl) (fun _ _ _ h => h) (Or.inl ⟨by rfl, ?_⟩) (by assumption) ?_
  rotate_left 1
  · intro w' hSw
    go_simp
    all_goals first | with_reducible rfl | (rw [if_neg (by omega)]; done) | (rw [if_pos (by omega)]; done) | (rw [if_neg (by omega)]; with_reducible rfl) | (rw [if_pos (by omega)]; with_reducible rfl)
  try simp only [List.getElem_toArray, List.getElem_cons_zero, List.getElem_cons_succ, Act.put, List.setIfInBounds_toArray, List.set_cons_zero, List.set_cons_succ]
  refine wpAnyH_take (i := 17) (v := ?_) rfl (by kernel_rfl) (by kernel_rfl) (by kernel_rfl) (fun _ _ _ h => h) (Or.inl ⟨by rfl, ?_⟩) (by assumption) ?_
  rotate_left 1
  · intro w' hSw
    go_simp
    all_goals first | with_reducible rfl | (rw [if_neg (by omega)]; done) | (rw [if_pos (by omega)]; done) | (rw [if_neg (by omega)]; with_reducible rfl) | (rw [if_pos (by omega)]; with_reducible rfl)
  try simp only [List.getElem_toArray, List.getElem_cons_zero, List.getElem_cons_succ, Act.put, List.setIfInBounds_toArray, List.set_cons_zero, List.set_cons_succ]
  refine wpAnyH_take (i := 19) (v := ?_) rfl (by kernel_rfl) (by kernel_rfl) (by kernel_rfl) (fun _ _ _ h => h) (Or.inl ⟨by rfl, ?_⟩) (by assumption) ?_
  rotate_left 1
  · intro w' hSw
    go_simp
    all_goals first | with_reducible rfl | (rw [if_neg (by omega)]; done) | (rw [if_pos (by omega)]; done) | (rw [if_neg (by omega)]; with_reducible rfl) | (rw [if_pos (by omega)]; with_reducible rfl)
  try simp only [List.getElem_toArray, List.getElem_cons_zero, List.getElem_cons_succ, Act.put, List.setIfInBounds_toArray, List.set_cons_zero, List.set_cons_succ]
  refine wpAnyH_take (i := 20) (v := ?_) rfl (by kernel_rfl) (by kernel_rfl) (by kernel_rfl) (fun _ _ _ h => h) (Or.inl ⟨by rfl, ?_⟩) (by assumption) ?_
  rotate_left 1
  · intro w' hSw
    obtain ⟨y0, y1, y2⟩ := HB.out _ hSw
    go_simp
    all_goals first | with_reducible rfl | (rw [if_neg (by omega)]; done) | (rw [if_pos (by omega)]; done) | (rw [if_neg (by omega)]; with_reducible rfl) | (rw [if_pos (by omega)]; with_reducible rfl)
  try simp only [List.getElem_toArray, List.getElem_cons_zero, List.getElem_cons_succ, Act.put, List.setIfInBounds_toArray, List.set_cons_zero, List.set_cons_succ]
  refine wpAnyH_ready (rs := [18]) (by kernel_rfl) (by simp) ?_
  refine AllReadyH.cons rfl (fun K hK => ?_) AllReadyH.nil
  refine step_call_on 24 Try.f24 _ _ rfl Try.func24 (by kernel_rfl) (by kernel_rfl) _ _ (HMK.out _ T11.out) (by go_simp) (by first | rfl | go_simp) ?_
  rintro v18 w18 ⟨rfl, ht⟩
  have T18 := Lib.hid ht
  clear ht
  refine hK.out _ _ T18.out (fun hHeld => ?_)
  clear hHeld hK K
  try simp only [List.getElem_toArray, List.getElem_cons_zero, List.getElem_cons_succ, Act.put, List.setIfInBounds_toArray, List.set_cons_zero, List.set_cons_succ]
  refine wpAnyH_take (i := 21) (v := ?_) rfl (by kernel_rfl) (by kernel_rfl) (by kernel_rfl) (fun _ _ _ h => h) (Or.inl ⟨by rfl, ?_⟩) (by assumption) ?_
  rotate_left 1
  · intro w' hSw
    go_simp
    all_goals first | with_reducible rfl | (rw [if_neg (by omega)]; done) | (rw [if_pos (by omega)]; done) | (rw [if_neg (by omega)]; with_reducible rfl) | (rw [if_pos (by omega)]; with_reducible rfl)
  try simp only [List.getElem_toArray, List.getElem_cons_zero, List.getElem_cons_succ, Act.put, List.setIfInBounds_toArray, List.set_cons_zero, List.set_cons_succ]
  refine wpAnyH_take (i := 22) (v := ?_) rfl (by kernel_rfl) (by kernel_rfl) (by kernel_rfl) (fun _ _ _ h => h) (Or.inl ⟨by rfl, ?_⟩) (by assumption) ?_
  rotate_left 1
  · intro w' hSw
    go_simp
    all_goals first | with_reducible rfl | (rw [if_neg (by omega)]; done) | (rw [if_pos (by omega)]; done) | (rw [if_neg (by omega)]; with_reducible rfl) | (rw [if_pos (by omega)]; with_reducible rfl)
  try simp only [List.getElem_toArray, List.getElem_cons_zero, List.getElem_cons_succ, Act.put, List.setIfInBounds_toArray, List.set_cons_zero, List.set_cons_succ]
  refine wpAnyH_take (i := 23) (v := ?_) rfl (by kernel_rfl) (by kernel_rfl) (by kernel_rfl) (fun _ _ _ h => h) (Or.inl ⟨by rfl, ?_⟩) (by assumption) ?_
  rotate_left 1
  · intro w' hSw
    go_simp
    all_goals first | with_reducible rfl | (rw [if_neg (by omega)]; done) | (rw [if_pos (by omega)]; done) | (rw [if_neg (by omega)]; with_reducible rfl) | (rw [if_pos (by omega)]; with_reducible rfl)
  try simp only [List.getElem_toArray, List.getElem_cons_zero, List.getElem_cons_succ, Act.put, List.setIfInBounds_toArray, List.set_cons_zero, List.set_cons_succ]
  refine wpAnyH_done (by kernel_rfl) ?_ _
  refine NoPanic.normal ?_
  go_wp2_with fail
  go_ret
  exact ⟨rfl, TW.out.trans T18.out⟩
  -- region end A
set_option maxHeartbeats 4000000 in
theorem asked_14 {w : World} {q g : Nat} {vk mv : Value} {M Md : List (Itm × Value)} {last mark : Int} {N : Nat} (key fa fb : ByteArray) (t most : Int) (h : St14 w q vk g M last mark mv Md N) (hN : N ≤ 100000) (hk : key.size ≤ 140737488351232) (ha : fa.size ≤ 140737488351232) (hb : fb.size ≤ 140737488351232) :
    Calls Try.prog 18 #[.pointer (some ⟨q, 0, none⟩), .agg #[mv, .int .i64 last, .int .i64 mark], .string key, .string fa, .string fb, .int .i64 t, .int .i64 most] w fun e w' => e = .returned (.bool true) ∧ Turn (fun _ => False) w w' := by
  obtain ⟨AM, cM, rfl, _⟩ := h.ix
  have BM := h.bm.le hN
  have HKM : ∀ p ∈ Md, p.1.k.size ≤ 140737488351232 := fun p hp => by
    have h1 := (bm_map h.bm h.eq).2 p hp
    omega
  have HLM : Md.length ≤ 100000 := by have := (bm_map h.bm h.eq).1; omega
  have HG := Lib.hid (fun X (hT : Turn (fun _ => False) w X) => get_14 key t (h.sp.still hT) (fun p hp => (BM.2 p hp).1) (by unfold maxLen; omega))
  have HR := Lib.hid (fun X (hT : Turn (fun _ => False) w X) => refGet14 Md _ last mark key t X (h.ix.still hT))
  have HSC := Lib.hid (fun X (hT : Turn (fun _ => False) w X) => scan_u14 fa fb t most (h.sp.still hT) BM ha hb)
  have HSR := Lib.hid (fun X (hT : Turn (fun _ => False) w X) => refScan14 Md _ last mark fa fb t most X (h.ix.still hT) HKM ha hb HLM)
  have HSI := Lib.hid (fun X (hT : Turn (fun _ => False) w X) => since_14 fa fb t (h.sp.still hT) BM)
  have HSN := Lib.hid (fun X (hT : Turn (fun _ => False) w X) => refSince14 Md _ last mark fa fb t X (h.ix.still hT) HKM ha hb)
  rw [get_eq14 h.eq] at HR
  rw [snc_eq14 h.eq] at HSN
  rw [scl_eq14 h.eq] at HSR
  have HLL : (scl M fa fb t most).length ≤ 100000 := Nat.le_trans (scl_len14 h.sp.ord fa fb t most) BM.1
  have HSR2 : Hid (∀ X, Turn (fun _ => False) w X → Calls Try.prog 58 #[.agg #[.slice AM Md.length cM, .int .i64 last, .int .i64 mark], .string fa, .string fb, .int .i64 t, .int .i64 most] X fun e w' => ∃ v', e = .returned (.tuple #[v', .int .i64 (kept14 last mark t)]) ∧ Px w' v' (if kept14 last mark t = 0 then scl M fa fb t most else []) ∧ Turn (fun _ => False) X w') := Lib.hid (fun X hX => (HSR.out X hX).mono fun e w' ⟨v, h1, h2, h3⟩ => ⟨v, h1, h2.px (by split <;> first | (have := HLL; omega) | exact Nat.zero_le _), h3⟩)
  obtain ⟨gv, hgv⟩ : ∃ z, (get14 M last mark key t).1 = z := ⟨_, rfl⟩
  obtain ⟨ge, hge⟩ : ∃ z, (get14 M last mark key t).2 = z := ⟨_, rfl⟩
  obtain ⟨ke, hke⟩ : ∃ z, kept14 last mark t = z := ⟨_, rfl⟩
  obtain ⟨sn, hsn⟩ : ∃ z, snc14 M fa fb t = z := ⟨_, rfl⟩
  obtain ⟨PL, hPL⟩ : ∃ z, (if kept14 last mark t = 0 then scl M fa fb t most else []) = z := ⟨_, rfl⟩
  rw [hgv, hge] at HG HR
  rw [hsn] at HSI HSN
  rw [hPL, hke] at HSC HSR2
  have HPP : Hid (∀ X u v, Turn (fun _ => False) w X → Px X u PL → Px X v PL → Calls Try.prog 25 #[u, v] X fun e w' => e = .returned (.bool true) ∧ Turn (fun _ => False) X w') := Lib.hid (fun X u v _ h1 h2 => refSame10 PL u v X h1 h2)
  clear h BM HKM HLM HSR HLL hgv hge hke hsn hPL
  obtain ⟨W0, hW0⟩ : ∃ W, w.alloc (.cells #[.slice AM Md.length cM, .int .i64 last, .int .i64 mark] 32) = W := ⟨_, rfl⟩
  have TW : Hid (Turn (fun _ => False) w W0) := Lib.hid (hW0 ▸ (Turn.refl _ _).alloc _)
  have HB : Hid (∀ X, Turn (fun _ => False) W0 X → X.cell? ⟨w.heap.size, 0, none⟩ = some (.slice AM Md.length cM) ∧ X.cell? ⟨w.heap.size, 1, none⟩ = some (.int .i64 last) ∧ X.cell? ⟨w.heap.size, 2, none⟩ = some (.int .i64 mark)) := Lib.hid (fun X hX => by
    have b := (hW0 ▸ Blk.new w 32 [.slice AM Md.length cM, .int .i64 last, .int .i64 mark] : Blk W0 w.heap.size 32 [.slice AM Md.length cM, .int .i64 last, .int .i64 mark]).turn hX (fun h => h)
    exact ⟨b.cell 0, b.cell 1, b.cell 2⟩)
  go_enter Try.func18, Try.ntmps18
  go_wp2_with (first
    | (go_at_call 23; refine (HG.out _ TW.out).mono ?_; rintro e w1 ⟨rfl, ht⟩; clear hW0; have T1 := Lib.hid (Turn.trans (Turn.refl _ _) ht); clear ht; obtain ⟨c0, c1, c2⟩ := HB.out w1 T1.out)
    | (go_at_call 57; refine (HR.out _ (TW.out.trans T1.out)).mono ?_; rintro e w2 ⟨rfl, ht⟩; have T2 := Lib.hid (T1.out.trans ht); clear ht c0 c1 c2)
    | (go_at_call 22; refine (HSC.out _ (TW.out.trans T2.out)).mono ?_; rintro e w3 ⟨v3, rfl, hp3, ht⟩; obtain ⟨A3, d3, rfl, _⟩ := id hp3; have P3 := Lib.hid hp3; have T3 := Lib.hid (T2.out.trans ht); clear ht hp3; obtain ⟨c0, c1, c2⟩ := HB.out w3 T3.out)
    | (go_at_call 58; refine (HSR2.out _ (TW.out.trans T3.out)).mono ?_; rintro e w4 ⟨v4, rfl, hp4, ht⟩; obtain ⟨A4, d4, rfl, _⟩ := id hp4; have P4 := Lib.hid hp4; have T43 := Lib.hid ht; have T4 := Lib.hid (T3.out.trans ht); clear ht hp4 c0 c1 c2))
  have P34 := Lib.hid (P3.out.still T43.out)
  have TW4 := Lib.hid (TW.out.trans T4.out)
  have HB4 := Lib.hid (fun X (hX : Turn (fun _ => False) w4 X) => HB.out X (T4.out.trans hX))
  have HPS : Hid (∀ X, Turn (fun _ => False) w4 X → Calls Try.prog 25 #[.slice A3 PL.length d3, .slice A4 PL.length d4] X fun e w' => ∃ v, e = .returned v ∧ v = .bool true ∧ Turn (fun _ => False) w4 w') := Lib.hid (fun X hX => (HPP.out X _ _ (TW4.out.trans hX) (P34.out.still hX) (P4.out.still hX)).mono fun e w' ⟨h1, h2⟩ => ⟨_, h1, rfl, hX.trans h2⟩)
  have HSI2 : Hid (∀ X, Turn (fun _ => False) w X → Calls Try.prog 51 #[.pointer (some ⟨q, 0, none⟩), .string fa, .string fb, .int .i64 t] X fun e w' => ∃ v, e = .returned v ∧ v = .bool sn ∧ Turn (fun _ => False) X w') := Lib.hid (fun X hX => (HSI.out X hX).mono fun e w' ⟨h1, h2⟩ => ⟨_, h1, rfl, h2⟩)
  have HSN2 : Hid (∀ X, Turn (fun _ => False) w X → Calls Try.prog 59 #[.agg #[.slice AM Md.length cM, .int .i64 last, .int .i64 mark], .string fa, .string fb, .int .i64 t] X fun e w' => ∃ v, e = .returned v ∧ v = .bool sn ∧ Turn (fun _ => False) X w') := Lib.hid (fun X hX => (HSN.out X hX).mono fun e w' ⟨h1, h2⟩ => ⟨_, h1, rfl, h2⟩)
  -- region B
  have T0 : Hid (Turn (fun _ => False) w4 w4.drew) := Lib.hid ((Turn.refl (fun _ => False) w4).drew)
  refine wp_region_noPanic ?_
  refine wp_region_held_drew (S := (fun X => Turn (fun _ => False) w4 X)) (by kernel_rfl) T0.out (fun hHeld => ?_)
  clear hHeld
  refine wpAnyH_take (i := 0) (v := ?_) rfl (by kernel_rfl) (by kernel_rfl) (by kernel_rfl) (fun _ _ _ h => h) (Or.inl ⟨by rfl, ?_⟩) (by assumption) ?_
  rotate_left 1
  · intro w' hSw
    go_simp
    all_goals first | with_reducible rfl | (rw [if_neg (by omega)]; done) | (rw [if_pos (by omega)]; done) | (rw [if_neg (by omega)]; with_reducible rfl) | (rw [if_pos (by omega)]; with_reducible rfl)
  try simp only [List.getElem_toArray, List.getElem_cons_zero, List.getElem_cons_succ, Act.put, List.setIfInBounds_toArray, List.set_cons_zero, List.set_cons_succ]
  refine wpAnyH_take (i := 1) (v := ?_) rfl (by kernel_rfl) (by kernel_rfl) (by kernel_rfl) (fun _ _ _ h => h) (Or.inl ⟨by rfl, ?_⟩) (by assumption) ?_
  rotate_left 1
  · intro w' hSw
    go_simp
    all_goals first | with_reducible rfl | (rw [if_neg (by omega)]; done) | (rw [if_pos (by omega)]; done) | (rw [if_neg (by omega)]; with_reducible rfl) | (rw [if_pos (by omega)]; with_reducible rfl)
  try simp only [List.getElem_toArray, List.getElem_cons_zero, List.getElem_cons_succ, Act.put, List.setIfInBounds_toArray, List.set_cons_zero, List.set_cons_succ]
  refine wpAnyH_take (i := 2) (v := ?_) rfl (by kernel_rfl) (by kernel_rfl) (by kernel_rfl) (fun _ _ _ h => h) (Or.inl ⟨by rfl, ?_⟩) (by assumption) ?_
  rotate_left 1
  · intro w' hSw
    go_simp
    all_goals first | with_reducible rfl | (rw [if_neg (by omega)]; done) | (rw [if_pos (by omega)]; done) | (rw [if_neg (by omega)]; with_reducible rfl) | (rw [if_pos (by omega)]; with_reducible rfl)
  try simp only [List.getElem_toArray, List.getElem_cons_zero, List.getElem_cons_succ, Act.put, List.setIfInBounds_toArray, List.set_cons_zero, List.set_cons_succ]
  refine wpAnyH_take (i := 3) (v := ?_) rfl (by kernel_rfl) (by kernel_rfl) (by kernel_rfl) (fun _ _ _ h => h) (Or.inl ⟨by rfl, ?_⟩) (by assumption) ?_
  rotate_left 1
  · intro w' hSw
    go_simp
    all_goals first | with_reducible rfl | (rw [if_neg (by omega)]; done) | (rw [if_pos (by omega)]; done) | (rw [if_neg (by omega)]; with_reducible rfl) | (rw [if_pos (by omega)]; with_reducible rfl)
  try simp only [List.getElem_toArray, List.getElem_cons_zero, List.getElem_cons_succ, Act.put, List.setIfInBounds_toArray, List.set_cons_zero, List.set_cons_succ]
  refine wpAnyH_take (i := 4) (v := ?_) rfl (by kernel_rfl) (by kernel_rfl) (by kernel_rfl) (fun _ _ _ h => h) (Or.inl ⟨by rfl, ?_⟩) (by assumption) ?_
  rotate_left 1
  · intro w' hSw
    go_simp
    all_goals first | with_reducible rfl | (rw [if_neg (by omega)]; done) | (rw [if_pos (by omega)]; done) | (rw [if_neg (by omega)]; with_reducible rfl) | (rw [if_pos (by omega)]; with_reducible rfl)
  try simp only [List.getElem_toArray, List.getElem_cons_zero, List.getElem_cons_succ, Act.put, List.setIfInBounds_toArray, List.set_cons_zero, List.set_cons_succ]
  refine wpAnyH_take (i := 5) (v := ?_) rfl (by kernel_rfl) (by kernel_rfl) (by kernel_rfl) (fun _ _ _ h => h) (Or.inl ⟨by rfl, ?_⟩) (by assumption) ?_
  rotate_left 1
  · intro w' hSw
    go_simp
    all_goals first | with_reducible rfl | (rw [if_neg (by omega)]; done) | (rw [if_pos (by omega)]; done) | (rw [if_neg (by omega)]; with_reducible rfl) | (rw [if_pos (by omega)]; with_reducible rfl)
  try simp only [List.getElem_toArray, List.getElem_cons_zero, List.getElem_cons_succ, Act.put, List.setIfInBounds_toArray, List.set_cons_zero, List.set_cons_succ]
  refine wpAnyH_take (i := 6) (v := ?_) rfl (by kernel_rfl) (by kernel_rfl) (by kernel_rfl) (fun _ _ _ h => h) (Or.inl ⟨by rfl, ?_⟩) (by assumption) ?_
  rotate_left 1
  · intro w' hSw
    go_simp
    all_goals first | with_reducible rfl | (rw [if_neg (by omega)]; done) | (rw [if_pos (by omega)]; done) | (rw [if_neg (by omega)]; with_reducible rfl) | (rw [if_pos (by omega)]; with_reducible rfl)
  try simp only [List.getElem_toArray, List.getElem_cons_zero, List.getElem_cons_succ, Act.put, List.setIfInBounds_toArray, List.set_cons_zero, List.set_cons_succ]
  refine wpAnyH_take (i := 7) (v := ?_) rfl (by kernel_rfl) (by kernel_rfl) (by kernel_rfl) (fun _ _ _ h => h) (Or.inl ⟨by rfl, ?_⟩) (by assumption) ?_
  rotate_left 1
  · intro w' hSw
    go_simp
    all_goals first | with_reducible rfl | (rw [if_neg (by omega)]; done) | (rw [if_pos (by omega)]; done) | (rw [if_neg (by omega)]; with_reducible rfl) | (rw [if_pos (by omega)]; with_reducible rfl)
  try simp only [List.getElem_toArray, List.getElem_cons_zero, List.getElem_cons_succ, Act.put, List.setIfInBounds_toArray, List.set_cons_zero, List.set_cons_succ]
  refine wpAnyH_take (i := 8) (v := ?_) rfl (by kernel_rfl) (by kernel_rfl) (by kernel_rfl) (fun _ _ _ h => h) (Or.inl ⟨by rfl, ?_⟩) (by assumption) ?_
  rotate_left 1
  · intro w' hSw
    go_simp
    all_goals first | with_reducible rfl | (rw [if_neg (by omega)]; done) | (rw [if_pos (by omega)]; done) | (rw [if_neg (by omega)]; with_reducible rfl) | (rw [if_pos (by omega)]; with_reducible rfl)
  try simp only [List.getElem_toArray, List.getElem_cons_zero, List.getElem_cons_succ, Act.put, List.setIfInBounds_toArray, List.set_cons_zero, List.set_cons_succ]
  refine wpAnyH_take (i := 9) (v := ?_) rfl (by kernel_rfl) (by kernel_rfl) (by kernel_rfl) (fun _ _ _ h => h) (Or.inl ⟨by rfl, ?_⟩) (by assumption) ?_
  rotate_left 1
  · intro w' hSw
    go_simp
    all_goals first | with_reducible rfl | (rw [if_neg (by omega)]; done) | (rw [if_pos (by omega)]; done) | (rw [if_neg (by omega)]; with_reducible rfl) | (rw [if_pos (by omega)]; with_reducible rfl)
  try simp only [List.getElem_toArray, List.getElem_cons_zero, List.getElem_cons_succ, Act.put, List.setIfInBounds_toArray, List.set_cons_zero, List.set_cons_succ]
  refine wpAnyH_take (i := 10) (v := ?_) rfl (by kernel_rfl) (by kernel_rfl) (by kernel_rfl) (fun _ _ _ h => h) (Or.inl ⟨by rfl, ?_⟩) (by assumption) ?_
  rotate_left 1
  · intro w' hSw
    go_simp
    all_goals first | with_reducible rfl | (rw [if_neg (by omega)]; done) | (rw [if_pos (by omega)]; done) | (rw [if_neg (by omega)]; with_reducible rfl) | (rw [if_pos (by omega)]; with_reducible rfl)
  try simp only [List.getElem_toArray, List.getElem_cons_zero, List.getElem_cons_succ, Act.put, List.setIfInBounds_toArray, List.set_cons_zero, List.set_cons_succ]
  refine wpAnyH_ready (rs := [11]) (by kernel_rfl) (by simp) ?_
  refine AllReadyH.cons rfl (fun K hK => ?_) AllReadyH.nil
  refine step_call_on 25 Try.f25 _ _ rfl Try.func25 (by kernel_rfl) (by kernel_rfl) _ _ (HPS.out _ T0.out) (by go_simp) (by first | rfl | go_simp) ?_
  rintro v11 w11 ⟨rfl, ht⟩
  have T11 := Lib.hid ht
  clear ht
  refine hK.out _ _ T11.out (fun hHeld => ?_)
  clear hHeld hK K
  try simp only [List.getElem_toArray, List.getElem_cons_zero, List.getElem_cons_succ, Act.put, List.setIfInBounds_toArray, List.set_cons_zero, List.set_cons_succ]
  refine wpAnyH_take (i := 12) (v := ?_) rfl (by kernel_rfl) (by kernel_rfl) (by kernel_rfl) (fun _ _ _ h => h) (Or.inl ⟨by rfl, ?_⟩) (by assumption) ?_
  rotate_left 1
  · intro w' hSw
    go_simp
    all_goals first | with_reducible rfl | (rw [if_neg (by omega)]; done) | (rw [if_pos (by omega)]; done) | (rw [if_neg (by omega)]; with_reducible rfl) | (rw [if_pos (by omega)]; with_reducible rfl)
  try simp only [List.getElem_toArray, List.getElem_cons_zero, List.getElem_cons_succ, Act.put, List.setIfInBounds_toArray, List.set_cons_zero, List.set_cons_succ]
  refine wpAnyH_take (i := 13) (v := ?_) rfl (by kernel_rfl) (by kernel_rfl) (by kernel_rfl) (fun _ _ _ h => h) (Or.inl ⟨by rfl, ?_⟩) (by assumption) ?_
  rotate_left 1
  · intro w' hSw
    go_simp
    all_goals first | with_reducible rfl | (rw [if_neg (by omega)]; done) | (rw [if_pos (by omega)]; done) | (rw [if_neg (by omega)]; with_reducible rfl) | (rw [if_pos (by omega)]; with_reducible rfl)
  try simp only [List.getElem_toArray, List.getElem_cons_zero, List.getElem_cons_succ, Act.put, List.setIfInBounds_toArray, List.set_cons_zero, List.set_cons_succ]
  refine wpAnyH_take (i := 14) (v := ?_) rfl (by kernel_rfl) (by kernel_rfl) (by kernel_rfl) (fun _ _ _ h => h) (Or.inl ⟨by rfl, ?_⟩) (by assumption) ?_
  rotate_left 1
  · intro w' hSw
    go_simp
    all_goals first | with_reducible rfl | (rw [if_neg (by omega)]; done) | (rw [if_pos (by omega)]; done) | (rw [if_neg (by omega)]; with_reducible rfl) | (rw [if_pos (by omega)]; with_reducible rfl)
  try simp only [List.getElem_toArray, List.getElem_cons_zero, List.getElem_cons_succ, Act.put, List.setIfInBounds_toArray, List.set_cons_zero, List.set_cons_succ]
  refine wpAnyH_take (i := 15) (v := ?_) rfl (by kernel_rfl) (by kernel_rfl) (by kernel_rfl) (fun _ _ _ h => h) (Or.inl ⟨by rfl, ?_⟩) (by assumption) ?_
  rotate_left 1
  · intro w' hSw
    go_simp
    all_goals first | with_reducible rfl | (rw [if_neg (by omega)]; done) | (rw [if_pos (by omega)]; done) | (rw [if_neg (by omega)]; with_reducible rfl) | (rw [if_pos (by omega)]; with_reducible rfl)
  try simp only [List.getElem_toArray, List.getElem_cons_zero, List.getElem_cons_succ, Act.put, List.setIfInBounds_toArray, List.set_cons_zero, List.set_cons_succ]
  refine wpAnyH_take (i := 16) (v := ?_) rfl (by kernel_rfl) (by kernel_rfl) (by kernel_rfl) (fun _ _ _ h => h) (Or.inl ⟨by rfl, ?_⟩) (by assumption) ?_
  rotate_left 1
  · intro w' hSw
    go_simp
    all_goals first | with_reducible rfl | (rw [if_neg (by omega)]; done) | (rw [if_pos (by omega)]; done) | (rw [if_neg (by omega)]; with_reducible rfl) | (rw [if_pos (by omega)]; with_reducible rfl)
  try simp only [List.getElem_toArray, List.getElem_cons_zero, List.getElem_cons_succ, Act.put, List.setIfInBounds_toArray, List.set_cons_zero, List.set_cons_succ]
  refine wpAnyH_take (i := 17) (v := ?_) rfl (by kernel_rfl) (by kernel_rfl) (by kernel_rfl) (fun _ _ _ h => h) (Or.inl ⟨by rfl, ?_⟩) (by assumption) ?_
  rotate_left 1
  · intro w' hSw
    go_simp
    all_goals first | with_reducible rfl | (rw [if_neg (by omega)]; done) | (rw [if_pos (by omega)]; done) | (rw [if_neg (by omega)]; with_reducible rfl) | (rw [if_pos (by omega)]; with_reducible rfl)
  try simp only [List.getElem_toArray, List.getElem_cons_zero, List.getElem_cons_succ, Act.put, List.setIfInBounds_toArray, List.set_cons_zero, List.set_cons_succ]
  refine wpAnyH_take (i := 18) (v := ?_) rfl (by kernel_rfl) (by kernel_rfl) (by kernel_rfl) (fun _ _ _ h => h) (Or.inl ⟨by rfl, ?_⟩) (by assumption) ?_
  rotate_left 1
  · intro w' hSw
    go_simp
    all_goals first | with_reducible rfl | (rw [if_neg (by omega)]; done) | (rw [if_pos (by omega)]; done) | (rw [if_neg (by omega)]; with_reducible rfl) | (rw [if_pos (by omega)]; with_reducible rfl)
  try simp only [List.getElem_toArray, List.getElem_cons_zero, List.getElem_cons_succ, Act.put, List.setIfInBounds_toArray, List.set_cons_zero, List.set_cons_succ]
  refine wpAnyH_take (i := 19) (v := ?_) rfl (by kernel_rfl) (by kernel_rfl) (by kernel_rfl) (fun _ _ _ h => h) (Or.inl ⟨by rfl, ?_⟩) (by assumption) ?_
  rotate_left 1
  · intro w' hSw
    go_simp
    all_goals first | with_reducible rfl | (rw [if_neg (by omega)]; done) | (rw [if_pos (by omega)]; done) | (rw [if_neg (by omega)]; with_reducible rfl) | (rw [if_pos (by omega)]; with_reducible rfl)
  try simp only [List.getElem_toArray, List.getElem_cons_zero, List.getElem_cons_succ, Act.put, List.setIfInBounds_toArray, List.set_cons_zero, List.set_cons_succ]
  refine wpAnyH_take (i := 20) (v := ?_) rfl (by kernel_rfl) (by kernel_rfl) (by kernel_rfl) (fun _ _ _ h => h) (Or.inl ⟨by rfl, ?_⟩) (by assumption) ?_
  rotate_left 1
  · intro w' hSw
    go_simp
    all_goals first | with_reducible rfl | (rw [if_neg (by omega)]; done) | (rw [if_pos (by omega)]; done) | (rw [if_neg (by omega)]; with_reducible rfl) | (rw [if_pos (by omega)]; with_reducible rfl)
  try simp only [List.getElem_toArray, List.getElem_cons_zero, List.getElem_cons_succ, Act.put, List.setIfInBounds_toArray, List.set_cons_zero, List.set_cons_succ]
  refine wpAnyH_take (i := 21) (v := ?_) rfl (by kernel_rfl) (by kernel_rfl) (by kernel_rfl) (fun _ _ _ h => h) (Or.inl ⟨by rfl, ?_⟩) (by assumption) ?_
  rotate_left 1
  · intro w' hSw
    go_simp
    all_goals first | with_reducible rfl | (rw [if_neg (by omega)]; done) | (rw [if_pos (by omega)]; done) | (rw [if_neg (by omega)]; with_reducible rfl) | (rw [if_pos (by omega)]; with_reducible rfl)
  try simp only [List.getElem_toArray, List.getElem_cons_zero, List.getElem_cons_succ, Act.put, List.setIfInBounds_toArray, List.set_cons_zero, List.set_cons_succ]
  refine wpAnyH_take (i := 22) (v := ?_) rfl (by kernel_rfl) (by kernel_rfl) (by kernel_rfl) (fun _ _ _ h => h) (Or.inl ⟨by rfl, ?_⟩) (by assumption) ?_
  rotate_left 1
  · intro w' hSw
    go_simp
    all_goals first | with_reducible rfl | (rw [if_neg (by omega)]; done) | (rw [if_pos (by omega)]; done) | (rw [if_neg (by omega)]; with_reducible rfl) | (rw [if_pos (by omega)]; with_reducible rfl)
  try simp only [List.getElem_toArray, List.getElem_cons_zero, List.getElem_cons_succ, Act.put, List.setIfInBounds_toArray, List.set_cons_zero, List.set_cons_succ]
  refine wpAnyH_take (i := 24) (v := ?_) rfl (by kernel_rfl) (by kernel_rfl) (by kernel_rfl) (fun _ _ _ h => h) (Or.inl ⟨by rfl, ?_⟩) (by assumption) ?_
  rotate_left 1
  · intro w' hSw
    obtain ⟨y0, y1, y2⟩ := HB4.out _ hSw
    go_simp
    all_goals first | with_reducible rfl | (rw [if_neg (by omega)]; done) | (rw [if_pos (by omega)]; done) | (rw [if_neg (by omega)]; with_reducible rfl) | (rw [if_pos (by omega)]; with_reducible rfl)
  try simp only [List.getElem_toArray, List.getElem_cons_zero, List.getElem_cons_succ, Act.put, List.setIfInBounds_toArray, List.set_cons_zero, List.set_cons_succ]
  refine wpAnyH_take (i := 25) (v := ?_) rfl (by kernel_rfl) (by kernel_rfl) (by kernel_rfl) (fun _ _ _ h => h) (Or.inl ⟨by rfl, ?_⟩) (by assumption) ?_
  rotate_left 1
  · intro w' hSw
    go_simp
    all_goals first | with_reducible rfl | (rw [if_neg (by omega)]; done) | (rw [if_pos (by omega)]; done) | (rw [if_neg (by omega)]; with_reducible rfl) | (rw [if_pos (by omega)]; with_reducible rfl)
  try simp only [List.getElem_toArray, List.getElem_cons_zero, List.getElem_cons_succ, Act.put, List.setIfInBounds_toArray, List.set_cons_zero, List.set_cons_succ]
  refine wpAnyH_take (i := 26) (v := ?_) rfl (by kernel_rfl) (by kernel_rfl) (by kernel_rfl) (fun _ _ _ h => h) (Or.inl ⟨by rfl, ?_⟩) (by assumption) ?_
  rotate_left 1
  · intro w' hSw
    go_simp
    all_goals first | with_reducible rfl | (rw [if_neg (by omega)]; done) | (rw [if_pos (by omega)]; done) | (rw [if_neg (by omega)]; with_reducible rfl) | (rw [if_pos (by omega)]; with_reducible rfl)
  try simp only [List.getElem_toArray, List.getElem_cons_zero, List.getElem_cons_succ, Act.put, List.setIfInBounds_toArray, List.set_cons_zero, List.set_cons_succ]
  refine wpAnyH_take (i := 27) (v := ?_) rfl (by kernel_rfl) (by kernel_rfl) (by kernel_rfl) (fun _ _ _ h => h) (Or.inl ⟨by rfl, ?_⟩) (by assumption) ?_
  rotate_left 1
  · intro w' hSw
    go_simp
    all_goals first | with_reducible rfl | (rw [if_neg (by omega)]; done) | (rw [if_pos (by omega)]; done) | (rw [if_neg (by omega)]; with_reducible rfl) | (rw [if_pos (by omega)]; with_reducible rfl)
  try simp only [List.getElem_toArray, List.getElem_cons_zero, List.getElem_cons_succ, Act.put, List.setIfInBounds_toArray, List.set_cons_zero, List.set_cons_succ]
  refine wpAnyH_ready (rs := [23]) (by kernel_rfl) (by simp) ?_
  refine AllReadyH.cons rfl (fun K hK => ?_) AllReadyH.nil
  refine step_call_on 51 Try.f51 _ _ rfl Try.func51 (by kernel_rfl) (by kernel_rfl) _ _ (HSI2.out _ (TW4.out.trans T11.out)) (by go_simp) (by first | rfl | go_simp) ?_
  rintro v23 w23 ⟨rfl, ht⟩
  replace ht := T11.out.trans ht
  have T23 := Lib.hid ht
  clear ht
  refine hK.out _ _ T23.out (fun hHeld => ?_)
  clear hHeld hK K
  try simp only [List.getElem_toArray, List.getElem_cons_zero, List.getElem_cons_succ, Act.put, List.setIfInBounds_toArray, List.set_cons_zero, List.set_cons_succ]
  refine wpAnyH_ready (rs := [28]) (by kernel_rfl) (by simp) ?_
  refine AllReadyH.cons rfl (fun K hK => ?_) AllReadyH.nil
  refine step_call_on 59 Try.f59 _ _ rfl Try.func59 (by kernel_rfl) (by kernel_rfl) _ _ (HSN2.out _ (TW4.out.trans T23.out)) (by go_simp) (by first | rfl | go_simp) ?_
  rintro v28 w28 ⟨rfl, ht⟩
  replace ht := T23.out.trans ht
  have T28 := Lib.hid ht
  clear ht
  refine hK.out _ _ T28.out (fun hHeld => ?_)
  clear hHeld hK K
  try simp only [List.getElem_toArray, List.getElem_cons_zero, List.getElem_cons_succ, Act.put, List.setIfInBounds_toArray, List.set_cons_zero, List.set_cons_succ]
  refine wpAnyH_take (i := 29) (v := ?_) rfl (by kernel_rfl) (by kernel_rfl) (by kernel_rfl) (fun _ _ _ h => h) (Or.inl ⟨by rfl, ?_⟩) (by assumption) ?_
  rotate_left 1
  · intro w' hSw
    go_simp
    all_goals first | with_reducible rfl | (rw [if_neg (by omega)]; done) | (rw [if_pos (by omega)]; done) | (rw [if_neg (by omega)]; with_reducible rfl) | (rw [if_pos (by omega)]; with_reducible rfl)
  try simp only [List.getElem_toArray, List.getElem_cons_zero, List.getElem_cons_succ, Act.put, List.setIfInBounds_toArray, List.set_cons_zero, List.set_cons_succ]
  refine wpAnyH_take (i := 30) (v := ?_) rfl (by kernel_rfl) (by kernel_rfl) (by kernel_rfl) (fun _ _ _ h => h) (Or.inl ⟨by rfl, ?_⟩) (by assumption) ?_
  rotate_left 1
  · intro w' hSw
    go_simp
    all_goals first | with_reducible rfl | (rw [if_neg (by omega)]; done) | (rw [if_pos (by omega)]; done) | (rw [if_neg (by omega)]; with_reducible rfl) | (rw [if_pos (by omega)]; with_reducible rfl)
  try simp only [List.getElem_toArray, List.getElem_cons_zero, List.getElem_cons_succ, Act.put, List.setIfInBounds_toArray, List.set_cons_zero, List.set_cons_succ]
  refine wpAnyH_take (i := 31) (v := ?_) rfl (by kernel_rfl) (by kernel_rfl) (by kernel_rfl) (fun _ _ _ h => h) (Or.inl ⟨by rfl, ?_⟩) (by assumption) ?_
  rotate_left 1
  · intro w' hSw
    go_simp
    all_goals first | with_reducible rfl | (rw [if_neg (by omega)]; done) | (rw [if_pos (by omega)]; done) | (rw [if_neg (by omega)]; with_reducible rfl) | (rw [if_pos (by omega)]; with_reducible rfl)
  try simp only [List.getElem_toArray, List.getElem_cons_zero, List.getElem_cons_succ, Act.put, List.setIfInBounds_toArray, List.set_cons_zero, List.set_cons_succ]
  refine wpAnyH_done (by kernel_rfl) ?_ _
  refine NoPanic.normal ?_
  go_wp2_with fail
  go_ret
  exact ⟨rfl, TW4.out.trans T28.out⟩
  -- region end B
end Go.Proofs.Ytobddfpdijmgiaa
