/- Layer 9: Read. -/
import Derived.Test.YtmedljnbcpdoeaaDoorPrG
namespace Go.Proofs.YtmedljnbcpdoeaaDoor
open Go.RowKit
set_option linter.unusedVariables false
set_option linter.unusedSimpArgs false
set_option maxRecDepth 100000

/-- The first so many sectors' bytes, from one on. -/
def pgs9 (D : Dsk) (s : Nat) : Nat → List UInt8
  | 0 => []
  | k + 1 => pgs9 D s k ++ D.has (s + k)
def rd9 (fr : Nat) (st : List Nat) (D : Dsk) (i : Int) : List UInt8 × Int :=
  if has9 st i then (if is9 st i 0 then ([], 7) else if D.dead then ([], 20) else (pgs9 D (fr + 8 * i.toNat) 8, 0)) else ([], 6)
theorem len_pgs9 {D : Dsk} (ok : D.Ok) (s : Nat) : ∀ k, s + k ≤ D.kept.length → (pgs9 D s k).length = 128 * k
  | 0, _ => rfl
  | k + 1, h => by rw [pgs9, List.length_append, len_pgs9 ok s k (by omega), ok.has_len (by omega)]; omega
theorem sl_blk9 {w : World} {g t n : Nat} {l : List UInt8} (h : Blk w g t (bv l)) (hn : l.length = n) (hm : n ≤ maxLen) : Sl w w.heap.size (.slice (some ⟨g, 0, none⟩) n n) l :=
  ⟨some ⟨g, 0, none⟩, n, by rw [hn], fun hp => ⟨_, rfl, rfl, h.lt, fun j c hj => by rw [Addr.add_mid, Nat.zero_add, h.cell j]; unfold bv; rw [List.getElem?_map, hj]; rfl⟩, hm, (fun h => by cases h), by rw [hn]; exact Nat.le_refl _⟩
theorem grown_turn9 {w w' : World} {v : Value} {B : Nat} (h : w.grownBy w' v.ownBlock) (hb : ∀ k, v.ownBlock = some k → B ≤ k) : Turn (fun k => B ≤ k) w w' :=
  ⟨h.os, h.tape, h.output, h.size, fun i hi hk => h.block i hi (fun e => hk (hb i e.symm))⟩
theorem read9_err {S : Nat → Prop} {w : World} {p pd fr : Nat} {st : List Nat} {D : Dsk} (h : Pq S w p pd fr st D) (i : Int) (he : has9 st i = false ∨ is9 st i 0 = true) :
    Calls Tryd.prog 21 #[.pointer (some ⟨p, 0, none⟩), .int .i64 i] w fun r w' => r = .returned (.tuple #[.slice none 0 0, .int .i64 (rd9 fr st D i).2]) ∧ w' = w := by
  obtain ⟨pa, ga, gr, SD, hP, hD, hap, rfl, hroom⟩ := h
  have HM := Lib.hid (made9 hP)
  have HH := Lib.hid (has9_any hP i)
  have H0 := Lib.hid (is9_any hP i 0)
  rw [show ((0 : Nat) : Int) = 0 from rfl] at H0
  clear hP hD hap hroom
  cases hh : has9 st i with
  | false =>
    rw [hh] at HH
    rw [show rd9 fr st D i = ([], 6) by unfold rd9; rw [hh]; rfl]
    clear hh he
    go_enter Tryd.func21, Tryd.ntmps21
    go_wp2_with fail
    refine HM.out.mono ?_
    rintro e w1 ⟨rfl, rfl⟩
    go_wp2_with fail
    refine HH.out.mono ?_
    rintro e w1 ⟨rfl, rfl⟩
    go_wp2_with fail
    exact bodyPost_ret (v := .tuple #[.slice none 0 0, .int .i64 6]) (by simp [results, Tryd.results21, go_sem]) rfl ⟨rfl, rfl⟩
  | true =>
    have h0 : is9 st i 0 = true := by rcases he with he | he; rw [hh] at he; cases he; exact he
    rw [hh] at HH
    rw [h0] at H0
    rw [show rd9 fr st D i = ([], 7) by unfold rd9; rw [hh, h0]; rfl]
    clear hh he h0
    go_enter Tryd.func21, Tryd.ntmps21
    go_wp2_with fail
    refine HM.out.mono ?_
    rintro e w1 ⟨rfl, rfl⟩
    go_wp2_with fail
    refine HH.out.mono ?_
    rintro e w1 ⟨rfl, rfl⟩
    go_wp2_with fail
    refine H0.out.mono ?_
    rintro e w1 ⟨rfl, rfl⟩
    go_wp2_with fail
    exact bodyPost_ret (v := .tuple #[.slice none 0 0, .int .i64 7]) (by simp [results, Tryd.results21, go_sem]) rfl ⟨rfl, rfl⟩
set_option maxHeartbeats 2000000 in
theorem read9_dead {S : Nat → Prop} {w : World} {p pd fr : Nat} {st : List Nat} {D : Dsk} (h : Pq S w p pd fr st D) (i : Nat) (hi : i < st.length) (hn : is9 st i 0 = false) (hd : D.dead = true) :
    Calls Tryd.prog 21 #[.pointer (some ⟨p, 0, none⟩), .int .i64 i] w fun r w' => r = .returned (.tuple #[.slice none 0 0, .int .i64 20]) ∧ Turn (fun _ => False) w w' := by
  obtain ⟨pa, ga, gr, SD, hP, hD, hap, rfl, hroom⟩ := h
  obtain ⟨i0, hi0, hy1, hy2, hy3⟩ := info_parts Tryd.info5
  have hle := hP.le
  have hkm : D.kept.length ≤ 16384 := hD.1.most
  have HM := Lib.hid (made9 hP)
  have HH := Lib.hid (has9_any hP (i : Int))
  rw [show has9 st (i : Int) = true by unfold has9; simp; omega] at HH
  have H0 := Lib.hid (is9_any hP (i : Int) 0)
  rw [hn] at H0
  rw [show ((0 : Nat) : Int) = 0 from rfl] at H0
  have HSE : Hid (∀ W, Turn (fun _ => False) w W → Calls Tryd.prog 51 #[.pointer (some ⟨p, 0, none⟩), .int .i64 i] W fun r w' => ∃ v, r = .returned v ∧ (v = .int .i64 ((fr + 8 * i : Nat) : Int) ∧ w' = W)) := Lib.hid (fun W hW => (sector9 (hP.still hW) i (by omega) (by omega)).mono fun e w' h => ⟨_, h.1, rfl, h.2⟩)
  obtain ⟨s, hs⟩ : ∃ s, fr + 8 * i = s := ⟨_, rfl⟩
  have hsr : s + 8 ≤ D.kept.length := by omega
  rw [hs] at HSE
  have HDR : Hid (∀ W, Turn (fun _ => False) w W → ∀ z : Int, Calls Tryd.prog 50 #[.pointer (some ⟨pd, 0, none⟩), .int .i64 z] W fun e w' => ∃ v, e = .returned v ∧ (v = .tuple #[.slice none 0 0, .int .i64 20] ∧ W = w')) := Lib.hid (fun W hW z => by
    have := readErr_dq (hD.still hW) z (.inl hd)
    rw [if_pos hd] at this
    exact this.mono fun e w' h => ⟨_, h.1, rfl, h.2⟩)
  have HC0 : Hid (∀ W, Turn (fun _ => False) w W → W.cell? ⟨p, 0, none⟩ = some (.pointer (some ⟨pd, 0, none⟩))) := Lib.hid (fun W hW => (hP.still hW).bx.cell 0)
  clear hP hD hap hroom hn hd hs hi
  go_enter Tryd.func21, Tryd.ntmps21
  go_wp2_with fail
  refine HM.out.mono ?_
  rintro e w1 ⟨rfl, rfl⟩
  go_wp2_with fail
  refine HH.out.mono ?_
  rintro e w1 ⟨rfl, rfl⟩
  go_wp2_with fail
  refine H0.out.mono ?_
  rintro e w1 ⟨rfl, rfl⟩
  go_wp2_with (at_make; refine wpList_make_own _ rfl _ _ 47 rfl w1.heap.size 5 i0 (.int .u8 0) 1 Tryd.underlying47 hi0 hy1 hy2 .i64 .i64 _ 1024 rfl rfl (by omega) (by rw [hy3]; decide) (by unfold maxLen; decide) (Nat.le_refl _) ?_; intro w2 ho2 hg2; have HO2 : Hid (w2.ownsRow w1.heap.size 5 1 (.slice (some ⟨w1.heap.size, 0, none⟩) 0 1024) ([] : List UInt8).length (bv [])) := Lib.hid ho2; have T2 : Hid (Turn (fun _ => False) w1 w2) := Lib.hid ⟨hg2.os, hg2.tape, hg2.output, hg2.size, fun k hk _ => hg2.block k hk (by intro h; cases h)⟩; clear ho2 hg2)
  go_loopw [6, 7, 8, 9, 25] (fun v6 v7 v8 v9 v25 wr => v25 = .int .i64 0 ∧ Turn (fun _ => False) w1 wr) (fun _ _ _ _ v25 _ => 8 - (intOf v25).toNat)
  case atStart => exact ⟨rfl, T2.out⟩
  case round =>
    obtain ⟨rfl, ht⟩ := hrel
    have TT := Lib.hid ht
    clear ht
    have hq2 := wrap_of (s : Int) (by omega) (by omega)
    go_upto_region 11 with fail
    have TD := Lib.hid (TT.out.drew)
    refine wp_region_noPanic ?_
    refine wp_region_held_drew (S := fun X => X.cell? ⟨p, 0, none⟩ = some (.pointer (some ⟨pd, 0, none⟩))) (by kernel_rfl) (HC0.out _ TD.out) (fun hHeld => ?_)
    refine wpAnyH_take (i := 0) (v := ?_) rfl (by kernel_rfl) (by kernel_rfl) (by kernel_rfl) (fun _ _ _ h => h) (Or.inl ⟨by rfl, ?_⟩) (by assumption) ?_
    rotate_left 1
    · intro w' hSw
      go_simp
      all_goals first | with_reducible rfl | (exact rfl) | (exact Eq.refl _) | (rw [if_neg (by omega)]; done) | (rw [if_pos (by omega)]; done) | (rw [if_neg (by omega)]; with_reducible rfl) | (rw [if_pos (by omega)]; with_reducible rfl)
    try simp only [List.getElem_toArray, List.getElem_cons_zero, Act.put, List.setIfInBounds_toArray, List.set_cons_zero, List.set_cons_succ]
    refine wpAnyH_take (i := 1) (v := ?_) rfl (by kernel_rfl) (by kernel_rfl) (by kernel_rfl) (fun _ _ _ h => h) (Or.inl ⟨by rfl, ?_⟩) (by assumption) ?_
    rotate_left 1
    · intro w' hSw
      go_simp
      all_goals first | with_reducible rfl | (exact rfl) | (exact Eq.refl _) | (rw [if_neg (by omega)]; done) | (rw [if_pos (by omega)]; done) | (rw [if_neg (by omega)]; with_reducible rfl) | (rw [if_pos (by omega)]; with_reducible rfl)
    try simp only [List.getElem_toArray, List.getElem_cons_zero, List.getElem_cons_succ, Act.put, List.setIfInBounds_toArray, List.set_cons_zero, List.set_cons_succ]
    refine wpAnyH_take (i := 2) (v := ?_) rfl (by kernel_rfl) (by kernel_rfl) (by kernel_rfl) (fun _ _ _ h => h) (Or.inl ⟨by rfl, ?_⟩) (by assumption) ?_
    rotate_left 1
    · intro w' hSw
      go_simp
      all_goals first | with_reducible rfl | (exact rfl) | (exact Eq.refl _) | (rw [if_neg (by omega)]; done) | (rw [if_pos (by omega)]; done) | (rw [if_neg (by omega)]; with_reducible rfl) | (rw [if_pos (by omega)]; with_reducible rfl)
    try simp only [List.getElem_toArray, List.getElem_cons_zero, List.getElem_cons_succ, Act.put, List.setIfInBounds_toArray, List.set_cons_zero, List.set_cons_succ]
    refine wpAnyH_take (i := 3) (v := ?_) rfl (by kernel_rfl) (by kernel_rfl) (by kernel_rfl) (fun _ _ _ h => h) (Or.inl ⟨by rfl, ?_⟩) (by assumption) ?_
    rotate_left 1
    · intro w' hSw
      obtain p0 := hSw
      go_simp
      all_goals first | with_reducible rfl | (exact rfl) | (exact Eq.refl _) | (rw [if_neg (by omega)]; done) | (rw [if_pos (by omega)]; done) | (rw [if_neg (by omega)]; with_reducible rfl) | (rw [if_pos (by omega)]; with_reducible rfl)
    try simp only [List.getElem_toArray, List.getElem_cons_zero, List.getElem_cons_succ, Act.put, List.setIfInBounds_toArray, List.set_cons_zero, List.set_cons_succ]
    refine wpAnyH_take (i := 4) (v := ?_) rfl (by kernel_rfl) (by kernel_rfl) (by kernel_rfl) (fun _ _ _ h => h) (Or.inl ⟨by rfl, ?_⟩) (by assumption) ?_
    rotate_left 1
    · intro w' hSw
      go_simp
      all_goals first | with_reducible rfl | (exact rfl) | (exact Eq.refl _) | (rw [if_neg (by omega)]; done) | (rw [if_pos (by omega)]; done) | (rw [if_neg (by omega)]; with_reducible rfl) | (rw [if_pos (by omega)]; with_reducible rfl)
    try simp only [List.getElem_toArray, List.getElem_cons_zero, List.getElem_cons_succ, Act.put, List.setIfInBounds_toArray, List.set_cons_zero, List.set_cons_succ]
    refine wpAnyH_take (i := 5) (v := ?_) rfl (by kernel_rfl) (by kernel_rfl) (by kernel_rfl) (fun _ _ _ h => h) (Or.inl ⟨by rfl, ?_⟩) (by assumption) ?_
    rotate_left 1
    · intro w' hSw
      go_simp
      all_goals first | with_reducible rfl | (exact rfl) | (exact Eq.refl _) | (rw [if_neg (by omega)]; done) | (rw [if_pos (by omega)]; done) | (rw [if_neg (by omega)]; with_reducible rfl) | (rw [if_pos (by omega)]; with_reducible rfl)
    try simp only [List.getElem_toArray, List.getElem_cons_zero, List.getElem_cons_succ, Act.put, List.setIfInBounds_toArray, List.set_cons_zero, List.set_cons_succ]
    refine wpAnyH_take (i := 7) (v := ?_) rfl (by kernel_rfl) (by kernel_rfl) (by kernel_rfl) (fun _ _ _ h => h) (Or.inl ⟨by rfl, ?_⟩) (by assumption) ?_
    rotate_left 1
    · intro w' hSw
      go_simp
      all_goals first | with_reducible rfl | (exact rfl) | (exact Eq.refl _) | (rw [if_neg (by omega)]; done) | (rw [if_pos (by omega)]; done) | (rw [if_neg (by omega)]; with_reducible rfl) | (rw [if_pos (by omega)]; with_reducible rfl)
    try simp only [List.getElem_toArray, List.getElem_cons_zero, List.getElem_cons_succ, Act.put, List.setIfInBounds_toArray, List.set_cons_zero, List.set_cons_succ]
    refine wpAnyH_ready (rs := [6]) (by kernel_rfl) (by simp) ?_
    refine AllReadyH.cons rfl (fun K hK => ?_) AllReadyH.nil
    refine step_call rfl 51 Tryd.f51 _ _ rfl Tryd.func51 (by kernel_rfl) (by kernel_rfl) _ _ (HSE.out _ TD.out) (by go_simp) ?_
    rintro u1 w5 ⟨rfl, rfl⟩
    refine hK.out _ _ (HC0.out _ TD.out) (fun hHeld => ?_)
    clear hK K
    try simp only [List.getElem_toArray, List.getElem_cons_zero, List.getElem_cons_succ, Act.put, List.setIfInBounds_toArray, List.set_cons_zero, List.set_cons_succ]
    refine wpAnyH_take (i := 8) (v := ?_) rfl (by kernel_rfl) (by kernel_rfl) (by kernel_rfl) (fun _ _ _ h => h) (Or.inl ⟨by rfl, ?_⟩) (by assumption) ?_
    rotate_left 1
    · intro w' hSw
      go_simp
      all_goals first | with_reducible rfl | (exact rfl) | (exact Eq.refl _) | (rw [if_neg (by omega)]; done) | (rw [if_pos (by omega)]; done) | (rw [if_neg (by omega)]; with_reducible rfl) | (rw [if_pos (by omega)]; with_reducible rfl)
    try simp only [List.getElem_toArray, List.getElem_cons_zero, List.getElem_cons_succ, Act.put, List.setIfInBounds_toArray, List.set_cons_zero, List.set_cons_succ]
    refine wpAnyH_ready (rs := [9]) (by kernel_rfl) (by simp) ?_
    refine AllReadyH.cons rfl (fun K hK => ?_) AllReadyH.nil
    refine step_call rfl 50 Tryd.f50 _ _ rfl Tryd.func50 (by kernel_rfl) (by kernel_rfl) _ _ (HDR.out _ TD.out (s : Int)) (by go_simp) ?_
    rintro u2 w6 ⟨rfl, rfl⟩
    refine hK.out _ _ (HC0.out _ TD.out) (fun hHeld => ?_)
    clear hK K
    try simp only [List.getElem_toArray, List.getElem_cons_zero, List.getElem_cons_succ, Act.put, List.setIfInBounds_toArray, List.set_cons_zero, List.set_cons_succ]
    refine wpAnyH_take (i := 10) (v := ?_) rfl (by kernel_rfl) (by kernel_rfl) (by kernel_rfl) (fun _ _ _ h => h) (Or.inl ⟨by rfl, ?_⟩) (by assumption) ?_
    rotate_left 1
    · intro w' hSw
      go_simp
      all_goals first | with_reducible rfl | (exact rfl) | (exact Eq.refl _) | (rw [if_neg (by omega)]; done) | (rw [if_pos (by omega)]; done) | (rw [if_neg (by omega)]; with_reducible rfl) | (rw [if_pos (by omega)]; with_reducible rfl)
    try simp only [List.getElem_toArray, List.getElem_cons_zero, List.getElem_cons_succ, Act.put, List.setIfInBounds_toArray, List.set_cons_zero, List.set_cons_succ]
    refine wpAnyH_take (i := 11) (v := ?_) rfl (by kernel_rfl) (by kernel_rfl) (by kernel_rfl) (fun _ _ _ h => h) (Or.inl ⟨by rfl, ?_⟩) (by assumption) ?_
    rotate_left 1
    · intro w' hSw
      go_simp
      all_goals first | with_reducible rfl | (exact rfl) | (exact Eq.refl _) | (rw [if_neg (by omega)]; done) | (rw [if_pos (by omega)]; done) | (rw [if_neg (by omega)]; with_reducible rfl) | (rw [if_pos (by omega)]; with_reducible rfl)
    try simp only [List.getElem_toArray, List.getElem_cons_zero, List.getElem_cons_succ, Act.put, List.setIfInBounds_toArray, List.set_cons_zero, List.set_cons_succ]
    refine wpAnyH_take (i := 12) (v := ?_) rfl (by kernel_rfl) (by kernel_rfl) (by kernel_rfl) (fun _ _ _ h => h) (Or.inl ⟨by rfl, ?_⟩) (by assumption) ?_
    rotate_left 1
    · intro w' hSw
      go_simp
      all_goals first | with_reducible rfl | (exact rfl) | (exact Eq.refl _) | (rw [if_neg (by omega)]; done) | (rw [if_pos (by omega)]; done) | (rw [if_neg (by omega)]; with_reducible rfl) | (rw [if_pos (by omega)]; with_reducible rfl)
    try simp only [List.getElem_toArray, List.getElem_cons_zero, List.getElem_cons_succ, Act.put, List.setIfInBounds_toArray, List.set_cons_zero, List.set_cons_succ]
    refine wpAnyH_take (i := 13) (v := ?_) rfl (by kernel_rfl) (by kernel_rfl) (by kernel_rfl) (fun _ _ _ h => h) (Or.inl ⟨by rfl, ?_⟩) (by assumption) ?_
    rotate_left 1
    · intro w' hSw
      go_simp
      all_goals first | with_reducible rfl | (exact rfl) | (exact Eq.refl _) | (rw [if_neg (by omega)]; done) | (rw [if_pos (by omega)]; done) | (rw [if_neg (by omega)]; with_reducible rfl) | (rw [if_pos (by omega)]; with_reducible rfl)
    try simp only [List.getElem_toArray, List.getElem_cons_zero, List.getElem_cons_succ, Act.put, List.setIfInBounds_toArray, List.set_cons_zero, List.set_cons_succ]
    refine wpAnyH_take (i := 14) (v := ?_) rfl (by kernel_rfl) (by kernel_rfl) (by kernel_rfl) (fun _ _ _ h => h) (Or.inl ⟨by rfl, ?_⟩) (by assumption) ?_
    rotate_left 1
    · intro w' hSw
      go_simp
      all_goals first | with_reducible rfl | (exact rfl) | (exact Eq.refl _) | (rw [if_neg (by omega)]; done) | (rw [if_pos (by omega)]; done) | (rw [if_neg (by omega)]; with_reducible rfl) | (rw [if_pos (by omega)]; with_reducible rfl)
    try simp only [List.getElem_toArray, List.getElem_cons_zero, List.getElem_cons_succ, Act.put, List.setIfInBounds_toArray, List.set_cons_zero, List.set_cons_succ]
    refine wpAnyH_done (by kernel_rfl) ?_ _
    refine NoPanic.normal ?_
    go_wp2_with fail
    exact bodyPost_ret (v := .tuple #[.slice none 0 0, .int .i64 20]) (by simp [results, Tryd.results21, go_sem]) rfl ⟨rfl, TD.out⟩
set_option maxHeartbeats 2000000 in
theorem read9_ok {S : Nat → Prop} {w : World} {p pd fr : Nat} {st : List Nat} {D : Dsk} (h : Pq S w p pd fr st D) (i : Nat) (hi : i < st.length) (hn : is9 st i 0 = false) (hd : D.dead = false) :
    Calls Tryd.prog 21 #[.pointer (some ⟨p, 0, none⟩), .int .i64 i] w fun r w' => ∃ v, r = .returned (.tuple #[v, .int .i64 0]) ∧ w'.ownsRow w.heap.size 5 1 v (pgs9 D (fr + 8 * i) 8).length (bv (pgs9 D (fr + 8 * i) 8)) ∧ Turn (fun _ => False) w w' := by
  obtain ⟨pa, ga, gr, SD, hP, hD, hap, rfl, hroom⟩ := h
  obtain ⟨i0, hi0, hy1, hy2, hy3⟩ := info_parts Tryd.info5
  have hle := hP.le
  have hkm : D.kept.length ≤ 16384 := hD.1.most
  have HM := Lib.hid (made9 hP)
  have HH := Lib.hid (has9_any hP (i : Int))
  rw [show has9 st (i : Int) = true by unfold has9; simp; omega] at HH
  have H0 := Lib.hid (is9_any hP (i : Int) 0)
  rw [hn] at H0
  rw [show ((0 : Nat) : Int) = 0 from rfl] at H0
  have HSE : Hid (∀ W, Turn (fun _ => False) w W → Calls Tryd.prog 51 #[.pointer (some ⟨p, 0, none⟩), .int .i64 i] W fun r w' => ∃ v, r = .returned v ∧ (v = .int .i64 ((fr + 8 * i : Nat) : Int) ∧ w' = W)) := Lib.hid (fun W hW => (sector9 (hP.still hW) i (by omega) (by omega)).mono fun e w' h => ⟨_, h.1, rfl, h.2⟩)
  obtain ⟨s, hs⟩ : ∃ s, fr + 8 * i = s := ⟨_, rfl⟩
  have hsr : s + 8 ≤ D.kept.length := by omega
  rw [hs] at HSE ⊢
  have HDR : Hid (∀ W, Turn (fun _ => False) w W → ∀ (z : Int) (k : Nat), z = ((s + k : Nat) : Int) → k < 8 → Calls Tryd.prog 50 #[.pointer (some ⟨pd, 0, none⟩), .int .i64 z] W fun e w' => ∃ v, e = .returned v ∧ (v = .tuple #[.slice (some ⟨W.heap.size, 0, none⟩) 128 128, .int .i64 0] ∧ Blk w' W.heap.size 97 (bv (D.has (s + k))) ∧ Turn (fun _ => False) W w')) := Lib.hid (fun W hW z k hz hk => by
    subst hz
    exact (read_dq (hD.still hW) (s + k) (by omega) hd).mono fun e w' h => ⟨_, h.1, rfl, h.2.1, h.2.2⟩)
  have HLN := Lib.hid (fun k (hk : k ≤ 8) => len_pgs9 hD.1 s k (by omega))
  have HHL := Lib.hid (fun k (hk : k < 8) => hD.1.has_len (show s + k < D.kept.length by omega))
  have HC0 : Hid (∀ W, Turn (fun _ => False) w W → W.cell? ⟨p, 0, none⟩ = some (.pointer (some ⟨pd, 0, none⟩))) := Lib.hid (fun W hW => (hP.still hW).bx.cell 0)
  clear hP hD hap hroom hn hd hs hi
  go_enter Tryd.func21, Tryd.ntmps21
  go_wp2_with fail
  refine HM.out.mono ?_
  rintro e w1 ⟨rfl, rfl⟩
  go_wp2_with fail
  refine HH.out.mono ?_
  rintro e w1 ⟨rfl, rfl⟩
  go_wp2_with fail
  refine H0.out.mono ?_
  rintro e w1 ⟨rfl, rfl⟩
  go_wp2_with (at_make; refine wpList_make_own _ rfl _ _ 47 rfl w1.heap.size 5 i0 (.int .u8 0) 1 Tryd.underlying47 hi0 hy1 hy2 .i64 .i64 _ 1024 rfl rfl (by omega) (by rw [hy3]; decide) (by unfold maxLen; decide) (Nat.le_refl _) ?_; intro w2 ho2 hg2; have HO2 : Hid (w2.ownsRow w1.heap.size 5 1 (.slice (some ⟨w1.heap.size, 0, none⟩) 0 1024) ([] : List UInt8).length (bv [])) := Lib.hid ho2; have T2 : Hid (Turn (fun _ => False) w1 w2) := Lib.hid ⟨hg2.os, hg2.tape, hg2.output, hg2.size, fun k hk _ => hg2.block k hk (by intro h; cases h)⟩; clear ho2 hg2)
  go_loopw [6, 7, 8, 9, 25] (fun v6 v7 v8 v9 v25 wr => ∃ k : Nat, k ≤ 8 ∧ v25 = .int .i64 k ∧ wr.ownsRow w1.heap.size 5 1 v6 (pgs9 D s k).length (bv (pgs9 D s k)) ∧ Turn (fun _ => False) w1 wr) (fun _ _ _ _ v25 _ => 8 - (intOf v25).toNat)
  case atStart => exact ⟨0, Nat.zero_le _, rfl, HO2.out, T2.out⟩
  case round =>
    obtain ⟨k, hk, rfl, ho, ht⟩ := hrel
    obtain ⟨A, c, rfl⟩ := own_slice9 ho
    have HO := Lib.hid ho
    have TT := Lib.hid ht
    clear ho ht
    by_cases hlt : k < 8
    · have hl1 : (k : Int) < 8 := by omega
      have hq := wrap_of ((k : Int) + 1) (by omega) (by omega)
      have hq2 := wrap_of ((s : Int) + (k : Int)) (by omega) (by omega)
      have hlk := HLN.out k hk
      have hzk : Hid ((s : Int) + (k : Int) = ((s + k : Nat) : Int)) := Lib.hid (by omega)
      obtain ⟨n, hln⟩ : ∃ n, (pgs9 D s k).length = n := ⟨_, rfl⟩
      have HLK := Lib.hid hln
      rw [hln] at hlk ⊢
      clear hln
      go_upto_region 11 with fail
      have TD := Lib.hid (TT.out.drew)
      refine wp_region_noPanic ?_
      refine wp_region_held_drew (S := fun X => X.cell? ⟨p, 0, none⟩ = some (.pointer (some ⟨pd, 0, none⟩))) (by kernel_rfl) (HC0.out _ TD.out) (fun hHeld => ?_)
      refine wpAnyH_take (i := 0) (v := ?_) rfl (by kernel_rfl) (by kernel_rfl) (by kernel_rfl) (fun _ _ _ h => h) (Or.inl ⟨by rfl, ?_⟩) (by assumption) ?_
      rotate_left 1
      · intro w' hSw
        go_simp
        all_goals first | with_reducible rfl | (rw [if_neg (by omega)]; done) | (rw [if_pos (by omega)]; done) | (rw [if_neg (by omega)]; with_reducible rfl) | (rw [if_pos (by omega)]; with_reducible rfl)
      try simp only [List.getElem_toArray, List.getElem_cons_zero, Act.put, List.setIfInBounds_toArray, List.set_cons_zero, List.set_cons_succ]
      refine wpAnyH_take (i := 1) (v := ?_) rfl (by kernel_rfl) (by kernel_rfl) (by kernel_rfl) (fun _ _ _ h => h) (Or.inl ⟨by rfl, ?_⟩) (by assumption) ?_
      rotate_left 1
      · intro w' hSw
        go_simp
        all_goals first | with_reducible rfl | (rw [if_neg (by omega)]; done) | (rw [if_pos (by omega)]; done) | (rw [if_neg (by omega)]; with_reducible rfl) | (rw [if_pos (by omega)]; with_reducible rfl)
      try simp only [List.getElem_toArray, List.getElem_cons_zero, List.getElem_cons_succ, Act.put, List.setIfInBounds_toArray, List.set_cons_zero, List.set_cons_succ]
      refine wpAnyH_take (i := 2) (v := ?_) rfl (by kernel_rfl) (by kernel_rfl) (by kernel_rfl) (fun _ _ _ h => h) (Or.inl ⟨by rfl, ?_⟩) (by assumption) ?_
      rotate_left 1
      · intro w' hSw
        go_simp
        all_goals first | with_reducible rfl | (rw [if_neg (by omega)]; done) | (rw [if_pos (by omega)]; done) | (rw [if_neg (by omega)]; with_reducible rfl) | (rw [if_pos (by omega)]; with_reducible rfl)
      try simp only [List.getElem_toArray, List.getElem_cons_zero, List.getElem_cons_succ, Act.put, List.setIfInBounds_toArray, List.set_cons_zero, List.set_cons_succ]
      refine wpAnyH_take (i := 3) (v := ?_) rfl (by kernel_rfl) (by kernel_rfl) (by kernel_rfl) (fun _ _ _ h => h) (Or.inl ⟨by rfl, ?_⟩) (by assumption) ?_
      rotate_left 1
      · intro w' hSw
        obtain p0 := hSw
        go_simp
        all_goals first | with_reducible rfl | (rw [if_neg (by omega)]; done) | (rw [if_pos (by omega)]; done) | (rw [if_neg (by omega)]; with_reducible rfl) | (rw [if_pos (by omega)]; with_reducible rfl)
      try simp only [List.getElem_toArray, List.getElem_cons_zero, List.getElem_cons_succ, Act.put, List.setIfInBounds_toArray, List.set_cons_zero, List.set_cons_succ]
      refine wpAnyH_take (i := 4) (v := ?_) rfl (by kernel_rfl) (by kernel_rfl) (by kernel_rfl) (fun _ _ _ h => h) (Or.inl ⟨by rfl, ?_⟩) (by assumption) ?_
      rotate_left 1
      · intro w' hSw
        go_simp
        all_goals first | with_reducible rfl | (rw [if_neg (by omega)]; done) | (rw [if_pos (by omega)]; done) | (rw [if_neg (by omega)]; with_reducible rfl) | (rw [if_pos (by omega)]; with_reducible rfl)
      try simp only [List.getElem_toArray, List.getElem_cons_zero, List.getElem_cons_succ, Act.put, List.setIfInBounds_toArray, List.set_cons_zero, List.set_cons_succ]
      refine wpAnyH_take (i := 5) (v := ?_) rfl (by kernel_rfl) (by kernel_rfl) (by kernel_rfl) (fun _ _ _ h => h) (Or.inl ⟨by rfl, ?_⟩) (by assumption) ?_
      rotate_left 1
      · intro w' hSw
        go_simp
        all_goals first | with_reducible rfl | (rw [if_neg (by omega)]; done) | (rw [if_pos (by omega)]; done) | (rw [if_neg (by omega)]; with_reducible rfl) | (rw [if_pos (by omega)]; with_reducible rfl)
      try simp only [List.getElem_toArray, List.getElem_cons_zero, List.getElem_cons_succ, Act.put, List.setIfInBounds_toArray, List.set_cons_zero, List.set_cons_succ]
      refine wpAnyH_take (i := 7) (v := ?_) rfl (by kernel_rfl) (by kernel_rfl) (by kernel_rfl) (fun _ _ _ h => h) (Or.inl ⟨by rfl, ?_⟩) (by assumption) ?_
      rotate_left 1
      · intro w' hSw
        go_simp
        all_goals first | with_reducible rfl | (rw [if_neg (by omega)]; done) | (rw [if_pos (by omega)]; done) | (rw [if_neg (by omega)]; with_reducible rfl) | (rw [if_pos (by omega)]; with_reducible rfl)
      try simp only [List.getElem_toArray, List.getElem_cons_zero, List.getElem_cons_succ, Act.put, List.setIfInBounds_toArray, List.set_cons_zero, List.set_cons_succ]
      refine wpAnyH_ready (rs := [6]) (by kernel_rfl) (by simp) ?_
      refine AllReadyH.cons rfl (fun K hK => ?_) AllReadyH.nil
      refine step_call rfl 51 Tryd.f51 _ _ rfl Tryd.func51 (by kernel_rfl) (by kernel_rfl) _ _ (HSE.out _ TD.out) (by go_simp) ?_
      rintro u1 w5 ⟨rfl, rfl⟩
      refine hK.out _ _ (HC0.out _ TD.out) (fun hHeld => ?_)
      clear hK K
      try simp only [List.getElem_toArray, List.getElem_cons_zero, List.getElem_cons_succ, Act.put, List.setIfInBounds_toArray, List.set_cons_zero, List.set_cons_succ]
      refine wpAnyH_take (i := 8) (v := ?_) rfl (by kernel_rfl) (by kernel_rfl) (by kernel_rfl) (fun _ _ _ h => h) (Or.inl ⟨by rfl, ?_⟩) (by assumption) ?_
      rotate_left 1
      · intro w' hSw
        go_simp
        all_goals first | with_reducible rfl | (rw [if_neg (by omega)]; done) | (rw [if_pos (by omega)]; done) | (rw [if_neg (by omega)]; with_reducible rfl) | (rw [if_pos (by omega)]; with_reducible rfl)
      try simp only [List.getElem_toArray, List.getElem_cons_zero, List.getElem_cons_succ, Act.put, List.setIfInBounds_toArray, List.set_cons_zero, List.set_cons_succ]
      refine wpAnyH_ready (rs := [9]) (by kernel_rfl) (by simp) ?_
      refine AllReadyH.cons rfl (fun K hK => ?_) AllReadyH.nil
      refine step_call rfl 50 Tryd.f50 _ _ rfl Tryd.func50 (by kernel_rfl) (by kernel_rfl) _ _ (HDR.out _ TD.out _ k hzk.out hlt) (by go_simp) ?_
      rintro u2 w6 ⟨rfl, hb6, ht6⟩
      have B6 := Lib.hid hb6
      have T6 := Lib.hid (TD.out.trans ht6)
      have O6 := Lib.hid (own_far9 HO.out (((Turn.refl (fun _ => False) wr).drew).trans ht6) (fun _ _ h => h))
      refine hK.out _ _ (HC0.out _ T6.out) (fun hHeld => ?_)
      clear hb6 ht6
      clear hK K
      try simp only [List.getElem_toArray, List.getElem_cons_zero, List.getElem_cons_succ, Act.put, List.setIfInBounds_toArray, List.set_cons_zero, List.set_cons_succ]
      refine wpAnyH_take (i := 10) (v := ?_) rfl (by kernel_rfl) (by kernel_rfl) (by kernel_rfl) (fun _ _ _ h => h) (Or.inl ⟨by rfl, ?_⟩) (by assumption) ?_
      rotate_left 1
      · intro w' hSw
        go_simp
        all_goals first | with_reducible rfl | (rw [if_neg (by omega)]; done) | (rw [if_pos (by omega)]; done) | (rw [if_neg (by omega)]; with_reducible rfl) | (rw [if_pos (by omega)]; with_reducible rfl)
      try simp only [List.getElem_toArray, List.getElem_cons_zero, List.getElem_cons_succ, Act.put, List.setIfInBounds_toArray, List.set_cons_zero, List.set_cons_succ]
      refine wpAnyH_take (i := 11) (v := ?_) rfl (by kernel_rfl) (by kernel_rfl) (by kernel_rfl) (fun _ _ _ h => h) (Or.inl ⟨by rfl, ?_⟩) (by assumption) ?_
      rotate_left 1
      · intro w' hSw
        go_simp
        all_goals first | with_reducible rfl | (rw [if_neg (by omega)]; done) | (rw [if_pos (by omega)]; done) | (rw [if_neg (by omega)]; with_reducible rfl) | (rw [if_pos (by omega)]; with_reducible rfl)
      try simp only [List.getElem_toArray, List.getElem_cons_zero, List.getElem_cons_succ, Act.put, List.setIfInBounds_toArray, List.set_cons_zero, List.set_cons_succ]
      refine wpAnyH_take (i := 12) (v := ?_) rfl (by kernel_rfl) (by kernel_rfl) (by kernel_rfl) (fun _ _ _ h => h) (Or.inl ⟨by rfl, ?_⟩) (by assumption) ?_
      rotate_left 1
      · intro w' hSw
        go_simp
        all_goals first | with_reducible rfl | (rw [if_neg (by omega)]; done) | (rw [if_pos (by omega)]; done) | (rw [if_neg (by omega)]; with_reducible rfl) | (rw [if_pos (by omega)]; with_reducible rfl)
      try simp only [List.getElem_toArray, List.getElem_cons_zero, List.getElem_cons_succ, Act.put, List.setIfInBounds_toArray, List.set_cons_zero, List.set_cons_succ]
      refine wpAnyH_take (i := 13) (v := ?_) rfl (by kernel_rfl) (by kernel_rfl) (by kernel_rfl) (fun _ _ _ h => h) (Or.inl ⟨by rfl, ?_⟩) (by assumption) ?_
      rotate_left 1
      · intro w' hSw
        go_simp
        all_goals first | with_reducible rfl | (rw [if_neg (by omega)]; done) | (rw [if_pos (by omega)]; done) | (rw [if_neg (by omega)]; with_reducible rfl) | (rw [if_pos (by omega)]; with_reducible rfl)
      try simp only [List.getElem_toArray, List.getElem_cons_zero, List.getElem_cons_succ, Act.put, List.setIfInBounds_toArray, List.set_cons_zero, List.set_cons_succ]
      refine wpAnyH_take (i := 14) (v := ?_) rfl (by kernel_rfl) (by kernel_rfl) (by kernel_rfl) (fun _ _ _ h => h) (Or.inl ⟨by rfl, ?_⟩) (by assumption) ?_
      rotate_left 1
      · intro w' hSw
        go_simp
        all_goals first | with_reducible rfl | (rw [if_neg (by omega)]; done) | (rw [if_pos (by omega)]; done) | (rw [if_neg (by omega)]; with_reducible rfl) | (rw [if_pos (by omega)]; with_reducible rfl)
      try simp only [List.getElem_toArray, List.getElem_cons_zero, List.getElem_cons_succ, Act.put, List.setIfInBounds_toArray, List.set_cons_zero, List.set_cons_succ]
      refine wpAnyH_done (by kernel_rfl) ?_ _
      refine NoPanic.normal ?_
      have S6 := Lib.hid (sl_blk9 B6.out (HHL.out k hlt) (by unfold maxLen; decide))
      have hk1 : k + 1 ≤ 8 := hlt
      have hln6 := HLN.out (k + 1) hk1
      have HP1 : Hid (pgs9 D s (k + 1) = pgs9 D s k ++ D.has (s + k)) := Lib.hid rfl
      have hb1 : (pgs9 D s k).length + (D.has (s + k)).length ≤ 140737488355328 := by rw [HLK.out, HHL.out k hlt]; omega
      go_wp2_with (at_builtin; refine wpList_app_bytes _ rfl _ _ 47 rfl w1.heap.size w6.heap.size 5 i0 Tryd.underlying47 hi0 hy1 hy2 hy3 (.slice A n c) (.slice (some ⟨wr.drew.heap.size, 0, none⟩) 128 128) (pgs9 D s k) (D.has (s + k)) rfl rfl (by have := O6.out; rw [HLK.out] at this ⊢; exact this) S6.out hb1 T6.out.size ?_; intro v7 w7 ho7 hg7; have O7 := Lib.hid ho7; have T7 := Lib.hid (T6.out.trans_new (grown_turn9 (B := w1.heap.size) hg7 (fun q hq => by have h8 := O6.out; rw [HLK.out] at h8; exact (own_blk9 h8 q hq).1)) (fun q hq h => by omega)); clear ho7 hg7)
      go_roundw
      case rel => exact ⟨k + 1, hk1, by simp [hq], by rw [HP1.out]; exact O7.out, T7.out⟩
      case measure => simp [intOf, hq]; omega
    · obtain rfl : k = 8 := by omega
      go_wp2_with fail
      exact bodyPost_ret (v := .tuple #[.slice A (pgs9 D s 8).length c, .int .i64 0]) (by simp [results, Tryd.results21, go_sem]) rfl ⟨_, rfl, HO.out, TT.out⟩
end Go.Proofs.YtmedljnbcpdoeaaDoor
