/- Layer 15: the document's put. -/
import Derived.Test.YtaebhbdmmnpgeaaBtP
namespace Go.Proofs.Ytaebhbdmmnpgeaa
open Go.RowKit Go.Shelf
set_option linter.unusedVariables false
set_option linter.unusedSimpArgs false
set_option maxRecDepth 100000
attribute [local go_sem] Oper.semAt_some

theorem fieldP15 (n : Int) (k : Nat) (hk : k ≤ 8) (P : ByteArray) (hP : (⟨(fld k n).toArray⟩ : ByteArray) = P) (x : Int) (hx : x = k) (w : World) :
    Calls Try.prog 63 #[.int .i64 n, .int .i64 x] w fun e w' => ∃ v, e = .returned v ∧ v = .string P ∧ Turn (fun _ => False) w w' := by
  subst hP
  exact field15 n k hk x hx w
theorem fsz15 (n : Int) (k : Nat) (hk : k ≤ 8) (P : ByteArray) (hP : (⟨(fld k n).toArray⟩ : ByteArray) = P) : P.size ≤ 8 := by
  rw [← hP]
  exact Nat.le_trans (Nat.le_of_eq (List.size_toArray.trans (len_fld _ _))) hk
set_option maxHeartbeats 8000000 in
theorem refPut_15 (t : Int) (C : List Cg) (vl : Value) (w : World) (h : Cx w vl C) (hcl : C.length ≤ 64) (hk : ∀ x ∈ C, x.k.size ≤ 128 ∧ x.v.size ≤ 200) :
    Calls Try.prog 52 #[.agg #[.int .i64 t, vl]] w fun e w' => e = .returned (.string ⟨(rec15 t C).toArray⟩) ∧ Turn (fun _ => False) w w' := by
  obtain ⟨AC, cC, rfl, hl, hr⟩ := h
  obtain ⟨n, hn⟩ : ∃ n, C.length = n := ⟨_, rfl⟩
  have HN := Lib.hid hn
  have HR := Lib.hid hr
  have HK := Lib.hid hk
  rw [hn] at hl hcl ⊢
  obtain ⟨hd, hhd⟩ : ∃ l, (fld 1 66 ++ fld 8 t) ++ fld 1 (n : Int) = l := ⟨_, rfl⟩
  have HHL : Hid (hd.length = 10) := Lib.hid (by rw [← hhd]; simp [len_fld])
  have HREC : Hid (rec15 t C = hd ++ C.flatMap chB) := Lib.hid (by unfold rec15; rw [hn, hhd])
  obtain ⟨Z, hZ⟩ : ∃ Z, (⟨(rec15 t C).toArray⟩ : ByteArray) = Z := ⟨_, rfl⟩
  have HZ := Lib.hid hZ
  rw [hZ]
  obtain ⟨P8, hP8⟩ : ∃ P, (⟨(fld 8 t).toArray⟩ : ByteArray) = P := ⟨_, rfl⟩
  obtain ⟨PN, hPN⟩ : ∃ P, (⟨(fld 1 (n : Int)).toArray⟩ : ByteArray) = P := ⟨_, rfl⟩
  have HF8 := Lib.hid (fun W => fieldP15 t 8 (by decide) P8 hP8 8 rfl W)
  have HFN := Lib.hid (fun W => fieldP15 (n : Int) 1 (by decide) PN hPN 1 rfl W)
  have s8 := fsz15 t 8 (by decide) P8 hP8
  have sN := fsz15 (n : Int) 1 (by decide) PN hPN
  have HS0 : Hid ((⟨#[66]⟩ : ByteArray) ++ P8 ++ PN = ⟨hd.toArray⟩) := Lib.hid (by
    subst hP8 hPN hhd
    have e : fld 1 66 = [66] := by decide +kernel
    rw [e]
    apply ByteArray.ext
    apply Array.ext'
    simp)
  clear hn hr hZ hk hP8 hPN hhd
  obtain ⟨W1, hW1⟩ : ∃ W, w.alloc (.cells #[.int .i64 t, .slice AC n cC] 24) = W := ⟨_, rfl⟩
  have TW : Hid (Turn (fun _ => False) w W1) := Lib.hid (hW1 ▸ (Turn.refl _ _).alloc _)
  have BX : Hid (Blk W1 w.heap.size 24 [.int .i64 t, .slice AC n cC]) := Lib.hid (hW1 ▸ Blk.new _ _ _)
  go_enter Try.func52, Try.ntmps52
  go_upto_region 1 with fail
  clear hW1
  have T0 : Hid (Turn (fun _ => False) W1 W1.drew) := Lib.hid (Turn.refl _ _).drew
  refine wp_region_noPanic ?_
  refine wp_region_held_drew (S := (fun X => Turn (fun _ => False) W1 X)) (by kernel_rfl) T0.out (fun hHeld => ?_)
  clear hHeld
  refine wpAnyH_take (i := 0) (v := ?_) rfl (by kernel_rfl) (by kernel_rfl) (by kernel_rfl) (fun _ _ _ h => h) (Or.inl ⟨by rfl, ?_⟩) (by assumption) ?_
  rotate_left 1
  · intro w' hSw
    go_simp
    all_goals first | with_reducible rfl | (rw [if_neg (by omega)]; done) | (rw [if_pos (by omega)]; done) | (rw [if_neg (by omega)]; with_reducible rfl) | (rw [if_pos (by omega)]; with_reducible rfl)
  try simp only [List.getElem_toArray, List.getElem_cons_zero, List.getElem_cons_succ, Act.put, List.setIfInBounds_toArray, List.set_cons_zero, List.set_cons_succ]
  refine wpAnyH_take (i := 1) (v := ?_) rfl (by kernel_rfl) (by kernel_rfl) (by kernel_rfl) (fun _ _ _ h => h) (Or.inl ⟨by rfl, ?_⟩) (by assumption) ?_
  rotate_left 1
  · intro w' hSw
    obtain ⟨y0, y1⟩ := cells2b (BX.out.turn hSw (fun h => h))
    go_simp
    all_goals first | with_reducible rfl | (rw [if_neg (by omega)]; done) | (rw [if_pos (by omega)]; done) | (rw [if_neg (by omega)]; with_reducible rfl) | (rw [if_pos (by omega)]; with_reducible rfl)
  try simp only [List.getElem_toArray, List.getElem_cons_zero, List.getElem_cons_succ, Act.put, List.setIfInBounds_toArray, List.set_cons_zero, List.set_cons_succ]
  refine wpAnyH_take (i := 4) (v := ?_) rfl (by kernel_rfl) (by kernel_rfl) (by kernel_rfl) (fun _ _ _ h => h) (Or.inl ⟨by rfl, ?_⟩) (by assumption) ?_
  rotate_left 1
  · intro w' hSw
    go_simp
    all_goals first | with_reducible rfl | (rw [if_neg (by omega)]; done) | (rw [if_pos (by omega)]; done) | (rw [if_neg (by omega)]; with_reducible rfl) | (rw [if_pos (by omega)]; with_reducible rfl)
  try simp only [List.getElem_toArray, List.getElem_cons_zero, List.getElem_cons_succ, Act.put, List.setIfInBounds_toArray, List.set_cons_zero, List.set_cons_succ]
  refine wpAnyH_take (i := 5) (v := ?_) rfl (by kernel_rfl) (by kernel_rfl) (by kernel_rfl) (fun _ _ _ h => h) (Or.inl ⟨by rfl, ?_⟩) (by assumption) ?_
  rotate_left 1
  · intro w' hSw
    obtain ⟨y0, y1⟩ := cells2b (BX.out.turn hSw (fun h => h))
    go_simp
    all_goals first | with_reducible rfl | (rw [if_neg (by omega)]; done) | (rw [if_pos (by omega)]; done) | (rw [if_neg (by omega)]; with_reducible rfl) | (rw [if_pos (by omega)]; with_reducible rfl)
  try simp only [List.getElem_toArray, List.getElem_cons_zero, List.getElem_cons_succ, Act.put, List.setIfInBounds_toArray, List.set_cons_zero, List.set_cons_succ]
  refine wpAnyH_take (i := 6) (v := ?_) rfl (by kernel_rfl) (by kernel_rfl) (by kernel_rfl) (fun _ _ _ h => h) (Or.inl ⟨by rfl, ?_⟩) (by assumption) ?_
  rotate_left 1
  · intro w' hSw
    go_simp
    all_goals first | with_reducible rfl | (rw [if_neg (by omega)]; done) | (rw [if_pos (by omega)]; done) | (rw [if_neg (by omega)]; with_reducible rfl) | (rw [if_pos (by omega)]; with_reducible rfl)
  try simp only [List.getElem_toArray, List.getElem_cons_zero, List.getElem_cons_succ, Act.put, List.setIfInBounds_toArray, List.set_cons_zero, List.set_cons_succ]
  refine wpAnyH_ready (rs := [2]) (by kernel_rfl) (by simp) ?_
  refine AllReadyH.cons rfl (fun K hK => ?_) AllReadyH.nil
  refine step_call rfl 63 Try.f63 _ _ rfl Try.func63 (by kernel_rfl) (by kernel_rfl) _ _ (HF8.out _) (by go_simp) ?_
  rintro v9 w2 ⟨rfl, ht9⟩
  have T2 := Lib.hid (T0.out.trans ht9)
  clear ht9
  refine hK.out _ _ T2.out (fun hHeld => ?_)
  clear hHeld hK K
  try simp only [List.getElem_toArray, List.getElem_cons_zero, List.getElem_cons_succ, Act.put, List.setIfInBounds_toArray, List.set_cons_zero, List.set_cons_succ]
  refine wpAnyH_take (i := 3) (v := ?_) rfl (by kernel_rfl) (by kernel_rfl) (by kernel_rfl) (fun _ _ _ h => h) (Or.inl ⟨by rfl, ?_⟩) (by assumption) ?_
  rotate_left 1
  · intro w' hSw
    go_simp
    all_goals first | with_reducible rfl | (rw [if_neg (by omega)]; done) | (rw [if_pos (by omega)]; done) | (rw [if_neg (by omega)]; with_reducible rfl) | (rw [if_pos (by omega)]; with_reducible rfl)
  try simp only [List.getElem_toArray, List.getElem_cons_zero, List.getElem_cons_succ, Act.put, List.setIfInBounds_toArray, List.set_cons_zero, List.set_cons_succ]
  refine wpAnyH_ready (rs := [7]) (by kernel_rfl) (by simp) ?_
  refine AllReadyH.cons rfl (fun K hK => ?_) AllReadyH.nil
  refine step_call rfl 63 Try.f63 _ _ rfl Try.func63 (by kernel_rfl) (by kernel_rfl) _ _ (HFN.out _) (by go_simp) ?_
  rintro v9 w3 ⟨rfl, ht9⟩
  have T3 := Lib.hid (T2.out.trans ht9)
  clear ht9
  refine hK.out _ _ T3.out (fun hHeld => ?_)
  clear hHeld hK K
  try simp only [List.getElem_toArray, List.getElem_cons_zero, List.getElem_cons_succ, Act.put, List.setIfInBounds_toArray, List.set_cons_zero, List.set_cons_succ]
  refine wpAnyH_take (i := 8) (v := ?_) rfl (by kernel_rfl) (by kernel_rfl) (by kernel_rfl) (fun _ _ _ h => h) (Or.inl ⟨by rfl, ?_⟩) (by assumption) ?_
  rotate_left 1
  · intro w' hSw
    go_simp
    all_goals first | with_reducible rfl | (rw [if_neg (by omega)]; done) | (rw [if_pos (by omega)]; done) | (rw [if_neg (by omega)]; with_reducible rfl) | (rw [if_pos (by omega)]; with_reducible rfl)
  try simp only [List.getElem_toArray, List.getElem_cons_zero, List.getElem_cons_succ, Act.put, List.setIfInBounds_toArray, List.set_cons_zero, List.set_cons_succ]
  refine wpAnyH_take (i := 9) (v := ?_) rfl (by kernel_rfl) (by kernel_rfl) (by kernel_rfl) (fun _ _ _ h => h) (Or.inl ⟨by rfl, ?_⟩) (by assumption) ?_
  rotate_left 1
  · intro w' hSw
    go_simp
    all_goals first | with_reducible rfl | (rw [if_neg (by omega)]; done) | (rw [if_pos (by omega)]; done) | (rw [if_neg (by omega)]; with_reducible rfl) | (rw [if_pos (by omega)]; with_reducible rfl)
  try simp only [List.getElem_toArray, List.getElem_cons_zero, List.getElem_cons_succ, Act.put, List.setIfInBounds_toArray, List.set_cons_zero, List.set_cons_succ]
  refine wpAnyH_done (by kernel_rfl) ?_ _
  refine NoPanic.normal ?_
  go_wp2_with fail
  go_loopw [3, 4, 5, 6] (fun v3 v4 _ _ wr => ∃ (j : Nat) (Q : ByteArray), j ≤ n ∧ v4 = .int .i64 j ∧ v3 = .string Q ∧ Hid (Q = ⟨(hd ++ (C.take j).flatMap chB).toArray⟩) ∧ Turn (fun _ => False) W1 wr) (fun _ v4 _ _ _ => n - (intOf v4).toNat)
  case atStart => exact ⟨0, _, Nat.zero_le _, rfl, rfl, Lib.hid (by rw [HS0.out]; simp), T3.out⟩
  case round =>
    clear T0 T2 T3
    obtain ⟨j, Q, hj, rfl, rfl, HQ, ht⟩ := hrel
    obtain ⟨wx, rfl⟩ : ∃ W, W = wr := ⟨_, rfl⟩
    have TT := Lib.hid ht
    obtain ⟨x0, x1⟩ := cells2b (BX.out.turn ht (fun h => h))
    by_cases hlt : j < n
    · have hl1 : (j : Int) < (n : Int) := by omega
      have hl0 : (0 : Int) ≤ (j : Int) := by omega
      have hq := wrap_of ((j : Int) + 1) (by omega) (by omega)
      obtain ⟨x, hx⟩ : ∃ x, C[j]? = some x := ⟨_, List.getElem?_eq_getElem (by rw [HN.out]; exact hlt)⟩
      obtain ⟨k1, k2⟩ := HK.out x (List.mem_of_getElem? hx)
      have hQs : Q.size ≤ 30000 := by
        rw [HQ.out]
        refine Nat.le_trans (Nat.le_of_eq List.size_toArray) ?_
        rw [List.length_append, HHL.out]
        have := len_flatB (C := C.take j) (fun y hy => HK.out y (List.mem_of_mem_take hy))
        have : (C.take j).length ≤ n := by rw [List.length_take, HN.out]; omega
        omega
      have HNX0 : Hid (∀ PD PK PV : ByteArray, (⟨(fld 1 (if x.d then 1 else 0)).toArray⟩ : ByteArray) = PD → (⟨(fld 1 (x.k.size : Int)).toArray⟩ : ByteArray) = PK → (⟨(fld 1 (x.v.size : Int)).toArray⟩ : ByteArray) = PV → Q ++ PD ++ PK ++ x.k ++ PV ++ x.v = ⟨(hd ++ (C.take (j + 1)).flatMap chB).toArray⟩) := Lib.hid (fun PD PK PV h1 h2 h3 => by
        rw [← h1, ← h2, ← h3, HQ.out, take_next hx, List.flatMap_append]
        apply ByteArray.ext
        apply Array.ext'
        simp [chB, sh15])
      obtain ⟨b, o, rfl, hb1, hc1⟩ := HR.out.chg (by rw [HN.out]; omega)
      obtain ⟨c0, c1, c2⟩ := hc1 wx (TW.out.trans ht) j x hx
      obtain ⟨xk, xv, xd⟩ := x
      simp only at c0 c1 c2 k1 k2 HNX0
      obtain ⟨W2, hW2⟩ : ∃ W, wx.alloc (.cells #[.string xk, .string xv, .bool xd] 92) = W := ⟨_, rfl⟩
      have TT2 : Hid (Turn (fun _ => False) W1 W2) := Lib.hid (hW2 ▸ ht.alloc _)
      have IB : Hid (Blk W2 wx.heap.size 92 [.string xk, .string xv, .bool xd]) := Lib.hid (hW2 ▸ Blk.new _ _ _)
      obtain ⟨e0, e1, e2, _, _, _⟩ := cells3 IB.out
      obtain ⟨PK, hPK⟩ : ∃ P, (⟨(fld 1 (xk.size : Int)).toArray⟩ : ByteArray) = P := ⟨_, rfl⟩
      obtain ⟨PV, hPV⟩ : ∃ P, (⟨(fld 1 (xv.size : Int)).toArray⟩ : ByteArray) = P := ⟨_, rfl⟩
      have HFK := Lib.hid (fun W => fieldP15 (xk.size : Int) 1 (by decide) PK hPK 1 rfl W)
      have HFV := Lib.hid (fun W => fieldP15 (xv.size : Int) 1 (by decide) PV hPV 1 rfl W)
      have sK := fsz15 (xk.size : Int) 1 (by decide) PK hPK
      have sV := fsz15 (xv.size : Int) 1 (by decide) PV hPV
      have HNX1 := Lib.hid (fun PD h => HNX0.out PD PK PV h hPK hPV)
      clear hx hb1 hc1 ht HNX0 hPK hPV
      go_upto_region 6 with fail
      clear hW2 x0 x1 c0 c1 c2
      cases xd with
      | true =>
        obtain ⟨PD, hPD⟩ : ∃ P, (⟨(fld 1 (1 : Int)).toArray⟩ : ByteArray) = P := ⟨_, rfl⟩
        have HFD := Lib.hid (fun W => fieldP15 (1 : Int) 1 (by decide) PD hPD 1 rfl W)
        have sD := fsz15 (1 : Int) 1 (by decide) PD hPD
        have HNX := Lib.hid (HNX1.out PD (by simpa using hPD))
        clear hPD HNX1
        go_wp2_with fail
        have T0 : Hid (Turn (fun _ => False) W2 W2.drew) := Lib.hid (Turn.refl _ _).drew
        refine wp_region_noPanic ?_
        refine wp_region_held_drew (S := (fun X => Turn (fun _ => False) W2 X)) (by kernel_rfl) T0.out (fun hHeld => ?_)
        clear hHeld
        refine wpAnyH_take (i := 0) (v := ?_) rfl (by kernel_rfl) (by kernel_rfl) (by kernel_rfl) (fun _ _ _ h => h) (Or.inl ⟨by rfl, ?_⟩) (by assumption) ?_
        rotate_left 1
        · intro w' hSw
          go_simp
          all_goals first | with_reducible rfl | (rw [if_neg (by omega)]; done) | (rw [if_pos (by omega)]; done) | (rw [if_neg (by omega)]; with_reducible rfl) | (rw [if_pos (by omega)]; with_reducible rfl)
        try simp only [List.getElem_toArray, List.getElem_cons_zero, List.getElem_cons_succ, Act.put, List.setIfInBounds_toArray, List.set_cons_zero, List.set_cons_succ]
        refine wpAnyH_take (i := 1) (v := ?_) rfl (by kernel_rfl) (by kernel_rfl) (by kernel_rfl) (fun _ _ _ h => h) (Or.inl ⟨by rfl, ?_⟩) (by assumption) ?_
        rotate_left 1
        · intro w' hSw
          go_simp
          all_goals first | with_reducible rfl | (rw [if_neg (by omega)]; done) | (rw [if_pos (by omega)]; done) | (rw [if_neg (by omega)]; with_reducible rfl) | (rw [if_pos (by omega)]; with_reducible rfl)
        try simp only [List.getElem_toArray, List.getElem_cons_zero, List.getElem_cons_succ, Act.put, List.setIfInBounds_toArray, List.set_cons_zero, List.set_cons_succ]
        refine wpAnyH_take (i := 4) (v := ?_) rfl (by kernel_rfl) (by kernel_rfl) (by kernel_rfl) (fun _ _ _ h => h) (Or.inl ⟨by rfl, ?_⟩) (by assumption) ?_
        rotate_left 1
        · intro w' hSw
          go_simp
          all_goals first | with_reducible rfl | (rw [if_neg (by omega)]; done) | (rw [if_pos (by omega)]; done) | (rw [if_neg (by omega)]; with_reducible rfl) | (rw [if_pos (by omega)]; with_reducible rfl)
        try simp only [List.getElem_toArray, List.getElem_cons_zero, List.getElem_cons_succ, Act.put, List.setIfInBounds_toArray, List.set_cons_zero, List.set_cons_succ]
        refine wpAnyH_take (i := 5) (v := ?_) rfl (by kernel_rfl) (by kernel_rfl) (by kernel_rfl) (fun _ _ _ h => h) (Or.inl ⟨by rfl, ?_⟩) (by assumption) ?_
        rotate_left 1
        · intro w' hSw
          obtain ⟨y0, y1, y2, _, _, _⟩ := cells3 (IB.out.turn hSw (fun h => h))
          go_simp
          all_goals first | with_reducible rfl | (rw [if_neg (by omega)]; done) | (rw [if_pos (by omega)]; done) | (rw [if_neg (by omega)]; with_reducible rfl) | (rw [if_pos (by omega)]; with_reducible rfl)
        try simp only [List.getElem_toArray, List.getElem_cons_zero, List.getElem_cons_succ, Act.put, List.setIfInBounds_toArray, List.set_cons_zero, List.set_cons_succ]
        refine wpAnyH_take (i := 6) (v := ?_) rfl (by kernel_rfl) (by kernel_rfl) (by kernel_rfl) (fun _ _ _ h => h) (Or.inl ⟨by rfl, ?_⟩) (by assumption) ?_
        rotate_left 1
        · intro w' hSw
          go_simp
          all_goals first | with_reducible rfl | (rw [if_neg (by omega)]; done) | (rw [if_pos (by omega)]; done) | (rw [if_neg (by omega)]; with_reducible rfl) | (rw [if_pos (by omega)]; with_reducible rfl)
        try simp only [List.getElem_toArray, List.getElem_cons_zero, List.getElem_cons_succ, Act.put, List.setIfInBounds_toArray, List.set_cons_zero, List.set_cons_succ]
        refine wpAnyH_take (i := 9) (v := ?_) rfl (by kernel_rfl) (by kernel_rfl) (by kernel_rfl) (fun _ _ _ h => h) (Or.inl ⟨by rfl, ?_⟩) (by assumption) ?_
        rotate_left 1
        · intro w' hSw
          go_simp
          all_goals first | with_reducible rfl | (rw [if_neg (by omega)]; done) | (rw [if_pos (by omega)]; done) | (rw [if_neg (by omega)]; with_reducible rfl) | (rw [if_pos (by omega)]; with_reducible rfl)
        try simp only [List.getElem_toArray, List.getElem_cons_zero, List.getElem_cons_succ, Act.put, List.setIfInBounds_toArray, List.set_cons_zero, List.set_cons_succ]
        refine wpAnyH_take (i := 10) (v := ?_) rfl (by kernel_rfl) (by kernel_rfl) (by kernel_rfl) (fun _ _ _ h => h) (Or.inl ⟨by rfl, ?_⟩) (by assumption) ?_
        rotate_left 1
        · intro w' hSw
          obtain ⟨y0, y1, y2, _, _, _⟩ := cells3 (IB.out.turn hSw (fun h => h))
          go_simp
          all_goals first | with_reducible rfl | (rw [if_neg (by omega)]; done) | (rw [if_pos (by omega)]; done) | (rw [if_neg (by omega)]; with_reducible rfl) | (rw [if_pos (by omega)]; with_reducible rfl)
        try simp only [List.getElem_toArray, List.getElem_cons_zero, List.getElem_cons_succ, Act.put, List.setIfInBounds_toArray, List.set_cons_zero, List.set_cons_succ]
        refine wpAnyH_take (i := 12) (v := ?_) rfl (by kernel_rfl) (by kernel_rfl) (by kernel_rfl) (fun _ _ _ h => h) (Or.inl ⟨by rfl, ?_⟩) (by assumption) ?_
        rotate_left 1
        · intro w' hSw
          go_simp
          all_goals first | with_reducible rfl | (rw [if_neg (by omega)]; done) | (rw [if_pos (by omega)]; done) | (rw [if_neg (by omega)]; with_reducible rfl) | (rw [if_pos (by omega)]; with_reducible rfl)
        try simp only [List.getElem_toArray, List.getElem_cons_zero, List.getElem_cons_succ, Act.put, List.setIfInBounds_toArray, List.set_cons_zero, List.set_cons_succ]
        refine wpAnyH_take (i := 13) (v := ?_) rfl (by kernel_rfl) (by kernel_rfl) (by kernel_rfl) (fun _ _ _ h => h) (Or.inl ⟨by rfl, ?_⟩) (by assumption) ?_
        rotate_left 1
        · intro w' hSw
          obtain ⟨y0, y1, y2, _, _, _⟩ := cells3 (IB.out.turn hSw (fun h => h))
          go_simp
          all_goals first | with_reducible rfl | (rw [if_neg (by omega)]; done) | (rw [if_pos (by omega)]; done) | (rw [if_neg (by omega)]; with_reducible rfl) | (rw [if_pos (by omega)]; with_reducible rfl)
        try simp only [List.getElem_toArray, List.getElem_cons_zero, List.getElem_cons_succ, Act.put, List.setIfInBounds_toArray, List.set_cons_zero, List.set_cons_succ]
        refine wpAnyH_take (i := 14) (v := ?_) rfl (by kernel_rfl) (by kernel_rfl) (by kernel_rfl) (fun _ _ _ h => h) (Or.inl ⟨by rfl, ?_⟩) (by assumption) ?_
        rotate_left 1
        · intro w' hSw
          go_simp
          all_goals first | with_reducible rfl | (rw [if_neg (by omega)]; done) | (rw [if_pos (by omega)]; done) | (rw [if_neg (by omega)]; with_reducible rfl) | (rw [if_pos (by omega)]; with_reducible rfl)
        try simp only [List.getElem_toArray, List.getElem_cons_zero, List.getElem_cons_succ, Act.put, List.setIfInBounds_toArray, List.set_cons_zero, List.set_cons_succ]
        refine wpAnyH_take (i := 17) (v := ?_) rfl (by kernel_rfl) (by kernel_rfl) (by kernel_rfl) (fun _ _ _ h => h) (Or.inl ⟨by rfl, ?_⟩) (by assumption) ?_
        rotate_left 1
        · intro w' hSw
          go_simp
          all_goals first | with_reducible rfl | (rw [if_neg (by omega)]; done) | (rw [if_pos (by omega)]; done) | (rw [if_neg (by omega)]; with_reducible rfl) | (rw [if_pos (by omega)]; with_reducible rfl)
        try simp only [List.getElem_toArray, List.getElem_cons_zero, List.getElem_cons_succ, Act.put, List.setIfInBounds_toArray, List.set_cons_zero, List.set_cons_succ]
        refine wpAnyH_take (i := 18) (v := ?_) rfl (by kernel_rfl) (by kernel_rfl) (by kernel_rfl) (fun _ _ _ h => h) (Or.inl ⟨by rfl, ?_⟩) (by assumption) ?_
        rotate_left 1
        · intro w' hSw
          obtain ⟨y0, y1, y2, _, _, _⟩ := cells3 (IB.out.turn hSw (fun h => h))
          go_simp
          all_goals first | with_reducible rfl | (rw [if_neg (by omega)]; done) | (rw [if_pos (by omega)]; done) | (rw [if_neg (by omega)]; with_reducible rfl) | (rw [if_pos (by omega)]; with_reducible rfl)
        try simp only [List.getElem_toArray, List.getElem_cons_zero, List.getElem_cons_succ, Act.put, List.setIfInBounds_toArray, List.set_cons_zero, List.set_cons_succ]
        refine wpAnyH_ready (rs := [2]) (by kernel_rfl) (by simp) ?_
        refine AllReadyH.cons rfl (fun K hK => ?_) AllReadyH.nil
        refine step_call rfl 63 Try.f63 _ _ rfl Try.func63 (by kernel_rfl) (by kernel_rfl) _ _ (HFD.out _) (by go_simp) ?_
        rintro v9 w3 ⟨rfl, ht9⟩
        have T3 := Lib.hid (T0.out.trans ht9)
        clear ht9
        refine hK.out _ _ T3.out (fun hHeld => ?_)
        clear hHeld hK K
        try simp only [List.getElem_toArray, List.getElem_cons_zero, List.getElem_cons_succ, Act.put, List.setIfInBounds_toArray, List.set_cons_zero, List.set_cons_succ]
        refine wpAnyH_take (i := 3) (v := ?_) rfl (by kernel_rfl) (by kernel_rfl) (by kernel_rfl) (fun _ _ _ h => h) (Or.inl ⟨by rfl, ?_⟩) (by assumption) ?_
        rotate_left 1
        · intro w' hSw
          go_simp
          all_goals first | with_reducible rfl | (rw [if_neg (by omega)]; done) | (rw [if_pos (by omega)]; done) | (rw [if_neg (by omega)]; with_reducible rfl) | (rw [if_pos (by omega)]; with_reducible rfl)
        try simp only [List.getElem_toArray, List.getElem_cons_zero, List.getElem_cons_succ, Act.put, List.setIfInBounds_toArray, List.set_cons_zero, List.set_cons_succ]
        refine wpAnyH_ready (rs := [7]) (by kernel_rfl) (by simp) ?_
        refine AllReadyH.cons rfl (fun K hK => ?_) AllReadyH.nil
        refine step_call rfl 63 Try.f63 _ _ rfl Try.func63 (by kernel_rfl) (by kernel_rfl) _ _ (HFK.out _) (by go_simp) ?_
        rintro v9 w4 ⟨rfl, ht9⟩
        have T4 := Lib.hid (T3.out.trans ht9)
        clear ht9
        refine hK.out _ _ T4.out (fun hHeld => ?_)
        clear hHeld hK K
        try simp only [List.getElem_toArray, List.getElem_cons_zero, List.getElem_cons_succ, Act.put, List.setIfInBounds_toArray, List.set_cons_zero, List.set_cons_succ]
        refine wpAnyH_take (i := 8) (v := ?_) rfl (by kernel_rfl) (by kernel_rfl) (by kernel_rfl) (fun _ _ _ h => h) (Or.inl ⟨by rfl, ?_⟩) (by assumption) ?_
        rotate_left 1
        · intro w' hSw
          go_simp
          all_goals first | with_reducible rfl | (rw [if_neg (by omega)]; done) | (rw [if_pos (by omega)]; done) | (rw [if_neg (by omega)]; with_reducible rfl) | (rw [if_pos (by omega)]; with_reducible rfl)
        try simp only [List.getElem_toArray, List.getElem_cons_zero, List.getElem_cons_succ, Act.put, List.setIfInBounds_toArray, List.set_cons_zero, List.set_cons_succ]
        refine wpAnyH_take (i := 11) (v := ?_) rfl (by kernel_rfl) (by kernel_rfl) (by kernel_rfl) (fun _ _ _ h => h) (Or.inl ⟨by rfl, ?_⟩) (by assumption) ?_
        rotate_left 1
        · intro w' hSw
          go_simp
          all_goals first | with_reducible rfl | (rw [if_neg (by omega)]; done) | (rw [if_pos (by omega)]; done) | (rw [if_neg (by omega)]; with_reducible rfl) | (rw [if_pos (by omega)]; with_reducible rfl)
        try simp only [List.getElem_toArray, List.getElem_cons_zero, List.getElem_cons_succ, Act.put, List.setIfInBounds_toArray, List.set_cons_zero, List.set_cons_succ]
        refine wpAnyH_ready (rs := [15]) (by kernel_rfl) (by simp) ?_
        refine AllReadyH.cons rfl (fun K hK => ?_) AllReadyH.nil
        refine step_call rfl 63 Try.f63 _ _ rfl Try.func63 (by kernel_rfl) (by kernel_rfl) _ _ (HFV.out _) (by go_simp) ?_
        rintro v9 w5 ⟨rfl, ht9⟩
        have T5 := Lib.hid (T4.out.trans ht9)
        clear ht9
        refine hK.out _ _ T5.out (fun hHeld => ?_)
        clear hHeld hK K
        try simp only [List.getElem_toArray, List.getElem_cons_zero, List.getElem_cons_succ, Act.put, List.setIfInBounds_toArray, List.set_cons_zero, List.set_cons_succ]
        refine wpAnyH_take (i := 16) (v := ?_) rfl (by kernel_rfl) (by kernel_rfl) (by kernel_rfl) (fun _ _ _ h => h) (Or.inl ⟨by rfl, ?_⟩) (by assumption) ?_
        rotate_left 1
        · intro w' hSw
          go_simp
          all_goals first | with_reducible rfl | (rw [if_neg (by omega)]; done) | (rw [if_pos (by omega)]; done) | (rw [if_neg (by omega)]; with_reducible rfl) | (rw [if_pos (by omega)]; with_reducible rfl)
        try simp only [List.getElem_toArray, List.getElem_cons_zero, List.getElem_cons_succ, Act.put, List.setIfInBounds_toArray, List.set_cons_zero, List.set_cons_succ]
        refine wpAnyH_take (i := 19) (v := ?_) rfl (by kernel_rfl) (by kernel_rfl) (by kernel_rfl) (fun _ _ _ h => h) (Or.inl ⟨by rfl, ?_⟩) (by assumption) ?_
        rotate_left 1
        · intro w' hSw
          go_simp
          all_goals first | with_reducible rfl | (rw [if_neg (by omega)]; done) | (rw [if_pos (by omega)]; done) | (rw [if_neg (by omega)]; with_reducible rfl) | (rw [if_pos (by omega)]; with_reducible rfl)
        try simp only [List.getElem_toArray, List.getElem_cons_zero, List.getElem_cons_succ, Act.put, List.setIfInBounds_toArray, List.set_cons_zero, List.set_cons_succ]
        refine wpAnyH_take (i := 20) (v := ?_) rfl (by kernel_rfl) (by kernel_rfl) (by kernel_rfl) (fun _ _ _ h => h) (Or.inl ⟨by rfl, ?_⟩) (by assumption) ?_
        rotate_left 1
        · intro w' hSw
          go_simp
          all_goals first | with_reducible rfl | (rw [if_neg (by omega)]; done) | (rw [if_pos (by omega)]; done) | (rw [if_neg (by omega)]; with_reducible rfl) | (rw [if_pos (by omega)]; with_reducible rfl)
        try simp only [List.getElem_toArray, List.getElem_cons_zero, List.getElem_cons_succ, Act.put, List.setIfInBounds_toArray, List.set_cons_zero, List.set_cons_succ]
        refine wpAnyH_done (by kernel_rfl) ?_ _
        refine NoPanic.normal ?_
        go_wp2_with fail
        go_roundw
        case rel => exact ⟨j + 1, _, by omega, by simp [hq], rfl, Lib.hid HNX.out, TT2.out.trans T5.out⟩
        case measure => simp [intOf, hq]; omega
      | false =>
        obtain ⟨PD, hPD⟩ : ∃ P, (⟨(fld 1 (0 : Int)).toArray⟩ : ByteArray) = P := ⟨_, rfl⟩
        have HFD := Lib.hid (fun W => fieldP15 (0 : Int) 1 (by decide) PD hPD 1 rfl W)
        have sD := fsz15 (0 : Int) 1 (by decide) PD hPD
        have HNX := Lib.hid (HNX1.out PD (by simpa using hPD))
        clear hPD HNX1
        go_wp2_with fail
        have T0 : Hid (Turn (fun _ => False) W2 W2.drew) := Lib.hid (Turn.refl _ _).drew
        refine wp_region_noPanic ?_
        refine wp_region_held_drew (S := (fun X => Turn (fun _ => False) W2 X)) (by kernel_rfl) T0.out (fun hHeld => ?_)
        clear hHeld
        refine wpAnyH_take (i := 0) (v := ?_) rfl (by kernel_rfl) (by kernel_rfl) (by kernel_rfl) (fun _ _ _ h => h) (Or.inl ⟨by rfl, ?_⟩) (by assumption) ?_
        rotate_left 1
        · intro w' hSw
          go_simp
          all_goals first | with_reducible rfl | (rw [if_neg (by omega)]; done) | (rw [if_pos (by omega)]; done) | (rw [if_neg (by omega)]; with_reducible rfl) | (rw [if_pos (by omega)]; with_reducible rfl)
        try simp only [List.getElem_toArray, List.getElem_cons_zero, List.getElem_cons_succ, Act.put, List.setIfInBounds_toArray, List.set_cons_zero, List.set_cons_succ]
        refine wpAnyH_take (i := 1) (v := ?_) rfl (by kernel_rfl) (by kernel_rfl) (by kernel_rfl) (fun _ _ _ h => h) (Or.inl ⟨by rfl, ?_⟩) (by assumption) ?_
        rotate_left 1
        · intro w' hSw
          go_simp
          all_goals first | with_reducible rfl | (rw [if_neg (by omega)]; done) | (rw [if_pos (by omega)]; done) | (rw [if_neg (by omega)]; with_reducible rfl) | (rw [if_pos (by omega)]; with_reducible rfl)
        try simp only [List.getElem_toArray, List.getElem_cons_zero, List.getElem_cons_succ, Act.put, List.setIfInBounds_toArray, List.set_cons_zero, List.set_cons_succ]
        refine wpAnyH_take (i := 4) (v := ?_) rfl (by kernel_rfl) (by kernel_rfl) (by kernel_rfl) (fun _ _ _ h => h) (Or.inl ⟨by rfl, ?_⟩) (by assumption) ?_
        rotate_left 1
        · intro w' hSw
          go_simp
          all_goals first | with_reducible rfl | (rw [if_neg (by omega)]; done) | (rw [if_pos (by omega)]; done) | (rw [if_neg (by omega)]; with_reducible rfl) | (rw [if_pos (by omega)]; with_reducible rfl)
        try simp only [List.getElem_toArray, List.getElem_cons_zero, List.getElem_cons_succ, Act.put, List.setIfInBounds_toArray, List.set_cons_zero, List.set_cons_succ]
        refine wpAnyH_take (i := 5) (v := ?_) rfl (by kernel_rfl) (by kernel_rfl) (by kernel_rfl) (fun _ _ _ h => h) (Or.inl ⟨by rfl, ?_⟩) (by assumption) ?_
        rotate_left 1
        · intro w' hSw
          obtain ⟨y0, y1, y2, _, _, _⟩ := cells3 (IB.out.turn hSw (fun h => h))
          go_simp
          all_goals first | with_reducible rfl | (rw [if_neg (by omega)]; done) | (rw [if_pos (by omega)]; done) | (rw [if_neg (by omega)]; with_reducible rfl) | (rw [if_pos (by omega)]; with_reducible rfl)
        try simp only [List.getElem_toArray, List.getElem_cons_zero, List.getElem_cons_succ, Act.put, List.setIfInBounds_toArray, List.set_cons_zero, List.set_cons_succ]
        refine wpAnyH_take (i := 6) (v := ?_) rfl (by kernel_rfl) (by kernel_rfl) (by kernel_rfl) (fun _ _ _ h => h) (Or.inl ⟨by rfl, ?_⟩) (by assumption) ?_
        rotate_left 1
        · intro w' hSw
          go_simp
          all_goals first | with_reducible rfl | (rw [if_neg (by omega)]; done) | (rw [if_pos (by omega)]; done) | (rw [if_neg (by omega)]; with_reducible rfl) | (rw [if_pos (by omega)]; with_reducible rfl)
        try simp only [List.getElem_toArray, List.getElem_cons_zero, List.getElem_cons_succ, Act.put, List.setIfInBounds_toArray, List.set_cons_zero, List.set_cons_succ]
        refine wpAnyH_take (i := 9) (v := ?_) rfl (by kernel_rfl) (by kernel_rfl) (by kernel_rfl) (fun _ _ _ h => h) (Or.inl ⟨by rfl, ?_⟩) (by assumption) ?_
        rotate_left 1
        · intro w' hSw
          go_simp
          all_goals first | with_reducible rfl | (rw [if_neg (by omega)]; done) | (rw [if_pos (by omega)]; done) | (rw [if_neg (by omega)]; with_reducible rfl) | (rw [if_pos (by omega)]; with_reducible rfl)
        try simp only [List.getElem_toArray, List.getElem_cons_zero, List.getElem_cons_succ, Act.put, List.setIfInBounds_toArray, List.set_cons_zero, List.set_cons_succ]
        refine wpAnyH_take (i := 10) (v := ?_) rfl (by kernel_rfl) (by kernel_rfl) (by kernel_rfl) (fun _ _ _ h => h) (Or.inl ⟨by rfl, ?_⟩) (by assumption) ?_
        rotate_left 1
        · intro w' hSw
          obtain ⟨y0, y1, y2, _, _, _⟩ := cells3 (IB.out.turn hSw (fun h => h))
          go_simp
          all_goals first | with_reducible rfl | (rw [if_neg (by omega)]; done) | (rw [if_pos (by omega)]; done) | (rw [if_neg (by omega)]; with_reducible rfl) | (rw [if_pos (by omega)]; with_reducible rfl)
        try simp only [List.getElem_toArray, List.getElem_cons_zero, List.getElem_cons_succ, Act.put, List.setIfInBounds_toArray, List.set_cons_zero, List.set_cons_succ]
        refine wpAnyH_take (i := 12) (v := ?_) rfl (by kernel_rfl) (by kernel_rfl) (by kernel_rfl) (fun _ _ _ h => h) (Or.inl ⟨by rfl, ?_⟩) (by assumption) ?_
        rotate_left 1
        · intro w' hSw
          go_simp
          all_goals first | with_reducible rfl | (rw [if_neg (by omega)]; done) | (rw [if_pos (by omega)]; done) | (rw [if_neg (by omega)]; with_reducible rfl) | (rw [if_pos (by omega)]; with_reducible rfl)
        try simp only [List.getElem_toArray, List.getElem_cons_zero, List.getElem_cons_succ, Act.put, List.setIfInBounds_toArray, List.set_cons_zero, List.set_cons_succ]
        refine wpAnyH_take (i := 13) (v := ?_) rfl (by kernel_rfl) (by kernel_rfl) (by kernel_rfl) (fun _ _ _ h => h) (Or.inl ⟨by rfl, ?_⟩) (by assumption) ?_
        rotate_left 1
        · intro w' hSw
          obtain ⟨y0, y1, y2, _, _, _⟩ := cells3 (IB.out.turn hSw (fun h => h))
          go_simp
          all_goals first | with_reducible rfl | (rw [if_neg (by omega)]; done) | (rw [if_pos (by omega)]; done) | (rw [if_neg (by omega)]; with_reducible rfl) | (rw [if_pos (by omega)]; with_reducible rfl)
        try simp only [List.getElem_toArray, List.getElem_cons_zero, List.getElem_cons_succ, Act.put, List.setIfInBounds_toArray, List.set_cons_zero, List.set_cons_succ]
        refine wpAnyH_take (i := 14) (v := ?_) rfl (by kernel_rfl) (by kernel_rfl) (by kernel_rfl) (fun _ _ _ h => h) (Or.inl ⟨by rfl, ?_⟩) (by assumption) ?_
        rotate_left 1
        · intro w' hSw
          go_simp
          all_goals first | with_reducible rfl | (rw [if_neg (by omega)]; done) | (rw [if_pos (by omega)]; done) | (rw [if_neg (by omega)]; with_reducible rfl) | (rw [if_pos (by omega)]; with_reducible rfl)
        try simp only [List.getElem_toArray, List.getElem_cons_zero, List.getElem_cons_succ, Act.put, List.setIfInBounds_toArray, List.set_cons_zero, List.set_cons_succ]
        refine wpAnyH_take (i := 17) (v := ?_) rfl (by kernel_rfl) (by kernel_rfl) (by kernel_rfl) (fun _ _ _ h => h) (Or.inl ⟨by rfl, ?_⟩) (by assumption) ?_
        rotate_left 1
        · intro w' hSw
          go_simp
          all_goals first | with_reducible rfl | (rw [if_neg (by omega)]; done) | (rw [if_pos (by omega)]; done) | (rw [if_neg (by omega)]; with_reducible rfl) | (rw [if_pos (by omega)]; with_reducible rfl)
        try simp only [List.getElem_toArray, List.getElem_cons_zero, List.getElem_cons_succ, Act.put, List.setIfInBounds_toArray, List.set_cons_zero, List.set_cons_succ]
        refine wpAnyH_take (i := 18) (v := ?_) rfl (by kernel_rfl) (by kernel_rfl) (by kernel_rfl) (fun _ _ _ h => h) (Or.inl ⟨by rfl, ?_⟩) (by assumption) ?_
        rotate_left 1
        · intro w' hSw
          obtain ⟨y0, y1, y2, _, _, _⟩ := cells3 (IB.out.turn hSw (fun h => h))
          go_simp
          all_goals first | with_reducible rfl | (rw [if_neg (by omega)]; done) | (rw [if_pos (by omega)]; done) | (rw [if_neg (by omega)]; with_reducible rfl) | (rw [if_pos (by omega)]; with_reducible rfl)
        try simp only [List.getElem_toArray, List.getElem_cons_zero, List.getElem_cons_succ, Act.put, List.setIfInBounds_toArray, List.set_cons_zero, List.set_cons_succ]
        refine wpAnyH_ready (rs := [2]) (by kernel_rfl) (by simp) ?_
        refine AllReadyH.cons rfl (fun K hK => ?_) AllReadyH.nil
        refine step_call rfl 63 Try.f63 _ _ rfl Try.func63 (by kernel_rfl) (by kernel_rfl) _ _ (HFD.out _) (by go_simp) ?_
        rintro v9 w3 ⟨rfl, ht9⟩
        have T3 := Lib.hid (T0.out.trans ht9)
        clear ht9
        refine hK.out _ _ T3.out (fun hHeld => ?_)
        clear hHeld hK K
        try simp only [List.getElem_toArray, List.getElem_cons_zero, List.getElem_cons_succ, Act.put, List.setIfInBounds_toArray, List.set_cons_zero, List.set_cons_succ]
        refine wpAnyH_take (i := 3) (v := ?_) rfl (by kernel_rfl) (by kernel_rfl) (by kernel_rfl) (fun _ _ _ h => h) (Or.inl ⟨by rfl, ?_⟩) (by assumption) ?_
        rotate_left 1
        · intro w' hSw
          go_simp
          all_goals first | with_reducible rfl | (rw [if_neg (by omega)]; done) | (rw [if_pos (by omega)]; done) | (rw [if_neg (by omega)]; with_reducible rfl) | (rw [if_pos (by omega)]; with_reducible rfl)
        try simp only [List.getElem_toArray, List.getElem_cons_zero, List.getElem_cons_succ, Act.put, List.setIfInBounds_toArray, List.set_cons_zero, List.set_cons_succ]
        refine wpAnyH_ready (rs := [7]) (by kernel_rfl) (by simp) ?_
        refine AllReadyH.cons rfl (fun K hK => ?_) AllReadyH.nil
        refine step_call rfl 63 Try.f63 _ _ rfl Try.func63 (by kernel_rfl) (by kernel_rfl) _ _ (HFK.out _) (by go_simp) ?_
        rintro v9 w4 ⟨rfl, ht9⟩
        have T4 := Lib.hid (T3.out.trans ht9)
        clear ht9
        refine hK.out _ _ T4.out (fun hHeld => ?_)
        clear hHeld hK K
        try simp only [List.getElem_toArray, List.getElem_cons_zero, List.getElem_cons_succ, Act.put, List.setIfInBounds_toArray, List.set_cons_zero, List.set_cons_succ]
        refine wpAnyH_take (i := 8) (v := ?_) rfl (by kernel_rfl) (by kernel_rfl) (by kernel_rfl) (fun _ _ _ h => h) (Or.inl ⟨by rfl, ?_⟩) (by assumption) ?_
        rotate_left 1
        · intro w' hSw
          go_simp
          all_goals first | with_reducible rfl | (rw [if_neg (by omega)]; done) | (rw [if_pos (by omega)]; done) | (rw [if_neg (by omega)]; with_reducible rfl) | (rw [if_pos (by omega)]; with_reducible rfl)
        try simp only [List.getElem_toArray, List.getElem_cons_zero, List.getElem_cons_succ, Act.put, List.setIfInBounds_toArray, List.set_cons_zero, List.set_cons_succ]
        refine wpAnyH_take (i := 11) (v := ?_) rfl (by kernel_rfl) (by kernel_rfl) (by kernel_rfl) (fun _ _ _ h => h) (Or.inl ⟨by rfl, ?_⟩) (by assumption) ?_
        rotate_left 1
        · intro w' hSw
          go_simp
          all_goals first | with_reducible rfl | (rw [if_neg (by omega)]; done) | (rw [if_pos (by omega)]; done) | (rw [if_neg (by omega)]; with_reducible rfl) | (rw [if_pos (by omega)]; with_reducible rfl)
        try simp only [List.getElem_toArray, List.getElem_cons_zero, List.getElem_cons_succ, Act.put, List.setIfInBounds_toArray, List.set_cons_zero, List.set_cons_succ]
        refine wpAnyH_ready (rs := [15]) (by kernel_rfl) (by simp) ?_
        refine AllReadyH.cons rfl (fun K hK => ?_) AllReadyH.nil
        refine step_call rfl 63 Try.f63 _ _ rfl Try.func63 (by kernel_rfl) (by kernel_rfl) _ _ (HFV.out _) (by go_simp) ?_
        rintro v9 w5 ⟨rfl, ht9⟩
        have T5 := Lib.hid (T4.out.trans ht9)
        clear ht9
        refine hK.out _ _ T5.out (fun hHeld => ?_)
        clear hHeld hK K
        try simp only [List.getElem_toArray, List.getElem_cons_zero, List.getElem_cons_succ, Act.put, List.setIfInBounds_toArray, List.set_cons_zero, List.set_cons_succ]
        refine wpAnyH_take (i := 16) (v := ?_) rfl (by kernel_rfl) (by kernel_rfl) (by kernel_rfl) (fun _ _ _ h => h) (Or.inl ⟨by rfl, ?_⟩) (by assumption) ?_
        rotate_left 1
        · intro w' hSw
          go_simp
          all_goals first | with_reducible rfl | (rw [if_neg (by omega)]; done) | (rw [if_pos (by omega)]; done) | (rw [if_neg (by omega)]; with_reducible rfl) | (rw [if_pos (by omega)]; with_reducible rfl)
        try simp only [List.getElem_toArray, List.getElem_cons_zero, List.getElem_cons_succ, Act.put, List.setIfInBounds_toArray, List.set_cons_zero, List.set_cons_succ]
        refine wpAnyH_take (i := 19) (v := ?_) rfl (by kernel_rfl) (by kernel_rfl) (by kernel_rfl) (fun _ _ _ h => h) (Or.inl ⟨by rfl, ?_⟩) (by assumption) ?_
        rotate_left 1
        · intro w' hSw
          go_simp
          all_goals first | with_reducible rfl | (rw [if_neg (by omega)]; done) | (rw [if_pos (by omega)]; done) | (rw [if_neg (by omega)]; with_reducible rfl) | (rw [if_pos (by omega)]; with_reducible rfl)
        try simp only [List.getElem_toArray, List.getElem_cons_zero, List.getElem_cons_succ, Act.put, List.setIfInBounds_toArray, List.set_cons_zero, List.set_cons_succ]
        refine wpAnyH_take (i := 20) (v := ?_) rfl (by kernel_rfl) (by kernel_rfl) (by kernel_rfl) (fun _ _ _ h => h) (Or.inl ⟨by rfl, ?_⟩) (by assumption) ?_
        rotate_left 1
        · intro w' hSw
          go_simp
          all_goals first | with_reducible rfl | (rw [if_neg (by omega)]; done) | (rw [if_pos (by omega)]; done) | (rw [if_neg (by omega)]; with_reducible rfl) | (rw [if_pos (by omega)]; with_reducible rfl)
        try simp only [List.getElem_toArray, List.getElem_cons_zero, List.getElem_cons_succ, Act.put, List.setIfInBounds_toArray, List.set_cons_zero, List.set_cons_succ]
        refine wpAnyH_done (by kernel_rfl) ?_ _
        refine NoPanic.normal ?_
        go_wp2_with fail
        go_roundw
        case rel => exact ⟨j + 1, _, by omega, by simp [hq], rfl, Lib.hid HNX.out, TT2.out.trans T5.out⟩
        case measure => simp [intOf, hq]; omega
    · obtain rfl : j = n := by omega
      have hl1 : ¬ (j : Int) < (j : Int) := by omega
      have HALL : Hid (Q = Z) := Lib.hid (by rw [HQ.out, ← HZ.out, HREC.out, ← HN.out, List.take_length])
      go_wp2_with fail
      go_ret
      exact ⟨by rw [HALL.out]; rfl, TW.out.trans TT.out⟩
end Go.Proofs.Ytaebhbdmmnpgeaa
