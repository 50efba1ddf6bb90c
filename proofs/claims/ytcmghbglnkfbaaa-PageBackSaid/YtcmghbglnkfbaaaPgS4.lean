/- Layer 8: the program's fields of a node of kids. -/
import Derived.Test.YtcmghbglnkfbaaaPgS2
namespace Go.Proofs.Ytcmghbglnkfbaaa
open Go.RowKit
set_option linter.unusedVariables false
set_option linter.unusedSimpArgs false
set_option maxRecDepth 100000

set_option maxHeartbeats 4000000 in
theorem fieldsK (p : Nat) (l : List UInt8) (hl : l.length = 1024) (h0 : l[0]? ≠ some 76) (w : World) (hR : Rdr w p l 0 0) :
    Calls Try.prog 12 #[.pointer (some ⟨p, 0, none⟩)] w fun e w' => ∃ A1 c1 A2 c2 A3 c3, e = .returned (.tuple #[nv8 A1 c1 A2 c2 A3 c3 ((read8 l).getD nd0), .bool (read8 l).isSome]) ∧ (∀ X, Turn (fun k => k ≤ w.heap.size) w' X → No X A1 c1 A2 c2 A3 c3 ((read8 l).getD nd0)) ∧ Turn (fun k => k = p) w w' := by
  have hpl : p < w.heap.size := by obtain ⟨A, cap, _, h2, _⟩ := hR; exact h2.lt
  obtain ⟨v0, hv0⟩ : ∃ v, num 1 l 0 = v := ⟨_, rfl⟩
  have hb0 : ((v0 : Int) == 76) = false := by
    have h1 : 0 < l.length := by omega
    have h2 := num_one8 l 0 h1
    rw [List.getElem?_eq_getElem h1] at h0
    simp only [beq_eq_false_iff_ne, ne_eq]
    intro e
    apply h0
    congr 1
    apply UInt8.toNat.inj
    show (l[0]).toNat = 76
    omega
  have HQ0 : Hid (rw_ 1 l 0 0 = (v0, 1, 0)) := Lib.hid (by rcases rw_cases 1 l 0 0 with ⟨_, _, h⟩ | ⟨h, _⟩; rw [h, hv0]; rcases h with h | h; exact absurd rfl h; omega)
  obtain ⟨z0, hz0⟩ : ∃ v, num 4 l 3 = v := ⟨_, rfl⟩
  have HQ4 : Hid (rw_ 4 l 3 0 = (z0, 7, 0)) := Lib.hid (by rcases rw_cases 4 l 3 0 with ⟨_, _, h⟩ | ⟨h, _⟩; rw [h, hz0]; rcases h with h | h; exact absurd rfl h; omega)
  obtain ⟨cnt, hcn⟩ : ∃ c, num 2 l 1 = c := ⟨_, rfl⟩
  have hcnt : cnt < 65536 := by have := num_lt 2 l 1; rw [← hcn]; simpa using this
  have HQ1 : Hid (rw_ 2 l 1 0 = (cnt, 3, 0)) := Lib.hid (by rcases rw_cases 2 l 1 0 with ⟨_, _, h⟩ | ⟨h, _⟩; rw [h, hcn]; rcases h with h | h; exact absurd rfl h; omega)
  have HCN := Lib.hid hcn
  have HS0 : Hid (it8 l (start8 l) 0 = some (⟨false, [], [], [(z0 : Int)]⟩, 7)) := Lib.hid (by unfold it8 start8; rw [if_neg h0]; unfold kid8; rw [if_pos (by omega), hz0]; rfl)
  have HL := Lib.hid hl
  have T0 := (Turn.refl (fun _ => False) w).alloc (.cells #[.bool false, .slice none 0 0, .slice none 0 0, .slice none 0 0] 26)
  have RR := Lib.hid (hR.tn8 T0 (fun k h => h.elim))
  have BB := Lib.hid (Blk.new w 26 [.bool false, .slice none 0 0, .slice none 0 0, .slice none 0 0])
  have TT := Lib.hid T0
  clear hR T0 h0 hv0 hz0 hl hcn
  go_enter Try.func12, Try.ntmps12
  go_wp2_with fail
  refine (get8_any p l 0 0 v0 1 0 HQ0.out _ RR.out).mono ?_
  rintro e w1 ⟨rfl, hr1, ht1⟩
  have hw1 : w.heap.size < w1.heap.size := by have := ht1.size; rw [World.size_alloc] at this; omega
  have F1 : Hid (Fx w (w1.alloc (.cells #[.bool false, .slice none 0 0, .slice none 0 0, .slice none 0 0] 26)) p l 1 0 w1.heap.size [.bool false, .slice none 0 0, .slice none 0 0, .slice none 0 0] (.slice none 0 0) [] 3 (.slice none 0 0) []) := Lib.hid (by
    have ha := (Turn.refl (fun _ => False) w1).alloc (.cells #[.bool false, .slice none 0 0, .slice none 0 0, .slice none 0 0] 26)
    exact ⟨hr1.tn8 ha (fun k h => h.elim), (BB.out.turn ht1 (by omega)).alloc _, Blk.new w1 _ [.bool false, .slice none 0 0, .slice none 0 0, .slice none 0 0], own_nil8 _ _ _, own_nil8 _ _ _, (fun k h => by cases h), hpl, hw1, ((TT.out.mono (T := fun k => k = p) (fun _ _ h => h.elim)).trans ht1).alloc _⟩)
  clear hr1 ht1 RR TT BB
  go_wp2_with fail
  generalize w1.heap.size = q at *
  refine (F1.out.cU16 cnt 3 0 HQ1.out).mono ?_
  rintro e w2 ⟨_, rfl, rfl, hF⟩
  have y0 := hF.bx.cell 0
  simp only [List.getElem?_cons_zero] at y0
  have F2 := Lib.hid hF
  clear hF F1
  go_upto_region 4 with fail
  go_cut [20] (fun c wx => ∃ (AM : Option Addr) (cM : Nat), Fx w wx p l 7 0 q [.bool false, .slice none 0 0, .slice none 0 0, .slice AM 1 cM] (.slice none 0 0) [] 3 (.slice AM 1 cM) ([(z0 : Int)].map (Value.int .i64)))
  case first =>
    refine wp_region_noPanic ?_
    refine wp_region_held_drew (S := fun _ => True) (by kernel_rfl) trivial (fun hHeld => ?_)
    refine wpAnyH_nm8 (fun X0 hX0 => ?_)
    clear hHeld
    have G0 := F2.out.drew
    rw [← hX0] at G0
    have F0 := Lib.hid G0
    clear hX0 G0
    have hTriv : True := trivial
    refine wpAnyH_take (i := 0) (v := ?_) rfl (by kernel_rfl) (by kernel_rfl) (by kernel_rfl) (fun _ _ _ h => h) (Or.inl ⟨by rfl, ?_⟩) (by assumption) ?_
    rotate_left 1
    · intro w' hSw
      go_simp
      all_goals first | with_reducible rfl | (rw [if_neg (by omega)]; done) | (rw [if_neg (by omega)]; with_reducible rfl)
    try simp only [List.getElem_toArray, List.getElem_cons_zero, List.getElem_cons_succ, Act.put, List.setIfInBounds_toArray, List.set_cons_zero, List.set_cons_succ]
    refine wpAnyH_take (i := 2) (v := ?_) rfl (by kernel_rfl) (by kernel_rfl) (by kernel_rfl) (fun _ _ _ h => h) (Or.inl ⟨by rfl, ?_⟩) (by assumption) ?_
    rotate_left 1
    · intro w' hSw
      go_simp
      all_goals first | with_reducible rfl | (rw [if_neg (by omega)]; done) | (rw [if_neg (by omega)]; with_reducible rfl)
    try simp only [List.getElem_toArray, List.getElem_cons_zero, List.getElem_cons_succ, Act.put, List.setIfInBounds_toArray, List.set_cons_zero, List.set_cons_succ]
    refine wpAnyH_ready (rs := [1, 3]) (by kernel_rfl) (by simp) ?_
    refine AllReadyH.cons rfl (fun K hK => ?_) (AllReadyH.cons rfl (fun K hK => ?_) AllReadyH.nil)
    · have yj := F0.out.bx.cell 3
      simp only [List.getElem?_cons_zero, List.getElem?_cons_succ] at yj
      go_simp
      refine hK.out _ _ trivial (fun hHeld => ?_)
      clear hK K hHeld yj
      try simp only [List.getElem_toArray, List.getElem_cons_zero, List.getElem_cons_succ, Act.put, List.setIfInBounds_toArray, List.set_cons_zero, List.set_cons_succ]
      refine wpAnyH_ready (rs := [3]) (by kernel_rfl) (by simp) ?_
      refine AllReadyH.cons rfl (fun K hK => ?_) AllReadyH.nil
      refine step_call rfl 28 Try.f28 _ _ rfl Try.func28 (by kernel_rfl) (by kernel_rfl) _ _ (F0.out.cU32 z0 7 0 HQ4.out) (by go_simp) ?_
      rintro u1 X1 ⟨rfl, G1⟩
      have F1 := Lib.hid G1
      clear G1 F0
      refine hK.out _ _ trivial (fun hHeld => ?_)
      clear hK K hHeld
      try simp only [List.getElem_toArray, List.getElem_cons_zero, List.getElem_cons_succ, Act.put, List.setIfInBounds_toArray, List.set_cons_zero, List.set_cons_succ]
      refine wpAnyH_ready (rs := [4]) (by kernel_rfl) (by simp) ?_
      refine AllReadyH.cons rfl (fun K hK => ?_) AllReadyH.nil
      go_simp
      refine hK.out _ _ trivial (fun hHeld => ?_)
      clear hK K
      try simp only [List.getElem_toArray, List.getElem_cons_zero, List.getElem_cons_succ, Act.put, List.setIfInBounds_toArray, List.set_cons_zero, List.set_cons_succ]
      refine wpAnyH_nm8 (fun X2 e => ?_)
      clear hHeld
      have F2 := Lib.hid (F1.out.al e)
      have NB := Lib.hid (Blk.nw8 (cs := [.int .i64 (z0 : Int)]) e)
      clear e F1
      refine wpAnyH_ready (rs := [5]) (by kernel_rfl) (by simp) ?_
      refine AllReadyH.cons rfl (fun K hK => ?_) AllReadyH.nil
      refine step_app1I rfl _ _ rfl (q + 1) (.slice none 0 0) ([] : List Int) (z0 : Int) X1.heap.size rfl rfl (own2I (L := []) F2.out.o2) NB.out (by first | omega | simp) (by have := F2.out.bx.lt; omega) ?_
      intro vN X3 ho ht hv
      obtain ⟨AN, cN, rfl⟩ := own_slice8 ho
      have F3 := Lib.hid (F2.out.app2I ho ht hv)
      clear ho ht hv NB F2
      refine hK.out _ _ trivial (fun hHeld => ?_)
      clear hK K hHeld
      try simp only [List.getElem_toArray, List.getElem_cons_zero, List.getElem_cons_succ, Act.put, List.setIfInBounds_toArray, List.set_cons_zero, List.set_cons_succ]
      refine wpAnyH_take (i := 6) (v := ?_) rfl (by kernel_rfl) (by kernel_rfl) (by kernel_rfl) (fun _ _ _ h => h) (Or.inl ⟨by rfl, ?_⟩) (by assumption) ?_
      rotate_left 1
      · intro w' hSw
        go_simp
        all_goals first | with_reducible rfl | (rw [if_neg (by omega)]; done) | (rw [if_neg (by omega)]; with_reducible rfl)
      try simp only [List.getElem_toArray, List.getElem_cons_zero, List.getElem_cons_succ, Act.put, List.setIfInBounds_toArray, List.set_cons_zero, List.set_cons_succ]
      refine wpAnyH_ready (rs := [7]) (by kernel_rfl) (by simp) ?_
      refine AllReadyH.cons rfl (fun K hK => ?_) AllReadyH.nil
      have r0 := F3.out.bx.cell 3
      have f0 := F3.out.bx.free 3
      simp only [List.getElem?_cons_zero, List.getElem?_cons_succ] at r0
      go_simp
      refine hK.out _ _ trivial (fun hHeld => ?_)
      clear hK K
      try simp only [List.getElem_toArray, List.getElem_cons_zero, List.getElem_cons_succ, Act.put, List.setIfInBounds_toArray, List.set_cons_zero, List.set_cons_succ]
      refine wpAnyH_nm8 (fun X4 e => ?_)
      clear hHeld
      have F4 := Lib.hid (F3.out.put 3 (.slice AN 1 cN) e)
      clear e F3 r0 f0
      refine wpAnyH_done (by kernel_rfl) ?_ _
      refine NoPanic.normal ?_
      go_wp2_with fail
      go_meet
      exact ⟨AN, cN, F4.out⟩
    · refine step_call rfl 28 Try.f28 _ _ rfl Try.func28 (by kernel_rfl) (by kernel_rfl) _ _ (F0.out.cU32 z0 7 0 HQ4.out) (by go_simp) ?_
      rintro u1 X1 ⟨rfl, G1⟩
      have F1 := Lib.hid G1
      clear G1 F0
      refine hK.out _ _ trivial (fun hHeld => ?_)
      clear hK K hHeld
      try simp only [List.getElem_toArray, List.getElem_cons_zero, List.getElem_cons_succ, Act.put, List.setIfInBounds_toArray, List.set_cons_zero, List.set_cons_succ]
      refine wpAnyH_ready (rs := [1, 4]) (by kernel_rfl) (by simp) ?_
      refine AllReadyH.cons rfl (fun K hK => ?_) (AllReadyH.cons rfl (fun K hK => ?_) AllReadyH.nil)
      · have yj := F1.out.bx.cell 3
        simp only [List.getElem?_cons_zero, List.getElem?_cons_succ] at yj
        go_simp
        refine hK.out _ _ trivial (fun hHeld => ?_)
        clear hK K hHeld yj
        try simp only [List.getElem_toArray, List.getElem_cons_zero, List.getElem_cons_succ, Act.put, List.setIfInBounds_toArray, List.set_cons_zero, List.set_cons_succ]
        refine wpAnyH_ready (rs := [4]) (by kernel_rfl) (by simp) ?_
        refine AllReadyH.cons rfl (fun K hK => ?_) AllReadyH.nil
        go_simp
        refine hK.out _ _ trivial (fun hHeld => ?_)
        clear hK K
        try simp only [List.getElem_toArray, List.getElem_cons_zero, List.getElem_cons_succ, Act.put, List.setIfInBounds_toArray, List.set_cons_zero, List.set_cons_succ]
        refine wpAnyH_nm8 (fun X2 e => ?_)
        clear hHeld
        have F2 := Lib.hid (F1.out.al e)
        have NB := Lib.hid (Blk.nw8 (cs := [.int .i64 (z0 : Int)]) e)
        clear e F1
        refine wpAnyH_ready (rs := [5]) (by kernel_rfl) (by simp) ?_
        refine AllReadyH.cons rfl (fun K hK => ?_) AllReadyH.nil
        refine step_app1I rfl _ _ rfl (q + 1) (.slice none 0 0) ([] : List Int) (z0 : Int) X1.heap.size rfl rfl (own2I (L := []) F2.out.o2) NB.out (by first | omega | simp) (by have := F2.out.bx.lt; omega) ?_
        intro vN X3 ho ht hv
        obtain ⟨AN, cN, rfl⟩ := own_slice8 ho
        have F3 := Lib.hid (F2.out.app2I ho ht hv)
        clear ho ht hv NB F2
        refine hK.out _ _ trivial (fun hHeld => ?_)
        clear hK K hHeld
        try simp only [List.getElem_toArray, List.getElem_cons_zero, List.getElem_cons_succ, Act.put, List.setIfInBounds_toArray, List.set_cons_zero, List.set_cons_succ]
        refine wpAnyH_take (i := 6) (v := ?_) rfl (by kernel_rfl) (by kernel_rfl) (by kernel_rfl) (fun _ _ _ h => h) (Or.inl ⟨by rfl, ?_⟩) (by assumption) ?_
        rotate_left 1
        · intro w' hSw
          go_simp
          all_goals first | with_reducible rfl | (rw [if_neg (by omega)]; done) | (rw [if_neg (by omega)]; with_reducible rfl)
        try simp only [List.getElem_toArray, List.getElem_cons_zero, List.getElem_cons_succ, Act.put, List.setIfInBounds_toArray, List.set_cons_zero, List.set_cons_succ]
        refine wpAnyH_ready (rs := [7]) (by kernel_rfl) (by simp) ?_
        refine AllReadyH.cons rfl (fun K hK => ?_) AllReadyH.nil
        have r0 := F3.out.bx.cell 3
        have f0 := F3.out.bx.free 3
        simp only [List.getElem?_cons_zero, List.getElem?_cons_succ] at r0
        go_simp
        refine hK.out _ _ trivial (fun hHeld => ?_)
        clear hK K
        try simp only [List.getElem_toArray, List.getElem_cons_zero, List.getElem_cons_succ, Act.put, List.setIfInBounds_toArray, List.set_cons_zero, List.set_cons_succ]
        refine wpAnyH_nm8 (fun X4 e => ?_)
        clear hHeld
        have F4 := Lib.hid (F3.out.put 3 (.slice AN 1 cN) e)
        clear e F3 r0 f0
        refine wpAnyH_done (by kernel_rfl) ?_ _
        refine NoPanic.normal ?_
        go_wp2_with fail
        go_meet
        exact ⟨AN, cN, F4.out⟩
      · go_simp
        refine hK.out _ _ trivial (fun hHeld => ?_)
        clear hK K
        try simp only [List.getElem_toArray, List.getElem_cons_zero, List.getElem_cons_succ, Act.put, List.setIfInBounds_toArray, List.set_cons_zero, List.set_cons_succ]
        refine wpAnyH_nm8 (fun X2 e => ?_)
        clear hHeld
        have F2 := Lib.hid (F1.out.al e)
        have NB := Lib.hid (Blk.nw8 (cs := [.int .i64 (z0 : Int)]) e)
        clear e F1
        refine wpAnyH_ready (rs := [1]) (by kernel_rfl) (by simp) ?_
        refine AllReadyH.cons rfl (fun K hK => ?_) AllReadyH.nil
        have yj := F2.out.bx.cell 3
        simp only [List.getElem?_cons_zero, List.getElem?_cons_succ] at yj
        go_simp
        refine hK.out _ _ trivial (fun hHeld => ?_)
        clear hK K hHeld yj
        try simp only [List.getElem_toArray, List.getElem_cons_zero, List.getElem_cons_succ, Act.put, List.setIfInBounds_toArray, List.set_cons_zero, List.set_cons_succ]
        refine wpAnyH_ready (rs := [5]) (by kernel_rfl) (by simp) ?_
        refine AllReadyH.cons rfl (fun K hK => ?_) AllReadyH.nil
        refine step_app1I rfl _ _ rfl (q + 1) (.slice none 0 0) ([] : List Int) (z0 : Int) X1.heap.size rfl rfl (own2I (L := []) F2.out.o2) NB.out (by first | omega | simp) (by have := F2.out.bx.lt; omega) ?_
        intro vN X3 ho ht hv
        obtain ⟨AN, cN, rfl⟩ := own_slice8 ho
        have F3 := Lib.hid (F2.out.app2I ho ht hv)
        clear ho ht hv NB F2
        refine hK.out _ _ trivial (fun hHeld => ?_)
        clear hK K hHeld
        try simp only [List.getElem_toArray, List.getElem_cons_zero, List.getElem_cons_succ, Act.put, List.setIfInBounds_toArray, List.set_cons_zero, List.set_cons_succ]
        refine wpAnyH_take (i := 6) (v := ?_) rfl (by kernel_rfl) (by kernel_rfl) (by kernel_rfl) (fun _ _ _ h => h) (Or.inl ⟨by rfl, ?_⟩) (by assumption) ?_
        rotate_left 1
        · intro w' hSw
          go_simp
          all_goals first | with_reducible rfl | (rw [if_neg (by omega)]; done) | (rw [if_neg (by omega)]; with_reducible rfl)
        try simp only [List.getElem_toArray, List.getElem_cons_zero, List.getElem_cons_succ, Act.put, List.setIfInBounds_toArray, List.set_cons_zero, List.set_cons_succ]
        refine wpAnyH_ready (rs := [7]) (by kernel_rfl) (by simp) ?_
        refine AllReadyH.cons rfl (fun K hK => ?_) AllReadyH.nil
        have r0 := F3.out.bx.cell 3
        have f0 := F3.out.bx.free 3
        simp only [List.getElem?_cons_zero, List.getElem?_cons_succ] at r0
        go_simp
        refine hK.out _ _ trivial (fun hHeld => ?_)
        clear hK K
        try simp only [List.getElem_toArray, List.getElem_cons_zero, List.getElem_cons_succ, Act.put, List.setIfInBounds_toArray, List.set_cons_zero, List.set_cons_succ]
        refine wpAnyH_nm8 (fun X4 e => ?_)
        clear hHeld
        have F4 := Lib.hid (F3.out.put 3 (.slice AN 1 cN) e)
        clear e F3 r0 f0
        refine wpAnyH_done (by kernel_rfl) ?_ _
        refine NoPanic.normal ?_
        go_wp2_with fail
        go_meet
        exact ⟨AN, cN, F4.out⟩
  case rest =>
  obtain ⟨AM, cM, hF⟩ := hcut
  have F3 := Lib.hid hF
  clear hF F2 y0
  go_wp2_with fail
  go_loopw [23] (fun v23 wr => ∃ (i a : Nat) (n : Nd) (vK vV : Value), v23 = .int .i64 i ∧ i ≤ cnt ∧ n.leaf = false ∧ n.vals = [] ∧ Hid (it8 l (start8 l) i = some (n, a)) ∧ Fx w wr p l a 0 q [.bool false, vK, .slice none 0 0, vV] vK n.keys 3 vV (n.kids.map (Value.int .i64))) (fun v23 _ => cnt - (intOf v23).toNat)
  case atStart => exact ⟨0, 7, ⟨false, [], [], [(z0 : Int)]⟩, .slice none 0 0, .slice AM 1 cM, rfl, Nat.zero_le _, rfl, rfl, HS0, F3.out⟩
  case round =>
    obtain ⟨i, a, n, vK, vV, rfl, hi, hlf, hkd, HIT, hF⟩ := hrel
    obtain ⟨AK, cK, rfl⟩ := own_slice8 hF.ok
    obtain ⟨AV, cV, rfl⟩ := own_slice8 (own2I hF.o2)
    have HIN := Lib.hid (it8_in _ _ _ HIT.out)
    have HLF := Lib.hid hlf
    have HKD := Lib.hid hkd
    have hnk : n.keys.length ≤ 70000 := by have h1 := HIN.out.nk; have h2 := HIN.out.le; have h3 := HL.out; omega
    have hnv : n.kids.length ≤ 70000 := by have h1 := HIN.out.nz; have h2 := HIN.out.le; have h3 := HL.out; omega
    have y0 := hF.bx.cell 0
    have y1 := hF.bx.cell 1
    have y2 := hF.bx.cell 2
    have y3 := hF.bx.cell 3
    simp only [List.getElem?_cons_zero, List.getElem?_cons_succ] at y0 y1 y2 y3
    have FR := Lib.hid hF
    clear hF hlf hkd
    by_cases hlt : i < cnt
    · have hl1 : (i : Int) < (cnt : Int) := by omega
      have hq := wrap_of ((i : Int) + 1) (by omega) (by omega)
      obtain ⟨v1, a1, e1, hq1⟩ : ∃ v a' e', rw_ 1 l a 0 = (v, a', e') := ⟨_, _, _, rfl⟩
      have hv1 : v1 ≤ 70000 := by have := rw_lt 1 l a 0 v1 a1 e1 hq1; omega
      have HR1 := Lib.hid hq1
      clear hq1
      go_upto_region 7 with fail
      go_cut [32] (fun c wx => ∃ (bs : List UInt8) (a2 e2 : Nat) (AN : Option Addr) (cN : Nat), bs.length = v1 ∧ Hid (Rt8 l a1 e1 v1 bs a2 e2) ∧ Fx w wx p l a2 e2 q [.bool false, .slice AN (n.keys.length + 1) cN, .slice none 0 0, .slice AV n.kids.length cV] (.slice AN (n.keys.length + 1) cN) (n.keys ++ [⟨bs.toArray⟩]) 3 (.slice AV n.kids.length cV) (n.kids.map (Value.int .i64)))
      case first =>
        refine wp_region_noPanic ?_
        refine wp_region_held_drew (S := fun _ => True) (by kernel_rfl) trivial (fun hHeld => ?_)
        refine wpAnyH_nm8 (fun X0 hX0 => ?_)
        clear hHeld
        have G0 := FR.out.drew
        rw [← hX0] at G0
        have F0 := Lib.hid G0
        clear hX0 G0
        have hTriv : True := trivial
        refine wpAnyH_take (i := 0) (v := ?_) rfl (by kernel_rfl) (by kernel_rfl) (by kernel_rfl) (fun _ _ _ h => h) (Or.inl ⟨by rfl, ?_⟩) (by assumption) ?_
        rotate_left 1
        · intro w' hSw
          go_simp
          all_goals first | with_reducible rfl | (rw [if_neg (by omega)]; done) | (rw [if_neg (by omega)]; with_reducible rfl)
        try simp only [List.getElem_toArray, List.getElem_cons_zero, List.getElem_cons_succ, Act.put, List.setIfInBounds_toArray, List.set_cons_zero, List.set_cons_succ]
        refine wpAnyH_take (i := 2) (v := ?_) rfl (by kernel_rfl) (by kernel_rfl) (by kernel_rfl) (fun _ _ _ h => h) (Or.inl ⟨by rfl, ?_⟩) (by assumption) ?_
        rotate_left 1
        · intro w' hSw
          go_simp
          all_goals first | with_reducible rfl | (rw [if_neg (by omega)]; done) | (rw [if_neg (by omega)]; with_reducible rfl)
        try simp only [List.getElem_toArray, List.getElem_cons_zero, List.getElem_cons_succ, Act.put, List.setIfInBounds_toArray, List.set_cons_zero, List.set_cons_succ]
        refine wpAnyH_take (i := 3) (v := ?_) rfl (by kernel_rfl) (by kernel_rfl) (by kernel_rfl) (fun _ _ _ h => h) (Or.inl ⟨by rfl, ?_⟩) (by assumption) ?_
        rotate_left 1
        · intro w' hSw
          go_simp
          all_goals first | with_reducible rfl | (rw [if_neg (by omega)]; done) | (rw [if_neg (by omega)]; with_reducible rfl)
        try simp only [List.getElem_toArray, List.getElem_cons_zero, List.getElem_cons_succ, Act.put, List.setIfInBounds_toArray, List.set_cons_zero, List.set_cons_succ]
        refine wpAnyH_ready (rs := [1, 4]) (by kernel_rfl) (by simp) ?_
        refine AllReadyH.cons rfl (fun K hK => ?_) (AllReadyH.cons rfl (fun K hK => ?_) AllReadyH.nil)
        · have yj := F0.out.bx.cell 1
          simp only [List.getElem?_cons_zero, List.getElem?_cons_succ] at yj
          go_simp
          refine hK.out _ _ trivial (fun hHeld => ?_)
          clear hK K hHeld yj
          try simp only [List.getElem_toArray, List.getElem_cons_zero, List.getElem_cons_succ, Act.put, List.setIfInBounds_toArray, List.set_cons_zero, List.set_cons_succ]
          refine wpAnyH_ready (rs := [4]) (by kernel_rfl) (by simp) ?_
          refine AllReadyH.cons rfl (fun K hK => ?_) AllReadyH.nil
          refine step_call rfl 26 Try.f26 _ _ rfl Try.func26 (by kernel_rfl) (by kernel_rfl) _ _ (F0.out.cU8 v1 a1 e1 HR1.out) (by go_simp) ?_
          rintro u1 X1 ⟨rfl, G1⟩
          have F1 := Lib.hid G1
          clear G1 F0
          refine hK.out _ _ trivial (fun hHeld => ?_)
          clear hK K hHeld
          try simp only [List.getElem_toArray, List.getElem_cons_zero, List.getElem_cons_succ, Act.put, List.setIfInBounds_toArray, List.set_cons_zero, List.set_cons_succ]
          refine wpAnyH_ready (rs := [5]) (by kernel_rfl) (by simp) ?_
          refine AllReadyH.cons rfl (fun K hK => ?_) AllReadyH.nil
          refine step_call rfl 29 Try.f29 _ _ rfl Try.func29 (by kernel_rfl) (by kernel_rfl) _ _ (F1.out.cText v1 (by omega)) (by go_simp) ?_
          rintro u2 X2 ⟨bs, a_, e_, rfl, hbl, hrt, G2⟩
          have F2 := Lib.hid G2
          have HBL := Lib.hid hbl
          have HRT := Lib.hid hrt
          clear hbl hrt
          clear G2 F1
          refine hK.out _ _ trivial (fun hHeld => ?_)
          clear hK K hHeld
          try simp only [List.getElem_toArray, List.getElem_cons_zero, List.getElem_cons_succ, Act.put, List.setIfInBounds_toArray, List.set_cons_zero, List.set_cons_succ]
          refine wpAnyH_ready (rs := [6]) (by kernel_rfl) (by simp) ?_
          refine AllReadyH.cons rfl (fun K hK => ?_) AllReadyH.nil
          go_simp
          refine hK.out _ _ trivial (fun hHeld => ?_)
          clear hK K
          try simp only [List.getElem_toArray, List.getElem_cons_zero, List.getElem_cons_succ, Act.put, List.setIfInBounds_toArray, List.set_cons_zero, List.set_cons_succ]
          refine wpAnyH_nm8 (fun X3 e => ?_)
          clear hHeld
          have F3 := Lib.hid (F2.out.al e)
          have NB := Lib.hid (Blk.nw8 (cs := [.string ⟨bs.toArray⟩]) e)
          clear e F2
          refine wpAnyH_ready (rs := [7]) (by kernel_rfl) (by simp) ?_
          refine AllReadyH.cons rfl (fun K hK => ?_) AllReadyH.nil
          refine step_app1S rfl _ _ rfl (q + 1) (.slice AK n.keys.length cK) n.keys ⟨bs.toArray⟩ X2.heap.size rfl rfl (F3.out.ok) NB.out (by first | omega | simp) (by have := F3.out.bx.lt; omega) ?_
          intro vN X4 ho ht hv
          obtain ⟨AN, cN, rfl⟩ := own_slice8 ho
          have F4 := Lib.hid (F3.out.appK ho ht hv)
          clear ho ht hv NB F3
          refine hK.out _ _ trivial (fun hHeld => ?_)
          clear hK K hHeld
          try simp only [List.getElem_toArray, List.getElem_cons_zero, List.getElem_cons_succ, Act.put, List.setIfInBounds_toArray, List.set_cons_zero, List.set_cons_succ]
          refine wpAnyH_take (i := 8) (v := ?_) rfl (by kernel_rfl) (by kernel_rfl) (by kernel_rfl) (fun _ _ _ h => h) (Or.inl ⟨by rfl, ?_⟩) (by assumption) ?_
          rotate_left 1
          · intro w' hSw
            go_simp
            all_goals first | with_reducible rfl | (rw [if_neg (by omega)]; done) | (rw [if_neg (by omega)]; with_reducible rfl)
          try simp only [List.getElem_toArray, List.getElem_cons_zero, List.getElem_cons_succ, Act.put, List.setIfInBounds_toArray, List.set_cons_zero, List.set_cons_succ]
          refine wpAnyH_ready (rs := [9]) (by kernel_rfl) (by simp) ?_
          refine AllReadyH.cons rfl (fun K hK => ?_) AllReadyH.nil
          have r0 := F4.out.bx.cell 1
          have f0 := F4.out.bx.free 1
          simp only [List.getElem?_cons_zero, List.getElem?_cons_succ] at r0
          go_simp
          refine hK.out _ _ trivial (fun hHeld => ?_)
          clear hK K
          try simp only [List.getElem_toArray, List.getElem_cons_zero, List.getElem_cons_succ, Act.put, List.setIfInBounds_toArray, List.set_cons_zero, List.set_cons_succ]
          refine wpAnyH_nm8 (fun X5 e => ?_)
          clear hHeld
          have F5 := Lib.hid (F4.out.put 1 (.slice AN (n.keys.length + 1) cN) e)
          clear e F4 r0 f0
          refine wpAnyH_done (by kernel_rfl) ?_ _
          refine NoPanic.normal ?_
          go_wp2_with fail
          go_meet
          exact ⟨bs, a_, e_, AN, cN, HBL.out, HRT, F5.out⟩
        · refine step_call rfl 26 Try.f26 _ _ rfl Try.func26 (by kernel_rfl) (by kernel_rfl) _ _ (F0.out.cU8 v1 a1 e1 HR1.out) (by go_simp) ?_
          rintro u1 X1 ⟨rfl, G1⟩
          have F1 := Lib.hid G1
          clear G1 F0
          refine hK.out _ _ trivial (fun hHeld => ?_)
          clear hK K hHeld
          try simp only [List.getElem_toArray, List.getElem_cons_zero, List.getElem_cons_succ, Act.put, List.setIfInBounds_toArray, List.set_cons_zero, List.set_cons_succ]
          refine wpAnyH_ready (rs := [1, 5]) (by kernel_rfl) (by simp) ?_
          refine AllReadyH.cons rfl (fun K hK => ?_) (AllReadyH.cons rfl (fun K hK => ?_) AllReadyH.nil)
          · have yj := F1.out.bx.cell 1
            simp only [List.getElem?_cons_zero, List.getElem?_cons_succ] at yj
            go_simp
            refine hK.out _ _ trivial (fun hHeld => ?_)
            clear hK K hHeld yj
            try simp only [List.getElem_toArray, List.getElem_cons_zero, List.getElem_cons_succ, Act.put, List.setIfInBounds_toArray, List.set_cons_zero, List.set_cons_succ]
            refine wpAnyH_ready (rs := [5]) (by kernel_rfl) (by simp) ?_
            refine AllReadyH.cons rfl (fun K hK => ?_) AllReadyH.nil
            refine step_call rfl 29 Try.f29 _ _ rfl Try.func29 (by kernel_rfl) (by kernel_rfl) _ _ (F1.out.cText v1 (by omega)) (by go_simp) ?_
            rintro u2 X2 ⟨bs, a_, e_, rfl, hbl, hrt, G2⟩
            have F2 := Lib.hid G2
            have HBL := Lib.hid hbl
            have HRT := Lib.hid hrt
            clear hbl hrt
            clear G2 F1
            refine hK.out _ _ trivial (fun hHeld => ?_)
            clear hK K hHeld
            try simp only [List.getElem_toArray, List.getElem_cons_zero, List.getElem_cons_succ, Act.put, List.setIfInBounds_toArray, List.set_cons_zero, List.set_cons_succ]
            refine wpAnyH_ready (rs := [6]) (by kernel_rfl) (by simp) ?_
            refine AllReadyH.cons rfl (fun K hK => ?_) AllReadyH.nil
            go_simp
            refine hK.out _ _ trivial (fun hHeld => ?_)
            clear hK K
            try simp only [List.getElem_toArray, List.getElem_cons_zero, List.getElem_cons_succ, Act.put, List.setIfInBounds_toArray, List.set_cons_zero, List.set_cons_succ]
            refine wpAnyH_nm8 (fun X3 e => ?_)
            clear hHeld
            have F3 := Lib.hid (F2.out.al e)
            have NB := Lib.hid (Blk.nw8 (cs := [.string ⟨bs.toArray⟩]) e)
            clear e F2
            refine wpAnyH_ready (rs := [7]) (by kernel_rfl) (by simp) ?_
            refine AllReadyH.cons rfl (fun K hK => ?_) AllReadyH.nil
            refine step_app1S rfl _ _ rfl (q + 1) (.slice AK n.keys.length cK) n.keys ⟨bs.toArray⟩ X2.heap.size rfl rfl (F3.out.ok) NB.out (by first | omega | simp) (by have := F3.out.bx.lt; omega) ?_
            intro vN X4 ho ht hv
            obtain ⟨AN, cN, rfl⟩ := own_slice8 ho
            have F4 := Lib.hid (F3.out.appK ho ht hv)
            clear ho ht hv NB F3
            refine hK.out _ _ trivial (fun hHeld => ?_)
            clear hK K hHeld
            try simp only [List.getElem_toArray, List.getElem_cons_zero, List.getElem_cons_succ, Act.put, List.setIfInBounds_toArray, List.set_cons_zero, List.set_cons_succ]
            refine wpAnyH_take (i := 8) (v := ?_) rfl (by kernel_rfl) (by kernel_rfl) (by kernel_rfl) (fun _ _ _ h => h) (Or.inl ⟨by rfl, ?_⟩) (by assumption) ?_
            rotate_left 1
            · intro w' hSw
              go_simp
              all_goals first | with_reducible rfl | (rw [if_neg (by omega)]; done) | (rw [if_neg (by omega)]; with_reducible rfl)
            try simp only [List.getElem_toArray, List.getElem_cons_zero, List.getElem_cons_succ, Act.put, List.setIfInBounds_toArray, List.set_cons_zero, List.set_cons_succ]
            refine wpAnyH_ready (rs := [9]) (by kernel_rfl) (by simp) ?_
            refine AllReadyH.cons rfl (fun K hK => ?_) AllReadyH.nil
            have r0 := F4.out.bx.cell 1
            have f0 := F4.out.bx.free 1
            simp only [List.getElem?_cons_zero, List.getElem?_cons_succ] at r0
            go_simp
            refine hK.out _ _ trivial (fun hHeld => ?_)
            clear hK K
            try simp only [List.getElem_toArray, List.getElem_cons_zero, List.getElem_cons_succ, Act.put, List.setIfInBounds_toArray, List.set_cons_zero, List.set_cons_succ]
            refine wpAnyH_nm8 (fun X5 e => ?_)
            clear hHeld
            have F5 := Lib.hid (F4.out.put 1 (.slice AN (n.keys.length + 1) cN) e)
            clear e F4 r0 f0
            refine wpAnyH_done (by kernel_rfl) ?_ _
            refine NoPanic.normal ?_
            go_wp2_with fail
            go_meet
            exact ⟨bs, a_, e_, AN, cN, HBL.out, HRT, F5.out⟩
          · refine step_call rfl 29 Try.f29 _ _ rfl Try.func29 (by kernel_rfl) (by kernel_rfl) _ _ (F1.out.cText v1 (by omega)) (by go_simp) ?_
            rintro u2 X2 ⟨bs, a_, e_, rfl, hbl, hrt, G2⟩
            have F2 := Lib.hid G2
            have HBL := Lib.hid hbl
            have HRT := Lib.hid hrt
            clear hbl hrt
            clear G2 F1
            refine hK.out _ _ trivial (fun hHeld => ?_)
            clear hK K hHeld
            try simp only [List.getElem_toArray, List.getElem_cons_zero, List.getElem_cons_succ, Act.put, List.setIfInBounds_toArray, List.set_cons_zero, List.set_cons_succ]
            refine wpAnyH_ready (rs := [1, 6]) (by kernel_rfl) (by simp) ?_
            refine AllReadyH.cons rfl (fun K hK => ?_) (AllReadyH.cons rfl (fun K hK => ?_) AllReadyH.nil)
            · have yj := F2.out.bx.cell 1
              simp only [List.getElem?_cons_zero, List.getElem?_cons_succ] at yj
              go_simp
              refine hK.out _ _ trivial (fun hHeld => ?_)
              clear hK K hHeld yj
              try simp only [List.getElem_toArray, List.getElem_cons_zero, List.getElem_cons_succ, Act.put, List.setIfInBounds_toArray, List.set_cons_zero, List.set_cons_succ]
              refine wpAnyH_ready (rs := [6]) (by kernel_rfl) (by simp) ?_
              refine AllReadyH.cons rfl (fun K hK => ?_) AllReadyH.nil
              go_simp
              refine hK.out _ _ trivial (fun hHeld => ?_)
              clear hK K
              try simp only [List.getElem_toArray, List.getElem_cons_zero, List.getElem_cons_succ, Act.put, List.setIfInBounds_toArray, List.set_cons_zero, List.set_cons_succ]
              refine wpAnyH_nm8 (fun X3 e => ?_)
              clear hHeld
              have F3 := Lib.hid (F2.out.al e)
              have NB := Lib.hid (Blk.nw8 (cs := [.string ⟨bs.toArray⟩]) e)
              clear e F2
              refine wpAnyH_ready (rs := [7]) (by kernel_rfl) (by simp) ?_
              refine AllReadyH.cons rfl (fun K hK => ?_) AllReadyH.nil
              refine step_app1S rfl _ _ rfl (q + 1) (.slice AK n.keys.length cK) n.keys ⟨bs.toArray⟩ X2.heap.size rfl rfl (F3.out.ok) NB.out (by first | omega | simp) (by have := F3.out.bx.lt; omega) ?_
              intro vN X4 ho ht hv
              obtain ⟨AN, cN, rfl⟩ := own_slice8 ho
              have F4 := Lib.hid (F3.out.appK ho ht hv)
              clear ho ht hv NB F3
              refine hK.out _ _ trivial (fun hHeld => ?_)
              clear hK K hHeld
              try simp only [List.getElem_toArray, List.getElem_cons_zero, List.getElem_cons_succ, Act.put, List.setIfInBounds_toArray, List.set_cons_zero, List.set_cons_succ]
              refine wpAnyH_take (i := 8) (v := ?_) rfl (by kernel_rfl) (by kernel_rfl) (by kernel_rfl) (fun _ _ _ h => h) (Or.inl ⟨by rfl, ?_⟩) (by assumption) ?_
              rotate_left 1
              · intro w' hSw
                go_simp
                all_goals first | with_reducible rfl | (rw [if_neg (by omega)]; done) | (rw [if_neg (by omega)]; with_reducible rfl)
              try simp only [List.getElem_toArray, List.getElem_cons_zero, List.getElem_cons_succ, Act.put, List.setIfInBounds_toArray, List.set_cons_zero, List.set_cons_succ]
              refine wpAnyH_ready (rs := [9]) (by kernel_rfl) (by simp) ?_
              refine AllReadyH.cons rfl (fun K hK => ?_) AllReadyH.nil
              have r0 := F4.out.bx.cell 1
              have f0 := F4.out.bx.free 1
              simp only [List.getElem?_cons_zero, List.getElem?_cons_succ] at r0
              go_simp
              refine hK.out _ _ trivial (fun hHeld => ?_)
              clear hK K
              try simp only [List.getElem_toArray, List.getElem_cons_zero, List.getElem_cons_succ, Act.put, List.setIfInBounds_toArray, List.set_cons_zero, List.set_cons_succ]
              refine wpAnyH_nm8 (fun X5 e => ?_)
              clear hHeld
              have F5 := Lib.hid (F4.out.put 1 (.slice AN (n.keys.length + 1) cN) e)
              clear e F4 r0 f0
              refine wpAnyH_done (by kernel_rfl) ?_ _
              refine NoPanic.normal ?_
              go_wp2_with fail
              go_meet
              exact ⟨bs, a_, e_, AN, cN, HBL.out, HRT, F5.out⟩
            · go_simp
              refine hK.out _ _ trivial (fun hHeld => ?_)
              clear hK K
              try simp only [List.getElem_toArray, List.getElem_cons_zero, List.getElem_cons_succ, Act.put, List.setIfInBounds_toArray, List.set_cons_zero, List.set_cons_succ]
              refine wpAnyH_nm8 (fun X3 e => ?_)
              clear hHeld
              have F3 := Lib.hid (F2.out.al e)
              have NB := Lib.hid (Blk.nw8 (cs := [.string ⟨bs.toArray⟩]) e)
              clear e F2
              refine wpAnyH_ready (rs := [1]) (by kernel_rfl) (by simp) ?_
              refine AllReadyH.cons rfl (fun K hK => ?_) AllReadyH.nil
              have yj := F3.out.bx.cell 1
              simp only [List.getElem?_cons_zero, List.getElem?_cons_succ] at yj
              go_simp
              refine hK.out _ _ trivial (fun hHeld => ?_)
              clear hK K hHeld yj
              try simp only [List.getElem_toArray, List.getElem_cons_zero, List.getElem_cons_succ, Act.put, List.setIfInBounds_toArray, List.set_cons_zero, List.set_cons_succ]
              refine wpAnyH_ready (rs := [7]) (by kernel_rfl) (by simp) ?_
              refine AllReadyH.cons rfl (fun K hK => ?_) AllReadyH.nil
              refine step_app1S rfl _ _ rfl (q + 1) (.slice AK n.keys.length cK) n.keys ⟨bs.toArray⟩ X2.heap.size rfl rfl (F3.out.ok) NB.out (by first | omega | simp) (by have := F3.out.bx.lt; omega) ?_
              intro vN X4 ho ht hv
              obtain ⟨AN, cN, rfl⟩ := own_slice8 ho
              have F4 := Lib.hid (F3.out.appK ho ht hv)
              clear ho ht hv NB F3
              refine hK.out _ _ trivial (fun hHeld => ?_)
              clear hK K hHeld
              try simp only [List.getElem_toArray, List.getElem_cons_zero, List.getElem_cons_succ, Act.put, List.setIfInBounds_toArray, List.set_cons_zero, List.set_cons_succ]
              refine wpAnyH_take (i := 8) (v := ?_) rfl (by kernel_rfl) (by kernel_rfl) (by kernel_rfl) (fun _ _ _ h => h) (Or.inl ⟨by rfl, ?_⟩) (by assumption) ?_
              rotate_left 1
              · intro w' hSw
                go_simp
                all_goals first | with_reducible rfl | (rw [if_neg (by omega)]; done) | (rw [if_neg (by omega)]; with_reducible rfl)
              try simp only [List.getElem_toArray, List.getElem_cons_zero, List.getElem_cons_succ, Act.put, List.setIfInBounds_toArray, List.set_cons_zero, List.set_cons_succ]
              refine wpAnyH_ready (rs := [9]) (by kernel_rfl) (by simp) ?_
              refine AllReadyH.cons rfl (fun K hK => ?_) AllReadyH.nil
              have r0 := F4.out.bx.cell 1
              have f0 := F4.out.bx.free 1
              simp only [List.getElem?_cons_zero, List.getElem?_cons_succ] at r0
              go_simp
              refine hK.out _ _ trivial (fun hHeld => ?_)
              clear hK K
              try simp only [List.getElem_toArray, List.getElem_cons_zero, List.getElem_cons_succ, Act.put, List.setIfInBounds_toArray, List.set_cons_zero, List.set_cons_succ]
              refine wpAnyH_nm8 (fun X5 e => ?_)
              clear hHeld
              have F5 := Lib.hid (F4.out.put 1 (.slice AN (n.keys.length + 1) cN) e)
              clear e F4 r0 f0
              refine wpAnyH_done (by kernel_rfl) ?_ _
              refine NoPanic.normal ?_
              go_wp2_with fail
              go_meet
              exact ⟨bs, a_, e_, AN, cN, HBL.out, HRT, F5.out⟩
      case rest =>
        obtain ⟨bs, a2, e2, AN, cN, hbl, HT1, hF⟩ := hcut
        have HBL := Lib.hid hbl
        have y0 := hF.bx.cell 0
        simp only [List.getElem?_cons_zero] at y0
        have F7 := Lib.hid hF
        clear hbl hF FR y1 y2 y3
        obtain ⟨v3, a3, e3, hq3⟩ : ∃ v a' e', rw_ 4 l a2 e2 = (v, a', e') := ⟨_, _, _, rfl⟩
        have HR3 := Lib.hid hq3
        clear hq3
        go_upto_region 10 with fail
        go_cut [50] (fun c wx => ∃ (AM : Option Addr) (cM : Nat), Fx w wx p l a3 e3 q [.bool false, .slice AN (n.keys.length + 1) cN, .slice none 0 0, .slice AM (n.kids.length + 1) cM] (.slice AN (n.keys.length + 1) cN) (n.keys ++ [⟨bs.toArray⟩]) 3 (.slice AM (n.kids.length + 1) cM) ((n.kids ++ [(v3 : Int)]).map (Value.int .i64)))
        case first =>
          refine wp_region_noPanic ?_
          refine wp_region_held_drew (S := fun _ => True) (by kernel_rfl) trivial (fun hHeld => ?_)
          refine wpAnyH_nm8 (fun X0 hX0 => ?_)
          clear hHeld
          have G0 := F7.out.drew
          rw [← hX0] at G0
          have F0 := Lib.hid G0
          clear hX0 G0
          have hTriv : True := trivial
          refine wpAnyH_take (i := 0) (v := ?_) rfl (by kernel_rfl) (by kernel_rfl) (by kernel_rfl) (fun _ _ _ h => h) (Or.inl ⟨by rfl, ?_⟩) (by assumption) ?_
          rotate_left 1
          · intro w' hSw
            go_simp
            all_goals first | with_reducible rfl | (rw [if_neg (by omega)]; done) | (rw [if_neg (by omega)]; with_reducible rfl)
          try simp only [List.getElem_toArray, List.getElem_cons_zero, List.getElem_cons_succ, Act.put, List.setIfInBounds_toArray, List.set_cons_zero, List.set_cons_succ]
          refine wpAnyH_take (i := 2) (v := ?_) rfl (by kernel_rfl) (by kernel_rfl) (by kernel_rfl) (fun _ _ _ h => h) (Or.inl ⟨by rfl, ?_⟩) (by assumption) ?_
          rotate_left 1
          · intro w' hSw
            go_simp
            all_goals first | with_reducible rfl | (rw [if_neg (by omega)]; done) | (rw [if_neg (by omega)]; with_reducible rfl)
          try simp only [List.getElem_toArray, List.getElem_cons_zero, List.getElem_cons_succ, Act.put, List.setIfInBounds_toArray, List.set_cons_zero, List.set_cons_succ]
          refine wpAnyH_ready (rs := [1, 3]) (by kernel_rfl) (by simp) ?_
          refine AllReadyH.cons rfl (fun K hK => ?_) (AllReadyH.cons rfl (fun K hK => ?_) AllReadyH.nil)
          · have yj := F0.out.bx.cell 3
            simp only [List.getElem?_cons_zero, List.getElem?_cons_succ] at yj
            go_simp
            refine hK.out _ _ trivial (fun hHeld => ?_)
            clear hK K hHeld yj
            try simp only [List.getElem_toArray, List.getElem_cons_zero, List.getElem_cons_succ, Act.put, List.setIfInBounds_toArray, List.set_cons_zero, List.set_cons_succ]
            refine wpAnyH_ready (rs := [3]) (by kernel_rfl) (by simp) ?_
            refine AllReadyH.cons rfl (fun K hK => ?_) AllReadyH.nil
            refine step_call rfl 28 Try.f28 _ _ rfl Try.func28 (by kernel_rfl) (by kernel_rfl) _ _ (F0.out.cU32 v3 a3 e3 HR3.out) (by go_simp) ?_
            rintro u1 X1 ⟨rfl, G1⟩
            have F1 := Lib.hid G1
            clear G1 F0
            refine hK.out _ _ trivial (fun hHeld => ?_)
            clear hK K hHeld
            try simp only [List.getElem_toArray, List.getElem_cons_zero, List.getElem_cons_succ, Act.put, List.setIfInBounds_toArray, List.set_cons_zero, List.set_cons_succ]
            refine wpAnyH_ready (rs := [4]) (by kernel_rfl) (by simp) ?_
            refine AllReadyH.cons rfl (fun K hK => ?_) AllReadyH.nil
            go_simp
            refine hK.out _ _ trivial (fun hHeld => ?_)
            clear hK K
            try simp only [List.getElem_toArray, List.getElem_cons_zero, List.getElem_cons_succ, Act.put, List.setIfInBounds_toArray, List.set_cons_zero, List.set_cons_succ]
            refine wpAnyH_nm8 (fun X2 e => ?_)
            clear hHeld
            have F2 := Lib.hid (F1.out.al e)
            have NB := Lib.hid (Blk.nw8 (cs := [.int .i64 (v3 : Int)]) e)
            clear e F1
            refine wpAnyH_ready (rs := [5]) (by kernel_rfl) (by simp) ?_
            refine AllReadyH.cons rfl (fun K hK => ?_) AllReadyH.nil
            refine step_app1I rfl _ _ rfl (q + 1) (.slice AV n.kids.length cV) n.kids (v3 : Int) X1.heap.size rfl rfl (own2I F2.out.o2) NB.out (by first | omega | simp) (by have := F2.out.bx.lt; omega) ?_
            intro vN X3 ho ht hv
            obtain ⟨AN, cN, rfl⟩ := own_slice8 ho
            have F3 := Lib.hid (F2.out.app2I ho ht hv)
            clear ho ht hv NB F2
            refine hK.out _ _ trivial (fun hHeld => ?_)
            clear hK K hHeld
            try simp only [List.getElem_toArray, List.getElem_cons_zero, List.getElem_cons_succ, Act.put, List.setIfInBounds_toArray, List.set_cons_zero, List.set_cons_succ]
            refine wpAnyH_take (i := 6) (v := ?_) rfl (by kernel_rfl) (by kernel_rfl) (by kernel_rfl) (fun _ _ _ h => h) (Or.inl ⟨by rfl, ?_⟩) (by assumption) ?_
            rotate_left 1
            · intro w' hSw
              go_simp
              all_goals first | with_reducible rfl | (rw [if_neg (by omega)]; done) | (rw [if_neg (by omega)]; with_reducible rfl)
            try simp only [List.getElem_toArray, List.getElem_cons_zero, List.getElem_cons_succ, Act.put, List.setIfInBounds_toArray, List.set_cons_zero, List.set_cons_succ]
            refine wpAnyH_ready (rs := [7]) (by kernel_rfl) (by simp) ?_
            refine AllReadyH.cons rfl (fun K hK => ?_) AllReadyH.nil
            have r0 := F3.out.bx.cell 3
            have f0 := F3.out.bx.free 3
            simp only [List.getElem?_cons_zero, List.getElem?_cons_succ] at r0
            go_simp
            refine hK.out _ _ trivial (fun hHeld => ?_)
            clear hK K
            try simp only [List.getElem_toArray, List.getElem_cons_zero, List.getElem_cons_succ, Act.put, List.setIfInBounds_toArray, List.set_cons_zero, List.set_cons_succ]
            refine wpAnyH_nm8 (fun X4 e => ?_)
            clear hHeld
            have F4 := Lib.hid (F3.out.put 3 (.slice AN (n.kids.length + 1) cN) e)
            clear e F3 r0 f0
            refine wpAnyH_done (by kernel_rfl) ?_ _
            refine NoPanic.normal ?_
            go_wp2_with fail
            go_meet
            exact ⟨AN, cN, F4.out⟩
          · refine step_call rfl 28 Try.f28 _ _ rfl Try.func28 (by kernel_rfl) (by kernel_rfl) _ _ (F0.out.cU32 v3 a3 e3 HR3.out) (by go_simp) ?_
            rintro u1 X1 ⟨rfl, G1⟩
            have F1 := Lib.hid G1
            clear G1 F0
            refine hK.out _ _ trivial (fun hHeld => ?_)
            clear hK K hHeld
            try simp only [List.getElem_toArray, List.getElem_cons_zero, List.getElem_cons_succ, Act.put, List.setIfInBounds_toArray, List.set_cons_zero, List.set_cons_succ]
            refine wpAnyH_ready (rs := [1, 4]) (by kernel_rfl) (by simp) ?_
            refine AllReadyH.cons rfl (fun K hK => ?_) (AllReadyH.cons rfl (fun K hK => ?_) AllReadyH.nil)
            · have yj := F1.out.bx.cell 3
              simp only [List.getElem?_cons_zero, List.getElem?_cons_succ] at yj
              go_simp
              refine hK.out _ _ trivial (fun hHeld => ?_)
              clear hK K hHeld yj
              try simp only [List.getElem_toArray, List.getElem_cons_zero, List.getElem_cons_succ, Act.put, List.setIfInBounds_toArray, List.set_cons_zero, List.set_cons_succ]
              refine wpAnyH_ready (rs := [4]) (by kernel_rfl) (by simp) ?_
              refine AllReadyH.cons rfl (fun K hK => ?_) AllReadyH.nil
              go_simp
              refine hK.out _ _ trivial (fun hHeld => ?_)
              clear hK K
              try simp only [List.getElem_toArray, List.getElem_cons_zero, List.getElem_cons_succ, Act.put, List.setIfInBounds_toArray, List.set_cons_zero, List.set_cons_succ]
              refine wpAnyH_nm8 (fun X2 e => ?_)
              clear hHeld
              have F2 := Lib.hid (F1.out.al e)
              have NB := Lib.hid (Blk.nw8 (cs := [.int .i64 (v3 : Int)]) e)
              clear e F1
              refine wpAnyH_ready (rs := [5]) (by kernel_rfl) (by simp) ?_
              refine AllReadyH.cons rfl (fun K hK => ?_) AllReadyH.nil
              refine step_app1I rfl _ _ rfl (q + 1) (.slice AV n.kids.length cV) n.kids (v3 : Int) X1.heap.size rfl rfl (own2I F2.out.o2) NB.out (by first | omega | simp) (by have := F2.out.bx.lt; omega) ?_
              intro vN X3 ho ht hv
              obtain ⟨AN, cN, rfl⟩ := own_slice8 ho
              have F3 := Lib.hid (F2.out.app2I ho ht hv)
              clear ho ht hv NB F2
              refine hK.out _ _ trivial (fun hHeld => ?_)
              clear hK K hHeld
              try simp only [List.getElem_toArray, List.getElem_cons_zero, List.getElem_cons_succ, Act.put, List.setIfInBounds_toArray, List.set_cons_zero, List.set_cons_succ]
              refine wpAnyH_take (i := 6) (v := ?_) rfl (by kernel_rfl) (by kernel_rfl) (by kernel_rfl) (fun _ _ _ h => h) (Or.inl ⟨by rfl, ?_⟩) (by assumption) ?_
              rotate_left 1
              · intro w' hSw
                go_simp
                all_goals first | with_reducible rfl | (rw [if_neg (by omega)]; done) | (rw [if_neg (by omega)]; with_reducible rfl)
              try simp only [List.getElem_toArray, List.getElem_cons_zero, List.getElem_cons_succ, Act.put, List.setIfInBounds_toArray, List.set_cons_zero, List.set_cons_succ]
              refine wpAnyH_ready (rs := [7]) (by kernel_rfl) (by simp) ?_
              refine AllReadyH.cons rfl (fun K hK => ?_) AllReadyH.nil
              have r0 := F3.out.bx.cell 3
              have f0 := F3.out.bx.free 3
              simp only [List.getElem?_cons_zero, List.getElem?_cons_succ] at r0
              go_simp
              refine hK.out _ _ trivial (fun hHeld => ?_)
              clear hK K
              try simp only [List.getElem_toArray, List.getElem_cons_zero, List.getElem_cons_succ, Act.put, List.setIfInBounds_toArray, List.set_cons_zero, List.set_cons_succ]
              refine wpAnyH_nm8 (fun X4 e => ?_)
              clear hHeld
              have F4 := Lib.hid (F3.out.put 3 (.slice AN (n.kids.length + 1) cN) e)
              clear e F3 r0 f0
              refine wpAnyH_done (by kernel_rfl) ?_ _
              refine NoPanic.normal ?_
              go_wp2_with fail
              go_meet
              exact ⟨AN, cN, F4.out⟩
            · go_simp
              refine hK.out _ _ trivial (fun hHeld => ?_)
              clear hK K
              try simp only [List.getElem_toArray, List.getElem_cons_zero, List.getElem_cons_succ, Act.put, List.setIfInBounds_toArray, List.set_cons_zero, List.set_cons_succ]
              refine wpAnyH_nm8 (fun X2 e => ?_)
              clear hHeld
              have F2 := Lib.hid (F1.out.al e)
              have NB := Lib.hid (Blk.nw8 (cs := [.int .i64 (v3 : Int)]) e)
              clear e F1
              refine wpAnyH_ready (rs := [1]) (by kernel_rfl) (by simp) ?_
              refine AllReadyH.cons rfl (fun K hK => ?_) AllReadyH.nil
              have yj := F2.out.bx.cell 3
              simp only [List.getElem?_cons_zero, List.getElem?_cons_succ] at yj
              go_simp
              refine hK.out _ _ trivial (fun hHeld => ?_)
              clear hK K hHeld yj
              try simp only [List.getElem_toArray, List.getElem_cons_zero, List.getElem_cons_succ, Act.put, List.setIfInBounds_toArray, List.set_cons_zero, List.set_cons_succ]
              refine wpAnyH_ready (rs := [5]) (by kernel_rfl) (by simp) ?_
              refine AllReadyH.cons rfl (fun K hK => ?_) AllReadyH.nil
              refine step_app1I rfl _ _ rfl (q + 1) (.slice AV n.kids.length cV) n.kids (v3 : Int) X1.heap.size rfl rfl (own2I F2.out.o2) NB.out (by first | omega | simp) (by have := F2.out.bx.lt; omega) ?_
              intro vN X3 ho ht hv
              obtain ⟨AN, cN, rfl⟩ := own_slice8 ho
              have F3 := Lib.hid (F2.out.app2I ho ht hv)
              clear ho ht hv NB F2
              refine hK.out _ _ trivial (fun hHeld => ?_)
              clear hK K hHeld
              try simp only [List.getElem_toArray, List.getElem_cons_zero, List.getElem_cons_succ, Act.put, List.setIfInBounds_toArray, List.set_cons_zero, List.set_cons_succ]
              refine wpAnyH_take (i := 6) (v := ?_) rfl (by kernel_rfl) (by kernel_rfl) (by kernel_rfl) (fun _ _ _ h => h) (Or.inl ⟨by rfl, ?_⟩) (by assumption) ?_
              rotate_left 1
              · intro w' hSw
                go_simp
                all_goals first | with_reducible rfl | (rw [if_neg (by omega)]; done) | (rw [if_neg (by omega)]; with_reducible rfl)
              try simp only [List.getElem_toArray, List.getElem_cons_zero, List.getElem_cons_succ, Act.put, List.setIfInBounds_toArray, List.set_cons_zero, List.set_cons_succ]
              refine wpAnyH_ready (rs := [7]) (by kernel_rfl) (by simp) ?_
              refine AllReadyH.cons rfl (fun K hK => ?_) AllReadyH.nil
              have r0 := F3.out.bx.cell 3
              have f0 := F3.out.bx.free 3
              simp only [List.getElem?_cons_zero, List.getElem?_cons_succ] at r0
              go_simp
              refine hK.out _ _ trivial (fun hHeld => ?_)
              clear hK K
              try simp only [List.getElem_toArray, List.getElem_cons_zero, List.getElem_cons_succ, Act.put, List.setIfInBounds_toArray, List.set_cons_zero, List.set_cons_succ]
              refine wpAnyH_nm8 (fun X4 e => ?_)
              clear hHeld
              have F4 := Lib.hid (F3.out.put 3 (.slice AN (n.kids.length + 1) cN) e)
              clear e F3 r0 f0
              refine wpAnyH_done (by kernel_rfl) ?_ _
              refine NoPanic.normal ?_
              go_wp2_with fail
              go_meet
              exact ⟨AN, cN, F4.out⟩
        case rest =>
          obtain ⟨AM, cM, hF⟩ := hcut
          have HE := Lib.hid (entK HLF.out HR1.out HBL.out HT1.out HR3.out)
          have F9 := Lib.hid hF
          clear hF F7
          go_wp2_with fail
          refine F9.out.cErr.mono ?_
          rintro e w5 ⟨rfl, rfl⟩
          by_cases he : e3 = 0
          · subst he
            have HIT2 : Hid (it8 l (start8 l) (i + 1) = some (⟨false, n.keys ++ [⟨bs.toArray⟩], n.vals, n.kids ++ [(v3 : Int)]⟩, a3)) := Lib.hid (by rw [it8, HIT.out]; exact HE.out.1 rfl)
            go_wp2_with fail
            go_roundw
            case rel => exact ⟨i + 1, a3, ⟨false, n.keys ++ [⟨bs.toArray⟩], n.vals, n.kids ++ [(v3 : Int)]⟩, .slice AN (n.keys.length + 1) cN, .slice AM (n.kids.length + 1) cM, by simp, by omega, rfl, HKD.out, HIT2, F9.out⟩
            case measure => simp [intOf]; omega
          · have HG : Hid (read8 l = none) := Lib.hid (by
              have h1 : it8 l (start8 l) (i + 1) = none := by rw [it8, HIT.out]; exact HE.out.2 he
              have h2 := it8_none l (start8 l) (show i + 1 ≤ cnt by omega) h1
              unfold read8; rw [HCN.out, h2]; rfl)
            have hne : ((e3 : Int) == 0) = false := by simp; omega
            have hne2 : ¬ (e3 : Int) = 0 := by omega
            have RB := Lib.hid F9.out.rb
            have TN := Lib.hid F9.out.tn
            clear he
            have r0 := RB.out.cell 0
            have f0 := RB.out.free 0
            have r1 := RB.out.cell 1
            have f1 := RB.out.free 1
            have r2 := RB.out.cell 2
            have f2 := RB.out.free 2
            have r3 := RB.out.cell 3
            have f3 := RB.out.free 3
            simp only [List.getElem?_cons_zero, List.getElem?_cons_succ] at r0 r1 r2 r3
            obtain ⟨hb, hs⟩ := put4 RB.out (.bool false) (.slice none 0 0) (.slice none 0 0) (.slice none 0 0)
            have e0 := hb.cell 0
            have e1 := hb.cell 1
            have e2 := hb.cell 2
            have e3 := hb.cell 3
            simp only [List.getElem?_cons_zero, List.getElem?_cons_succ] at e0 e1 e2 e3
            have HT := Lib.hid (TN.out.trans_new hs (fun k hk e => by omega))
            have HN : Hid (∀ X, No X none 0 none 0 none 0 nd0) := Lib.hid (fun X => ⟨sr_nil _ _, sr_nil _ _, nr_nil _ _⟩)
            clear hb hs
            go_wp2_with fail
            exact bodyPost_ret (v := .tuple #[.agg #[.bool false, .slice none 0 0, .slice none 0 0, .slice none 0 0], .bool false]) (by simp [results, Try.results12, go_sem, e0, e1, e2, e3]) rfl ⟨none, 0, none, 0, none, 0, by rw [HG.out]; rfl, by rw [HG.out]; exact fun X _ => HN.out X, HT.out⟩
    · obtain rfl : i = cnt := by omega
      have HG : Hid (read8 l = some n) := Lib.hid (by unfold read8; rw [HCN.out, HIT.out]; rfl)
      have hqg := FR.out.qg
      have RB := Lib.hid FR.out.rb
      have TN := Lib.hid FR.out.tn
      have HNF : Hid (∀ X, Turn (fun k => k ≤ w.heap.size) wr X → No X AK cK none 0 AV cV n) := Lib.hid (fun X hX => ⟨own_sr8 (own_far8 FR.out.ok hX (fun k hk e => by have := own_blk8 FR.out.ok k hk; omega)), by rw [HKD.out]; exact sr_nil _ _, own_nr8 (own2I (own_far8 FR.out.o2 hX (fun k hk e => by have := own_blk8 FR.out.o2 k hk; omega)))⟩)
      have HTR : Hid (.slice none 0 0 = Value.slice none n.vals.length 0 ∧ n.leaf = false) := Lib.hid ⟨by rw [HKD.out]; rfl, HLF.out⟩
      have r0 := RB.out.cell 0
      have f0 := RB.out.free 0
      have r1 := RB.out.cell 1
      have f1 := RB.out.free 1
      have r2 := RB.out.cell 2
      have f2 := RB.out.free 2
      have r3 := RB.out.cell 3
      have f3 := RB.out.free 3
      simp only [List.getElem?_cons_zero, List.getElem?_cons_succ] at r0 r1 r2 r3
      obtain ⟨hb, hs⟩ := put4 RB.out (.bool false) (.slice AK n.keys.length cK) (.slice none 0 0) (.slice AV n.kids.length cV)
      have e0 := hb.cell 0
      have e1 := hb.cell 1
      have e2 := hb.cell 2
      have e3 := hb.cell 3
      simp only [List.getElem?_cons_zero, List.getElem?_cons_succ] at e0 e1 e2 e3
      have HT := Lib.hid (TN.out.trans_new hs (fun k hk e => by omega))
      have HN := Lib.hid (fun X hX => HNF.out X ((hs.mono (fun k _ hk => Nat.le_of_eq hk)).trans hX))
      clear hb hs
      go_wp2_with fail
      exact bodyPost_ret (v := .tuple #[.agg #[.bool false, .slice AK n.keys.length cK, .slice none 0 0, .slice AV n.kids.length cV], .bool true]) (by simp [results, Try.results12, go_sem, e0, e1, e2, e3]) rfl ⟨AK, cK, none, 0, AV, cV, by rw [HG.out]; show _ = Ending.returned (.tuple #[nv8 AK cK none 0 AV cV n, .bool true]); unfold nv8; rw [← HTR.out.1, HTR.out.2], by rw [HG.out]; exact HN.out, HT.out⟩
end Go.Proofs.Ytcmghbglnkfbaaa
