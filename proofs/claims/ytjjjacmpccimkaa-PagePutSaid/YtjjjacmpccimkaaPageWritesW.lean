/- The walk of ambrylaw08.PageWrites. -/
import Derived.Test.YtjjjacmpccimkaaPgN
namespace Go.Proofs.Ytjjjacmpccimkaa
open Go.RowKit
set_option linter.unusedVariables false
set_option maxRecDepth 100000

/-- What a walk says of a call that changes nothing that stood. -/
theorem as_v {f : FuncId} {args : Array Value} {w : World} {x : Value} (h : Calls Try.prog f args w fun e w' => e = .returned x ∧ Turn (fun _ => False) w w') : Calls Try.prog f args w fun e w' => ∃ v, e = .returned v ∧ (v = x ∧ Turn (fun _ => False) w w') :=
  h.mono fun _ _ h => ⟨_, h.1, rfl, h.2⟩
theorem turn_below8 {w w' : World} (h : Turn (fun _ => False) w w') : Below w.heap.size w w' := ⟨h.os, h.tape, h.output, h.size, fun k hk => h.block k hk (fun h => h)⟩
set_option maxHeartbeats 8000000 in
theorem pageWrites_walk (v : Value) (n : Nd) (w : World) (hv : NodeV w w.heap.size v n) (hb : (∀ s ∈ n.keys, s.size ≤ 140737488351232) ∧ ∀ s ∈ n.vals, s.size ≤ 140737488351232) :
    Calls Try.prog 3 #[v] w fun e w' => e = .returned (.bool true) ∧ Below w.heap.size w w' := by
  obtain ⟨A1, c1, A2, c2, A3, c3, rfl, hno⟩ := hv.no (Nat.le_refl _)
  clear hv
  have HFW := Lib.hid (fun W => few_any n A1 c1 A2 c2 A3 c3 W)
  have HLV := Lib.hid (fun W => as_v (lives8 W))
  have T0 := Lib.hid ((Turn.refl (fun _ => False) w).alloc (.cells #[.bool n.leaf, .slice A1 n.keys.length c1, .slice A2 n.vals.length c2, .slice A3 n.kids.length c3] 25))
  have B0 := Lib.hid (Blk.new w 25 [.bool n.leaf, .slice A1 n.keys.length c1, .slice A2 n.vals.length c2, .slice A3 n.kids.length c3])
  cases hfw : few8 n with
  | false =>
    rw [hfw] at HFW
    have HLV := Lib.hid (fun W => lives8 W)
    obtain ⟨leaf, K, V, Z⟩ := n
    simp only [nv8] at *
    generalize K.length = nk at *
    generalize V.length = nv at *
    generalize Z.length = nd at *
    go_enter Try.func3, Try.ntmps3
    go_wp2_with fail
    refine (HFW.out _).mono ?_
    rintro e w1 ⟨rfl, ht1⟩
    have T1 := Lib.hid (T0.out.trans ht1)
    go_wp2_with fail
    refine (HLV.out _).mono ?_
    rintro e w2 ⟨rfl, ht2⟩
    have T2 := Lib.hid (T1.out.trans ht2)
    go_wp2_with fail
    go_ret
    exact ⟨rfl, turn_below8 T2.out⟩
  | true =>
    have hf := few8_yes hfw hb.1 hb.2
    rw [hfw] at HFW
    have HBY := Lib.hid (fun W (ht : Turn (fun _ => False) w W) => bytes_sl n A1 c1 A2 c2 A3 c3 W (hno.turn ht) hf)
    have HRB := Lib.hid (fun W (ht : Turn (fun _ => False) w W) => refBytes_any n A1 c1 A2 c2 A3 c3 W (hno.turn ht) hf)
    have HSZ := Lib.hid (fun W (ht : Turn (fun _ => False) w W) => as_v (size_any n A1 c1 A2 c2 A3 c3 W (hno.turn ht) hf))
    have HRZ := Lib.hid (fun W (ht : Turn (fun _ => False) w W) => as_v (refSize_any n A1 c1 A2 c2 A3 c3 W (hno.turn ht) hf))
    have HCK := Lib.hid (fun W (ht : Turn (fun _ => False) w W) => as_v (check_any n A1 c1 A2 c2 A3 c3 W (hno.turn ht) hf))
    have HRC : Hid (∀ W, Turn (fun _ => False) w W → Calls Try.prog 18 #[nv8 A1 c1 A2 c2 A3 c3 n] W fun e w' => ∃ v, e = .returned v ∧ (v = .int .i64 (check8 n : Nat) ∧ Turn (fun _ => False) W w')) := Lib.hid (fun W ht => by
      have := refCheck_any n A1 c1 A2 c2 A3 c3 W (hno.turn ht) hf; rw [chk8_is] at this; exact as_v (this.mono (fun e w' h => ⟨h.1, h.2⟩)))
    generalize pg8 n (check8 n) = PG at *
    generalize check8 n = CK at *
    generalize size8 n = SZ at *
    clear hfw hf hb hno
    have e1 : ((SZ : Int) == (SZ : Int)) = true := by simp
    have e2 : ((CK : Int) == (CK : Int)) = true := by simp
    obtain ⟨RS, hRS⟩ : ∃ S : ByteArray, ⟨PG.toArray⟩ = S := ⟨_, rfl⟩
    rw [hRS] at HRB
    have e3 := str_same RS
    have HRS := Lib.hid hRS
    clear hRS
    obtain ⟨leaf, K, V, Z⟩ := n
    simp only [nv8] at *
    generalize K.length = nk at *
    generalize V.length = nv at *
    generalize Z.length = nd at *
    go_enter Try.func3, Try.ntmps3
    go_wp2_with fail
    refine (HFW.out _).mono ?_
    rintro e w1 ⟨rfl, ht1⟩
    have T1 := Lib.hid (T0.out.trans ht1)
    have B1 := Lib.hid (B0.out.turn ht1 (fun h => h))
    clear ht1 T0 B0
    have y0 : w1.cell? ⟨w.heap.size, 0, none⟩ = some (.bool leaf) := B1.out.cell 0
    have y1 : w1.cell? ⟨w.heap.size, 1, none⟩ = some (.slice A1 nk c1) := B1.out.cell 1
    have y2 : w1.cell? ⟨w.heap.size, 2, none⟩ = some (.slice A2 nv c2) := B1.out.cell 2
    have y3 : w1.cell? ⟨w.heap.size, 3, none⟩ = some (.slice A3 nd c3) := B1.out.cell 3
    go_wp2_with fail
    refine (HBY.out _ T1.out).mono ?_
    rintro e w2 ⟨AB, cB, rfl, hs2, ht2⟩
    have S2 := Lib.hid hs2
    have T2 := Lib.hid (T1.out.trans ht2)
    have B2 := Lib.hid (B1.out.turn ht2 (fun h => h))
    clear ht2 y0 y1 y2 y3 T1 B1 hs2
    have y0 : w2.cell? ⟨w.heap.size, 0, none⟩ = some (.bool leaf) := B2.out.cell 0
    have y1 : w2.cell? ⟨w.heap.size, 1, none⟩ = some (.slice A1 nk c1) := B2.out.cell 1
    have y2 : w2.cell? ⟨w.heap.size, 2, none⟩ = some (.slice A2 nv c2) := B2.out.cell 2
    have y3 : w2.cell? ⟨w.heap.size, 3, none⟩ = some (.slice A3 nd c3) := B2.out.cell 3
    go_wp2_with fail
    refine (HRB.out _ T2.out).mono ?_
    rintro e w3 ⟨rfl, ht3⟩
    have S3 := Lib.hid (S2.out.turn8 ht3)
    have T3 := Lib.hid (T2.out.trans ht3)
    have B3 := Lib.hid (B2.out.turn ht3 (fun h => h))
    clear ht3 y0 y1 y2 y3 T2 B2 S2
    have HX : Hid (∀ X, Turn (fun _ => False) w3 X → X.cell? ⟨w.heap.size, 0, none⟩ = some (.bool leaf) ∧ X.cell? ⟨w.heap.size, 1, none⟩ = some (.slice A1 nk c1) ∧ X.cell? ⟨w.heap.size, 2, none⟩ = some (.slice A2 nv c2) ∧ X.cell? ⟨w.heap.size, 3, none⟩ = some (.slice A3 nd c3) ∧ (convert 28 9 (.slice AB PG.length cB)).run Try.prog X = .ok (.string RS) X) := Lib.hid (fun X hX => by
      have hb := B3.out.turn hX (fun h => h)
      exact ⟨hb.cell 0, hb.cell 1, hb.cell 2, hb.cell 3, by rw [← HRS.out]; exact sl_conv (S3.out.turn8 hX)⟩)
    go_wp2_with fail
    refine wp_region_noPanic ?_
    -- region
    refine wp_region_held_drew (S := fun X => X.cell? ⟨w.heap.size, 0, none⟩ = some (.bool leaf) ∧ X.cell? ⟨w.heap.size, 1, none⟩ = some (.slice A1 nk c1) ∧ X.cell? ⟨w.heap.size, 2, none⟩ = some (.slice A2 nv c2) ∧ X.cell? ⟨w.heap.size, 3, none⟩ = some (.slice A3 nd c3) ∧ (convert 28 9 (.slice AB PG.length cB)).run Try.prog X = .ok (.string RS) X) (by kernel_rfl) (HX.out _ (Turn.refl (fun _ => False) w3).drew) (fun hHeld => ?_)
    refine wpAnyH_take (i := 0) (v := ?_) rfl (by kernel_rfl) (by kernel_rfl) (by kernel_rfl) (fun _ _ _ h => h) (Or.inl ⟨by rfl, ?_⟩) (by assumption) ?_
    rotate_left 1
    · intro w' hSw
      obtain ⟨p0, p1, p2, p3, hcv⟩ := hSw
      go_simp
      all_goals first | with_reducible rfl | (rw [if_neg (by omega)]; done) | (rw [if_pos (by omega)]; done) | (rw [if_neg (by omega)]; with_reducible rfl) | (rw [if_pos (by omega)]; with_reducible rfl)
    try simp only [List.getElem_toArray, List.getElem_cons_zero, Act.put, List.setIfInBounds_toArray, List.set_cons_zero, List.set_cons_succ]
    refine wpAnyH_take (i := 2) (v := ?_) rfl (by kernel_rfl) (by kernel_rfl) (by kernel_rfl) (fun _ _ _ h => h) (Or.inl ⟨by rfl, ?_⟩) (by assumption) ?_
    rotate_left 1
    · intro w' hSw
      obtain ⟨p0, p1, p2, p3, hcv⟩ := hSw
      go_simp
      all_goals first | with_reducible rfl | (rw [if_neg (by omega)]; done) | (rw [if_pos (by omega)]; done) | (rw [if_neg (by omega)]; with_reducible rfl) | (rw [if_pos (by omega)]; with_reducible rfl)
    try simp only [List.getElem_toArray, List.getElem_cons_zero, List.getElem_cons_succ, Act.put, List.setIfInBounds_toArray, List.set_cons_zero, List.set_cons_succ]
    refine wpAnyH_ready (rs := [1]) (by kernel_rfl) (by simp) ?_
    refine AllReadyH.cons rfl (fun K hK => ?_) AllReadyH.nil
    refine step_call rfl 15 Try.f15 _ _ rfl Try.func15 (by kernel_rfl) (by kernel_rfl) _ _ (HSZ.out _ (T3.out.trans (Turn.refl (fun _ => False) w3).drew)) (by go_simp) ?_
    rintro v1 w4 ⟨rfl, ht1⟩
    have T4 : Hid (Turn (fun _ => False) w3 w4) := Lib.hid ((Turn.refl (fun _ => False) w3).drew.trans ht1)
    clear ht1
    refine hK.out _ _ (HX.out _ T4.out) (fun hHeld => ?_)
    clear hK K
    try simp only [List.getElem_toArray, List.getElem_cons_zero, List.getElem_cons_succ, Act.put, List.setIfInBounds_toArray, List.set_cons_zero, List.set_cons_succ]
    refine wpAnyH_ready (rs := [3]) (by kernel_rfl) (by simp) ?_
    refine AllReadyH.cons rfl (fun K hK => ?_) AllReadyH.nil
    refine step_call rfl 16 Try.f16 _ _ rfl Try.func16 (by kernel_rfl) (by kernel_rfl) _ _ (HRZ.out _ (T3.out.trans T4.out)) (by go_simp) ?_
    rintro v3 w5 ⟨rfl, ht3⟩
    have T5 : Hid (Turn (fun _ => False) w3 w5) := Lib.hid (T4.out.trans ht3)
    clear ht3
    refine hK.out _ _ (HX.out _ T5.out) (fun hHeld => ?_)
    clear hK K
    try simp only [List.getElem_toArray, List.getElem_cons_zero, List.getElem_cons_succ, Act.put, List.setIfInBounds_toArray, List.set_cons_zero, List.set_cons_succ]
    refine wpAnyH_take (i := 4) (v := ?_) rfl (by kernel_rfl) (by kernel_rfl) (by kernel_rfl) (fun _ _ _ h => h) (Or.inl ⟨by rfl, ?_⟩) (by assumption) ?_
    rotate_left 1
    · intro w' hSw
      go_simp
      all_goals first | with_reducible rfl | (rw [if_neg (by omega)]; done) | (rw [if_pos (by omega)]; done) | (rw [if_neg (by omega)]; with_reducible rfl) | (rw [if_pos (by omega)]; with_reducible rfl)
    try simp only [List.getElem_toArray, List.getElem_cons_zero, List.getElem_cons_succ, Act.put, List.setIfInBounds_toArray, List.set_cons_zero, List.set_cons_succ]
    refine wpAnyH_take (i := 5) (v := ?_) rfl (by kernel_rfl) (by kernel_rfl) (by kernel_rfl) (fun _ _ _ h => h) (Or.inl ⟨by rfl, ?_⟩) (by assumption) ?_
    rotate_left 1
    · intro w' hSw
      go_simp
      all_goals first | with_reducible rfl | (rw [if_neg (by omega)]; done) | (rw [if_pos (by omega)]; done) | (rw [if_neg (by omega)]; with_reducible rfl) | (rw [if_pos (by omega)]; with_reducible rfl)
    try simp only [List.getElem_toArray, List.getElem_cons_zero, List.getElem_cons_succ, Act.put, List.setIfInBounds_toArray, List.set_cons_zero, List.set_cons_succ]
    refine wpAnyH_take (i := 6) (v := ?_) rfl (by kernel_rfl) (by kernel_rfl) (by kernel_rfl) (fun _ _ _ h => h) (Or.inl ⟨by rfl, ?_⟩) (by assumption) ?_
    rotate_left 1
    · intro w' hSw
      obtain ⟨p0, p1, p2, p3, hcv⟩ := hSw
      go_simp
      all_goals first | with_reducible rfl | (rw [if_neg (by omega)]; done) | (rw [if_pos (by omega)]; done) | (rw [if_neg (by omega)]; with_reducible rfl) | (rw [if_pos (by omega)]; with_reducible rfl)
    try simp only [List.getElem_toArray, List.getElem_cons_zero, List.getElem_cons_succ, Act.put, List.setIfInBounds_toArray, List.set_cons_zero, List.set_cons_succ]
    refine wpAnyH_take (i := 8) (v := ?_) rfl (by kernel_rfl) (by kernel_rfl) (by kernel_rfl) (fun _ _ _ h => h) (Or.inl ⟨by rfl, ?_⟩) (by assumption) ?_
    rotate_left 1
    · intro w' hSw
      obtain ⟨p0, p1, p2, p3, hcv⟩ := hSw
      go_simp
      all_goals first | with_reducible rfl | (rw [if_neg (by omega)]; done) | (rw [if_pos (by omega)]; done) | (rw [if_neg (by omega)]; with_reducible rfl) | (rw [if_pos (by omega)]; with_reducible rfl)
    try simp only [List.getElem_toArray, List.getElem_cons_zero, List.getElem_cons_succ, Act.put, List.setIfInBounds_toArray, List.set_cons_zero, List.set_cons_succ]
    refine wpAnyH_ready (rs := [7]) (by kernel_rfl) (by simp) ?_
    refine AllReadyH.cons rfl (fun K hK => ?_) AllReadyH.nil
    refine step_call_on 17 Try.f17 _ _ rfl Try.func17 (by kernel_rfl) (by kernel_rfl) _ _ (HCK.out _ (T3.out.trans T5.out)) (by go_simp) (by first | rfl | go_simp) ?_
    rintro v7 w6 ⟨rfl, ht7⟩
    have T6 : Hid (Turn (fun _ => False) w3 w6) := Lib.hid (T5.out.trans ht7)
    clear ht7
    refine hK.out _ _ (HX.out _ T6.out) (fun hHeld => ?_)
    clear hK K
    try simp only [List.getElem_toArray, List.getElem_cons_zero, List.getElem_cons_succ, Act.put, List.setIfInBounds_toArray, List.set_cons_zero, List.set_cons_succ]
    refine wpAnyH_ready (rs := [9]) (by kernel_rfl) (by simp) ?_
    refine AllReadyH.cons rfl (fun K hK => ?_) AllReadyH.nil
    refine step_call_on 18 Try.f18 _ _ rfl Try.func18 (by kernel_rfl) (by kernel_rfl) _ _ (HRC.out _ (T3.out.trans T6.out)) (by go_simp) (by first | rfl | go_simp) ?_
    rintro v9 w7 ⟨rfl, ht9⟩
    have T7 : Hid (Turn (fun _ => False) w3 w7) := Lib.hid (T6.out.trans ht9)
    clear ht9
    refine hK.out _ _ (HX.out _ T7.out) (fun hHeld => ?_)
    clear hK K
    try simp only [List.getElem_toArray, List.getElem_cons_zero, List.getElem_cons_succ, Act.put, List.setIfInBounds_toArray, List.set_cons_zero, List.set_cons_succ]
    refine wpAnyH_take (i := 10) (v := ?_) rfl (by kernel_rfl) (by kernel_rfl) (by kernel_rfl) (fun _ _ _ h => h) (Or.inl ⟨by rfl, ?_⟩) (by assumption) ?_
    rotate_left 1
    · intro w' hSw
      go_simp
      all_goals first | with_reducible rfl | (rw [if_neg (by omega)]; done) | (rw [if_pos (by omega)]; done) | (rw [if_neg (by omega)]; with_reducible rfl) | (rw [if_pos (by omega)]; with_reducible rfl)
    try simp only [List.getElem_toArray, List.getElem_cons_zero, List.getElem_cons_succ, Act.put, List.setIfInBounds_toArray, List.set_cons_zero, List.set_cons_succ]
    refine wpAnyH_take (i := 11) (v := ?_) rfl (by kernel_rfl) (by kernel_rfl) (by kernel_rfl) (fun _ _ _ h => h) (Or.inl ⟨by rfl, ?_⟩) (by assumption) ?_
    rotate_left 1
    · intro w' hSw
      go_simp
      all_goals first | with_reducible rfl | (rw [if_neg (by omega)]; done) | (rw [if_pos (by omega)]; done) | (rw [if_neg (by omega)]; with_reducible rfl) | (rw [if_pos (by omega)]; with_reducible rfl)
    try simp only [List.getElem_toArray, List.getElem_cons_zero, List.getElem_cons_succ, Act.put, List.setIfInBounds_toArray, List.set_cons_zero, List.set_cons_succ]
    refine wpAnyH_take (i := 12) (v := ?_) rfl (by kernel_rfl) (by kernel_rfl) (by kernel_rfl) (fun _ _ _ h => h) (Or.inl ⟨by rfl, ?_⟩) (by assumption) ?_
    rotate_left 1
    · intro w' hSw
      go_simp
      all_goals first | with_reducible rfl | (rw [if_neg (by omega)]; done) | (rw [if_pos (by omega)]; done) | (rw [if_neg (by omega)]; with_reducible rfl) | (rw [if_pos (by omega)]; with_reducible rfl)
    try simp only [List.getElem_toArray, List.getElem_cons_zero, List.getElem_cons_succ, Act.put, List.setIfInBounds_toArray, List.set_cons_zero, List.set_cons_succ]
    refine wpAnyH_take (i := 13) (v := ?_) rfl (by kernel_rfl) (by kernel_rfl) (by kernel_rfl) (fun _ _ _ h => h) (Or.inl ⟨by rfl, ?_⟩) (by assumption) ?_
    rotate_left 1
    · intro w' hSw
      go_simp
      all_goals first | with_reducible rfl | (rw [if_neg (by omega)]; done) | (rw [if_pos (by omega)]; done) | (rw [if_neg (by omega)]; with_reducible rfl) | (rw [if_pos (by omega)]; with_reducible rfl)
    try simp only [List.getElem_toArray, List.getElem_cons_zero, List.getElem_cons_succ, Act.put, List.setIfInBounds_toArray, List.set_cons_zero, List.set_cons_succ]
    refine wpAnyH_take (i := 14) (v := ?_) rfl (by kernel_rfl) (by kernel_rfl) (by kernel_rfl) (fun _ _ _ h => h) (Or.inl ⟨by rfl, ?_⟩) (by assumption) ?_
    rotate_left 1
    · intro w' hSw
      obtain ⟨p0, p1, p2, p3, hcv⟩ := hSw
      go_simp
      all_goals first | with_reducible rfl | (rw [if_neg (by omega)]; done) | (rw [if_pos (by omega)]; done) | (rw [if_neg (by omega)]; with_reducible rfl) | (rw [if_pos (by omega)]; with_reducible rfl)
    try simp only [List.getElem_toArray, List.getElem_cons_zero, List.getElem_cons_succ, Act.put, List.setIfInBounds_toArray, List.set_cons_zero, List.set_cons_succ]
    refine wpAnyH_take (i := 15) (v := ?_) rfl (by kernel_rfl) (by kernel_rfl) (by kernel_rfl) (fun _ _ _ h => h) (Or.inl ⟨by rfl, ?_⟩) (by assumption) ?_
    rotate_left 1
    · intro w' hSw
      go_simp
      all_goals first | with_reducible rfl | (rw [if_neg (by omega)]; done) | (rw [if_pos (by omega)]; done) | (rw [if_neg (by omega)]; with_reducible rfl) | (rw [if_pos (by omega)]; with_reducible rfl)
    try simp only [List.getElem_toArray, List.getElem_cons_zero, List.getElem_cons_succ, Act.put, List.setIfInBounds_toArray, List.set_cons_zero, List.set_cons_succ]
    refine wpAnyH_take (i := 16) (v := ?_) rfl (by kernel_rfl) (by kernel_rfl) (by kernel_rfl) (fun _ _ _ h => h) (Or.inl ⟨by rfl, ?_⟩) (by assumption) ?_
    rotate_left 1
    · intro w' hSw
      go_simp
      all_goals first | with_reducible rfl | (rw [if_neg (by omega)]; done) | (rw [if_pos (by omega)]; done) | (rw [if_neg (by omega)]; with_reducible rfl) | (rw [if_pos (by omega)]; with_reducible rfl)
    try simp only [List.getElem_toArray, List.getElem_cons_zero, List.getElem_cons_succ, Act.put, List.setIfInBounds_toArray, List.set_cons_zero, List.set_cons_succ]
    refine wpAnyH_take (i := 17) (v := ?_) rfl (by kernel_rfl) (by kernel_rfl) (by kernel_rfl) (fun _ _ _ h => h) (Or.inl ⟨by rfl, ?_⟩) (by assumption) ?_
    rotate_left 1
    · intro w' hSw
      go_simp
      all_goals first | with_reducible rfl | (rw [if_neg (by omega)]; done) | (rw [if_pos (by omega)]; done) | (rw [if_neg (by omega)]; with_reducible rfl) | (rw [if_pos (by omega)]; with_reducible rfl)
    try simp only [List.getElem_toArray, List.getElem_cons_zero, List.getElem_cons_succ, Act.put, List.setIfInBounds_toArray, List.set_cons_zero, List.set_cons_succ]
    refine wpAnyH_take (i := 18) (v := ?_) rfl (by kernel_rfl) (by kernel_rfl) (by kernel_rfl) (fun _ _ _ h => h) (Or.inl ⟨by rfl, ?_⟩) (by assumption) ?_
    rotate_left 1
    · intro w' hSw
      go_simp
      all_goals first | with_reducible rfl | (rw [if_neg (by omega)]; done) | (rw [if_pos (by omega)]; done) | (rw [if_neg (by omega)]; with_reducible rfl) | (rw [if_pos (by omega)]; with_reducible rfl)
    try simp only [List.getElem_toArray, List.getElem_cons_zero, List.getElem_cons_succ, Act.put, List.setIfInBounds_toArray, List.set_cons_zero, List.set_cons_succ]
    refine wpAnyH_take (i := 19) (v := ?_) rfl (by kernel_rfl) (by kernel_rfl) (by kernel_rfl) (fun _ _ _ h => h) (Or.inl ⟨by rfl, ?_⟩) (by assumption) ?_
    rotate_left 1
    · intro w' hSw
      go_simp
      all_goals first | with_reducible rfl | (rw [if_neg (by omega)]; done) | (rw [if_pos (by omega)]; done) | (rw [if_neg (by omega)]; with_reducible rfl) | (rw [if_pos (by omega)]; with_reducible rfl)
    try simp only [List.getElem_toArray, List.getElem_cons_zero, List.getElem_cons_succ, Act.put, List.setIfInBounds_toArray, List.set_cons_zero, List.set_cons_succ]
    refine wpAnyH_take (i := 20) (v := ?_) rfl (by kernel_rfl) (by kernel_rfl) (by kernel_rfl) (fun _ _ _ h => h) (Or.inl ⟨by rfl, ?_⟩) (by assumption) ?_
    rotate_left 1
    · intro w' hSw
      go_simp
      all_goals first | with_reducible rfl | (rw [if_neg (by omega)]; done) | (rw [if_pos (by omega)]; done) | (rw [if_neg (by omega)]; with_reducible rfl) | (rw [if_pos (by omega)]; with_reducible rfl)
    try simp only [List.getElem_toArray, List.getElem_cons_zero, List.getElem_cons_succ, Act.put, List.setIfInBounds_toArray, List.set_cons_zero, List.set_cons_succ]
    refine wpAnyH_take (i := 21) (v := ?_) rfl (by kernel_rfl) (by kernel_rfl) (by kernel_rfl) (fun _ _ _ h => h) (Or.inl ⟨by rfl, ?_⟩) (by assumption) ?_
    rotate_left 1
    · intro w' hSw
      go_simp
      all_goals first | with_reducible rfl | (rw [if_neg (by omega)]; done) | (rw [if_pos (by omega)]; done) | (rw [if_neg (by omega)]; with_reducible rfl) | (rw [if_pos (by omega)]; with_reducible rfl)
    try simp only [List.getElem_toArray, List.getElem_cons_zero, List.getElem_cons_succ, Act.put, List.setIfInBounds_toArray, List.set_cons_zero, List.set_cons_succ]
    refine wpAnyH_take (i := 22) (v := ?_) rfl (by kernel_rfl) (by kernel_rfl) (by kernel_rfl) (fun _ _ _ h => h) (Or.inl ⟨by rfl, ?_⟩) (by assumption) ?_
    rotate_left 1
    · intro w' hSw
      go_simp
      all_goals first | with_reducible rfl | (rw [if_neg (by omega)]; done) | (rw [if_pos (by omega)]; done) | (rw [if_neg (by omega)]; with_reducible rfl) | (rw [if_pos (by omega)]; with_reducible rfl)
    try simp only [List.getElem_toArray, List.getElem_cons_zero, List.getElem_cons_succ, Act.put, List.setIfInBounds_toArray, List.set_cons_zero, List.set_cons_succ]
    refine wpAnyH_take (i := 23) (v := ?_) rfl (by kernel_rfl) (by kernel_rfl) (by kernel_rfl) (fun _ _ _ h => h) (Or.inl ⟨by rfl, ?_⟩) (by assumption) ?_
    rotate_left 1
    · intro w' hSw
      go_simp
      all_goals first | with_reducible rfl | (rw [if_neg (by omega)]; done) | (rw [if_pos (by omega)]; done) | (rw [if_neg (by omega)]; with_reducible rfl) | (rw [if_pos (by omega)]; with_reducible rfl)
    try simp only [List.getElem_toArray, List.getElem_cons_zero, List.getElem_cons_succ, Act.put, List.setIfInBounds_toArray, List.set_cons_zero, List.set_cons_succ]
    refine wpAnyH_ready (rs := [24]) (by kernel_rfl) (by simp) ?_
    refine AllReadyH.cons rfl (fun K hK => ?_) AllReadyH.nil
    refine step_call_on 12 Try.f12 _ _ rfl Try.func12 (by kernel_rfl) (by kernel_rfl) _ _ (HLV.out _) (by go_simp) (by first | rfl | go_simp) ?_
    rintro v24 w9 ⟨rfl, ht24⟩
    have T9 : Hid (Turn (fun _ => False) w3 w9) := Lib.hid (T7.out.trans ht24)
    clear ht24
    refine hK.out _ _ (HX.out _ T9.out) (fun hHeld => ?_)
    clear hK K
    try simp only [List.getElem_toArray, List.getElem_cons_zero, List.getElem_cons_succ, Act.put, List.setIfInBounds_toArray, List.set_cons_zero, List.set_cons_succ]
    refine wpAnyH_take (i := 25) (v := ?_) rfl (by kernel_rfl) (by kernel_rfl) (by kernel_rfl) (fun _ _ _ h => h) (Or.inl ⟨by rfl, ?_⟩) (by assumption) ?_
    rotate_left 1
    · intro w' hSw
      go_simp
      all_goals first | with_reducible rfl | (rw [if_neg (by omega)]; done) | (rw [if_pos (by omega)]; done) | (rw [if_neg (by omega)]; with_reducible rfl) | (rw [if_pos (by omega)]; with_reducible rfl)
    try simp only [List.getElem_toArray, List.getElem_cons_zero, List.getElem_cons_succ, Act.put, List.setIfInBounds_toArray, List.set_cons_zero, List.set_cons_succ]
    refine wpAnyH_take (i := 26) (v := ?_) rfl (by kernel_rfl) (by kernel_rfl) (by kernel_rfl) (fun _ _ _ h => h) (Or.inl ⟨by rfl, ?_⟩) (by assumption) ?_
    rotate_left 1
    · intro w' hSw
      go_simp
      all_goals first | with_reducible rfl | (rw [if_neg (by omega)]; done) | (rw [if_pos (by omega)]; done) | (rw [if_neg (by omega)]; with_reducible rfl) | (rw [if_pos (by omega)]; with_reducible rfl)
    try simp only [List.getElem_toArray, List.getElem_cons_zero, List.getElem_cons_succ, Act.put, List.setIfInBounds_toArray, List.set_cons_zero, List.set_cons_succ]
    refine wpAnyH_done (by kernel_rfl) ?_ _
    refine NoPanic.normal ?_
    -- region end
    go_wp2_with fail
    go_ret
    exact ⟨rfl, turn_below8 (T3.out.trans T9.out)⟩
end Go.Proofs.Ytjjjacmpccimkaa
