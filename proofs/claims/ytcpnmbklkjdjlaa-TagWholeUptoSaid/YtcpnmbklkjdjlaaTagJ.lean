/- Layer 3: the document's answer: Join. -/
import Derived.Test.YtcpnmbklkjdjlaaTagI
import Derived.Deep.DeepCutAuto
namespace Go.Proofs.Ytcpnmbklkjdjlaa
open Go.RowKit
set_option linter.unusedVariables false

/-- What Join's own frame keeps of a world: the second tag's cells, the result's. -/
def Kp (w W : World) (b1 b2 : Int) : Prop := Blk W (w.heap.size + 1) 28 [.int .i64 b1, .int .i64 b2] ∧ Blk W (w.heap.size + 1 + 1) 28 [.int .i64 0, .int .i64 0] ∧ Below w.heap.size w W ∧ w.heap.size + 5 ≤ W.heap.size
theorem Kp.below {w W W' : World} {b1 b2 : Int} (h : Kp w W b1 b2) (hb : Below W.heap.size W W') : Kp w W' b1 b2 :=
  ⟨h.1.below hb (by have := h.2.2.2; omega), h.2.1.below hb (by have := h.2.2.2; omega), h.2.2.1.trans (hb.mono h.2.2.1.size), by have := h.2.2.2; have := hb.size; omega⟩
theorem Kp.drew {w W : World} {b1 b2 : Int} (h : Kp w W b1 b2) : Kp w W.drew b1 b2 := ⟨h.1, h.2.1, h.2.2.1.drew, h.2.2.2⟩
theorem Kp.alloc {w W : World} {b1 b2 : Int} (h : Kp w W b1 b2) (o : Obj) : Kp w (W.alloc o) b1 b2 := ⟨h.1.alloc o, h.2.1.alloc o, h.2.2.1.alloc h.2.2.1.size o, by have := h.2.2.2; simp; omega⟩
theorem Kp.set {w W : World} {b1 b2 : Int} (h : Kp w W b1 b2) (g o : Nat) (u : Value) (hg : w.heap.size + 3 ≤ g) : Kp w (W.setCell ⟨g, o, none⟩ u) b1 b2 :=
  ⟨h.1.far (by simp; omega) u, h.2.1.far (by simp; omega) u, h.2.2.1.setCell (by simp; omega) u, by have := h.2.2.2; simpa [World.setCell] using this⟩

set_option maxRecDepth 100000 in
set_option maxHeartbeats 2000000 in
theorem refJoin_ok (a b : Int × Int) (n : Nat) (hn : n < 9223372036854775808) (ha : rt a = true) (hb : rt b = true) (w : World) :
    Calls Try.prog 17 #[tv a, tv b, .int .i64 n] w fun e w' => e = .returned (.tuple #[tv (jn a b n), .int .i64 0]) ∧ Below w.heap.size w w' := by
  have hA := rt_yes ha
  have hB := rt_yes hb
  have HRA := Lib.hid (refRight_new a)
  have HRB := Lib.hid (refRight_new b)
  rw [ha] at HRA
  rw [hb] at HRB
  have HP := Lib.hid (refPower_any n hn)
  have HT := Lib.hid (times_any a (gq n) hA (gq_lt n))
  have HJ := Lib.hid (jn_q2 a b n)
  have hR := gr_lt (gm a (gq n))
  generalize gq n = Q at *
  unfold tv at *
  generalize gr (gm a Q) = R at *
  obtain ⟨a1, a2⟩ := a
  obtain ⟨b1, b2⟩ := b
  obtain ⟨r1, r2⟩ := R
  simp only at hA hB hR
  have HL1 := Lib.hid (left_any (r1 + b1) (by omega) (by omega))
  have HL2 := Lib.hid (left_any (r2 + b2) (by omega) (by omega))
  have e1 := wrap_of (r1 + b1) (by omega) (by omega)
  have e2 := wrap_of (r2 + b2) (by omega) (by omega)
  clear ha hb hA hB hR
  go_enter Try.func17, Try.ntmps17
  go_upto_region 3 with (first
    | (go_at_call_of 32 (Value.agg #[Value.int .i64 a1, Value.int .i64 a2]); refine (HRA.out _).mono ?_; rintro e w1 ⟨rfl, rfl⟩)
    | (go_at_call_of 32 (Value.agg #[Value.int .i64 b1, Value.int .i64 b2]); refine (HRB.out _).mono ?_; rintro e w2 ⟨rfl, rfl⟩))
  have hA1 : Hid (Blk ((((((w.alloc (.cells #[.int .i64 a1, .int .i64 a2] 28)).alloc (.cells #[.int .i64 b1, .int .i64 b2] 28)).alloc (.cells #[.int .i64 0, .int .i64 0] 28)).alloc (.cells #[.int .i64 a1, .int .i64 a2] 28)).alloc (.cells #[.int .i64 b1, .int .i64 b2] 28))) w.heap.size 28 [.int .i64 a1, .int .i64 a2] ∧ Blk (((((w.alloc (.cells #[.int .i64 a1, .int .i64 a2] 28)).alloc (.cells #[.int .i64 b1, .int .i64 b2] 28)).alloc (.cells #[.int .i64 0, .int .i64 0] 28)).alloc (.cells #[.int .i64 a1, .int .i64 a2] 28)).alloc (.cells #[.int .i64 b1, .int .i64 b2] 28)) (w.heap.size + 1) 28 [.int .i64 b1, .int .i64 b2] ∧
    Blk (((((w.alloc (.cells #[.int .i64 a1, .int .i64 a2] 28)).alloc (.cells #[.int .i64 b1, .int .i64 b2] 28)).alloc (.cells #[.int .i64 0, .int .i64 0] 28)).alloc (.cells #[.int .i64 a1, .int .i64 a2] 28)).alloc (.cells #[.int .i64 b1, .int .i64 b2] 28)) (w.heap.size + 1 + 1) 28 [.int .i64 0, .int .i64 0]) :=
    ⟨((((Blk.new w _ [.int .i64 a1, .int .i64 a2]).alloc _).alloc _).alloc _).alloc _, ((((Blk.new_ _ _ [.int .i64 b1, .int .i64 b2] (by simp))).alloc _).alloc _).alloc _, (((Blk.new_ _ _ [.int .i64 0, .int .i64 0] (by simp))).alloc _).alloc _⟩
  have hB1 : Hid (Below w.heap.size w (((((w.alloc (.cells #[.int .i64 a1, .int .i64 a2] 28)).alloc (.cells #[.int .i64 b1, .int .i64 b2] 28)).alloc (.cells #[.int .i64 0, .int .i64 0] 28)).alloc (.cells #[.int .i64 a1, .int .i64 a2] 28)).alloc (.cells #[.int .i64 b1, .int .i64 b2] 28))) :=
    ((((((Below.refl _ _).alloc (Nat.le_refl _) _).alloc (by simp) _).alloc (by simp; omega) _).alloc (by simp; omega) _).alloc (by simp; omega) _)
  have hs1 : w.heap.size + 5 ≤ (((((w.alloc (.cells #[.int .i64 a1, .int .i64 a2] 28)).alloc (.cells #[.int .i64 b1, .int .i64 b2] 28)).alloc (.cells #[.int .i64 0, .int .i64 0] 28)).alloc (.cells #[.int .i64 a1, .int .i64 a2] 28)).alloc (.cells #[.int .i64 b1, .int .i64 b2] 28)).heap.size := by simp
  generalize (((((w.alloc (.cells #[.int .i64 a1, .int .i64 a2] 28)).alloc (.cells #[.int .i64 b1, .int .i64 b2] 28)).alloc (.cells #[.int .i64 0, .int .i64 0] 28)).alloc (.cells #[.int .i64 a1, .int .i64 a2] 28)).alloc (.cells #[.int .i64 b1, .int .i64 b2] 28)) = W at *
  obtain ⟨x0, x1, f0, f1⟩ := blk2 hA1.out.1
  have hs0 : w.heap.size < W.heap.size := by omega
  have hk : Kp w W b1 b2 := ⟨hA1.out.2.1, hA1.out.2.2, hB1.out, hs1⟩
  have HKP := Lib.hid hk
  clear hk
  go_cut [8] (fun s8 wx => ∃ g : Nat, s8 = .pointer (some ⟨g, 0, none⟩) ∧ Blk wx g 28 [.int .i64 r1, .int .i64 r2] ∧ Blk wx (w.heap.size + 1) 28 [.int .i64 b1, .int .i64 b2] ∧ Blk wx (w.heap.size + 1 + 1) 28 [.int .i64 0, .int .i64 0] ∧ Below w.heap.size w wx)
  case first =>
    go_region_with (first
      | (go_at_call 34; refine (HP.out _).mono ?_; rintro e wp ⟨rfl, hbp⟩; have hsp := hbp.size; (try simp at hsp); have HXA := Lib.hid (bblk hbp (by first | exact hA1.out.1 | exact hA1.out.1.alloc _ : Blk _ w.heap.size 28 [.int .i64 a1, .int .i64 a2]) (by first | omega | (simp; done) | (simp; omega))); obtain ⟨xp0, xp1, fp0, fp1⟩ := blk2 HXA.out; obtain ⟨hcp, hfp⟩ := bcell hbp; have hsp4 : w.heap.size < wp.heap.size := (by omega); (try (have hsp3 : W.heap.size < wp.heap.size := (by omega))))
      | (go_at_call 33; refine (HT.out _).mono ?_; rintro e wt ⟨rfl, hbt⟩; have hst := hbt.size; (try simp at hst); obtain ⟨hct, hft⟩ := bcell hbt; (try (have hst3 : wp.heap.size < wt.heap.size := (by omega)))))
    all_goals (go_wp2_with fail; go_meet)
    all_goals have hk := HKP.out
    all_goals first
      | (have k := (((hk.drew).below hbp).below hbt).alloc (.cells #[.int .i64 r1, .int .i64 r2] 28); exact ⟨wt.heap.size, rfl, Blk.new wt _ [.int .i64 r1, .int .i64 r2], k.1, k.2.1, k.2.2.1⟩)
      | (have k := ((((hk.drew).below hbp).alloc (.cells #[.int .i64 0, .int .i64 0] 28)).below hbt).set wp.heap.size 0 (.int .i64 r1) (by omega) |>.set wp.heap.size 1 (.int .i64 r2) (by omega); exact ⟨wp.heap.size, rfl, blk2_put (bblk hbt (Blk.new wp _ [.int .i64 0, .int .i64 0]) (by simp)), k.1, k.2.1, k.2.2.1⟩)
      | (have k := ((((hk.alloc (.cells #[.int .i64 0, .int .i64 0] 28)).drew).below hbp).below hbt).set W.heap.size 0 (.int .i64 r1) (by omega) |>.set W.heap.size 1 (.int .i64 r2) (by omega); exact ⟨W.heap.size, rfl, blk2_put (bblk hbt (bblk hbp (Blk.new W _ [.int .i64 0, .int .i64 0]) (by simp)) (by omega)), k.1, k.2.1, k.2.2.1⟩)
  case rest =>
    obtain ⟨g, rfl, hG, hBB, hRR, hbw⟩ := hcut
    obtain ⟨y0, y1, g0, g1⟩ := blk2 hG
    obtain ⟨z0, z1, q0, q1⟩ := blk2 hBB
    obtain ⟨v0, v1, u0, u1⟩ := blk2 hRR
    have hsz := hRR.lt
    go_wp2
    refine wp_region_still_tail 12 (by kernel_rfl) (by kernel_rfl) ?_
    simp only [List.take_succ_cons, List.take_zero, List.drop_succ_cons, List.drop_zero]
    change wpStill _ _ (World.drew _) _ _ _
    repeat still_step
    still_call ((HL1.out _).mono fun _ _ h => ⟨h.1, h.2.symm⟩)
    repeat still_step
    still_call ((HL2.out _).mono fun _ _ h => ⟨h.1, h.2.symm⟩)
    repeat still_step
    refine wpStill_nil ?_
    change wpList _ _ _ _ _ (World.drew _)
    go_wp2
    rw [← HJ.out]
    exact bodyPost_ret (v := .tuple #[.agg #[.int .i64 (left (r1 + b1)), .int .i64 (left (r2 + b2))], .int .i64 0]) (by simp [results, Try.results17, go_sem, v0, v1]) rfl ⟨rfl, (hbw.drew.setCell (by simp; omega) _).setCell (by simp; omega) _⟩

set_option maxRecDepth 100000 in
set_option maxHeartbeats 1000000 in
theorem refJoin_no (a b : Int × Int) (n : Int) (h : rt a = false ∨ rt b = false ∨ n < 0) (w : World) :
    Calls Try.prog 17 #[tv a, tv b, .int .i64 n] w fun e w' => e = .returned (.tuple #[tv (0, 0), .int .i64 2]) ∧ Below w.heap.size w w' := by
  have HRA := Lib.hid (refRight_new a)
  have HRB := Lib.hid (refRight_new b)
  have key : (rt a = false) ∨ (rt a = true ∧ rt b = false) ∨ (rt a = true ∧ rt b = true ∧ n < 0) := by
    cases ha : rt a
    · exact .inl rfl
    · cases hb : rt b
      · exact .inr (.inl ⟨rfl, rfl⟩)
      · rcases h with h | h | h
        · rw [h] at ha; cases ha
        · rw [h] at hb; cases hb
        · exact .inr (.inr ⟨rfl, rfl, h⟩)
  unfold tv at *
  generalize rt a = ra at *
  generalize rt b = rb at *
  obtain ⟨a1, a2⟩ := a
  obtain ⟨b1, b2⟩ := b
  clear h
  rcases key with rfl | ⟨rfl, rfl⟩ | ⟨rfl, rfl, h3⟩
  all_goals
    go_enter Try.func17, Try.ntmps17
    go_wp2_with (first
      | (go_at_call_of 32 (Value.agg #[Value.int .i64 a1, Value.int .i64 a2]); refine (HRA.out _).mono ?_; rintro e w1 ⟨rfl, rfl⟩)
      | (go_at_call_of 32 (Value.agg #[Value.int .i64 b1, Value.int .i64 b2]); refine (HRB.out _).mono ?_; rintro e w2 ⟨rfl, rfl⟩))
    exact bodyPost_ret (v := .tuple #[.agg #[.int .i64 0, .int .i64 0], .int .i64 2]) (by simp [results, Try.results17, go_sem]) rfl ⟨rfl, by repeat (first | exact Below.refl _ _ | (refine Below.alloc ?_ (by simp; omega) _) | (refine Below.alloc ?_ (by simp) _) | refine Below.drew ?_ | (refine Below.setCell ?_ (by simp; omega) _) | (refine Below.setCell ?_ (by simp) _))⟩

theorem refJoin_any (a b : Int × Int) (n : Int) (hn : n ≤ 9223372036854775807) (w : World) :
    Calls Try.prog 17 #[tv a, tv b, .int .i64 n] w fun e w' => e = .returned (.tuple #[tv (jv a b n), .int .i64 (je a b n)]) ∧ Below w.heap.size w w' := by
  cases h : jok a b n
  · unfold jv je; rw [h]
    refine refJoin_no a b n ?_ w
    unfold jok at h
    cases ha : rt a
    · exact .inl rfl
    · cases hb : rt b
      · exact .inr (.inl rfl)
      · rw [ha, hb] at h; simp at h; exact .inr (.inr h)
  · unfold jv je; rw [h]
    unfold jok at h
    rw [Bool.and_eq_true, Bool.and_eq_true, decide_eq_true_eq] at h
    have e := Int.toNat_of_nonneg h.2
    have := refJoin_ok a b n.toNat (by omega) h.1.1 h.1.2 w
    rw [e] at this
    exact this
end Go.Proofs.Ytcpnmbklkjdjlaa
