/- The walk of ambrylaw03.TagWhole. -/
import Derived.Test.YtcpnmbklkjdjlaaTagSumsW
import Derived.Deep.RegionHeld3
namespace Go.Proofs.Ytcpnmbklkjdjlaa
open Go.RowKit
set_option linter.unusedVariables false

theorem of_v (v : Value) (l : List UInt8) (w : World) (B : Nat) (hl : l.length ≤ 140737488355328) (h : Sl w B v l) (hB : B ≤ w.heap.size) :
    Calls Try.prog 14 #[v] w fun e w' => ∃ x, e = .returned x ∧ (x = tv (tagl l) ∧ Below w.heap.size w w') :=
  (of_any v l w hl (h.more hB)).mono fun _ _ h => ⟨_, h.1, rfl, h.2⟩
theorem lives3_v (w : World) : Calls Try.prog 13 #[] w fun e w' => ∃ x, e = .returned x ∧ (x = .bool true ∧ Below w.heap.size w w') :=
  (lives3_any w).mono fun _ _ h => ⟨_, h.1, rfl, h.2⟩

set_option maxRecDepth 100000 in
set_option maxHeartbeats 8000000 in
theorem tagWhole_walk (va : Value) (a : List UInt8) (vb : Value) (b : List UInt8) (w : World) (hsa : Sl w w.heap.size va a) (hba : a.length ≤ 1048576) (hsb : Sl w w.heap.size vb b) (hbb : b.length ≤ 1048576) :
    Calls Try.prog 8 #[va, vb] w fun e w' => e = .returned (.bool true) ∧ Below w.heap.size w w' := by
  obtain ⟨i0, hi, hz0, hz1, hz2⟩ := info_parts Try.info5
  have HI := Lib.hid hi
  have HA := Lib.hid hsa
  have HB := Lib.hid hsb
  have HOA := Lib.hid (of_any va a)
  have HOB := Lib.hid (of_any vb b)
  have HJ := Lib.hid (join_ok (tagl a) (tagl b) b.length (by omega) (rt_of (tagl_lt a)) (rt_of (tagl_lt b)))
  have HT := Lib.hid (tagl_app a b)
  rw [← HT.out] at HJ
  obtain ⟨T, hT⟩ : ∃ T, tagl (a ++ b) = T := ⟨_, rfl⟩
  have HTT := Lib.hid hT
  rw [hT] at HJ
  generalize tagl a = ta at *
  generalize tagl b = tb at *
  clear hT hi hsa
  obtain ⟨ta1, ta2⟩ := ta
  obtain ⟨tb1, tb2⟩ := tb
  obtain ⟨t1, t2⟩ := T
  unfold tv at HOA HOB HJ
  obtain ⟨AB, capb, rfl, hrb⟩ := hsb
  clear hrb
  go_enter Try.func8, Try.ntmps8
  go_wp2_with fail
  refine (HOA.out _ (by omega) HA.out).mono ?_
  rintro e w1 ⟨rfl, hb1⟩
  go_wp2_with fail
  refine (HOB.out _ (by omega) ((HB.out.below hb1 (Nat.le_refl _)).more hb1.size)).mono ?_
  rintro e w2 ⟨rfl, hb2⟩
  have B2 := Lib.hid (hb1.trans (hb2.mono hb1.size))
  go_wp2_with fail
  refine (HJ.out _).mono ?_
  rintro e w3 ⟨rfl, hb3⟩
  have B3 := Lib.hid (B2.out.trans (hb3.mono B2.out.size))
  go_wp2_with fail
  obtain ⟨W, hW⟩ : ∃ W, w3.alloc (.cells #[.int .i64 t1, .int .i64 t2] 28) = W := ⟨_, rfl⟩
  have BW : Hid (Below w.heap.size w W) := by rw [← hW]; exact B3.out.alloc B3.out.size _
  have HBLK : Hid (Blk W w3.heap.size 28 [.int .i64 t1, .int .i64 t2]) := by rw [← hW]; exact Blk.new _ _ [.int .i64 t1, .int .i64 t2]
  have hlt := HBLK.out.lt
  have SA := Lib.hid (HA.out.below BW.out (Nat.le_refl _))
  have SB := Lib.hid (HB.out.below BW.out (Nat.le_refl _))
  rw [hW]
  clear hW hb1 hb2 hb3
  obtain ⟨x0, x1, f0, f1⟩ := blk2 HBLK.out
  have HOF : Hid (∀ (v : Value) (w : World), Sl w w.heap.size v (a ++ b) → Calls Try.prog 14 #[v] w fun e w' => ∃ x, e = .returned x ∧ (x = .agg #[.int .i64 t1, .int .i64 t2] ∧ Below w.heap.size w w')) := by
    intro v w h
    refine (of_any v (a ++ b) w (by simp; omega) h).mono fun _ _ h => ⟨_, h.1, ?_, h.2⟩
    rw [HTT.out]; rfl
  go_region_held3 (fun w' => w'.cell? ⟨w3.heap.size, 0, none⟩ = some (.int .i64 t1) ∧ w'.cell? ⟨w3.heap.size, 1, none⟩ = some (.int .i64 t2))
    (first
      | exact ⟨x0, x1⟩
      | exact ⟨(hcL _ _ hlt7).trans ((hc7 _ _ hlt).trans x0), (hcL _ _ hlt7).trans ((hc7 _ _ hlt).trans x1)⟩
      | exact ⟨(hc7 _ _ hlt).trans x0, (hc7 _ _ hlt).trans x1⟩
      | exact ⟨(hc6 _ _ hlt).trans x0, (hc6 _ _ hlt).trans x1⟩
      | exact ⟨(hc5 _ _ hlt).trans x0, (hc5 _ _ hlt).trans x1⟩
      | exact ⟨(HBLK.out.drew.alloc _).cell 0, (HBLK.out.drew.alloc _).cell 1⟩)
    (first
    | (refine step_app_bytes _ rfl _ _ 22 rfl W.heap.size w.heap.size 5 i0 Try.underlying22 HI.out hz0 hz1 hz2 (.slice (some ⟨W.heap.size, 0, none⟩) 0 0) va [] a rfl rfl (own_empty W.drew W.heap.size 5 (Nat.le_refl _)) (SA.out.below (((Below.refl W.heap.size W).drew).alloc (Nat.le_refl _) _) BW.out.size) (by simp; omega) (by simp) ?_; intro v5 w5 ho5 hg5; have HO5 := Lib.hid ho5; have hb5 := grown_below hg5 (own_empty W.drew W.heap.size 5 (Nat.le_refl _)) (by simp); have HB5 : Hid (Below W.heap.size W w5) := (((Below.refl W.heap.size W).drew).alloc (Nat.le_refl _) _).trans hb5; obtain ⟨hc5, hf5⟩ := bcell HB5.out; clear ho5 hg5 hb5)
    | (refine step_app_bytes _ rfl _ _ 22 rfl W.heap.size w.heap.size 5 i0 Try.underlying22 HI.out hz0 hz1 hz2 v5 (.slice AB b.length capb) ([] ++ a) b rfl rfl HO5.out (SB.out.below HB5.out BW.out.size) (by simp; omega) HB5.out.size ?_; intro v6 w6 ho6 hg6; have HO6 := Lib.hid ho6; have hb6 := grown_below hg6 HO5.out HB5.out.size; have HB6 : Hid (Below W.heap.size W w6) := HB5.out.trans hb6; obtain ⟨hc6, hf6⟩ := bcell HB6.out; have hz6 := HB6.out.size; have hz6a : w3.heap.size < w6.heap.size := (by omega); clear ho6 hg6 hb6)
    | (refine step_call rfl 14 Try.f14 _ _ rfl Try.func14 (by kernel_rfl) (by kernel_rfl) _ _ (HOF.out v6 w6 (Sl.of_own HO6.out)) (by go_simp) ?_; rintro v7 w7 ⟨rfl, hb7⟩; have HB7 : Hid (Below W.heap.size W w7) := HB6.out.trans (hb7.mono HB6.out.size); obtain ⟨hc7, hf7⟩ := bcell HB7.out)
    | (refine step_call_on 13 Try.f13 _ _ rfl Try.func13 (by kernel_rfl) (by kernel_rfl) _ _ (lives3_v _) (by go_simp) (by first | (go_simp; done) | rfl) ?_; rintro vL wL ⟨rfl, hbL⟩; obtain ⟨hcL, hfL⟩ := bcell hbL; have hlt7 : w3.heap.size < w7.heap.size := (by have := HB7.out.size; omega)))
  all_goals go_wp2_with fail
  all_goals go_ret
  all_goals exact ⟨rfl, (BW.out.trans (HB7.out.mono BW.out.size)).trans (hbL.mono (by have := BW.out.size; have := HB7.out.size; omega))⟩
end Go.Proofs.Ytcpnmbklkjdjlaa
