/- Layer 5: Read in all; the document's Read. -/
import Derived.Test.YtpccelebidiekaaSltG
import Derived.Deep.RegionHeld3
import Derived.Deep.CutRange
import Derived.Deep.DeepCutAuto
namespace Go.Proofs.Ytpccelebidiekaa
open Go.RowKit
set_option linter.unusedVariables false
set_option maxRecDepth 100000

/-- What Read answers. -/
def rdo (o : Option St) : Value := match o with
  | some s => .tuple #[stv s, .int .i64 0]
  | none => .tuple #[.agg #[.int .i64 0, .int .i64 0, .bool false, .bool false, .string ⟨#[]⟩], .int .i64 4]
theorem read5_any (v : Value) (l : List UInt8) (w : World) (hv : Sl w w.heap.size v l) :
    Calls Try.prog 17 #[v] w fun e w' => e = .returned (rdo (read5 l)) ∧ Below w.heap.size w w' := by
  by_cases hl : l.length = 128
  · by_cases hn : num 2 l 14 ≤ 108
    · refine (read5_yes v l w hv hl hn).mono ?_
      rintro e w' ⟨rfl, hb⟩
      refine ⟨?_, hb⟩
      by_cases hr : r5 (parse5 l) = true ∧ put5 (parse5 l) = l
      · rw [if_pos hr, show read5 l = some (parse5 l) from by unfold read5; rw [if_pos ⟨hl, hn, hr⟩]]; rfl
      · rw [if_neg hr, show read5 l = none from by unfold read5; rw [if_neg (fun h => hr h.2.2)]]; rfl
    · rw [show read5 l = none from by unfold read5; rw [if_neg (fun h => hn h.2.1)]]
      have HV := hv
      obtain ⟨A, cap, rfl, hr, hm, hnil, hle⟩ := hv
      refine read5_no A l.length cap w (fun W hb hz => ?_)
      have := fields5_any _ l W ((HV.below hb (Nat.le_refl _)).more hz) hl
      rw [if_neg hn] at this
      exact this
  · rw [show read5 l = none from by unfold read5; rw [if_neg (fun h => hl h.1)]]
    obtain ⟨A, cap, rfl, hr, hm, hnil, hle⟩ := hv
    exact read5_no A l.length cap w (fun W hb hz => fields5_len A l.length cap hl W)
set_option maxHeartbeats 4000000 in
theorem refRead5_short (S : ByteArray) (h : S.size ≠ 128) (w : World) :
    Calls Try.prog 18 #[.string S] w fun e w' => e = .returned (rdo none) ∧ Below w.heap.size w w' := by
  have hq : ((S.size : Int) == 128) = false := by simp; omega
  have hq2 : ((S.size : Int) != 128) = true := by simp; omega
  clear h
  go_enter Try.func18, Try.ntmps18
  go_wp2
  exact bodyPost_ret (v := .tuple #[.agg #[.int .i64 0, .int .i64 0, .bool false, .bool false, .string ⟨#[]⟩], .int .i64 4]) (by simp [results, Try.results18, go_sem]) rfl ⟨rfl, by
    repeat (first | exact (Below.refl _ _) | refine Below.setCell ?_ (by simp) _ | refine Below.alloc ?_ (by simp) _)⟩
theorem num_ref5 (S : ByteArray) (l : List UInt8) (hS : S = ⟨l.toArray⟩) (hl : l.length = 128) :
    (∀ W, Calls Try.prog 46 #[.string S, .int .i64 14, .int .i64 2] W fun e w' => e = .returned (.int .i64 (num 2 l 14 : Nat)) ∧ W = w') ∧
    (∀ W, Calls Try.prog 46 #[.string S, .int .i64 2, .int .i64 4] W fun e w' => ∃ v, e = .returned v ∧ v = .int .i64 (num 4 l 2 : Nat) ∧ W = w') ∧
    (∀ W, Calls Try.prog 46 #[.string S, .int .i64 6, .int .i64 8] W fun e w' => ∃ v, e = .returned v ∧ v = .int .i64 (wrap64 (num 8 l 6 : Nat)) ∧ W = w') := by
  have b2 : num 2 l 14 < 65536 := by have := num_lt 2 l 14; simpa using this
  have b4 : num 4 l 2 < 4294967296 := by have := num_lt 4 l 2; simpa using this
  have w2 : wrap64 (num 2 l 14 : Nat) = (num 2 l 14 : Nat) := IntWalk.wrap64_in _ ⟨by omega, by omega⟩
  have w4 : wrap64 (num 4 l 2 : Nat) = (num 4 l 2 : Nat) := IntWalk.wrap64_in _ ⟨by omega, by omega⟩
  refine ⟨fun W => ?_, fun W => ?_, fun W => ?_⟩
  · have := refNumber_any S l hS 14 2 (by decide) (by omega) (by omega) W
    rw [w2] at this
    exact this
  · have := refNumber_any S l hS 2 4 (by decide) (by omega) (by omega) W
    rw [w4] at this
    exact this.mono (fun e w' h => ⟨_, h.1, rfl, h.2⟩)
  · have := refNumber_any S l hS 6 8 (by decide) (by omega) (by omega) W
    exact this.mono (fun e w' h => ⟨_, h.1, rfl, h.2⟩)
set_option maxHeartbeats 4000000 in
theorem refRead5_big (S : ByteArray) (l : List UInt8) (hS : S = ⟨l.toArray⟩) (hl : l.length = 128) (hn : ¬ num 2 l 14 ≤ 108) (w : World) :
    Calls Try.prog 18 #[.string S] w fun e w' => e = .returned (rdo none) ∧ Below w.heap.size w w' := by
  have HN := Lib.hid (num_ref5 S l hS hl).1
  have hsz : S.size = 128 := by rw [hS]; simpa [ByteArray.size] using hl
  have hq : ((S.size : Int) != 128) = false := by simp; omega
  have hn2 : (108 : Int) < (num 2 l 14 : Int) := by omega
  clear hS hl hn hsz
  go_enter Try.func18, Try.ntmps18
  go_wp2_with (go_at_call 46; refine (HN.out _).mono ?_; rintro e w' ⟨rfl, rfl⟩)
  exact bodyPost_ret (v := .tuple #[.agg #[.int .i64 0, .int .i64 0, .bool false, .bool false, .string ⟨#[]⟩], .int .i64 4]) (by simp [results, Try.results18, go_sem]) rfl ⟨rfl, by
    repeat (first | exact (Below.refl _ _) | refine Below.setCell ?_ (by simp) _ | refine Below.alloc ?_ (by simp) _)⟩
theorem u8_tests (c : UInt8) : ((c.toNat : Int).tmod 2 == 1) = decide (c.toNat % 2 = 1) ∧ ((IntKind.u8.wrap ((c.toNat : Int) / 2)).tmod 2 == 1) = decide (c.toNat / 2 % 2 = 1) := by
  have hc := c.toNat_lt
  have hw : IntKind.u8.wrap ((c.toNat : Int) / 2) = (c.toNat : Int) / 2 := by
    show ((c.toNat : Int) / 2) % 256 = _
    omega
  rw [hw, Int.tmod_eq_emod_of_nonneg (by omega), Int.tmod_eq_emod_of_nonneg (by omega)]
  constructor
  · rw [Bool.eq_iff_iff]; simp only [beq_iff_eq, decide_eq_true_eq]; omega
  · rw [Bool.eq_iff_iff]; simp only [beq_iff_eq, decide_eq_true_eq]; omega
set_option maxHeartbeats 4000000 in
theorem refRead5_yes (S : ByteArray) (l : List UInt8) (hS : S = ⟨l.toArray⟩) (hl : l.length = 128) (hn : num 2 l 14 ≤ 108) (w : World) :
    Calls Try.prog 18 #[.string S] w fun e w' => e = .returned (rdo (read5 l)) ∧ Below w.heap.size w w' := by
  obtain ⟨hN1, hN2, hN3⟩ := num_ref5 S l hS hl
  have HN1 := Lib.hid hN1
  have HN2 := Lib.hid hN2
  have HN3 := Lib.hid hN3
  have hsz : S.size = 128 := by rw [hS]; simpa [ByteArray.size] using hl
  have hq : ((S.size : Int) != 128) = false := by simp; omega
  have hn2 : (num 2 l 14 : Int) ≤ 108 := by omega
  have hszi : (S.size : Int) ≤ 128 := by omega
  have hszj : (128 : Int) ≤ (S.size : Int) := by omega
  obtain ⟨c, hc⟩ : ∃ c, l.getD 1 0 = c := ⟨_, rfl⟩
  have HC : Hid (∀ h : 1 < S.size, S[1]'h = c) := Lib.hid (fun h => by subst hS; rw [← hc]; simp [List.getD_eq_getElem?_getD, hl]; rfl)
  obtain ⟨t1, t2⟩ := u8_tests c
  obtain ⟨DD, hDD⟩ : ∃ DD : ByteArray, S.extract 16 (16 + num 2 l 14) = DD := ⟨_, rfl⟩
  have HP : Hid (stv (parse5 l) = .agg #[.int .i64 (num 4 l 2 : Nat), .int .i64 (wrap64 (num 8 l 6 : Nat)), .bool (decide (c.toNat % 2 = 1)), .bool (decide (c.toNat / 2 % 2 = 1)), .string DD]) := by
    have hX : S.extract 16 (16 + num 2 l 14) = ⟨((l.drop 16).take (num 2 l 14)).toArray⟩ := by rw [hS]; apply ByteArray.ext; simp [ByteArray.data_extract]
    unfold stv parse5; rw [hc, ← hDD, hX]; exact Lib.hid rfl
  have HRT : Hid (∀ W, Calls Try.prog 42 #[stv (parse5 l)] W fun e w' => e = .returned (.bool (r5 (parse5 l))) ∧ Turn (fun _ => False) W w') := Lib.hid (fun W => (refRight5 (parse5 l) W).mono (by rintro e w' ⟨rfl, rfl⟩; exact ⟨rfl, (Turn.refl _ _).alloc _⟩))
  have HPUT : Hid (r5 (parse5 l) = true → ∀ W, Calls Try.prog 43 #[stv (parse5 l)] W fun e w' => e = .returned (.string ⟨(put5 (parse5 l)).toArray⟩) ∧ Turn (fun _ => False) W w') := Lib.hid (fun hr W => refPut5 (parse5 l) hr W)
  have RR : Hid (rdo (read5 l) = if r5 (parse5 l) = true ∧ put5 (parse5 l) = l then Value.tuple #[stv (parse5 l), .int .i64 0] else Value.tuple #[.agg #[.int .i64 0, .int .i64 0, .bool false, .bool false, .string ⟨#[]⟩], .int .i64 4]) := Lib.hid (by
    by_cases hr : r5 (parse5 l) = true ∧ put5 (parse5 l) = l
    · rw [if_pos hr, show read5 l = some (parse5 l) from by unfold read5; rw [if_pos ⟨hl, hn, hr⟩]]; rfl
    · rw [if_neg hr, show read5 l = none from by unfold read5; rw [if_neg (fun h => hr h.2.2)]]; rfl)
  have HSS := Lib.hid hS
  generalize rdo (read5 l) = R at *
  rw [HP.out] at HRT HPUT RR
  clear hN1 hN2 hN3 hS hc hn HP
  generalize num 2 l 14 = nd at *
  have hs1 : 1 < S.size := by omega
  have gc := HC.out hs1
  clear hsz
  go_enter Try.func18, Try.ntmps18
  go_upto_region 6 with (go_at_call 46; refine (HN1.out _).mono ?_; rintro e w' ⟨rfl, rfl⟩)
  have hw16 := wrap_of (16 + (nd : Int)) (by omega) (by omega)
  have hs1i : (1 : Int) < (S.size : Int) := by omega
  have hs1j : (0 : Int) ≤ 1 := by decide
  have hw0 : (0 : Int) ≤ 16 + (nd : Int) := by omega
  have hw1 : (16 : Int) + (nd : Int) ≤ (S.size : Int) := by omega
  have hw2 : (16 : Int) ≤ 16 + (nd : Int) := by omega
  have hw3 : ((16 : Int) + (nd : Int)).toNat = 16 + nd := by omega
  obtain ⟨W0, hW0⟩ : ∃ W0, w.alloc (.cells #[.int .i64 0, .int .i64 0, .bool false, .bool false, .string ⟨#[]⟩] 23) = W0 := ⟨_, rfl⟩
  have K0 : Hid (Blk W0 w.heap.size 23 [.int .i64 0, .int .i64 0, .bool false, .bool false, .string ⟨#[]⟩]) := Lib.hid (hW0 ▸ Blk.new w 23 [.int .i64 0, .int .i64 0, .bool false, .bool false, .string ⟨#[]⟩])
  have B0 : Hid (Below w.heap.size w W0) := Lib.hid (hW0 ▸ (Below.refl w.heap.size w).alloc (Nat.le_refl _) _)
  rw [hW0]
  clear hW0
  have HG : Hid (Blk ((W0.alloc (.cells #[.int .i64 (num 4 l 2 : Nat), .int .i64 (wrap64 (num 8 l 6 : Nat)), .bool (decide (c.toNat % 2 = 1)), .bool (decide (c.toNat / 2 % 2 = 1)), .string DD] 23)).drew) W0.heap.size 23 [.int .i64 (num 4 l 2 : Nat), .int .i64 (wrap64 (num 8 l 6 : Nat)), .bool (decide (c.toNat % 2 = 1)), .bool (decide (c.toNat / 2 % 2 = 1)), .string DD] ∧ Blk ((W0.alloc (.cells #[.int .i64 (num 4 l 2 : Nat), .int .i64 (wrap64 (num 8 l 6 : Nat)), .bool (decide (c.toNat % 2 = 1)), .bool (decide (c.toNat / 2 % 2 = 1)), .string DD] 23)).drew) w.heap.size 23 [.int .i64 0, .int .i64 0, .bool false, .bool false, .string ⟨#[]⟩] ∧ Below w.heap.size w ((W0.alloc (.cells #[.int .i64 (num 4 l 2 : Nat), .int .i64 (wrap64 (num 8 l 6 : Nat)), .bool (decide (c.toNat % 2 = 1)), .bool (decide (c.toNat / 2 % 2 = 1)), .string DD] 23)).drew) ∧ w.heap.size < W0.heap.size) :=
    Lib.hid ⟨Blk.new W0 23 [.int .i64 (num 4 l 2 : Nat), .int .i64 (wrap64 (num 8 l 6 : Nat)), .bool (decide (c.toNat % 2 = 1)), .bool (decide (c.toNat / 2 % 2 = 1)), .string DD], (K0.out.alloc _).drew, (B0.out.alloc B0.out.size _).drew, K0.out.lt⟩
  go_cut [5] (fun b wx => ∃ g : Nat, b = .pointer (some ⟨g, 0, none⟩) ∧ Blk wx g 23 [.int .i64 (num 4 l 2 : Nat), .int .i64 (wrap64 (num 8 l 6 : Nat)), .bool (decide (c.toNat % 2 = 1)), .bool (decide (c.toNat / 2 % 2 = 1)), .string DD] ∧ Blk wx w.heap.size 23 [.int .i64 0, .int .i64 0, .bool false, .bool false, .string ⟨#[]⟩] ∧ Below w.heap.size w wx ∧ w.heap.size < g)
  case first =>
    refine wp_region_noPanic ?_
    refine wp_region_held_drew (S := fun _ => True) (by kernel_rfl) trivial (fun hHeld => ?_)
    refine wpAnyH_take (i := 0) (v := ?_) rfl (by kernel_rfl) (by kernel_rfl) (by kernel_rfl) (fun _ _ _ h => h) (Or.inl ⟨by rfl, ?_⟩) (by assumption) ?_
    rotate_left 1
    · intro w' hSw
      go_simp
      all_goals first | with_reducible rfl | (rw [if_neg (by omega)]; done) | (rw [if_neg (by omega)]; with_reducible rfl)
    try simp only [List.getElem_toArray, List.getElem_cons_zero, List.getElem_cons_succ, Act.put, List.setIfInBounds_toArray, List.set_cons_zero, List.set_cons_succ]
    refine wpAnyH_take (i := 2) (v := ?_) rfl (by kernel_rfl) (by kernel_rfl) (by kernel_rfl) (fun _ _ _ h => h) (Or.inl ⟨by rfl, ?_⟩) (by assumption) ?_
    rotate_left 1
    · intro w' hSw
      go_simp
      all_goals first | with_reducible rfl | (rw [if_neg (by omega)]; done) | (rw [if_neg (by omega)]; with_reducible rfl)
    try simp only [List.getElem_toArray, List.getElem_cons_zero, List.getElem_cons_succ, Act.put, List.setIfInBounds_toArray, List.set_cons_zero, List.set_cons_succ]
    refine wpAnyH_take (i := 4) (v := ?_) rfl (by kernel_rfl) (by kernel_rfl) (by kernel_rfl) (fun _ _ _ h => h) (Or.inl ⟨by rfl, ?_⟩) (by assumption) ?_
    rotate_left 1
    · intro w' hSw
      go_simp
      all_goals first | with_reducible rfl | (rw [if_neg (by omega)]; done) | (rw [if_neg (by omega)]; with_reducible rfl)
    try simp only [List.getElem_toArray, List.getElem_cons_zero, List.getElem_cons_succ, Act.put, List.setIfInBounds_toArray, List.set_cons_zero, List.set_cons_succ]
    refine wpAnyH_take (i := 5) (v := ?_) rfl (by kernel_rfl) (by kernel_rfl) (by kernel_rfl) (fun _ _ _ h => h) (Or.inl ⟨by rfl, ?_⟩) (by assumption) ?_
    rotate_left 1
    · intro w' hSw
      go_simp
      all_goals first | with_reducible rfl | (rw [if_neg (by omega)]; done) | (rw [if_neg (by omega)]; with_reducible rfl)
    try simp only [List.getElem_toArray, List.getElem_cons_zero, List.getElem_cons_succ, Act.put, List.setIfInBounds_toArray, List.set_cons_zero, List.set_cons_succ]
    refine wpAnyH_take (i := 6) (v := ?_) rfl (by kernel_rfl) (by kernel_rfl) (by kernel_rfl) (fun _ _ _ h => h) (Or.inl ⟨by rfl, ?_⟩) (by assumption) ?_
    rotate_left 1
    · intro w' hSw
      go_simp
      all_goals first | with_reducible rfl | (rw [if_neg (by omega)]; done) | (rw [if_neg (by omega)]; with_reducible rfl)
    try simp only [List.getElem_toArray, List.getElem_cons_zero, List.getElem_cons_succ, Act.put, List.setIfInBounds_toArray, List.set_cons_zero, List.set_cons_succ]
    refine wpAnyH_take (i := 7) (v := ?_) rfl (by kernel_rfl) (by kernel_rfl) (by kernel_rfl) (fun _ _ _ h => h) (Or.inl ⟨by rfl, ?_⟩) (by assumption) ?_
    rotate_left 1
    · intro w' hSw
      go_simp
      all_goals first | with_reducible rfl | (rw [if_neg (by omega)]; done) | (rw [if_neg (by omega)]; with_reducible rfl)
    try simp only [List.getElem_toArray, List.getElem_cons_zero, List.getElem_cons_succ, Act.put, List.setIfInBounds_toArray, List.set_cons_zero, List.set_cons_succ]
    refine wpAnyH_take (i := 8) (v := ?_) rfl (by kernel_rfl) (by kernel_rfl) (by kernel_rfl) (fun _ _ _ h => h) (Or.inl ⟨by rfl, ?_⟩) (by assumption) ?_
    rotate_left 1
    · intro w' hSw
      go_simp
      all_goals first | with_reducible rfl | (rw [if_neg (by omega)]; done) | (rw [if_neg (by omega)]; with_reducible rfl)
    try simp only [List.getElem_toArray, List.getElem_cons_zero, List.getElem_cons_succ, Act.put, List.setIfInBounds_toArray, List.set_cons_zero, List.set_cons_succ]
    refine wpAnyH_take (i := 9) (v := ?_) rfl (by kernel_rfl) (by kernel_rfl) (by kernel_rfl) (fun _ _ _ h => h) (Or.inl ⟨by rfl, ?_⟩) (by assumption) ?_
    rotate_left 1
    · intro w' hSw
      go_simp
      all_goals first | with_reducible rfl | (rw [if_neg (by omega)]; done) | (rw [if_neg (by omega)]; with_reducible rfl)
    try simp only [List.getElem_toArray, List.getElem_cons_zero, List.getElem_cons_succ, Act.put, List.setIfInBounds_toArray, List.set_cons_zero, List.set_cons_succ]
    refine wpAnyH_take (i := 10) (v := ?_) rfl (by kernel_rfl) (by kernel_rfl) (by kernel_rfl) (fun _ _ _ h => h) (Or.inl ⟨by rfl, ?_⟩) (by assumption) ?_
    rotate_left 1
    · intro w' hSw
      go_simp
      all_goals first | with_reducible rfl | (rw [if_neg (by omega)]; done) | (rw [if_neg (by omega)]; with_reducible rfl)
    try simp only [List.getElem_toArray, List.getElem_cons_zero, List.getElem_cons_succ, Act.put, List.setIfInBounds_toArray, List.set_cons_zero, List.set_cons_succ]
    refine wpAnyH_take (i := 11) (v := ?_) rfl (by kernel_rfl) (by kernel_rfl) (by kernel_rfl) (fun _ _ _ h => h) (Or.inl ⟨by rfl, ?_⟩) (by assumption) ?_
    rotate_left 1
    · intro w' hSw
      go_simp
      all_goals first | with_reducible rfl | (rw [if_neg (by omega)]; done) | (rw [if_neg (by omega)]; with_reducible rfl)
    try simp only [List.getElem_toArray, List.getElem_cons_zero, List.getElem_cons_succ, Act.put, List.setIfInBounds_toArray, List.set_cons_zero, List.set_cons_succ]
    refine wpAnyH_take (i := 12) (v := ?_) rfl (by kernel_rfl) (by kernel_rfl) (by kernel_rfl) (fun _ _ _ h => h) (Or.inl ⟨by rfl, ?_⟩) (by assumption) ?_
    rotate_left 1
    · intro w' hSw
      go_simp
      all_goals first | with_reducible rfl | (rw [if_neg (by omega)]; done) | (rw [if_neg (by omega)]; with_reducible rfl)
    try simp only [List.getElem_toArray, List.getElem_cons_zero, List.getElem_cons_succ, Act.put, List.setIfInBounds_toArray, List.set_cons_zero, List.set_cons_succ]
    refine wpAnyH_take (i := 13) (v := ?_) rfl (by kernel_rfl) (by kernel_rfl) (by kernel_rfl) (fun _ _ _ h => h) (Or.inl ⟨by rfl, ?_⟩) (by assumption) ?_
    rotate_left 1
    · intro w' hSw
      go_simp
      all_goals first | with_reducible rfl | (rw [if_neg (by omega)]; done) | (rw [if_neg (by omega)]; with_reducible rfl)
    try simp only [List.getElem_toArray, List.getElem_cons_zero, List.getElem_cons_succ, Act.put, List.setIfInBounds_toArray, List.set_cons_zero, List.set_cons_succ]
    refine wpAnyH_take (i := 14) (v := ?_) rfl (by kernel_rfl) (by kernel_rfl) (by kernel_rfl) (fun _ _ _ h => h) (Or.inl ⟨by rfl, ?_⟩) (by assumption) ?_
    rotate_left 1
    · intro w' hSw
      go_simp
      all_goals first | with_reducible rfl | (rw [if_neg (by omega)]; done) | (rw [if_neg (by omega)]; with_reducible rfl)
    try simp only [List.getElem_toArray, List.getElem_cons_zero, List.getElem_cons_succ, Act.put, List.setIfInBounds_toArray, List.set_cons_zero, List.set_cons_succ]
    refine wpAnyH_take (i := 15) (v := ?_) rfl (by kernel_rfl) (by kernel_rfl) (by kernel_rfl) (fun _ _ _ h => h) (Or.inl ⟨by rfl, ?_⟩) (by assumption) ?_
    rotate_left 1
    · intro w' hSw
      go_simp
      all_goals first | with_reducible rfl | (rw [if_neg (by omega)]; done) | (rw [if_neg (by omega)]; with_reducible rfl)
    try simp only [List.getElem_toArray, List.getElem_cons_zero, List.getElem_cons_succ, Act.put, List.setIfInBounds_toArray, List.set_cons_zero, List.set_cons_succ]
    refine wpAnyH_take (i := 16) (v := ?_) rfl (by kernel_rfl) (by kernel_rfl) (by kernel_rfl) (fun _ _ _ h => h) (Or.inl ⟨by rfl, ?_⟩) (by assumption) ?_
    rotate_left 1
    · intro w' hSw
      go_simp
      all_goals first | with_reducible rfl | (rw [if_neg (by omega)]; done) | (rw [if_neg (by omega)]; with_reducible rfl)
    try simp only [List.getElem_toArray, List.getElem_cons_zero, List.getElem_cons_succ, Act.put, List.setIfInBounds_toArray, List.set_cons_zero, List.set_cons_succ]
    refine wpAnyH_ready (rs := [1, 18]) (by kernel_rfl) (by simp) ?_
    refine AllReadyH.cons rfl (fun K hK => ?_) (AllReadyH.cons rfl (fun K hK => ?_) AllReadyH.nil)
    · refine step_call rfl 46 Try.f46 _ _ rfl Try.func46 (by kernel_rfl) (by kernel_rfl) _ _ (HN2.out _) (by go_simp) ?_
      rintro v1 w1 ⟨rfl, rfl⟩
      refine hK.out _ _ trivial (fun hHeld => ?_)
      clear hK K
      try simp only [List.getElem_toArray, List.getElem_cons_zero, List.getElem_cons_succ, Act.put, List.setIfInBounds_toArray, List.set_cons_zero, List.set_cons_succ]
      refine wpAnyH_ready (rs := [3, 18]) (by kernel_rfl) (by simp) ?_
      refine AllReadyH.cons rfl (fun K hK => ?_) (AllReadyH.cons rfl (fun K hK => ?_) AllReadyH.nil)
      · refine step_call rfl 46 Try.f46 _ _ rfl Try.func46 (by kernel_rfl) (by kernel_rfl) _ _ (HN3.out _) (by go_simp) ?_
        rintro v3 w3 ⟨rfl, rfl⟩
        refine hK.out _ _ trivial (fun hHeld => ?_)
        clear hK K
        try simp only [List.getElem_toArray, List.getElem_cons_zero, List.getElem_cons_succ, Act.put, List.setIfInBounds_toArray, List.set_cons_zero, List.set_cons_succ]
        refine wpAnyH_take (i := 17) (v := ?_) rfl (by kernel_rfl) (by kernel_rfl) (by kernel_rfl) (fun _ _ _ h => h) (Or.inl ⟨by rfl, ?_⟩) (by assumption) ?_
        rotate_left 1
        · intro w' hSw
          go_simp
          all_goals first | with_reducible rfl | (rw [if_neg (by omega)]; done) | (rw [if_neg (by omega)]; with_reducible rfl)
        try simp only [List.getElem_toArray, List.getElem_cons_zero, List.getElem_cons_succ, Act.put, List.setIfInBounds_toArray, List.set_cons_zero, List.set_cons_succ]
        refine wpAnyH_ready (rs := [18]) (by kernel_rfl) (by simp) ?_
        refine AllReadyH.cons rfl (fun K hK => ?_) AllReadyH.nil
        go_simp
        refine hK.out _ _ trivial (fun hHeld => ?_)
        clear hK K
        try simp only [List.getElem_toArray, List.getElem_cons_zero, List.getElem_cons_succ, Act.put, List.setIfInBounds_toArray, List.set_cons_zero, List.set_cons_succ]
        refine wpAnyH_ready (rs := [19]) (by kernel_rfl) (by simp) ?_
        refine AllReadyH.cons rfl (fun K hK => ?_) AllReadyH.nil
        go_simp
        refine hK.out _ _ trivial (fun hHeld => ?_)
        clear hK K
        try simp only [List.getElem_toArray, List.getElem_cons_zero, List.getElem_cons_succ, Act.put, List.setIfInBounds_toArray, List.set_cons_zero, List.set_cons_succ]
        refine wpAnyH_done (by kernel_rfl) ?_ _
        refine NoPanic.normal ?_
        go_wp2_with fail
        go_meet
        exact ⟨_, rfl, HG.out⟩
      · go_simp
        refine hK.out _ _ trivial (fun hHeld => ?_)
        clear hK K
        try simp only [List.getElem_toArray, List.getElem_cons_zero, List.getElem_cons_succ, Act.put, List.setIfInBounds_toArray, List.set_cons_zero, List.set_cons_succ]
        refine wpAnyH_ready (rs := [3]) (by kernel_rfl) (by simp) ?_
        refine AllReadyH.cons rfl (fun K hK => ?_) AllReadyH.nil
        refine step_call rfl 46 Try.f46 _ _ rfl Try.func46 (by kernel_rfl) (by kernel_rfl) _ _ (HN3.out _) (by go_simp) ?_
        rintro v3 w3 ⟨rfl, rfl⟩
        refine hK.out _ _ trivial (fun hHeld => ?_)
        clear hK K
        try simp only [List.getElem_toArray, List.getElem_cons_zero, List.getElem_cons_succ, Act.put, List.setIfInBounds_toArray, List.set_cons_zero, List.set_cons_succ]
        refine wpAnyH_take (i := 17) (v := ?_) rfl (by kernel_rfl) (by kernel_rfl) (by kernel_rfl) (fun _ _ _ h => h) (Or.inl ⟨by rfl, ?_⟩) (by assumption) ?_
        rotate_left 1
        · intro w' hSw
          go_simp
          all_goals first | with_reducible rfl | (rw [if_neg (by omega)]; done) | (rw [if_neg (by omega)]; with_reducible rfl)
        try simp only [List.getElem_toArray, List.getElem_cons_zero, List.getElem_cons_succ, Act.put, List.setIfInBounds_toArray, List.set_cons_zero, List.set_cons_succ]
        refine wpAnyH_ready (rs := [19]) (by kernel_rfl) (by simp) ?_
        refine AllReadyH.cons rfl (fun K hK => ?_) AllReadyH.nil
        go_simp
        refine hK.out _ _ trivial (fun hHeld => ?_)
        clear hK K
        try simp only [List.getElem_toArray, List.getElem_cons_zero, List.getElem_cons_succ, Act.put, List.setIfInBounds_toArray, List.set_cons_zero, List.set_cons_succ]
        refine wpAnyH_done (by kernel_rfl) ?_ _
        refine NoPanic.normal ?_
        go_wp2_with fail
        go_meet
        exact ⟨_, rfl, HG.out⟩
    · go_simp
      refine hK.out _ _ trivial (fun hHeld => ?_)
      clear hK K
      try simp only [List.getElem_toArray, List.getElem_cons_zero, List.getElem_cons_succ, Act.put, List.setIfInBounds_toArray, List.set_cons_zero, List.set_cons_succ]
      refine wpAnyH_ready (rs := [1]) (by kernel_rfl) (by simp) ?_
      refine AllReadyH.cons rfl (fun K hK => ?_) AllReadyH.nil
      refine step_call rfl 46 Try.f46 _ _ rfl Try.func46 (by kernel_rfl) (by kernel_rfl) _ _ (HN2.out _) (by go_simp) ?_
      rintro v1 w1 ⟨rfl, rfl⟩
      refine hK.out _ _ trivial (fun hHeld => ?_)
      clear hK K
      try simp only [List.getElem_toArray, List.getElem_cons_zero, List.getElem_cons_succ, Act.put, List.setIfInBounds_toArray, List.set_cons_zero, List.set_cons_succ]
      refine wpAnyH_ready (rs := [3]) (by kernel_rfl) (by simp) ?_
      refine AllReadyH.cons rfl (fun K hK => ?_) AllReadyH.nil
      refine step_call rfl 46 Try.f46 _ _ rfl Try.func46 (by kernel_rfl) (by kernel_rfl) _ _ (HN3.out _) (by go_simp) ?_
      rintro v3 w3 ⟨rfl, rfl⟩
      refine hK.out _ _ trivial (fun hHeld => ?_)
      clear hK K
      try simp only [List.getElem_toArray, List.getElem_cons_zero, List.getElem_cons_succ, Act.put, List.setIfInBounds_toArray, List.set_cons_zero, List.set_cons_succ]
      refine wpAnyH_take (i := 17) (v := ?_) rfl (by kernel_rfl) (by kernel_rfl) (by kernel_rfl) (fun _ _ _ h => h) (Or.inl ⟨by rfl, ?_⟩) (by assumption) ?_
      rotate_left 1
      · intro w' hSw
        go_simp
        all_goals first | with_reducible rfl | (rw [if_neg (by omega)]; done) | (rw [if_neg (by omega)]; with_reducible rfl)
      try simp only [List.getElem_toArray, List.getElem_cons_zero, List.getElem_cons_succ, Act.put, List.setIfInBounds_toArray, List.set_cons_zero, List.set_cons_succ]
      refine wpAnyH_ready (rs := [19]) (by kernel_rfl) (by simp) ?_
      refine AllReadyH.cons rfl (fun K hK => ?_) AllReadyH.nil
      go_simp
      refine hK.out _ _ trivial (fun hHeld => ?_)
      clear hK K
      try simp only [List.getElem_toArray, List.getElem_cons_zero, List.getElem_cons_succ, Act.put, List.setIfInBounds_toArray, List.set_cons_zero, List.set_cons_succ]
      refine wpAnyH_done (by kernel_rfl) ?_ _
      refine NoPanic.normal ?_
      go_wp2_with fail
      go_meet
      exact ⟨_, rfl, HG.out⟩
  case rest =>
    obtain ⟨g, rfl, hg1, hg2, hg3, hg4⟩ := hcut
    have G1 := Lib.hid hg1
    have K1 := Lib.hid hg2
    have C1 := Lib.hid hg3
    have gw := hg4
    clear hg1 hg2 hg3 hg4
    have c0 := G1.out.cell 0
    have c1 := G1.out.cell 1
    have c2 := G1.out.cell 2
    have c3 := G1.out.cell 3
    have c4 := G1.out.cell 4
    simp only [List.getElem?_cons_zero, List.getElem?_cons_succ] at c0 c1 c2 c3 c4
    go_wp2_with fail
    refine (HRT.out _).mono ?_
    rintro e7 w7 ⟨rfl, ht⟩
    have G7 := Lib.hid (G1.out.turn ht (fun h => h))
    have K7 := Lib.hid (K1.out.turn ht (fun h => h))
    have C7 := Lib.hid (C1.out.trans (ht.below C1.out.size (fun _ h => h.elim)))
    clear ht c0 c1 c2 c3 c4
    have c0 := G7.out.cell 0
    have c1 := G7.out.cell 1
    have c2 := G7.out.cell 2
    have c3 := G7.out.cell 3
    have c4 := G7.out.cell 4
    have q0 := K7.out.cell 0
    have q1 := K7.out.cell 1
    have q2 := K7.out.cell 2
    have q3 := K7.out.cell 3
    have q4 := K7.out.cell 4
    have k0 := K7.out.free 0
    have k1 := K7.out.free 1
    have k2 := K7.out.free 2
    have k3 := K7.out.free 3
    have k4 := K7.out.free 4
    simp only [List.getElem?_cons_zero, List.getElem?_cons_succ] at c0 c1 c2 c3 c4 q0 q1 q2 q3 q4
    by_cases hr : r5 (parse5 l) = true
    · have hrb := hr
      have HPT := Lib.hid (HPUT.out hr)
      have RA : Hid (R = if put5 (parse5 l) = l then Value.tuple #[.agg #[.int .i64 (num 4 l 2 : Nat), .int .i64 (wrap64 (num 8 l 6 : Nat)), .bool (decide (c.toNat % 2 = 1)), .bool (decide (c.toNat / 2 % 2 = 1)), .string DD], .int .i64 0] else Value.tuple #[.agg #[.int .i64 0, .int .i64 0, .bool false, .bool false, .string ⟨#[]⟩], .int .i64 4]) := Lib.hid (by rw [RR.out]; simp only [hr, true_and])
      clear HPUT RR hr
      generalize r5 (parse5 l) = rr at *
      subst hrb
      go_wp2_with fail
      refine (HPT.out _).mono ?_
      rintro e8 w8 ⟨rfl, ht⟩
      have G8 := Lib.hid (G7.out.turn ht (fun h => h))
      have K8 := Lib.hid (K7.out.turn ht (fun h => h))
      have C8 := Lib.hid (C7.out.trans (ht.below C7.out.size (fun _ h => h.elim)))
      clear ht c0 c1 c2 c3 c4 q0 q1 q2 q3 q4 k0 k1 k2 k3 k4
      have c0 := G8.out.cell 0
      have c1 := G8.out.cell 1
      have c2 := G8.out.cell 2
      have c3 := G8.out.cell 3
      have c4 := G8.out.cell 4
      have q0 := K8.out.cell 0
      have q1 := K8.out.cell 1
      have q2 := K8.out.cell 2
      have q3 := K8.out.cell 3
      have q4 := K8.out.cell 4
      have k0 := K8.out.free 0
      have k1 := K8.out.free 1
      have k2 := K8.out.free 2
      have k3 := K8.out.free 3
      have k4 := K8.out.free 4
      simp only [List.getElem?_cons_zero, List.getElem?_cons_succ] at c0 c1 c2 c3 c4 q0 q1 q2 q3 q4
      by_cases he : put5 (parse5 l) = l
      · have RB : Hid (R = Value.tuple #[.agg #[.int .i64 (num 4 l 2 : Nat), .int .i64 (wrap64 (num 8 l 6 : Nat)), .bool (decide (c.toNat % 2 = 1)), .bool (decide (c.toNat / 2 % 2 = 1)), .string DD], .int .i64 0]) := Lib.hid (by rw [RA.out, if_pos he])
        have hs := str_same S
        have hs2 : (S.toList != S.toList) = false := by simp
        have HPS : Hid ((⟨(put5 (parse5 l)).toArray⟩ : ByteArray) = S) := Lib.hid (by rw [he]; exact HSS.out.symm)
        clear he RA
        rw [HPS.out]
        go_wp2_with fail
        have hf := (((((K8.out.put 0 (.int .i64 (num 4 l 2 : Nat))).put 1 (.int .i64 (wrap64 (num 8 l 6 : Nat)))).put 2 (.bool (decide (c.toNat % 2 = 1)))).put 3 (.bool (decide (c.toNat / 2 % 2 = 1)))).put 4 (.string DD))
        simp only [List.set_cons_zero, List.set_cons_succ] at hf
        have hb := (((((C8.out.setCell (p := ⟨w.heap.size, 0, none⟩) (Nat.le_refl _) (.int .i64 (num 4 l 2 : Nat))).setCell (p := ⟨w.heap.size, 1, none⟩) (Nat.le_refl _) (.int .i64 (wrap64 (num 8 l 6 : Nat)))).setCell (p := ⟨w.heap.size, 2, none⟩) (Nat.le_refl _) (.bool (decide (c.toNat % 2 = 1)))).setCell (p := ⟨w.heap.size, 3, none⟩) (Nat.le_refl _) (.bool (decide (c.toNat / 2 % 2 = 1)))).setCell (p := ⟨w.heap.size, 4, none⟩) (Nat.le_refl _) (.string DD))
        have e0 := hf.cell 0
        have e1 := hf.cell 1
        have e2 := hf.cell 2
        have e3 := hf.cell 3
        have e4 := hf.cell 4
        simp only [List.getElem?_cons_zero, List.getElem?_cons_succ] at e0 e1 e2 e3 e4
        clear q0 q1 q2 q3 q4 k0 k1 k2 k3 k4 hf
        generalize (((((w8.setCell ⟨w.heap.size, 0, none⟩ (.int .i64 (num 4 l 2 : Nat))).setCell ⟨w.heap.size, 1, none⟩ (.int .i64 (wrap64 (num 8 l 6 : Nat)))).setCell ⟨w.heap.size, 2, none⟩ (.bool (decide (c.toNat % 2 = 1)))).setCell ⟨w.heap.size, 3, none⟩ (.bool (decide (c.toNat / 2 % 2 = 1)))).setCell ⟨w.heap.size, 4, none⟩ (.string DD)) = WF at *
        exact bodyPost_ret (v := .tuple #[.agg #[.int .i64 (num 4 l 2 : Nat), .int .i64 (wrap64 (num 8 l 6 : Nat)), .bool (decide (c.toNat % 2 = 1)), .bool (decide (c.toNat / 2 % 2 = 1)), .string DD], .int .i64 0]) (by simp [results, Try.results18, go_sem, e0, e1, e2, e3, e4]) rfl ⟨by rw [RB.out], hb⟩
      · have RB : Hid (R = Value.tuple #[.agg #[.int .i64 0, .int .i64 0, .bool false, .bool false, .string ⟨#[]⟩], .int .i64 4]) := Lib.hid (by rw [RA.out, if_neg he])
        have hne : (⟨(put5 (parse5 l)).toArray⟩ : ByteArray) ≠ S := fun e => he (by rw [HSS.out] at e; injection e with e; simpa using e)
        obtain ⟨P, hP⟩ : ∃ P : ByteArray, ⟨(put5 (parse5 l)).toArray⟩ = P := ⟨_, rfl⟩
        rw [hP] at hne ⊢
        have hs := ba_ne hne
        have hs2 : (P.toList != S.toList) = true := by simp [bne, hs]
        clear he RA hP hne
        go_wp2_with fail
        have hf := (((((K8.out.put 0 (.int .i64 0)).put 1 (.int .i64 0)).put 2 (.bool false)).put 3 (.bool false)).put 4 (.string ⟨#[]⟩))
        simp only [List.set_cons_zero, List.set_cons_succ] at hf
        have hb := (((((C8.out.setCell (p := ⟨w.heap.size, 0, none⟩) (Nat.le_refl _) (.int .i64 0)).setCell (p := ⟨w.heap.size, 1, none⟩) (Nat.le_refl _) (.int .i64 0)).setCell (p := ⟨w.heap.size, 2, none⟩) (Nat.le_refl _) (.bool false)).setCell (p := ⟨w.heap.size, 3, none⟩) (Nat.le_refl _) (.bool false)).setCell (p := ⟨w.heap.size, 4, none⟩) (Nat.le_refl _) (.string ⟨#[]⟩))
        have e0 := hf.cell 0
        have e1 := hf.cell 1
        have e2 := hf.cell 2
        have e3 := hf.cell 3
        have e4 := hf.cell 4
        simp only [List.getElem?_cons_zero, List.getElem?_cons_succ] at e0 e1 e2 e3 e4
        clear q0 q1 q2 q3 q4 k0 k1 k2 k3 k4 hf
        generalize (((((w8.setCell ⟨w.heap.size, 0, none⟩ (.int .i64 0)).setCell ⟨w.heap.size, 1, none⟩ (.int .i64 0)).setCell ⟨w.heap.size, 2, none⟩ (.bool false)).setCell ⟨w.heap.size, 3, none⟩ (.bool false)).setCell ⟨w.heap.size, 4, none⟩ (.string ⟨#[]⟩)) = WF at *
        exact bodyPost_ret (v := .tuple #[.agg #[.int .i64 0, .int .i64 0, .bool false, .bool false, .string ⟨#[]⟩], .int .i64 4]) (by simp [results, Try.results18, go_sem, e0, e1, e2, e3, e4]) rfl ⟨by rw [RB.out], hb⟩
    · have RA : Hid (R = Value.tuple #[.agg #[.int .i64 0, .int .i64 0, .bool false, .bool false, .string ⟨#[]⟩], .int .i64 4]) := Lib.hid (by rw [RR.out]; exact if_neg (fun h => hr h.1))
      have hrb : r5 (parse5 l) = false := by simpa using hr
      clear RR hr HPUT
      generalize r5 (parse5 l) = rr at *
      subst hrb
      go_wp2_with fail
      have hf := (((((K7.out.put 0 (.int .i64 0)).put 1 (.int .i64 0)).put 2 (.bool false)).put 3 (.bool false)).put 4 (.string ⟨#[]⟩))
      simp only [List.set_cons_zero, List.set_cons_succ] at hf
      have hb := (((((C7.out.setCell (p := ⟨w.heap.size, 0, none⟩) (Nat.le_refl _) (.int .i64 0)).setCell (p := ⟨w.heap.size, 1, none⟩) (Nat.le_refl _) (.int .i64 0)).setCell (p := ⟨w.heap.size, 2, none⟩) (Nat.le_refl _) (.bool false)).setCell (p := ⟨w.heap.size, 3, none⟩) (Nat.le_refl _) (.bool false)).setCell (p := ⟨w.heap.size, 4, none⟩) (Nat.le_refl _) (.string ⟨#[]⟩))
      have e0 := hf.cell 0
      have e1 := hf.cell 1
      have e2 := hf.cell 2
      have e3 := hf.cell 3
      have e4 := hf.cell 4
      simp only [List.getElem?_cons_zero, List.getElem?_cons_succ] at e0 e1 e2 e3 e4
      clear q0 q1 q2 q3 q4 k0 k1 k2 k3 k4 hf
      generalize (((((w7.setCell ⟨w.heap.size, 0, none⟩ (.int .i64 0)).setCell ⟨w.heap.size, 1, none⟩ (.int .i64 0)).setCell ⟨w.heap.size, 2, none⟩ (.bool false)).setCell ⟨w.heap.size, 3, none⟩ (.bool false)).setCell ⟨w.heap.size, 4, none⟩ (.string ⟨#[]⟩)) = WF at *
      exact bodyPost_ret (v := .tuple #[.agg #[.int .i64 0, .int .i64 0, .bool false, .bool false, .string ⟨#[]⟩], .int .i64 4]) (by simp [results, Try.results18, go_sem, e0, e1, e2, e3, e4]) rfl ⟨by rw [RA.out], hb⟩
theorem refRead5_any (S : ByteArray) (l : List UInt8) (hS : S = ⟨l.toArray⟩) (w : World) :
    Calls Try.prog 18 #[.string S] w fun e w' => e = .returned (rdo (read5 l)) ∧ Below w.heap.size w w' := by
  have hsz : S.size = l.length := by rw [hS]; simp [ByteArray.size]
  by_cases hl : l.length = 128
  · by_cases hn : num 2 l 14 ≤ 108
    · exact refRead5_yes S l hS hl hn w
    · rw [show read5 l = none from by unfold read5; rw [if_neg (fun h => hn h.2.1)]]
      exact refRead5_big S l hS hl hn w
  · rw [show read5 l = none from by unfold read5; rw [if_neg (fun h => hl h.1)]]
    exact refRead5_short S (by omega) w
end Go.Proofs.Ytpccelebidiekaa
