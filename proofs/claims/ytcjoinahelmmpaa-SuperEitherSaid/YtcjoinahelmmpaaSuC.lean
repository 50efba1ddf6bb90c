/- Layer 11: the document's bytes, and its Read (made by mkSuC.py). -/
import Derived.Test.YtcjoinahelmmpaaSuB
import Derived.Test.YtcjoinahelmmpaaSltC
import Derived.Test.YtcjoinahelmmpaaBlkQ
import Derived.Test.YtcjoinahelmmpaaRefReader
import Derived.Test.YtcjoinahelmmpaaRefText
import Derived.Deep.RegionHeld3
import Derived.Deep.CutRange
import Derived.Deep.DeepCutAuto
namespace Go.Proofs.Ytcjoinahelmmpaa
open Go.RowKit
set_option linter.unusedVariables false
set_option linter.unusedSimpArgs false
set_option maxRecDepth 100000

theorem refFieldU (n : Int) (k : Nat) (hk : k ≤ 8) (P : ByteArray) (hP : P = ⟨(fld k n).toArray⟩) (x : Int) (hx : x = k) (w : World) :
    Calls Try.prog 59 #[.int .i64 n, .int .i64 x] w fun e w' => ∃ v, e = .returned v ∧ v = .string P ∧ Turn (fun _ => False) w w' := by
  subst hP hx
  exact (refField_any n k hk w).mono fun e w' h => ⟨_, h.1, rfl, Turn.of_below h.2 (fun k h1 h2 => by omega)⟩
theorem ba_putU (s : Sup) (P1 P2 P3 P4 P5 P6 : ByteArray) (h1 : P1 = ⟨(fld 8 s.g).toArray⟩) (h2 : P2 = ⟨(fld 4 (s.r + 1)).toArray⟩) (h3 : P3 = ⟨(fld 8 s.t).toArray⟩) (h4 : P4 = ⟨(fld 4 s.e).toArray⟩) (h5 : P5 = ⟨(fld 8 s.l).toArray⟩) (h6 : P6 = ⟨(fld 8 s.m).toArray⟩) :
    (⟨#[65, 77, 66, 82]⟩ ++ P1 ++ P2 ++ P3 ++ P4 ++ P5 ++ P6 : ByteArray) = ⟨(u6 s).toArray⟩ := by
  subst h1 h2 h3 h4 h5 h6
  apply ByteArray.ext
  apply Array.ext'
  simp [u6, u5, u4, u3, u2, u1, u0]
/-- Six cells of a block. -/
theorem blk6 {w : World} {g : Nat} {t : TypeId} {a b c d e f : Value} (h : Blk w g t [a, b, c, d, e, f]) :
    (w.cell? ⟨g, 0, none⟩ = some a ∧ w.cell? ⟨g, 1, none⟩ = some b ∧ w.cell? ⟨g, 2, none⟩ = some c ∧ w.cell? ⟨g, 3, none⟩ = some d ∧ w.cell? ⟨g, 4, none⟩ = some e ∧ w.cell? ⟨g, 5, none⟩ = some f) ∧
    (w.frozen? ⟨g, 0, none⟩ = false ∧ w.frozen? ⟨g, 1, none⟩ = false ∧ w.frozen? ⟨g, 2, none⟩ = false ∧ w.frozen? ⟨g, 3, none⟩ = false ∧ w.frozen? ⟨g, 4, none⟩ = false ∧ w.frozen? ⟨g, 5, none⟩ = false) :=
  ⟨⟨h.cell 0, h.cell 1, h.cell 2, h.cell 3, h.cell 4, h.cell 5⟩, h.free 0, h.free 1, h.free 2, h.free 3, h.free 4, h.free 5⟩
/-- A store of six cells. -/
def put6 (w : World) (g : Nat) (a b c d e f : Value) : World := (((((w.setCell ⟨g, 0, none⟩ a).setCell ⟨g, 1, none⟩ b).setCell ⟨g, 2, none⟩ c).setCell ⟨g, 3, none⟩ d).setCell ⟨g, 4, none⟩ e).setCell ⟨g, 5, none⟩ f
theorem put6_eq (w : World) (g : Nat) (a b c d e f : Value) : (((((w.setCell ⟨g, 0, none⟩ a).setCell ⟨g, 1, none⟩ b).setCell ⟨g, 2, none⟩ c).setCell ⟨g, 3, none⟩ d).setCell ⟨g, 4, none⟩ e).setCell ⟨g, 5, none⟩ f = put6 w g a b c d e f := rfl
theorem Blk.put6 {w : World} {g : Nat} {t : TypeId} {a b c d e f a' b' c' d' e' f' : Value} (h : Blk w g t [a, b, c, d, e, f]) : Blk (put6 w g a' b' c' d' e' f') g t [a', b', c', d', e', f'] :=
  (((((h.put 0 a').put 1 b').put 2 c').put 3 d').put 4 e').put 5 f'
theorem Turn.put6 {S : Nat → Prop} {w w' : World} (h : Turn S w w') {g : Nat} (hg : S g ∨ w.heap.size ≤ g) (a b c d e f : Value) : Turn S w (put6 w' g a b c d e f) :=
  (((((h.setCell (p := ⟨g, 0, none⟩) hg a).setCell (p := ⟨g, 1, none⟩) hg b).setCell (p := ⟨g, 2, none⟩) hg c).setCell (p := ⟨g, 3, none⟩) hg d).setCell (p := ⟨g, 4, none⟩) hg e).setCell (p := ⟨g, 5, none⟩) hg f
theorem size_put6 (w : World) (g : Nat) (a b c d e f : Value) : (put6 w g a b c d e f).heap.size = w.heap.size := by simp [Go.Proofs.Ytcjoinahelmmpaa.put6, World.setCell]
theorem Blk.far6 {w : World} {g q : Nat} {t : TypeId} {cs : List Value} (h : Blk w q t cs) (hg : q ≠ g) (a b c d e f : Value) : Blk (Go.Proofs.Ytcjoinahelmmpaa.put6 w g a b c d e f) q t cs :=
  (((((h.far (p := ⟨g, 0, none⟩) hg a).far (p := ⟨g, 1, none⟩) hg b).far (p := ⟨g, 2, none⟩) hg c).far (p := ⟨g, 3, none⟩) hg d).far (p := ⟨g, 4, none⟩) hg e).far (p := ⟨g, 5, none⟩) hg f

set_option maxHeartbeats 4000000 in
theorem refPutU (s : Sup) (h : rU s = true) (w : World) :
    Calls Try.prog 36 #[uv s] w fun e w' => e = .returned (.string ⟨(u7 s).toArray⟩) ∧ Turn (fun _ => False) w w' := by
  obtain ⟨P1, hP1⟩ : ∃ P : ByteArray, P = ⟨(fld 8 s.g).toArray⟩ := ⟨_, rfl⟩
  obtain ⟨P2, hP2⟩ : ∃ P : ByteArray, P = ⟨(fld 4 (s.r + 1)).toArray⟩ := ⟨_, rfl⟩
  obtain ⟨P3, hP3⟩ : ∃ P : ByteArray, P = ⟨(fld 8 s.t).toArray⟩ := ⟨_, rfl⟩
  obtain ⟨P4, hP4⟩ : ∃ P : ByteArray, P = ⟨(fld 4 s.e).toArray⟩ := ⟨_, rfl⟩
  obtain ⟨P5, hP5⟩ : ∃ P : ByteArray, P = ⟨(fld 8 s.l).toArray⟩ := ⟨_, rfl⟩
  obtain ⟨P6, hP6⟩ : ∃ P : ByteArray, P = ⟨(fld 8 s.m).toArray⟩ := ⟨_, rfl⟩
  obtain ⟨P7, hP7⟩ : ∃ P : ByteArray, P = ⟨(fld 4 (csum (u6 s) : Nat)).toArray⟩ := ⟨_, rfl⟩
  obtain ⟨H6, hH6⟩ : ∃ P : ByteArray, P = ⟨(u6 s).toArray⟩ := ⟨_, rfl⟩
  have HX := Lib.hid ((ba_putU s P1 P2 P3 P4 P5 P6 hP1 hP2 hP3 hP4 hP5 hP6).trans hH6.symm)
  have sp1 : P1.size ≤ 8 := by rw [hP1]; exact Nat.le_trans (Nat.le_of_eq (List.size_toArray.trans (len_fld _ _))) (by decide)
  have sp2 : P2.size ≤ 8 := by rw [hP2]; exact Nat.le_trans (Nat.le_of_eq (List.size_toArray.trans (len_fld _ _))) (by decide)
  have sp3 : P3.size ≤ 8 := by rw [hP3]; exact Nat.le_trans (Nat.le_of_eq (List.size_toArray.trans (len_fld _ _))) (by decide)
  have sp4 : P4.size ≤ 8 := by rw [hP4]; exact Nat.le_trans (Nat.le_of_eq (List.size_toArray.trans (len_fld _ _))) (by decide)
  have sp5 : P5.size ≤ 8 := by rw [hP5]; exact Nat.le_trans (Nat.le_of_eq (List.size_toArray.trans (len_fld _ _))) (by decide)
  have sp6 : P6.size ≤ 8 := by rw [hP6]; exact Nat.le_trans (Nat.le_of_eq (List.size_toArray.trans (len_fld _ _))) (by decide)
  have sp7 : P7.size ≤ 8 := by rw [hP7]; exact Nat.le_trans (Nat.le_of_eq (List.size_toArray.trans (len_fld _ _))) (by decide)
  have sp8 : H6.size ≤ 44 := by rw [hH6]; exact Nat.le_of_eq (List.size_toArray.trans (len_u6 s))
  have HY : Hid ((⟨(u7 s).toArray⟩ : ByteArray) = H6 ++ P7) := Lib.hid (by rw [hH6, hP7]; apply ByteArray.ext; apply Array.ext'; simp [u7])
  have HF1 := Lib.hid (refFieldU s.g 8 (by decide) P1 hP1 8 rfl)
  have HF2 := Lib.hid (refFieldU (s.r + 1) 4 (by decide) P2 hP2 4 rfl)
  have HF3 := Lib.hid (refFieldU s.t 8 (by decide) P3 hP3 8 rfl)
  have HF4 := Lib.hid (refFieldU s.e 4 (by decide) P4 hP4 4 rfl)
  have HF5 := Lib.hid (refFieldU s.l 8 (by decide) P5 hP5 8 rfl)
  have HF6 := Lib.hid (refFieldU s.m 8 (by decide) P6 hP6 8 rfl)
  have HF7 := Lib.hid (refFieldU (csum (u6 s) : Nat) 4 (by decide) P7 hP7 4 rfl)
  have HS7 := Lib.hid (fun W => refSum_any (u6 s) H6 hH6 W (by rw [len_u6]; decide))
  obtain ⟨a1, a2, a3, a4, a5, a6, a7, a8, a9, a10, a11, a12⟩ := rU_yes h
  rw [HY.out]
  clear HY hP1 hP2 hP3 hP4 hP5 hP6 hP7 hH6 h
  generalize csum (u6 s) = cs at *
  obtain ⟨g, r, t, e, l, m⟩ := s
  unfold uv
  simp only at *
  have hrw := wrap_of (r + 1) (by omega) (by omega)
  go_enter Try.func36, Try.ntmps36
  go_upto_region 1 with fail
  obtain ⟨W0, hW0⟩ : ∃ W0, w.alloc (ubox ⟨g, r, t, e, l, m⟩) = W0 := ⟨_, rfl⟩
  have T0 : Hid (Turn (fun _ => False) w W0) := Lib.hid (hW0 ▸ (Turn.refl _ _).alloc _)
  have K0 := Lib.hid (Blk.new w 23 [.int .i64 g, .int .i64 r, .int .i64 t, .int .i64 e, .int .i64 l, .int .i64 m])
  unfold ubox at hW0
  simp only at hW0
  rw [hW0] at K0 ⊢
  obtain ⟨c0, c1, c2, c3, c4, c5⟩ := (blk6 K0.out).1
  have SC : Hid (∀ W, Turn (fun _ => False) W0 W → W.cell? ⟨w.heap.size, 0, none⟩ = some (.int .i64 g) ∧ W.cell? ⟨w.heap.size, 1, none⟩ = some (.int .i64 r) ∧ W.cell? ⟨w.heap.size, 2, none⟩ = some (.int .i64 t) ∧ W.cell? ⟨w.heap.size, 3, none⟩ = some (.int .i64 e) ∧ W.cell? ⟨w.heap.size, 4, none⟩ = some (.int .i64 l) ∧ W.cell? ⟨w.heap.size, 5, none⟩ = some (.int .i64 m)) := Lib.hid (fun W ht => (blk6 (K0.out.turn ht (fun h => h))).1)
  have TT : Hid (Turn (fun _ => False) W0 W0.drew) := Lib.hid ((Turn.refl _ _).drew)
  clear hW0
  go_cut [3] (fun t4 wx => t4 = .string H6 ∧ Turn (fun _ => False) w wx)
  case first =>
    refine wp_region_noPanic ?_
    refine wp_region_held_drew (S := fun W => W.cell? ⟨w.heap.size, 0, none⟩ = some (.int .i64 g) ∧ W.cell? ⟨w.heap.size, 1, none⟩ = some (.int .i64 r) ∧ W.cell? ⟨w.heap.size, 2, none⟩ = some (.int .i64 t) ∧ W.cell? ⟨w.heap.size, 3, none⟩ = some (.int .i64 e) ∧ W.cell? ⟨w.heap.size, 4, none⟩ = some (.int .i64 l) ∧ W.cell? ⟨w.heap.size, 5, none⟩ = some (.int .i64 m)) (by kernel_rfl) ?_ (fun hHeld => ?_)
    · exact SC.out _ TT.out
    refine wpAnyH_take (i := 0) (v := ?_) rfl (by kernel_rfl) (by kernel_rfl) (by kernel_rfl) (fun _ _ _ h => h) (Or.inl ⟨by rfl, ?_⟩) (by assumption) ?_
    rotate_left 1
    · intro w' hSw
      go_simp
      all_goals first | with_reducible rfl | (rw [if_neg (by omega)]; done) | (rw [if_neg (by omega)]; with_reducible rfl)
    try simp only [List.getElem_toArray, List.getElem_cons_zero, List.getElem_cons_succ, Act.put, List.setIfInBounds_toArray, List.set_cons_zero, List.set_cons_succ]
    refine wpAnyH_take (i := 1) (v := ?_) rfl (by kernel_rfl) (by kernel_rfl) (by kernel_rfl) (fun _ _ _ h => h) (Or.inl ⟨by rfl, ?_⟩) (by assumption) ?_
    rotate_left 1
    · intro w' hSw
      go_simp
      all_goals first | with_reducible rfl | (rw [if_neg (by omega)]; done) | (rw [if_neg (by omega)]; with_reducible rfl)
    try simp only [List.getElem_toArray, List.getElem_cons_zero, List.getElem_cons_succ, Act.put, List.setIfInBounds_toArray, List.set_cons_zero, List.set_cons_succ]
    refine wpAnyH_take (i := 4) (v := ?_) rfl (by kernel_rfl) (by kernel_rfl) (by kernel_rfl) (fun _ _ _ h => h) (Or.inl ⟨by rfl, ?_⟩) (by assumption) ?_
    rotate_left 1
    · intro w' hSw
      go_simp
      all_goals first | with_reducible rfl | (rw [if_neg (by omega)]; done) | (rw [if_neg (by omega)]; with_reducible rfl)
    try simp only [List.getElem_toArray, List.getElem_cons_zero, List.getElem_cons_succ, Act.put, List.setIfInBounds_toArray, List.set_cons_zero, List.set_cons_succ]
    refine wpAnyH_take (i := 5) (v := ?_) rfl (by kernel_rfl) (by kernel_rfl) (by kernel_rfl) (fun _ _ _ h => h) (Or.inl ⟨by rfl, ?_⟩) (by assumption) ?_
    rotate_left 1
    · intro w' hSw
      go_simp
      all_goals first | with_reducible rfl | (rw [if_neg (by omega)]; done) | (rw [if_neg (by omega)]; with_reducible rfl)
    try simp only [List.getElem_toArray, List.getElem_cons_zero, List.getElem_cons_succ, Act.put, List.setIfInBounds_toArray, List.set_cons_zero, List.set_cons_succ]
    refine wpAnyH_take (i := 6) (v := ?_) rfl (by kernel_rfl) (by kernel_rfl) (by kernel_rfl) (fun _ _ _ h => h) (Or.inl ⟨by rfl, ?_⟩) (by assumption) ?_
    rotate_left 1
    · intro w' hSw
      go_simp
      all_goals first | with_reducible rfl | (rw [if_neg (by omega)]; done) | (rw [if_neg (by omega)]; with_reducible rfl)
    try simp only [List.getElem_toArray, List.getElem_cons_zero, List.getElem_cons_succ, Act.put, List.setIfInBounds_toArray, List.set_cons_zero, List.set_cons_succ]
    refine wpAnyH_take (i := 9) (v := ?_) rfl (by kernel_rfl) (by kernel_rfl) (by kernel_rfl) (fun _ _ _ h => h) (Or.inl ⟨by rfl, ?_⟩) (by assumption) ?_
    rotate_left 1
    · intro w' hSw
      go_simp
      all_goals first | with_reducible rfl | (rw [if_neg (by omega)]; done) | (rw [if_neg (by omega)]; with_reducible rfl)
    try simp only [List.getElem_toArray, List.getElem_cons_zero, List.getElem_cons_succ, Act.put, List.setIfInBounds_toArray, List.set_cons_zero, List.set_cons_succ]
    refine wpAnyH_take (i := 10) (v := ?_) rfl (by kernel_rfl) (by kernel_rfl) (by kernel_rfl) (fun _ _ _ h => h) (Or.inl ⟨by rfl, ?_⟩) (by assumption) ?_
    rotate_left 1
    · intro w' hSw
      go_simp
      all_goals first | with_reducible rfl | (rw [if_neg (by omega)]; done) | (rw [if_neg (by omega)]; with_reducible rfl)
    try simp only [List.getElem_toArray, List.getElem_cons_zero, List.getElem_cons_succ, Act.put, List.setIfInBounds_toArray, List.set_cons_zero, List.set_cons_succ]
    refine wpAnyH_take (i := 13) (v := ?_) rfl (by kernel_rfl) (by kernel_rfl) (by kernel_rfl) (fun _ _ _ h => h) (Or.inl ⟨by rfl, ?_⟩) (by assumption) ?_
    rotate_left 1
    · intro w' hSw
      go_simp
      all_goals first | with_reducible rfl | (rw [if_neg (by omega)]; done) | (rw [if_neg (by omega)]; with_reducible rfl)
    try simp only [List.getElem_toArray, List.getElem_cons_zero, List.getElem_cons_succ, Act.put, List.setIfInBounds_toArray, List.set_cons_zero, List.set_cons_succ]
    refine wpAnyH_take (i := 14) (v := ?_) rfl (by kernel_rfl) (by kernel_rfl) (by kernel_rfl) (fun _ _ _ h => h) (Or.inl ⟨by rfl, ?_⟩) (by assumption) ?_
    rotate_left 1
    · intro w' hSw
      go_simp
      all_goals first | with_reducible rfl | (rw [if_neg (by omega)]; done) | (rw [if_neg (by omega)]; with_reducible rfl)
    try simp only [List.getElem_toArray, List.getElem_cons_zero, List.getElem_cons_succ, Act.put, List.setIfInBounds_toArray, List.set_cons_zero, List.set_cons_succ]
    refine wpAnyH_take (i := 17) (v := ?_) rfl (by kernel_rfl) (by kernel_rfl) (by kernel_rfl) (fun _ _ _ h => h) (Or.inl ⟨by rfl, ?_⟩) (by assumption) ?_
    rotate_left 1
    · intro w' hSw
      go_simp
      all_goals first | with_reducible rfl | (rw [if_neg (by omega)]; done) | (rw [if_neg (by omega)]; with_reducible rfl)
    try simp only [List.getElem_toArray, List.getElem_cons_zero, List.getElem_cons_succ, Act.put, List.setIfInBounds_toArray, List.set_cons_zero, List.set_cons_succ]
    refine wpAnyH_take (i := 18) (v := ?_) rfl (by kernel_rfl) (by kernel_rfl) (by kernel_rfl) (fun _ _ _ h => h) (Or.inl ⟨by rfl, ?_⟩) (by assumption) ?_
    rotate_left 1
    · intro w' hSw
      go_simp
      all_goals first | with_reducible rfl | (rw [if_neg (by omega)]; done) | (rw [if_neg (by omega)]; with_reducible rfl)
    try simp only [List.getElem_toArray, List.getElem_cons_zero, List.getElem_cons_succ, Act.put, List.setIfInBounds_toArray, List.set_cons_zero, List.set_cons_succ]
    refine wpAnyH_take (i := 21) (v := ?_) rfl (by kernel_rfl) (by kernel_rfl) (by kernel_rfl) (fun _ _ _ h => h) (Or.inl ⟨by rfl, ?_⟩) (by assumption) ?_
    rotate_left 1
    · intro w' hSw
      go_simp
      all_goals first | with_reducible rfl | (rw [if_neg (by omega)]; done) | (rw [if_neg (by omega)]; with_reducible rfl)
    try simp only [List.getElem_toArray, List.getElem_cons_zero, List.getElem_cons_succ, Act.put, List.setIfInBounds_toArray, List.set_cons_zero, List.set_cons_succ]
    refine wpAnyH_take (i := 22) (v := ?_) rfl (by kernel_rfl) (by kernel_rfl) (by kernel_rfl) (fun _ _ _ h => h) (Or.inl ⟨by rfl, ?_⟩) (by assumption) ?_
    rotate_left 1
    · intro w' hSw
      go_simp
      all_goals first | with_reducible rfl | (rw [if_neg (by omega)]; done) | (rw [if_neg (by omega)]; with_reducible rfl)
    try simp only [List.getElem_toArray, List.getElem_cons_zero, List.getElem_cons_succ, Act.put, List.setIfInBounds_toArray, List.set_cons_zero, List.set_cons_succ]
    refine wpAnyH_ready (rs := [2]) (by kernel_rfl) (by simp) ?_
    refine AllReadyH.cons rfl (fun K hK => ?_) AllReadyH.nil
    refine step_call rfl 59 Try.f59 _ _ rfl Try.func59 (by kernel_rfl) (by kernel_rfl) _ _ (HF1.out _) (by go_simp) ?_
    rintro v1 w1 ⟨rfl, ht⟩
    have TT := Lib.hid (TT.out.trans ht)
    clear ht
    refine hK.out _ _ (SC.out _ TT.out) (fun hHeld => ?_)
    clear hK K
    try simp only [List.getElem_toArray, List.getElem_cons_zero, List.getElem_cons_succ, Act.put, List.setIfInBounds_toArray, List.set_cons_zero, List.set_cons_succ]
    refine wpAnyH_take (i := 3) (v := ?_) rfl (by kernel_rfl) (by kernel_rfl) (by kernel_rfl) (fun _ _ _ h => h) (Or.inl ⟨by rfl, ?_⟩) (by assumption) ?_
    rotate_left 1
    · intro w' hSw
      go_simp
      all_goals first | with_reducible rfl | (rw [if_neg (by omega)]; done) | (rw [if_neg (by omega)]; with_reducible rfl)
    try simp only [List.getElem_toArray, List.getElem_cons_zero, List.getElem_cons_succ, Act.put, List.setIfInBounds_toArray, List.set_cons_zero, List.set_cons_succ]
    refine wpAnyH_ready (rs := [7]) (by kernel_rfl) (by simp) ?_
    refine AllReadyH.cons rfl (fun K hK => ?_) AllReadyH.nil
    refine step_call rfl 59 Try.f59 _ _ rfl Try.func59 (by kernel_rfl) (by kernel_rfl) _ _ (HF2.out _) (by go_simp) ?_
    rintro v2 w2 ⟨rfl, ht⟩
    have TT := Lib.hid (TT.out.trans ht)
    clear ht
    refine hK.out _ _ (SC.out _ TT.out) (fun hHeld => ?_)
    clear hK K
    try simp only [List.getElem_toArray, List.getElem_cons_zero, List.getElem_cons_succ, Act.put, List.setIfInBounds_toArray, List.set_cons_zero, List.set_cons_succ]
    refine wpAnyH_take (i := 8) (v := ?_) rfl (by kernel_rfl) (by kernel_rfl) (by kernel_rfl) (fun _ _ _ h => h) (Or.inl ⟨by rfl, ?_⟩) (by assumption) ?_
    rotate_left 1
    · intro w' hSw
      go_simp
      all_goals first | with_reducible rfl | (rw [if_neg (by omega)]; done) | (rw [if_neg (by omega)]; with_reducible rfl)
    try simp only [List.getElem_toArray, List.getElem_cons_zero, List.getElem_cons_succ, Act.put, List.setIfInBounds_toArray, List.set_cons_zero, List.set_cons_succ]
    refine wpAnyH_ready (rs := [11]) (by kernel_rfl) (by simp) ?_
    refine AllReadyH.cons rfl (fun K hK => ?_) AllReadyH.nil
    refine step_call rfl 59 Try.f59 _ _ rfl Try.func59 (by kernel_rfl) (by kernel_rfl) _ _ (HF3.out _) (by go_simp) ?_
    rintro v3 w3 ⟨rfl, ht⟩
    have TT := Lib.hid (TT.out.trans ht)
    clear ht
    refine hK.out _ _ (SC.out _ TT.out) (fun hHeld => ?_)
    clear hK K
    try simp only [List.getElem_toArray, List.getElem_cons_zero, List.getElem_cons_succ, Act.put, List.setIfInBounds_toArray, List.set_cons_zero, List.set_cons_succ]
    refine wpAnyH_take (i := 12) (v := ?_) rfl (by kernel_rfl) (by kernel_rfl) (by kernel_rfl) (fun _ _ _ h => h) (Or.inl ⟨by rfl, ?_⟩) (by assumption) ?_
    rotate_left 1
    · intro w' hSw
      go_simp
      all_goals first | with_reducible rfl | (rw [if_neg (by omega)]; done) | (rw [if_neg (by omega)]; with_reducible rfl)
    try simp only [List.getElem_toArray, List.getElem_cons_zero, List.getElem_cons_succ, Act.put, List.setIfInBounds_toArray, List.set_cons_zero, List.set_cons_succ]
    refine wpAnyH_ready (rs := [15]) (by kernel_rfl) (by simp) ?_
    refine AllReadyH.cons rfl (fun K hK => ?_) AllReadyH.nil
    refine step_call rfl 59 Try.f59 _ _ rfl Try.func59 (by kernel_rfl) (by kernel_rfl) _ _ (HF4.out _) (by go_simp) ?_
    rintro v4 w4 ⟨rfl, ht⟩
    have TT := Lib.hid (TT.out.trans ht)
    clear ht
    refine hK.out _ _ (SC.out _ TT.out) (fun hHeld => ?_)
    clear hK K
    try simp only [List.getElem_toArray, List.getElem_cons_zero, List.getElem_cons_succ, Act.put, List.setIfInBounds_toArray, List.set_cons_zero, List.set_cons_succ]
    refine wpAnyH_take (i := 16) (v := ?_) rfl (by kernel_rfl) (by kernel_rfl) (by kernel_rfl) (fun _ _ _ h => h) (Or.inl ⟨by rfl, ?_⟩) (by assumption) ?_
    rotate_left 1
    · intro w' hSw
      go_simp
      all_goals first | with_reducible rfl | (rw [if_neg (by omega)]; done) | (rw [if_neg (by omega)]; with_reducible rfl)
    try simp only [List.getElem_toArray, List.getElem_cons_zero, List.getElem_cons_succ, Act.put, List.setIfInBounds_toArray, List.set_cons_zero, List.set_cons_succ]
    refine wpAnyH_ready (rs := [19]) (by kernel_rfl) (by simp) ?_
    refine AllReadyH.cons rfl (fun K hK => ?_) AllReadyH.nil
    refine step_call rfl 59 Try.f59 _ _ rfl Try.func59 (by kernel_rfl) (by kernel_rfl) _ _ (HF5.out _) (by go_simp) ?_
    rintro v5 w5 ⟨rfl, ht⟩
    have TT := Lib.hid (TT.out.trans ht)
    clear ht
    refine hK.out _ _ (SC.out _ TT.out) (fun hHeld => ?_)
    clear hK K
    try simp only [List.getElem_toArray, List.getElem_cons_zero, List.getElem_cons_succ, Act.put, List.setIfInBounds_toArray, List.set_cons_zero, List.set_cons_succ]
    refine wpAnyH_take (i := 20) (v := ?_) rfl (by kernel_rfl) (by kernel_rfl) (by kernel_rfl) (fun _ _ _ h => h) (Or.inl ⟨by rfl, ?_⟩) (by assumption) ?_
    rotate_left 1
    · intro w' hSw
      go_simp
      all_goals first | with_reducible rfl | (rw [if_neg (by omega)]; done) | (rw [if_neg (by omega)]; with_reducible rfl)
    try simp only [List.getElem_toArray, List.getElem_cons_zero, List.getElem_cons_succ, Act.put, List.setIfInBounds_toArray, List.set_cons_zero, List.set_cons_succ]
    refine wpAnyH_ready (rs := [23]) (by kernel_rfl) (by simp) ?_
    refine AllReadyH.cons rfl (fun K hK => ?_) AllReadyH.nil
    refine step_call rfl 59 Try.f59 _ _ rfl Try.func59 (by kernel_rfl) (by kernel_rfl) _ _ (HF6.out _) (by go_simp) ?_
    rintro v6 w6 ⟨rfl, ht⟩
    have TT := Lib.hid (TT.out.trans ht)
    clear ht
    refine hK.out _ _ (SC.out _ TT.out) (fun hHeld => ?_)
    clear hK K
    try simp only [List.getElem_toArray, List.getElem_cons_zero, List.getElem_cons_succ, Act.put, List.setIfInBounds_toArray, List.set_cons_zero, List.set_cons_succ]
    refine wpAnyH_take (i := 24) (v := ?_) rfl (by kernel_rfl) (by kernel_rfl) (by kernel_rfl) (fun _ _ _ h => h) (Or.inl ⟨by rfl, ?_⟩) (by assumption) ?_
    rotate_left 1
    · intro w' hSw
      go_simp
      all_goals first | with_reducible rfl | (rw [if_neg (by omega)]; done) | (rw [if_neg (by omega)]; with_reducible rfl)
    try simp only [List.getElem_toArray, List.getElem_cons_zero, List.getElem_cons_succ, Act.put, List.setIfInBounds_toArray, List.set_cons_zero, List.set_cons_succ]
    refine wpAnyH_take (i := 25) (v := ?_) rfl (by kernel_rfl) (by kernel_rfl) (by kernel_rfl) (fun _ _ _ h => h) (Or.inl ⟨by rfl, ?_⟩) (by assumption) ?_
    rotate_left 1
    · intro w' hSw
      go_simp
      all_goals first | with_reducible rfl | (rw [if_neg (by omega)]; done) | (rw [if_neg (by omega)]; with_reducible rfl)
    try simp only [List.getElem_toArray, List.getElem_cons_zero, List.getElem_cons_succ, Act.put, List.setIfInBounds_toArray, List.set_cons_zero, List.set_cons_succ]
    refine wpAnyH_done (by kernel_rfl) ?_ _
    refine NoPanic.normal ?_
    go_wp2_with fail
    go_meet
    exact ⟨by rw [HX.out], T0.out.trans TT.out⟩
  case rest =>
    obtain ⟨rfl, hbc⟩ := hcut
    have HB := Lib.hid hbc
    clear hbc
    go_wp2_with fail
    refine (HS7.out _).mono ?_
    rintro e8 w8 ⟨rfl, rfl⟩
    go_wp2_with fail
    refine (HF7.out _).mono ?_
    rintro e9 w9 ⟨v9, rfl, rfl, ht⟩
    go_wp2_with fail
    go_ret
    exact ⟨rfl, HB.out.trans ht⟩
end Go.Proofs.Ytcjoinahelmmpaa
