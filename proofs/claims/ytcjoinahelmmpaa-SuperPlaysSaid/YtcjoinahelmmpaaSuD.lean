/- Layer 11: the document's bytes, and its Read (made by mkSuC.py). -/
import Derived.Test.YtcjoinahelmmpaaSuB
import Derived.Test.YtcjoinahelmmpaaSltC
import Derived.Test.YtcjoinahelmmpaaBlkQ
import Derived.Test.YtcjoinahelmmpaaRefReader
import Derived.Test.YtcjoinahelmmpaaRefText
import Derived.Deep.RegionHeld3
import Derived.Deep.CutRange
import Derived.Deep.DeepCutAuto
namespace Go.Proofs.Ytcjoinahelmmpaa
open Go.RowKit
set_option linter.unusedVariables false
set_option linter.unusedSimpArgs false
set_option maxRecDepth 100000

theorem refFieldU (n : Int) (k : Nat) (hk : k ≤ 8) (P : ByteArray) (hP : P = ⟨(fld k n).toArray⟩) (x : Int) (hx : x = k) (w : World) :
    Calls Try.prog 59 #[.int .i64 n, .int .i64 x] w fun e w' => ∃ v, e = .returned v ∧ v = .string P ∧ Turn (fun _ => False) w w' := by
  subst hP hx
  exact (refField_any n k hk w).mono fun e w' h => ⟨_, h.1, rfl, Turn.of_below h.2 (fun k h1 h2 => by omega)⟩
theorem ba_putU (s : Sup) (P1 P2 P3 P4 P5 P6 : ByteArray) (h1 : P1 = ⟨(fld 8 s.g).toArray⟩) (h2 : P2 = ⟨(fld 4 (s.r + 1)).toArray⟩) (h3 : P3 = ⟨(fld 8 s.t).toArray⟩) (h4 : P4 = ⟨(fld 4 s.e).toArray⟩) (h5 : P5 = ⟨(fld 8 s.l).toArray⟩) (h6 : P6 = ⟨(fld 8 s.m).toArray⟩) :
    (⟨#[65, 77, 66, 82]⟩ ++ P1 ++ P2 ++ P3 ++ P4 ++ P5 ++ P6 : ByteArray) = ⟨(u6 s).toArray⟩ := by
  subst h1 h2 h3 h4 h5 h6
  apply ByteArray.ext
  apply Array.ext'
  simp [u6, u5, u4, u3, u2, u1, u0]
/-- Six cells of a block. -/
theorem blk6 {w : World} {g : Nat} {t : TypeId} {a b c d e f : Value} (h : Blk w g t [a, b, c, d, e, f]) :
    (w.cell? ⟨g, 0, none⟩ = some a ∧ w.cell? ⟨g, 1, none⟩ = some b ∧ w.cell? ⟨g, 2, none⟩ = some c ∧ w.cell? ⟨g, 3, none⟩ = some d ∧ w.cell? ⟨g, 4, none⟩ = some e ∧ w.cell? ⟨g, 5, none⟩ = some f) ∧
    (w.frozen? ⟨g, 0, none⟩ = false ∧ w.frozen? ⟨g, 1, none⟩ = false ∧ w.frozen? ⟨g, 2, none⟩ = false ∧ w.frozen? ⟨g, 3, none⟩ = false ∧ w.frozen? ⟨g, 4, none⟩ = false ∧ w.frozen? ⟨g, 5, none⟩ = false) :=
  ⟨⟨h.cell 0, h.cell 1, h.cell 2, h.cell 3, h.cell 4, h.cell 5⟩, h.free 0, h.free 1, h.free 2, h.free 3, h.free 4, h.free 5⟩
/-- A store of six cells. -/
def put6 (w : World) (g : Nat) (a b c d e f : Value) : World := (((((w.setCell ⟨g, 0, none⟩ a).setCell ⟨g, 1, none⟩ b).setCell ⟨g, 2, none⟩ c).setCell ⟨g, 3, none⟩ d).setCell ⟨g, 4, none⟩ e).setCell ⟨g, 5, none⟩ f
theorem put6_eq (w : World) (g : Nat) (a b c d e f : Value) : (((((w.setCell ⟨g, 0, none⟩ a).setCell ⟨g, 1, none⟩ b).setCell ⟨g, 2, none⟩ c).setCell ⟨g, 3, none⟩ d).setCell ⟨g, 4, none⟩ e).setCell ⟨g, 5, none⟩ f = put6 w g a b c d e f := rfl
theorem Blk.put6 {w : World} {g : Nat} {t : TypeId} {a b c d e f a' b' c' d' e' f' : Value} (h : Blk w g t [a, b, c, d, e, f]) : Blk (put6 w g a' b' c' d' e' f') g t [a', b', c', d', e', f'] :=
  (((((h.put 0 a').put 1 b').put 2 c').put 3 d').put 4 e').put 5 f'
theorem Turn.put6 {S : Nat → Prop} {w w' : World} (h : Turn S w w') {g : Nat} (hg : S g ∨ w.heap.size ≤ g) (a b c d e f : Value) : Turn S w (put6 w' g a b c d e f) :=
  (((((h.setCell (p := ⟨g, 0, none⟩) hg a).setCell (p := ⟨g, 1, none⟩) hg b).setCell (p := ⟨g, 2, none⟩) hg c).setCell (p := ⟨g, 3, none⟩) hg d).setCell (p := ⟨g, 4, none⟩) hg e).setCell (p := ⟨g, 5, none⟩) hg f
theorem size_put6 (w : World) (g : Nat) (a b c d e f : Value) : (put6 w g a b c d e f).heap.size = w.heap.size := by simp [Go.Proofs.Ytcjoinahelmmpaa.put6, World.setCell]
theorem Blk.far6 {w : World} {g q : Nat} {t : TypeId} {cs : List Value} (h : Blk w q t cs) (hg : q ≠ g) (a b c d e f : Value) : Blk (Go.Proofs.Ytcjoinahelmmpaa.put6 w g a b c d e f) q t cs :=
  (((((h.far (p := ⟨g, 0, none⟩) hg a).far (p := ⟨g, 1, none⟩) hg b).far (p := ⟨g, 2, none⟩) hg c).far (p := ⟨g, 3, none⟩) hg d).far (p := ⟨g, 4, none⟩) hg e).far (p := ⟨g, 5, none⟩) hg f

set_option maxHeartbeats 4000000 in
theorem refPutU (s : Sup) (h : rU s = true) (w : World) :
    Calls Try.prog 36 #[uv s] w fun e w' => e = .returned (.string ⟨(u7 s).toArray⟩) ∧ Turn (fun _ => False) w w' := by
  obtain ⟨P1, hP1⟩ : ∃ P : ByteArray, P = ⟨(fld 8 s.g).toArray⟩ := ⟨_, rfl⟩
  obtain ⟨P2, hP2⟩ : ∃ P : ByteArray, P = ⟨(fld 4 (s.r + 1)).toArray⟩ := ⟨_, rfl⟩
  obtain ⟨P3, hP3⟩ : ∃ P : ByteArray, P = ⟨(fld 8 s.t).toArray⟩ := ⟨_, rfl⟩
  obtain ⟨P4, hP4⟩ : ∃ P : ByteArray, P = ⟨(fld 4 s.e).toArray⟩ := ⟨_, rfl⟩
  obtain ⟨P5, hP5⟩ : ∃ P : ByteArray, P = ⟨(fld 8 s.l).toArray⟩ := ⟨_, rfl⟩
  obtain ⟨P6, hP6⟩ : ∃ P : ByteArray, P = ⟨(fld 8 s.m).toArray⟩ := ⟨_, rfl⟩
  obtain ⟨P7, hP7⟩ : ∃ P : ByteArray, P = ⟨(fld 4 (csum (u6 s) : Nat)).toArray⟩ := ⟨_, rfl⟩
  obtain ⟨H6, hH6⟩ : ∃ P : ByteArray, P = ⟨(u6 s).toArray⟩ := ⟨_, rfl⟩
  have HX := Lib.hid ((ba_putU s P1 P2 P3 P4 P5 P6 hP1 hP2 hP3 hP4 hP5 hP6).trans hH6.symm)
  have sp1 : P1.size ≤ 8 := by rw [hP1]; exact Nat.le_trans (Nat.le_of_eq (List.size_toArray.trans (len_fld _ _))) (by decide)
  have sp2 : P2.size ≤ 8 := by rw [hP2]; exact Nat.le_trans (Nat.le_of_eq (List.size_toArray.trans (len_fld _ _))) (by decide)
  have sp3 : P3.size ≤ 8 := by rw [hP3]; exact Nat.le_trans (Nat.le_of_eq (List.size_toArray.trans (len_fld _ _))) (by decide)
  have sp4 : P4.size ≤ 8 := by rw [hP4]; exact Nat.le_trans (Nat.le_of_eq (List.size_toArray.trans (len_fld _ _))) (by decide)
  have sp5 : P5.size ≤ 8 := by rw [hP5]; exact Nat.le_trans (Nat.le_of_eq (List.size_toArray.trans (len_fld _ _))) (by decide)
  have sp6 : P6.size ≤ 8 := by rw [hP6]; exact Nat.le_trans (Nat.le_of_eq (List.size_toArray.trans (len_fld _ _))) (by decide)
  have sp7 : P7.size ≤ 8 := by rw [hP7]; exact Nat.le_trans (Nat.le_of_eq (List.size_toArray.trans (len_fld _ _))) (by decide)
  have sp8 : H6.size ≤ 44 := by rw [hH6]; exact Nat.le_of_eq (List.size_toArray.trans (len_u6 s))
  have HY : Hid ((⟨(u7 s).toArray⟩ : ByteArray) = H6 ++ P7) := Lib.hid (by rw [hH6, hP7]; apply ByteArray.ext; apply Array.ext'; simp [u7])
  have HF1 := Lib.hid (refFieldU s.g 8 (by decide) P1 hP1 8 rfl)
  have HF2 := Lib.hid (refFieldU (s.r + 1) 4 (by decide) P2 hP2 4 rfl)
  have HF3 := Lib.hid (refFieldU s.t 8 (by decide) P3 hP3 8 rfl)
  have HF4 := Lib.hid (refFieldU s.e 4 (by decide) P4 hP4 4 rfl)
  have HF5 := Lib.hid (refFieldU s.l 8 (by decide) P5 hP5 8 rfl)
  have HF6 := Lib.hid (refFieldU s.m 8 (by decide) P6 hP6 8 rfl)
  have HF7 := Lib.hid (refFieldU (csum (u6 s) : Nat) 4 (by decide) P7 hP7 4 rfl)
  have HS7 := Lib.hid (fun W => refSum_any (u6 s) H6 hH6 W (by rw [len_u6]; decide))
  obtain ⟨a1, a2, a3, a4, a5, a6, a7, a8, a9, a10, a11, a12⟩ := rU_yes h
  rw [HY.out]
  clear HY hP1 hP2 hP3 hP4 hP5 hP6 hP7 hH6 h
  generalize csum (u6 s) = cs at *
  obtain ⟨g, r, t, e, l, m⟩ := s
  unfold uv
  simp only at *
  have hrw := wrap_of (r + 1) (by omega) (by omega)
  go_enter Try.func36, Try.ntmps36
  go_upto_region 1 with fail
  obtain ⟨W0, hW0⟩ : ∃ W0, w.alloc (ubox ⟨g, r, t, e, l, m⟩) = W0 := ⟨_, rfl⟩
  have T0 : Hid (Turn (fun _ => False) w W0) := Lib.hid (hW0 ▸ (Turn.refl _ _).alloc _)
  have K0 := Lib.hid (Blk.new w 23 [.int .i64 g, .int .i64 r, .int .i64 t, .int .i64 e, .int .i64 l, .int .i64 m])
  unfold ubox at hW0
  simp only at hW0
  rw [hW0] at K0 ⊢
  obtain ⟨c0, c1, c2, c3, c4, c5⟩ := (blk6 K0.out).1
  have SC : Hid (∀ W, Turn (fun _ => False) W0 W → W.cell? ⟨w.heap.size, 0, none⟩ = some (.int .i64 g) ∧ W.cell? ⟨w.heap.size, 1, none⟩ = some (.int .i64 r) ∧ W.cell? ⟨w.heap.size, 2, none⟩ = some (.int .i64 t) ∧ W.cell? ⟨w.heap.size, 3, none⟩ = some (.int .i64 e) ∧ W.cell? ⟨w.heap.size, 4, none⟩ = some (.int .i64 l) ∧ W.cell? ⟨w.heap.size, 5, none⟩ = some (.int .i64 m)) := Lib.hid (fun W ht => (blk6 (K0.out.turn ht (fun h => h))).1)
  have TT : Hid (Turn (fun _ => False) W0 W0.drew) := Lib.hid ((Turn.refl _ _).drew)
  clear hW0
  go_cut [3] (fun t4 wx => t4 = .string H6 ∧ Turn (fun _ => False) w wx)
  case first =>
    refine wp_region_noPanic ?_
    refine wp_region_held_drew (S := fun W => W.cell? ⟨w.heap.size, 0, none⟩ = some (.int .i64 g) ∧ W.cell? ⟨w.heap.size, 1, none⟩ = some (.int .i64 r) ∧ W.cell? ⟨w.heap.size, 2, none⟩ = some (.int .i64 t) ∧ W.cell? ⟨w.heap.size, 3, none⟩ = some (.int .i64 e) ∧ W.cell? ⟨w.heap.size, 4, none⟩ = some (.int .i64 l) ∧ W.cell? ⟨w.heap.size, 5, none⟩ = some (.int .i64 m)) (by kernel_rfl) ?_ (fun hHeld => ?_)
    · exact SC.out _ TT.out
    refine wpAnyH_take (i := 0) (v := ?_) rfl (by kernel_rfl) (by kernel_rfl) (by kernel_rfl) (fun _ _ _ h => h) (Or.inl ⟨by rfl, ?_⟩) (by assumption) ?_
    rotate_left 1
    · intro w' hSw
      go_simp
      all_goals first | with_reducible rfl | (rw [if_neg (by omega)]; done) | (rw [if_neg (by omega)]; with_reducible rfl)
    try simp only [List.getElem_toArray, List.getElem_cons_zero, List.getElem_cons_succ, Act.put, List.setIfInBounds_toArray, List.set_cons_zero, List.set_cons_succ]
    refine wpAnyH_take (i := 1) (v := ?_) rfl (by kernel_rfl) (by kernel_rfl) (by kernel_rfl) (fun _ _ _ h => h) (Or.inl ⟨by rfl, ?_⟩) (by assumption) ?_
    rotate_left 1
    · intro w' hSw
      go_simp
      all_goals first | with_reducible rfl | (rw [if_neg (by omega)]; done) | (rw [if_neg (by omega)]; with_reducible rfl)
    try simp only [List.getElem_toArray, List.getElem_cons_zero, List.getElem_cons_succ, Act.put, List.setIfInBounds_toArray, List.set_cons_zero, List.set_cons_succ]
    refine wpAnyH_take (i := 4) (v := ?_) rfl (by kernel_rfl) (by kernel_rfl) (by kernel_rfl) (fun _ _ _ h => h) (Or.inl ⟨by rfl, ?_⟩) (by assumption) ?_
    rotate_left 1
    · intro w' hSw
      go_simp
      all_goals first | with_reducible rfl | (rw [if_neg (by omega)]; done) | (rw [if_neg (by omega)]; with_reducible rfl)
    try simp only [List.getElem_toArray, List.getElem_cons_zero, List.getElem_cons_succ, Act.put, List.setIfInBounds_toArray, List.set_cons_zero, List.set_cons_succ]
    refine wpAnyH_take (i := 5) (v := ?_) rfl (by kernel_rfl) (by kernel_rfl) (by kernel_rfl) (fun _ _ _ h => h) (Or.inl ⟨by rfl, ?_⟩) (by assumption) ?_
    rotate_left 1
    · intro w' hSw
      go_simp
      all_goals first | with_reducible rfl | (rw [if_neg (by omega)]; done) | (rw [if_neg (by omega)]; with_reducible rfl)
    try simp only [List.getElem_toArray, List.getElem_cons_zero, List.getElem_cons_succ, Act.put, List.setIfInBounds_toArray, List.set_cons_zero, List.set_cons_succ]
    refine wpAnyH_take (i := 6) (v := ?_) rfl (by kernel_rfl) (by kernel_rfl) (by kernel_rfl) (fun _ _ _ h => h) (Or.inl ⟨by rfl, ?_⟩) (by assumption) ?_
    rotate_left 1
    · intro w' hSw
      go_simp
      all_goals first | with_reducible rfl | (rw [if_neg (by omega)]; done) | (rw [if_neg (by omega)]; with_reducible rfl)
    try simp only [List.getElem_toArray, List.getElem_cons_zero, List.getElem_cons_succ, Act.put, List.setIfInBounds_toArray, List.set_cons_zero, List.set_cons_succ]
    refine wpAnyH_take (i := 9) (v := ?_) rfl (by kernel_rfl) (by kernel_rfl) (by kernel_rfl) (fun _ _ _ h => h) (Or.inl ⟨by rfl, ?_⟩) (by assumption) ?_
    rotate_left 1
    · intro w' hSw
      go_simp
      all_goals first | with_reducible rfl | (rw [if_neg (by omega)]; done) | (rw [if_neg (by omega)]; with_reducible rfl)
    try simp only [List.getElem_toArray, List.getElem_cons_zero, List.getElem_cons_succ, Act.put, List.setIfInBounds_toArray, List.set_cons_zero, List.set_cons_succ]
    refine wpAnyH_take (i := 10) (v := ?_) rfl (by kernel_rfl) (by kernel_rfl) (by kernel_rfl) (fun _ _ _ h => h) (Or.inl ⟨by rfl, ?_⟩) (by assumption) ?_
    rotate_left 1
    · intro w' hSw
      go_simp
      all_goals first | with_reducible rfl | (rw [if_neg (by omega)]; done) | (rw [if_neg (by omega)]; with_reducible rfl)
    try simp only [List.getElem_toArray, List.getElem_cons_zero, List.getElem_cons_succ, Act.put, List.setIfInBounds_toArray, List.set_cons_zero, List.set_cons_succ]
    refine wpAnyH_take (i := 13) (v := ?_) rfl (by kernel_rfl) (by kernel_rfl) (by kernel_rfl) (fun _ _ _ h => h) (Or.inl ⟨by rfl, ?_⟩) (by assumption) ?_
    rotate_left 1
    · intro w' hSw
      go_simp
      all_goals first | with_reducible rfl | (rw [if_neg (by omega)]; done) | (rw [if_neg (by omega)]; with_reducible rfl)
    try simp only [List.getElem_toArray, List.getElem_cons_zero, List.getElem_cons_succ, Act.put, List.setIfInBounds_toArray, List.set_cons_zero, List.set_cons_succ]
    refine wpAnyH_take (i := 14) (v := ?_) rfl (by kernel_rfl) (by kernel_rfl) (by kernel_rfl) (fun _ _ _ h => h) (Or.inl ⟨by rfl, ?_⟩) (by assumption) ?_
    rotate_left 1
    · intro w' hSw
      go_simp
      all_goals first | with_reducible rfl | (rw [if_neg (by omega)]; done) | (rw [if_neg (by omega)]; with_reducible rfl)
    try simp only [List.getElem_toArray, List.getElem_cons_zero, List.getElem_cons_succ, Act.put, List.setIfInBounds_toArray, List.set_cons_zero, List.set_cons_succ]
    refine wpAnyH_take (i := 17) (v := ?_) rfl (by kernel_rfl) (by kernel_rfl) (by kernel_rfl) (fun _ _ _ h => h) (Or.inl ⟨by rfl, ?_⟩) (by assumption) ?_
    rotate_left 1
    · intro w' hSw
      go_simp
      all_goals first | with_reducible rfl | (rw [if_neg (by omega)]; done) | (rw [if_neg (by omega)]; with_reducible rfl)
    try simp only [List.getElem_toArray, List.getElem_cons_zero, List.getElem_cons_succ, Act.put, List.setIfInBounds_toArray, List.set_cons_zero, List.set_cons_succ]
    refine wpAnyH_take (i := 18) (v := ?_) rfl (by kernel_rfl) (by kernel_rfl) (by kernel_rfl) (fun _ _ _ h => h) (Or.inl ⟨by rfl, ?_⟩) (by assumption) ?_
    rotate_left 1
    · intro w' hSw
      go_simp
      all_goals first | with_reducible rfl | (rw [if_neg (by omega)]; done) | (rw [if_neg (by omega)]; with_reducible rfl)
    try simp only [List.getElem_toArray, List.getElem_cons_zero, List.getElem_cons_succ, Act.put, List.setIfInBounds_toArray, List.set_cons_zero, List.set_cons_succ]
    refine wpAnyH_take (i := 21) (v := ?_) rfl (by kernel_rfl) (by kernel_rfl) (by kernel_rfl) (fun _ _ _ h => h) (Or.inl ⟨by rfl, ?_⟩) (by assumption) ?_
    rotate_left 1
    · intro w' hSw
      go_simp
      all_goals first | with_reducible rfl | (rw [if_neg (by omega)]; done) | (rw [if_neg (by omega)]; with_reducible rfl)
    try simp only [List.getElem_toArray, List.getElem_cons_zero, List.getElem_cons_succ, Act.put, List.setIfInBounds_toArray, List.set_cons_zero, List.set_cons_succ]
    refine wpAnyH_take (i := 22) (v := ?_) rfl (by kernel_rfl) (by kernel_rfl) (by kernel_rfl) (fun _ _ _ h => h) (Or.inl ⟨by rfl, ?_⟩) (by assumption) ?_
    rotate_left 1
    · intro w' hSw
      go_simp
      all_goals first | with_reducible rfl | (rw [if_neg (by omega)]; done) | (rw [if_neg (by omega)]; with_reducible rfl)
    try simp only [List.getElem_toArray, List.getElem_cons_zero, List.getElem_cons_succ, Act.put, List.setIfInBounds_toArray, List.set_cons_zero, List.set_cons_succ]
    refine wpAnyH_ready (rs := [2]) (by kernel_rfl) (by simp) ?_
    refine AllReadyH.cons rfl (fun K hK => ?_) AllReadyH.nil
    refine step_call rfl 59 Try.f59 _ _ rfl Try.func59 (by kernel_rfl) (by kernel_rfl) _ _ (HF1.out _) (by go_simp) ?_
    rintro v1 w1 ⟨rfl, ht⟩
    have TT := Lib.hid (TT.out.trans ht)
    clear ht
    refine hK.out _ _ (SC.out _ TT.out) (fun hHeld => ?_)
    clear hK K
    try simp only [List.getElem_toArray, List.getElem_cons_zero, List.getElem_cons_succ, Act.put, List.setIfInBounds_toArray, List.set_cons_zero, List.set_cons_succ]
    refine wpAnyH_take (i := 3) (v := ?_) rfl (by kernel_rfl) (by kernel_rfl) (by kernel_rfl) (fun _ _ _ h => h) (Or.inl ⟨by rfl, ?_⟩) (by assumption) ?_
    rotate_left 1
    · intro w' hSw
      go_simp
      all_goals first | with_reducible rfl | (rw [if_neg (by omega)]; done) | (rw [if_neg (by omega)]; with_reducible rfl)
    try simp only [List.getElem_toArray, List.getElem_cons_zero, List.getElem_cons_succ, Act.put, List.setIfInBounds_toArray, List.set_cons_zero, List.set_cons_succ]
    refine wpAnyH_ready (rs := [7]) (by kernel_rfl) (by simp) ?_
    refine AllReadyH.cons rfl (fun K hK => ?_) AllReadyH.nil
    refine step_call rfl 59 Try.f59 _ _ rfl Try.func59 (by kernel_rfl) (by kernel_rfl) _ _ (HF2.out _) (by go_simp) ?_
    rintro v2 w2 ⟨rfl, ht⟩
    have TT := Lib.hid (TT.out.trans ht)
    clear ht
    refine hK.out _ _ (SC.out _ TT.out) (fun hHeld => ?_)
    clear hK K
    try simp only [List.getElem_toArray, List.getElem_cons_zero, List.getElem_cons_succ, Act.put, List.setIfInBounds_toArray, List.set_cons_zero, List.set_cons_succ]
    refine wpAnyH_take (i := 8) (v := ?_) rfl (by kernel_rfl) (by kernel_rfl) (by kernel_rfl) (fun _ _ _ h => h) (Or.inl ⟨by rfl, ?_⟩) (by assumption) ?_
    rotate_left 1
    · intro w' hSw
      go_simp
      all_goals first | with_reducible rfl | (rw [if_neg (by omega)]; done) | (rw [if_neg (by omega)]; with_reducible rfl)
    try simp only [List.getElem_toArray, List.getElem_cons_zero, List.getElem_cons_succ, Act.put, List.setIfInBounds_toArray, List.set_cons_zero, List.set_cons_succ]
    refine wpAnyH_ready (rs := [11]) (by kernel_rfl) (by simp) ?_
    refine AllReadyH.cons rfl (fun K hK => ?_) AllReadyH.nil
    refine step_call rfl 59 Try.f59 _ _ rfl Try.func59 (by kernel_rfl) (by kernel_rfl) _ _ (HF3.out _) (by go_simp) ?_
    rintro v3 w3 ⟨rfl, ht⟩
    have TT := Lib.hid (TT.out.trans ht)
    clear ht
    refine hK.out _ _ (SC.out _ TT.out) (fun hHeld => ?_)
    clear hK K
    try simp only [List.getElem_toArray, List.getElem_cons_zero, List.getElem_cons_succ, Act.put, List.setIfInBounds_toArray, List.set_cons_zero, List.set_cons_succ]
    refine wpAnyH_take (i := 12) (v := ?_) rfl (by kernel_rfl) (by kernel_rfl) (by kernel_rfl) (fun _ _ _ h => h) (Or.inl ⟨by rfl, ?_⟩) (by assumption) ?_
    rotate_left 1
    · intro w' hSw
      go_simp
      all_goals first | with_reducible rfl | (rw [if_neg (by omega)]; done) | (rw [if_neg (by omega)]; with_reducible rfl)
    try simp only [List.getElem_toArray, List.getElem_cons_zero, List.getElem_cons_succ, Act.put, List.setIfInBounds_toArray, List.set_cons_zero, List.set_cons_succ]
    refine wpAnyH_ready (rs := [15]) (by kernel_rfl) (by simp) ?_
    refine AllReadyH.cons rfl (fun K hK => ?_) AllReadyH.nil
    refine step_call rfl 59 Try.f59 _ _ rfl Try.func59 (by kernel_rfl) (by kernel_rfl) _ _ (HF4.out _) (by go_simp) ?_
    rintro v4 w4 ⟨rfl, ht⟩
    have TT := Lib.hid (TT.out.trans ht)
    clear ht
    refine hK.out _ _ (SC.out _ TT.out) (fun hHeld => ?_)
    clear hK K
    try simp only [List.getElem_toArray, List.getElem_cons_zero, List.getElem_cons_succ, Act.put, List.setIfInBounds_toArray, List.set_cons_zero, List.set_cons_succ]
    refine wpAnyH_take (i := 16) (v := ?_) rfl (by kernel_rfl) (by kernel_rfl) (by kernel_rfl) (fun _ _ _ h => h) (Or.inl ⟨by rfl, ?_⟩) (by assumption) ?_
    rotate_left 1
    · intro w' hSw
      go_simp
      all_goals first | with_reducible rfl | (rw [if_neg (by omega)]; done) | (rw [if_neg (by omega)]; with_reducible rfl)
    try simp only [List.getElem_toArray, List.getElem_cons_zero, List.getElem_cons_succ, Act.put, List.setIfInBounds_toArray, List.set_cons_zero, List.set_cons_succ]
    refine wpAnyH_ready (rs := [19]) (by kernel_rfl) (by simp) ?_
    refine AllReadyH.cons rfl (fun K hK => ?_) AllReadyH.nil
    refine step_call rfl 59 Try.f59 _ _ rfl Try.func59 (by kernel_rfl) (by kernel_rfl) _ _ (HF5.out _) (by go_simp) ?_
    rintro v5 w5 ⟨rfl, ht⟩
    have TT := Lib.hid (TT.out.trans ht)
    clear ht
    refine hK.out _ _ (SC.out _ TT.out) (fun hHeld => ?_)
    clear hK K
    try simp only [List.getElem_toArray, List.getElem_cons_zero, List.getElem_cons_succ, Act.put, List.setIfInBounds_toArray, List.set_cons_zero, List.set_cons_succ]
    refine wpAnyH_take (i := 20) (v := ?_) rfl (by kernel_rfl) (by kernel_rfl) (by kernel_rfl) (fun _ _ _ h => h) (Or.inl ⟨by rfl, ?_⟩) (by assumption) ?_
    rotate_left 1
    · intro w' hSw
      go_simp
      all_goals first | with_reducible rfl | (rw [if_neg (by omega)]; done) | (rw [if_neg (by omega)]; with_reducible rfl)
    try simp only [List.getElem_toArray, List.getElem_cons_zero, List.getElem_cons_succ, Act.put, List.setIfInBounds_toArray, List.set_cons_zero, List.set_cons_succ]
    refine wpAnyH_ready (rs := [23]) (by kernel_rfl) (by simp) ?_
    refine AllReadyH.cons rfl (fun K hK => ?_) AllReadyH.nil
    refine step_call rfl 59 Try.f59 _ _ rfl Try.func59 (by kernel_rfl) (by kernel_rfl) _ _ (HF6.out _) (by go_simp) ?_
    rintro v6 w6 ⟨rfl, ht⟩
    have TT := Lib.hid (TT.out.trans ht)
    clear ht
    refine hK.out _ _ (SC.out _ TT.out) (fun hHeld => ?_)
    clear hK K
    try simp only [List.getElem_toArray, List.getElem_cons_zero, List.getElem_cons_succ, Act.put, List.setIfInBounds_toArray, List.set_cons_zero, List.set_cons_succ]
    refine wpAnyH_take (i := 24) (v := ?_) rfl (by kernel_rfl) (by kernel_rfl) (by kernel_rfl) (fun _ _ _ h => h) (Or.inl ⟨by rfl, ?_⟩) (by assumption) ?_
    rotate_left 1
    · intro w' hSw
      go_simp
      all_goals first | with_reducible rfl | (rw [if_neg (by omega)]; done) | (rw [if_neg (by omega)]; with_reducible rfl)
    try simp only [List.getElem_toArray, List.getElem_cons_zero, List.getElem_cons_succ, Act.put, List.setIfInBounds_toArray, List.set_cons_zero, List.set_cons_succ]
    refine wpAnyH_take (i := 25) (v := ?_) rfl (by kernel_rfl) (by kernel_rfl) (by kernel_rfl) (fun _ _ _ h => h) (Or.inl ⟨by rfl, ?_⟩) (by assumption) ?_
    rotate_left 1
    · intro w' hSw
      go_simp
      all_goals first | with_reducible rfl | (rw [if_neg (by omega)]; done) | (rw [if_neg (by omega)]; with_reducible rfl)
    try simp only [List.getElem_toArray, List.getElem_cons_zero, List.getElem_cons_succ, Act.put, List.setIfInBounds_toArray, List.set_cons_zero, List.set_cons_succ]
    refine wpAnyH_done (by kernel_rfl) ?_ _
    refine NoPanic.normal ?_
    go_wp2_with fail
    go_meet
    exact ⟨by rw [HX.out], T0.out.trans TT.out⟩
  case rest =>
    obtain ⟨rfl, hbc⟩ := hcut
    have HB := Lib.hid hbc
    clear hbc
    go_wp2_with fail
    refine (HS7.out _).mono ?_
    rintro e8 w8 ⟨rfl, rfl⟩
    go_wp2_with fail
    refine (HF7.out _).mono ?_
    rintro e9 w9 ⟨v9, rfl, rfl, ht⟩
    go_wp2_with fail
    go_ret
    exact ⟨rfl, HB.out.trans ht⟩
end Go.Proofs.Ytcjoinahelmmpaa
/- Layer 11: the document's Bytes and Read. -/
namespace Go.Proofs.Ytcjoinahelmmpaa
open Go.RowKit
set_option linter.unusedVariables false
set_option linter.unusedSimpArgs false
set_option maxRecDepth 100000

theorem full_u7 (s : Sup) : full (u7 s) = putU s := by
  unfold full putU
  rw [len_u7]
/-- What Read answers. -/
def rdU (o : Option Sup) : Value := match o with
  | some s => .tuple #[uv s, .int .i64 0]
  | none => .tuple #[.agg #[.int .i64 0, .int .i64 0, .int .i64 0, .int .i64 0, .int .i64 0, .int .i64 0], .int .i64 4]
theorem refBytesU_bad (s : Sup) (h : rU s = false) (w : World) :
    Calls Try.prog 11 #[uv s] w fun e w' => e = .returned (.tuple #[.string ⟨#[]⟩, .int .i64 2]) ∧ Turn (fun _ => False) w w' := by
  have HC : Hid (∀ W, Calls Try.prog 34 #[uv s] W fun e w' => e = .returned (.bool false) ∧ w' = W.alloc (ubox s)) := Lib.hid (fun W => by have := refRightU s W; rw [h] at this; exact this)
  obtain ⟨g, r, t, e, l, m⟩ := s
  unfold uv ubox at *
  simp only at HC ⊢
  clear h
  go_enter Try.func11, Try.ntmps11
  go_wp2_with fail
  refine (HC.out _).mono ?_
  rintro e w' ⟨rfl, rfl⟩
  go_wp2_with fail
  go_ret2
  exact ⟨rfl, ((Turn.refl _ _).alloc _).alloc _⟩
theorem refBytesU_ok (s : Sup) (h : rU s = true) (P : ByteArray) (hP : P = ⟨(putU s).toArray⟩) (w : World) :
    Calls Try.prog 11 #[uv s] w fun e w' => e = .returned (.tuple #[.string P, .int .i64 0]) ∧ Turn (fun _ => False) w w' := by
  have HC : Hid (∀ W, Calls Try.prog 34 #[uv s] W fun e w' => e = .returned (.bool true) ∧ w' = W.alloc (ubox s)) := Lib.hid (fun W => by have := refRightU s W; rw [h] at this; exact this)
  obtain ⟨Q, hQ⟩ : ∃ Q : ByteArray, Q = ⟨(u7 s).toArray⟩ := ⟨_, rfl⟩
  have HP : Hid (∀ W, Calls Try.prog 36 #[uv s] W fun e w' => e = .returned (.string Q) ∧ Turn (fun _ => False) W w') := Lib.hid (fun W => by have := refPutU s h W; rw [← hQ] at this; exact this)
  have HF : Hid (∀ W, Calls Try.prog 35 #[.string Q] W fun e w' => e = .returned (.string P) ∧ Turn (fun _ => False) W w') := Lib.hid (fun W => by
    have := full_r Q (by rw [hQ]; exact Nat.le_trans (Nat.le_of_eq (List.size_toArray.trans (len_u7 s))) (by decide)) W
    rw [hQ] at this
    simp only [sv] at this
    rw [full_u7] at this
    rw [hQ, hP]; exact this)
  obtain ⟨g, r, t, e, l, m⟩ := s
  unfold uv ubox at *
  simp only at HC HP ⊢
  clear h hP hQ
  go_enter Try.func11, Try.ntmps11
  go_wp2_with fail
  refine (HC.out _).mono ?_
  rintro e w' ⟨rfl, rfl⟩
  go_wp2_with fail
  refine (HP.out _).mono ?_
  rintro e w1 ⟨rfl, h1⟩
  have T1 := Lib.hid h1
  clear h1
  go_wp2_with fail
  refine (HF.out _).mono ?_
  rintro e w2 ⟨rfl, h2⟩
  have T2 := Lib.hid h2
  clear h2
  go_wp2_with fail
  go_ret2
  exact ⟨rfl, ((((Turn.refl _ _).alloc _).alloc _).trans T1.out).trans T2.out⟩
theorem refReadU_short (S : ByteArray) (h : S.size ≠ 128) (w : World) :
    Calls Try.prog 16 #[.string S] w fun e w' => e = .returned (rdU none) ∧ Turn (fun _ => False) w w' := by
  have hq : ((S.size : Int) == 128) = false := by simp; omega
  have hq2 : ((S.size : Int) != 128) = true := by simp; omega
  clear h
  go_enter Try.func16, Try.ntmps16
  go_wp2
  exact bodyPost_ret (v := .tuple #[.agg #[.int .i64 0, .int .i64 0, .int .i64 0, .int .i64 0, .int .i64 0, .int .i64 0], .int .i64 4]) (by simp [results, Try.results16, go_sem]) rfl ⟨rfl, by
    repeat (first | exact (Turn.refl _ _) | refine Turn.setCell ?_ (by simp) _ | refine Turn.alloc ?_ _)⟩
theorem num_refU (S : ByteArray) (l : List UInt8) (hS : S = ⟨l.toArray⟩) (hl : l.length = 128) :
    (∀ W, Calls Try.prog 42 #[.string S, .int .i64 4, .int .i64 8] W fun e w' => e = .returned (.int .i64 (wrap64 (num 8 l 4 : Nat))) ∧ W = w') ∧
    (∀ W, Calls Try.prog 42 #[.string S, .int .i64 12, .int .i64 4] W fun e w' => e = .returned (.int .i64 (num 4 l 12 : Nat)) ∧ W = w') ∧
    (∀ W, Calls Try.prog 42 #[.string S, .int .i64 16, .int .i64 8] W fun e w' => e = .returned (.int .i64 (wrap64 (num 8 l 16 : Nat))) ∧ W = w') ∧
    (∀ W, Calls Try.prog 42 #[.string S, .int .i64 24, .int .i64 4] W fun e w' => e = .returned (.int .i64 (num 4 l 24 : Nat)) ∧ W = w') ∧
    (∀ W, Calls Try.prog 42 #[.string S, .int .i64 28, .int .i64 8] W fun e w' => e = .returned (.int .i64 (wrap64 (num 8 l 28 : Nat))) ∧ W = w') ∧
    (∀ W, Calls Try.prog 42 #[.string S, .int .i64 36, .int .i64 8] W fun e w' => e = .returned (.int .i64 (wrap64 (num 8 l 36 : Nat))) ∧ W = w') := by
  have b1 : num 4 l 12 < 4294967296 := by have := num_lt 4 l 12; simpa using this
  have b2 : num 4 l 24 < 4294967296 := by have := num_lt 4 l 24; simpa using this
  have w1 : wrap64 (num 4 l 12 : Nat) = (num 4 l 12 : Nat) := IntWalk.wrap64_in _ ⟨by omega, by omega⟩
  have w2 : wrap64 (num 4 l 24 : Nat) = (num 4 l 24 : Nat) := IntWalk.wrap64_in _ ⟨by omega, by omega⟩
  refine ⟨fun W => ?_, fun W => ?_, fun W => ?_, fun W => ?_, fun W => ?_, fun W => ?_⟩
  · exact refNumber_any S l hS 4 8 (by decide) (by omega) (by omega) W
  · have := refNumber_any S l hS 12 4 (by decide) (by omega) (by omega) W
    rw [w1] at this
    exact this
  · exact refNumber_any S l hS 16 8 (by decide) (by omega) (by omega) W
  · have := refNumber_any S l hS 24 4 (by decide) (by omega) (by omega) W
    rw [w2] at this
    exact this
  · exact refNumber_any S l hS 28 8 (by decide) (by omega) (by omega) W
  · exact refNumber_any S l hS 36 8 (by decide) (by omega) (by omega) W
theorem ba_neU {S T : ByteArray} (h : S ≠ T) : (S.toList == T.toList) = false := by
  have : S.toList ≠ T.toList := fun e => h (by
    have h1 : S.data.toList = T.data.toList := by rw [ByteArray.toList_eq, ByteArray.toList_eq] at e; exact e
    exact ByteArray.ext (Array.ext' h1))
  simpa using this
set_option maxHeartbeats 4000000 in
theorem refReadU_128 (S : ByteArray) (l : List UInt8) (hS : S = ⟨l.toArray⟩) (hl : l.length = 128) (w : World) :
    Calls Try.prog 16 #[.string S] w fun e w' => e = .returned (rdU (readU l)) ∧ Turn (fun _ => False) w w' := by
  have HN := num_refU S l hS hl
  have N1 := Lib.hid HN.1
  have N2 := Lib.hid HN.2.1
  have N3 := Lib.hid HN.2.2.1
  have N4 := Lib.hid HN.2.2.2.1
  have N5 := Lib.hid HN.2.2.2.2.1
  have N6 := Lib.hid HN.2.2.2.2.2
  have hsz : S.size = 128 := by rw [hS]; simpa [ByteArray.size] using hl
  have hq : ((S.size : Int) != 128) = false := by simp; omega
  have HSS := Lib.hid hS
  have HR : Hid (readU l = if rU (parseU l) = true ∧ putU (parseU l) = l then some (parseU l) else none) := Lib.hid (by
    unfold readU
    by_cases hx : rU (parseU l) = true ∧ putU (parseU l) = l
    · rw [if_pos ⟨hl, hx.1, hx.2⟩, if_pos hx]
    · rw [if_neg (fun h => hx h.2), if_neg hx])
  obtain ⟨s, hs⟩ : ∃ s, parseU l = s := ⟨_, rfl⟩
  rw [hs] at HR
  have HRI := Lib.hid (refRightU s)
  have HPU := Lib.hid (refPutU s)
  have b1 : 0 ≤ num 4 l 12 ∧ num 4 l 12 < 4294967296 := ⟨Nat.zero_le _, by have := num_lt 4 l 12; simpa using this⟩
  obtain ⟨g, r, t, e, lm, m⟩ := s
  have hs' := hs
  unfold parseU at hs'
  injection hs' with x1 x2 x3 x4 x5 x6
  rw [x1] at N1
  rw [x3] at N3
  rw [x4] at N4
  rw [x5] at N5
  rw [x6] at N6
  clear HN hS hsz hs x1 x3 x4 x5 x6
  obtain ⟨k, hk⟩ : ∃ k : Int, k = (num 4 l 12 : Int) := ⟨_, rfl⟩
  rw [← hk] at N2 x2
  have hk1 : 0 ≤ k := by omega
  have hk2 : k < 4294967296 := by omega
  clear b1 hk
  obtain rfl := x2
  unfold uv ubox at *
  simp only at HRI HPU
  have W1 : Hid (∀ W, Calls Try.prog 34 #[.agg #[.int .i64 g, .int .i64 (k - 1), .int .i64 t, .int .i64 e, .int .i64 lm, .int .i64 m]] W fun e_1 w' => e_1 = .returned (.bool (rU ⟨g, k - 1, t, e, lm, m⟩)) ∧ Turn (fun _ => False) W w') := Lib.hid (fun W => (HRI.out W).mono (by rintro _ _ ⟨rfl, rfl⟩; exact ⟨rfl, (Turn.refl _ _).alloc _⟩))
  clear HRI
  go_enter Try.func16, Try.ntmps16
  go_wp2_with (first
    | (go_at_call 42; (with_reducible refine (N1.out _).mono ?_); rintro e w' ⟨rfl, rfl⟩)
    | (go_at_call 42; (with_reducible refine (N2.out _).mono ?_); rintro e w' ⟨rfl, rfl⟩)
    | (go_at_call 42; (with_reducible refine (N3.out _).mono ?_); rintro e w' ⟨rfl, rfl⟩)
    | (go_at_call 42; (with_reducible refine (N4.out _).mono ?_); rintro e w' ⟨rfl, rfl⟩)
    | (go_at_call 42; (with_reducible refine (N5.out _).mono ?_); rintro e w' ⟨rfl, rfl⟩)
    | (go_at_call 42; (with_reducible refine (N6.out _).mono ?_); rintro e w' ⟨rfl, rfl⟩))
  have B0 := Lib.hid ((Blk.new w 23 [.int .i64 0, .int .i64 0, .int .i64 0, .int .i64 0, .int .i64 0, .int .i64 0]).alloc (.cells #[.int .i64 g, .int .i64 (k - 1), .int .i64 t, .int .i64 e, .int .i64 lm, .int .i64 m] 23))
  have B1 := Lib.hid (Blk.new_ (w.alloc (.cells #[.int .i64 0, .int .i64 0, .int .i64 0, .int .i64 0, .int .i64 0, .int .i64 0] 23)) 23 [.int .i64 g, .int .i64 (k - 1), .int .i64 t, .int .i64 e, .int .i64 lm, .int .i64 m] (k := w.heap.size + 1) (by simp))
  have T0 := Lib.hid (((Turn.refl (fun _ => False) w).alloc (.cells #[.int .i64 0, .int .i64 0, .int .i64 0, .int .i64 0, .int .i64 0, .int .i64 0] 23)).alloc (.cells #[.int .i64 g, .int .i64 (k - 1), .int .i64 t, .int .i64 e, .int .i64 lm, .int .i64 m] 23))
  refine (W1.out _).mono ?_
  rintro e1 w1 ⟨rfl, ht⟩
  have C0 := Lib.hid (B0.out.turn ht (fun h => h))
  have C1 := Lib.hid (B1.out.turn ht (fun h => h))
  have T1 := Lib.hid (T0.out.trans ht)
  clear ht B0 B1 T0
  obtain ⟨rr, hrr⟩ : ∃ rr, rU ⟨g, k - 1, t, e, lm, m⟩ = rr := ⟨_, rfl⟩
  rw [hrr] at HR ⊢
  have HRR := Lib.hid hrr
  clear hrr
  obtain ⟨⟨q0, q1, q2, q3, q4, q5⟩, k0, k1_, k2, k3, k4, k5⟩ := blk6 C0.out
  cases rr with
  | false =>
    have HR2 : Hid (readU l = none) := Lib.hid (by rw [HR.out, if_neg (fun h => by cases h.1)])
    clear HR
    go_wp2_with fail
    rw [put6_eq]
    have hf := C0.out.put6 (a' := .int .i64 0) (b' := .int .i64 0) (c' := .int .i64 0) (d' := .int .i64 0) (e' := .int .i64 0) (f' := .int .i64 0)
    have hT := T1.out.put6 (g := w.heap.size) (.inr (Nat.le_refl _)) (.int .i64 0) (.int .i64 0) (.int .i64 0) (.int .i64 0) (.int .i64 0) (.int .i64 0)
    generalize put6 w1 w.heap.size (.int .i64 0) (.int .i64 0) (.int .i64 0) (.int .i64 0) (.int .i64 0) (.int .i64 0) = WF at *
    clear q0 q1 q2 q3 q4 q5 k0 k1_ k2 k3 k4 k5
    obtain ⟨e0, e1, e2, e3, e4, e5⟩ := (blk6 hf).1
    exact bodyPost_ret (v := .tuple #[.agg #[.int .i64 0, .int .i64 0, .int .i64 0, .int .i64 0, .int .i64 0, .int .i64 0], .int .i64 4]) (by simp [results, Try.results16, go_sem, e0, e1, e2, e3, e4, e5]) rfl ⟨by rw [HR2.out]; rfl, hT⟩
  | true =>
    obtain ⟨Q, hQ⟩ : ∃ Q : ByteArray, Q = ⟨(u7 ⟨g, k - 1, t, e, lm, m⟩).toArray⟩ := ⟨_, rfl⟩
    obtain ⟨P, hP⟩ : ∃ P : ByteArray, P = ⟨(putU ⟨g, k - 1, t, e, lm, m⟩).toArray⟩ := ⟨_, rfl⟩
    have HP1 : Hid (∀ W, Calls Try.prog 36 #[.agg #[.int .i64 g, .int .i64 (k - 1), .int .i64 t, .int .i64 e, .int .i64 lm, .int .i64 m]] W fun e w' => e = .returned (.string Q) ∧ Turn (fun _ => False) W w') := Lib.hid (fun W => by have := HPU.out HRR.out W; rw [← hQ] at this; exact this)
    have HF : Hid (∀ W, Calls Try.prog 35 #[.string Q] W fun e w' => e = .returned (.string P) ∧ Turn (fun _ => False) W w') := Lib.hid (fun W => by
      have := full_r Q (by rw [hQ]; exact Nat.le_trans (Nat.le_of_eq (List.size_toArray.trans (len_u7 _))) (by decide)) W
      rw [hQ] at this
      simp only [sv] at this
      rw [full_u7] at this
      rw [hQ, hP]; exact this)
    have HPP := Lib.hid hP
    clear HPU hQ hP HRR
    obtain ⟨p0, p1, p2, p3, p4, p5⟩ := (blk6 C1.out).1
    go_wp2_with fail
    refine (HP1.out _).mono ?_
    rintro e1 w2 ⟨rfl, ht⟩
    have D0 := Lib.hid (C0.out.turn ht (fun h => h))
    have D1 := Lib.hid (C1.out.turn ht (fun h => h))
    have T2 := Lib.hid (T1.out.trans ht)
    clear ht C0 C1 T1 q0 q1 q2 q3 q4 q5 k0 k1_ k2 k3 k4 k5 p0 p1 p2 p3 p4 p5
    go_wp2_with fail
    refine (HF.out _).mono ?_
    rintro e1 w3 ⟨rfl, ht⟩
    have E0 := Lib.hid (D0.out.turn ht (fun h => h))
    have E1 := Lib.hid (D1.out.turn ht (fun h => h))
    have T3 := Lib.hid (T2.out.trans ht)
    clear ht D0 D1 T2
    obtain ⟨⟨q0, q1, q2, q3, q4, q5⟩, k0, k1_, k2, k3, k4, k5⟩ := blk6 E0.out
    obtain ⟨p0, p1, p2, p3, p4, p5⟩ := (blk6 E1.out).1
    by_cases he : putU ⟨g, k - 1, t, e, lm, m⟩ = l
    · have HR2 : Hid (readU l = some ⟨g, k - 1, t, e, lm, m⟩) := Lib.hid (by rw [HR.out, if_pos (by first | exact ⟨rfl, he⟩ | exact ⟨trivial, he⟩)])
      obtain rfl : P = S := by rw [HPP.out, HSS.out, he]
      have hs2 : (P.toList != P.toList) = false := by simp
      have hs3 : (P.toList == P.toList) = true := by simp
      clear HR he HPP HSS
      go_wp2_with fail
      rw [put6_eq]
      have hf := E0.out.put6 (a' := .int .i64 g) (b' := .int .i64 (k - 1)) (c' := .int .i64 t) (d' := .int .i64 e) (e' := .int .i64 lm) (f' := .int .i64 m)
      have hT := T3.out.put6 (g := w.heap.size) (.inr (Nat.le_refl _)) (.int .i64 g) (.int .i64 (k - 1)) (.int .i64 t) (.int .i64 e) (.int .i64 lm) (.int .i64 m)
      generalize put6 w3 w.heap.size (.int .i64 g) (.int .i64 (k - 1)) (.int .i64 t) (.int .i64 e) (.int .i64 lm) (.int .i64 m) = WF at *
      clear q0 q1 q2 q3 q4 q5 k0 k1_ k2 k3 k4 k5 p0 p1 p2 p3 p4 p5
      obtain ⟨e0, e1, e2, e3, e4, e5⟩ := (blk6 hf).1
      exact bodyPost_ret (v := .tuple #[.agg #[.int .i64 g, .int .i64 (k - 1), .int .i64 t, .int .i64 e, .int .i64 lm, .int .i64 m], .int .i64 0]) (by simp [results, Try.results16, go_sem, e0, e1, e2, e3, e4, e5]) rfl ⟨by rw [HR2.out]; rfl, hT⟩
    · have HR2 : Hid (readU l = none) := Lib.hid (by rw [HR.out, if_neg (fun h => he h.2)])
      have hne : P ≠ S := fun e => he (by rw [HPP.out, HSS.out] at e; injection e with e; simpa using e)
      have hs3 := ba_neU hne
      have hs2 : (P.toList != S.toList) = true := by simp [bne, hs3]
      clear HR he HPP HSS hne
      go_wp2_with fail
      rw [put6_eq]
      have hf := E0.out.put6 (a' := .int .i64 0) (b' := .int .i64 0) (c' := .int .i64 0) (d' := .int .i64 0) (e' := .int .i64 0) (f' := .int .i64 0)
      have hT := T3.out.put6 (g := w.heap.size) (.inr (Nat.le_refl _)) (.int .i64 0) (.int .i64 0) (.int .i64 0) (.int .i64 0) (.int .i64 0) (.int .i64 0)
      generalize put6 w3 w.heap.size (.int .i64 0) (.int .i64 0) (.int .i64 0) (.int .i64 0) (.int .i64 0) (.int .i64 0) = WF at *
      clear q0 q1 q2 q3 q4 q5 k0 k1_ k2 k3 k4 k5 p0 p1 p2 p3 p4 p5
      obtain ⟨e0, e1, e2, e3, e4, e5⟩ := (blk6 hf).1
      exact bodyPost_ret (v := .tuple #[.agg #[.int .i64 0, .int .i64 0, .int .i64 0, .int .i64 0, .int .i64 0, .int .i64 0], .int .i64 4]) (by simp [results, Try.results16, go_sem, e0, e1, e2, e3, e4, e5]) rfl ⟨by rw [HR2.out]; rfl, hT⟩
theorem refReadU_any (S : ByteArray) (l : List UInt8) (hS : S = ⟨l.toArray⟩) (w : World) :
    Calls Try.prog 16 #[.string S] w fun e w' => e = .returned (rdU (readU l)) ∧ Turn (fun _ => False) w w' := by
  have hsz : S.size = l.length := by rw [hS]; simp [ByteArray.size]
  by_cases hl : l.length = 128
  · exact refReadU_128 S l hS hl w
  · rw [show readU l = none from by unfold readU; rw [if_neg (fun h => hl h.1)]]
    exact refReadU_short S (by omega) w
end Go.Proofs.Ytcjoinahelmmpaa
