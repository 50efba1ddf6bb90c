/- Layer 11: the document's Save (made by mkSuL.py). -/
import Derived.Test.YtcjoinahelmmpaaSuK
import Derived.Deep.DeepCutAuto
import Derived.Test.YtcjoinahelmmpaaBlkM
namespace Go.Proofs.Ytcjoinahelmmpaa
open Go.RowKit
set_option linter.unusedVariables false
set_option linter.unusedSimpArgs false
set_option maxRecDepth 100000

theorem Blk.far5 {w : World} {g q : Nat} {t : TypeId} {cs : List Value} (h : Blk w q t cs) (hg : q ≠ g) (a b c d e : Value) : Blk (Go.Proofs.Ytcjoinahelmmpaa.pu5 w g a b c d e) q t cs :=
  ((((h.far (p := ⟨g, 0, none⟩) hg a).far (p := ⟨g, 1, none⟩) hg b).far (p := ⟨g, 2, none⟩) hg c).far (p := ⟨g, 3, none⟩) hg d).far (p := ⟨g, 4, none⟩) hg e
/-- The four boxes of Save. -/
structure Hd4 (w W : World) (b0 b1 b2 b3 : Nat) (ds ss rs ts : List Value) : Prop where
  t : Turn (fun _ => False) w W
  k0 : Blk W b0 46 ds
  k1 : Blk W b1 23 ss
  k2 : Blk W b2 46 rs
  k3 : Blk W b3 23 ts
  w0 : w.heap.size ≤ b0
  n01 : b0 < b1
  n12 : b1 < b2
  l23 : b2 < b3
  le3 : b3 ≤ w.heap.size + 3
theorem Hd4.n23 {w W : World} {b0 b1 b2 b3 : Nat} {ds ss rs ts : List Value} (h : Hd4 w W b0 b1 b2 b3 ds ss rs ts) : b2 ≠ b3 := by have := h.l23; omega
theorem Hd4.w2 {w W : World} {b0 b1 b2 b3 : Nat} {ds ss rs ts : List Value} (h : Hd4 w W b0 b1 b2 b3 ds ss rs ts) : w.heap.size ≤ b2 := by have := h.w0; have := h.n01; have := h.n12; omega
theorem Hd4.w3 {w W : World} {b0 b1 b2 b3 : Nat} {ds ss rs ts : List Value} (h : Hd4 w W b0 b1 b2 b3 ds ss rs ts) : w.heap.size ≤ b3 := by have := h.w2; have := h.l23; omega
theorem Hd4.w1 {w W : World} {b0 b1 b2 b3 : Nat} {ds ss rs ts : List Value} (h : Hd4 w W b0 b1 b2 b3 ds ss rs ts) : w.heap.size ≤ b1 := by have := h.w0; have := h.n01; omega
theorem Hd4.still {w W W' : World} {b0 b1 b2 b3 : Nat} {ds ss rs ts : List Value} (h : Hd4 w W b0 b1 b2 b3 ds ss rs ts) (ht : Turn (fun _ => False) W W') : Hd4 w W' b0 b1 b2 b3 ds ss rs ts :=
  ⟨h.t.trans ht, h.k0.turn ht (fun h => h), h.k1.turn ht (fun h => h), h.k2.turn ht (fun h => h), h.k3.turn ht (fun h => h), h.w0, h.n01, h.n12, h.l23, h.le3⟩
theorem Hd4.new (w : World) (ds ss rs ts : List Value) : Hd4 w ((((w.alloc (.cells ds.toArray 46)).alloc (.cells ss.toArray 23)).alloc (.cells rs.toArray 46)).alloc (.cells ts.toArray 23)) w.heap.size (w.heap.size + 1) (w.heap.size + 1 + 1) (w.heap.size + 1 + 1 + 1) ds ss rs ts :=
  ⟨((((Turn.refl _ _).alloc _).alloc _).alloc _).alloc _, (((Blk.new w _ ds).alloc _).alloc _).alloc _, ((Blk.new_ _ _ ss (by simp)).alloc _).alloc _, (Blk.new_ _ _ rs (by simp)).alloc _, Blk.new_ _ _ ts (by simp), Nat.le_refl _, by omega, by omega, by omega, by omega⟩
/-- The super's box, with a new Gen. -/
theorem Hd4.gen {w W : World} {b0 b1 b2 b3 : Nat} {ds rs ts : List Value} {a b c d e f : Value} (h : Hd4 w W b0 b1 b2 b3 ds [a, b, c, d, e, f] rs ts) (v : Value) : Hd4 w (W.setCell ⟨b1, 0, none⟩ v) b0 b1 b2 b3 ds [v, b, c, d, e, f] rs ts :=
  ⟨h.t.setCell (p := ⟨b1, 0, none⟩) (.inr h.w1) v, h.k0.far (p := ⟨b1, 0, none⟩) (by have := h.n01; simp; omega) v, h.k1.put 0 v, h.k2.far (p := ⟨b1, 0, none⟩) (by have := h.n12; simp; omega) v, h.k3.far (p := ⟨b1, 0, none⟩) (by have := h.n12; have := h.l23; simp; omega) v, h.w0, h.n01, h.n12, h.l23, h.le3⟩
/-- The disk's box, with another one. -/
theorem Hd4.dsk {w W : World} {b0 b1 b2 b3 : Nat} {ss rs ts : List Value} {a b c d e : Value} (h : Hd4 w W b0 b1 b2 b3 [a, b, c, d, e] ss rs ts) (a' b' c' d' e' : Value) : Hd4 w (pu5 W b0 a' b' c' d' e') b0 b1 b2 b3 [a', b', c', d', e'] ss rs ts :=
  ⟨h.t.pu5 (.inr h.w0) a' b' c' d' e', h.k0.pu5, h.k1.far5 (by have := h.n01; omega) a' b' c' d' e', h.k2.far5 (by have := h.n01; have := h.n12; omega) a' b' c' d' e', h.k3.far5 (by have := h.n01; have := h.n12; have := h.l23; omega) a' b' c' d' e', h.w0, h.n01, h.n12, h.l23, h.le3⟩

set_option maxHeartbeats 2000000 in
theorem refSave_a (A B : Option Addr) (n c m d : Nat) (N F : Int) (dd : Bool) (s : Sup) (x : Sup) (a f : Int) (h0 : ¬ f = 0) (h4 : ¬ f = 4) (w : World)
    (HF : Hid (∀ W, Turn (fun _ => False) w W → Calls Try.prog 26 #[.agg #[.int .i64 N, .slice A n c, .slice B m d, .int .i64 F, .bool dd]] W fun r w' => r = .returned (.tuple #[uv x, .int .i64 a, .int .i64 f]) ∧ Turn (fun _ => False) W w')) :
    Calls Try.prog 27 #[.agg #[.int .i64 N, .slice A n c, .slice B m d, .int .i64 F, .bool dd], uv s] w fun r w' => r = .returned (.tuple #[.agg #[.int .i64 N, .slice A n c, .slice B m d, .int .i64 F, .bool dd], .agg #[.int .i64 0, .int .i64 0, .int .i64 0, .int .i64 0, .int .i64 0, .int .i64 0], .int .i64 f]) ∧ Turn (fun _ => False) w w' := by
  obtain ⟨sg, sr, st, se, sl, sm⟩ := s
  obtain ⟨xg, xr, xt, xe, xl, xm⟩ := x
  unfold uv at *
  simp only at *
  have H0 := Lib.hid (Hd4.new w [.int .i64 N, .slice A n c, .slice B m d, .int .i64 F, .bool dd] [.int .i64 sg, .int .i64 sr, .int .i64 st, .int .i64 se, .int .i64 sl, .int .i64 sm] [.int .i64 0, .slice none 0 0, .slice none 0 0, .int .i64 0, .bool false] [.int .i64 0, .int .i64 0, .int .i64 0, .int .i64 0, .int .i64 0, .int .i64 0])
  have hb0 : (f != 0) = true := by rw [bne_iff_ne]; exact h0
  have hb4 : (f != 4) = true := by rw [bne_iff_ne]; exact h4
  go_enter Try.func27, Try.ntmps27
  go_wp2_with fail
  obtain ⟨b3, hb3⟩ : ∃ b, b = w.heap.size + 1 + 1 + 1 := ⟨_, rfl⟩
  rw [← hb3] at H0 ⊢
  obtain ⟨b2, hb2⟩ : ∃ b, b = w.heap.size + 1 + 1 := ⟨_, rfl⟩
  rw [← hb2] at H0 ⊢
  obtain ⟨b1, hb1⟩ : ∃ b, b = w.heap.size + 1 := ⟨_, rfl⟩
  rw [← hb1] at H0 ⊢
  obtain ⟨b0, hb0⟩ : ∃ b, b = w.heap.size := ⟨_, rfl⟩
  rw [← hb0] at H0
  try rw [← hb0]
  clear hb3 hb2 hb1 hb0
  refine (HF.out _ H0.out.t).mono ?_
  rintro e1 w1 ⟨rfl, ht⟩
  have H1 := Lib.hid (H0.out.still ht)
  have X1 := Lib.hid (Blk.new w1 23 [.int .i64 xg, .int .i64 xr, .int .i64 xt, .int .i64 xe, .int .i64 xl, .int .i64 xm])
  have hz3 : b3 < w1.heap.size := H1.out.k3.lt
  have hz2 : b2 < w1.heap.size := H1.out.k2.lt
  have hz1 : b1 < w1.heap.size := H1.out.k1.lt
  have hz0 : b0 < w1.heap.size := H1.out.k0.lt
  have n01 := H1.out.n01
  have n12 := H1.out.n12
  have l23 := H1.out.l23
  clear ht
  obtain ⟨⟨q0, q1, q2, q3, q4, q5⟩, k0, k1_, k2, k3, k4, k5⟩ := blk6 H1.out.k3
  obtain ⟨⟨r0, r1, r2, r3, r4⟩, j0, j1, j2, j3, j4⟩ := blk5 H1.out.k2
  obtain ⟨⟨c0, c1, c2, c3, c4⟩, g0, g1, g2, g3, g4⟩ := blk5 H1.out.k0
  obtain ⟨⟨s0, s1, s2, s3, s4, s5⟩, h0_, h1_, h2_, h3_, h4_, h5_⟩ := blk6 H1.out.k1
  go_wp2_with fail
  rw [put6_eq, pu5_eq]
  have hf4 := ((H1.out.k2.pu5 (a' := .int .i64 N) (b' := .slice A n c) (c' := .slice B m d) (d' := .int .i64 F) (e' := .bool dd)).far6 (g := b3) H1.out.n23 (.int .i64 0) (.int .i64 0) (.int .i64 0) (.int .i64 0) (.int .i64 0) (.int .i64 0)).alloc (.cells #[.int .i64 xg, .int .i64 xr, .int .i64 xt, .int .i64 xe, .int .i64 xl, .int .i64 xm] 23)
  have hf5 := ((H1.out.k3.far5 (g := b2) (Ne.symm H1.out.n23) (.int .i64 N) (.slice A n c) (.slice B m d) (.int .i64 F) (.bool dd)).put6 (a' := .int .i64 0) (b' := .int .i64 0) (c' := .int .i64 0) (d' := .int .i64 0) (e' := .int .i64 0) (f' := .int .i64 0)).alloc (.cells #[.int .i64 xg, .int .i64 xr, .int .i64 xt, .int .i64 xe, .int .i64 xl, .int .i64 xm] 23)
  have hT := ((H1.out.t.pu5 (g := b2) (.inr H1.out.w2) (.int .i64 N) (.slice A n c) (.slice B m d) (.int .i64 F) (.bool dd)).put6 (g := b3) (.inr H1.out.w3) (.int .i64 0) (.int .i64 0) (.int .i64 0) (.int .i64 0) (.int .i64 0) (.int .i64 0)).alloc (.cells #[.int .i64 xg, .int .i64 xr, .int .i64 xt, .int .i64 xe, .int .i64 xl, .int .i64 xm] 23)
  have hU := (((Turn.refl (fun k => k = b2 ∨ k = b3) w1).pu5 (g := b2) (.inl (.inl rfl)) (.int .i64 N) (.slice A n c) (.slice B m d) (.int .i64 F) (.bool dd)).put6 (g := b3) (.inl (.inr rfl)) (.int .i64 0) (.int .i64 0) (.int .i64 0) (.int .i64 0) (.int .i64 0) (.int .i64 0)).alloc (.cells #[.int .i64 xg, .int .i64 xr, .int .i64 xt, .int .i64 xe, .int .i64 xl, .int .i64 xm] 23)
  generalize (put6 (pu5 w1 b2 (.int .i64 N) (.slice A n c) (.slice B m d) (.int .i64 F) (.bool dd)) b3 (.int .i64 0) (.int .i64 0) (.int .i64 0) (.int .i64 0) (.int .i64 0) (.int .i64 0)).alloc (.cells #[.int .i64 xg, .int .i64 xr, .int .i64 xt, .int .i64 xe, .int .i64 xl, .int .i64 xm] 23) = WF at *
  clear q0 q1 q2 q3 q4 q5 k0 k1_ k2 k3 k4 k5 r0 r1 r2 r3 r4 j0 j1 j2 j3 j4 c0 c1 c2 c3 c4 g0 g1 g2 g3 g4 s0 s1 s2 s3 s4 s5 h0_ h1_ h2_ h3_ h4_ h5_
  obtain ⟨e0, e1, e2, e3, e4, e5⟩ := (blk6 hf5).1
  obtain ⟨i0, i1, i2, i3, i4⟩ := (blk5 hf4).1
  exact bodyPost_ret (v := .tuple #[.agg #[.int .i64 N, .slice A n c, .slice B m d, .int .i64 F, .bool dd], .agg #[.int .i64 0, .int .i64 0, .int .i64 0, .int .i64 0, .int .i64 0, .int .i64 0], .int .i64 f]) (by simp [results, Try.results27, go_sem, e0, e1, e2, e3, e4, e5, i0, i1, i2, i3, i4]) rfl ⟨rfl, hT⟩

set_option maxHeartbeats 2000000 in
theorem refSave_18 (A B : Option Addr) (n c m d : Nat) (N F : Int) (dd : Bool) (s : Sup) (x : Sup) (a f : Int) (h0 : f = 0) (h4 : x.g = 1152921504606846976) (w : World)
    (HF : Hid (∀ W, Turn (fun _ => False) w W → Calls Try.prog 26 #[.agg #[.int .i64 N, .slice A n c, .slice B m d, .int .i64 F, .bool dd]] W fun r w' => r = .returned (.tuple #[uv x, .int .i64 a, .int .i64 f]) ∧ Turn (fun _ => False) W w')) :
    Calls Try.prog 27 #[.agg #[.int .i64 N, .slice A n c, .slice B m d, .int .i64 F, .bool dd], uv s] w fun r w' => r = .returned (.tuple #[.agg #[.int .i64 N, .slice A n c, .slice B m d, .int .i64 F, .bool dd], .agg #[.int .i64 0, .int .i64 0, .int .i64 0, .int .i64 0, .int .i64 0, .int .i64 0], .int .i64 18]) ∧ Turn (fun _ => False) w w' := by
  obtain ⟨sg, sr, st, se, sl, sm⟩ := s
  obtain ⟨xg, xr, xt, xe, xl, xm⟩ := x
  unfold uv at *
  simp only at *
  subst h0 h4
  have H0 := Lib.hid (Hd4.new w [.int .i64 N, .slice A n c, .slice B m d, .int .i64 F, .bool dd] [.int .i64 sg, .int .i64 sr, .int .i64 st, .int .i64 se, .int .i64 sl, .int .i64 sm] [.int .i64 0, .slice none 0 0, .slice none 0 0, .int .i64 0, .bool false] [.int .i64 0, .int .i64 0, .int .i64 0, .int .i64 0, .int .i64 0, .int .i64 0])
  go_enter Try.func27, Try.ntmps27
  go_wp2_with fail
  obtain ⟨b3, hb3⟩ : ∃ b, b = w.heap.size + 1 + 1 + 1 := ⟨_, rfl⟩
  rw [← hb3] at H0 ⊢
  obtain ⟨b2, hb2⟩ : ∃ b, b = w.heap.size + 1 + 1 := ⟨_, rfl⟩
  rw [← hb2] at H0 ⊢
  obtain ⟨b1, hb1⟩ : ∃ b, b = w.heap.size + 1 := ⟨_, rfl⟩
  rw [← hb1] at H0 ⊢
  obtain ⟨b0, hb0⟩ : ∃ b, b = w.heap.size := ⟨_, rfl⟩
  rw [← hb0] at H0
  try rw [← hb0]
  clear hb3 hb2 hb1 hb0
  refine (HF.out _ H0.out.t).mono ?_
  rintro e1 w1 ⟨rfl, ht⟩
  have H1 := Lib.hid (H0.out.still ht)
  have X1 := Lib.hid (Blk.new w1 23 [.int .i64 1152921504606846976, .int .i64 xr, .int .i64 xt, .int .i64 xe, .int .i64 xl, .int .i64 xm])
  have hz3 : b3 < w1.heap.size := H1.out.k3.lt
  have hz2 : b2 < w1.heap.size := H1.out.k2.lt
  have hz1 : b1 < w1.heap.size := H1.out.k1.lt
  have hz0 : b0 < w1.heap.size := H1.out.k0.lt
  have n01 := H1.out.n01
  have n12 := H1.out.n12
  have l23 := H1.out.l23
  clear ht
  obtain ⟨⟨q0, q1, q2, q3, q4, q5⟩, k0, k1_, k2, k3, k4, k5⟩ := blk6 H1.out.k3
  obtain ⟨⟨r0, r1, r2, r3, r4⟩, j0, j1, j2, j3, j4⟩ := blk5 H1.out.k2
  obtain ⟨⟨c0, c1, c2, c3, c4⟩, g0, g1, g2, g3, g4⟩ := blk5 H1.out.k0
  obtain ⟨⟨s0, s1, s2, s3, s4, s5⟩, h0_, h1_, h2_, h3_, h4_, h5_⟩ := blk6 H1.out.k1
  go_wp2_with fail
  have H2 := Lib.hid ((H1.out.gen (.int .i64 0)).gen (.int .i64 1152921504606846977))
  rw [put6_eq, pu5_eq]
  have hf4 := ((H2.out.k2.pu5 (a' := .int .i64 N) (b' := .slice A n c) (c' := .slice B m d) (d' := .int .i64 F) (e' := .bool dd)).far6 (g := b3) H2.out.n23 (.int .i64 0) (.int .i64 0) (.int .i64 0) (.int .i64 0) (.int .i64 0) (.int .i64 0)).alloc (.cells #[.int .i64 1152921504606846976, .int .i64 xr, .int .i64 xt, .int .i64 xe, .int .i64 xl, .int .i64 xm] 23)
  have hf5 := ((H2.out.k3.far5 (g := b2) (Ne.symm H2.out.n23) (.int .i64 N) (.slice A n c) (.slice B m d) (.int .i64 F) (.bool dd)).put6 (a' := .int .i64 0) (b' := .int .i64 0) (c' := .int .i64 0) (d' := .int .i64 0) (e' := .int .i64 0) (f' := .int .i64 0)).alloc (.cells #[.int .i64 1152921504606846976, .int .i64 xr, .int .i64 xt, .int .i64 xe, .int .i64 xl, .int .i64 xm] 23)
  have hT := ((H2.out.t.pu5 (g := b2) (.inr H2.out.w2) (.int .i64 N) (.slice A n c) (.slice B m d) (.int .i64 F) (.bool dd)).put6 (g := b3) (.inr H2.out.w3) (.int .i64 0) (.int .i64 0) (.int .i64 0) (.int .i64 0) (.int .i64 0) (.int .i64 0)).alloc (.cells #[.int .i64 1152921504606846976, .int .i64 xr, .int .i64 xt, .int .i64 xe, .int .i64 xl, .int .i64 xm] 23)
  have hU := (((Turn.refl (fun k => k = b2 ∨ k = b3) ((w1.setCell ⟨b1, 0, none⟩ (.int .i64 0)).setCell ⟨b1, 0, none⟩ (.int .i64 1152921504606846977))).pu5 (g := b2) (.inl (.inl rfl)) (.int .i64 N) (.slice A n c) (.slice B m d) (.int .i64 F) (.bool dd)).put6 (g := b3) (.inl (.inr rfl)) (.int .i64 0) (.int .i64 0) (.int .i64 0) (.int .i64 0) (.int .i64 0) (.int .i64 0)).alloc (.cells #[.int .i64 1152921504606846976, .int .i64 xr, .int .i64 xt, .int .i64 xe, .int .i64 xl, .int .i64 xm] 23)
  generalize (put6 (pu5 ((w1.setCell ⟨b1, 0, none⟩ (.int .i64 0)).setCell ⟨b1, 0, none⟩ (.int .i64 1152921504606846977)) b2 (.int .i64 N) (.slice A n c) (.slice B m d) (.int .i64 F) (.bool dd)) b3 (.int .i64 0) (.int .i64 0) (.int .i64 0) (.int .i64 0) (.int .i64 0) (.int .i64 0)).alloc (.cells #[.int .i64 1152921504606846976, .int .i64 xr, .int .i64 xt, .int .i64 xe, .int .i64 xl, .int .i64 xm] 23) = WF at *
  clear q0 q1 q2 q3 q4 q5 k0 k1_ k2 k3 k4 k5 r0 r1 r2 r3 r4 j0 j1 j2 j3 j4 c0 c1 c2 c3 c4 g0 g1 g2 g3 g4 s0 s1 s2 s3 s4 s5 h0_ h1_ h2_ h3_ h4_ h5_
  obtain ⟨e0, e1, e2, e3, e4, e5⟩ := (blk6 hf5).1
  obtain ⟨i0, i1, i2, i3, i4⟩ := (blk5 hf4).1
  exact bodyPost_ret (v := .tuple #[.agg #[.int .i64 N, .slice A n c, .slice B m d, .int .i64 F, .bool dd], .agg #[.int .i64 0, .int .i64 0, .int .i64 0, .int .i64 0, .int .i64 0, .int .i64 0], .int .i64 18]) (by simp [results, Try.results27, go_sem, e0, e1, e2, e3, e4, e5, i0, i1, i2, i3, i4]) rfl ⟨rfl, hT⟩

set_option maxHeartbeats 2000000 in
theorem refSave_b (A B : Option Addr) (n c m d : Nat) (N F : Int) (dd : Bool) (s : Sup) (x : Sup) (a f : Int) (G : Int) (hG : (f = 4 ∧ G = 0) ∨ (f = 0 ∧ G = x.g + 1 ∧ 0 ≤ x.g ∧ x.g < 1152921504606846976)) (w : World)
    (HF : Hid (∀ W, Turn (fun _ => False) w W → Calls Try.prog 26 #[.agg #[.int .i64 N, .slice A n c, .slice B m d, .int .i64 F, .bool dd]] W fun r w' => r = .returned (.tuple #[uv x, .int .i64 a, .int .i64 f]) ∧ Turn (fun _ => False) W w'))
    (HR : Hid (∀ W, Calls Try.prog 34 #[.agg #[.int .i64 G, .int .i64 s.r, .int .i64 s.t, .int .i64 s.e, .int .i64 s.l, .int .i64 s.m]] W fun r w' => r = .returned (.bool false) ∧ Turn (fun _ => False) W w')) :
    Calls Try.prog 27 #[.agg #[.int .i64 N, .slice A n c, .slice B m d, .int .i64 F, .bool dd], uv s] w fun r w' => r = .returned (.tuple #[.agg #[.int .i64 N, .slice A n c, .slice B m d, .int .i64 F, .bool dd], .agg #[.int .i64 0, .int .i64 0, .int .i64 0, .int .i64 0, .int .i64 0, .int .i64 0], .int .i64 2]) ∧ Turn (fun _ => False) w w' := by
  obtain ⟨sg, sr, st, se, sl, sm⟩ := s
  obtain ⟨xg, xr, xt, xe, xl, xm⟩ := x
  unfold uv at *
  simp only at *
  have H0 := Lib.hid (Hd4.new w [.int .i64 N, .slice A n c, .slice B m d, .int .i64 F, .bool dd] [.int .i64 sg, .int .i64 sr, .int .i64 st, .int .i64 se, .int .i64 sl, .int .i64 sm] [.int .i64 0, .slice none 0 0, .slice none 0 0, .int .i64 0, .bool false] [.int .i64 0, .int .i64 0, .int .i64 0, .int .i64 0, .int .i64 0, .int .i64 0])
  rcases hG with ⟨rfl, rfl⟩ | ⟨rfl, rfl, hg1, hg2⟩
  · go_enter Try.func27, Try.ntmps27
    go_wp2_with fail
    obtain ⟨b3, hb3⟩ : ∃ b, b = w.heap.size + 1 + 1 + 1 := ⟨_, rfl⟩
    rw [← hb3] at H0 ⊢
    obtain ⟨b2, hb2⟩ : ∃ b, b = w.heap.size + 1 + 1 := ⟨_, rfl⟩
    rw [← hb2] at H0 ⊢
    obtain ⟨b1, hb1⟩ : ∃ b, b = w.heap.size + 1 := ⟨_, rfl⟩
    rw [← hb1] at H0 ⊢
    obtain ⟨b0, hb0⟩ : ∃ b, b = w.heap.size := ⟨_, rfl⟩
    rw [← hb0] at H0
    try rw [← hb0]
    clear hb3 hb2 hb1 hb0
    refine (HF.out _ H0.out.t).mono ?_
    rintro e1 w1 ⟨rfl, ht⟩
    have H1 := Lib.hid (H0.out.still ht)
    have X1 := Lib.hid (Blk.new w1 23 [.int .i64 xg, .int .i64 xr, .int .i64 xt, .int .i64 xe, .int .i64 xl, .int .i64 xm])
    have hz3 : b3 < w1.heap.size := H1.out.k3.lt
    have hz2 : b2 < w1.heap.size := H1.out.k2.lt
    have hz1 : b1 < w1.heap.size := H1.out.k1.lt
    have hz0 : b0 < w1.heap.size := H1.out.k0.lt
    have n01 := H1.out.n01
    have n12 := H1.out.n12
    have l23 := H1.out.l23
    clear ht
    obtain ⟨⟨q0, q1, q2, q3, q4, q5⟩, k0, k1_, k2, k3, k4, k5⟩ := blk6 H1.out.k3
    obtain ⟨⟨r0, r1, r2, r3, r4⟩, j0, j1, j2, j3, j4⟩ := blk5 H1.out.k2
    obtain ⟨⟨c0, c1, c2, c3, c4⟩, g0, g1, g2, g3, g4⟩ := blk5 H1.out.k0
    obtain ⟨⟨s0, s1, s2, s3, s4, s5⟩, h0_, h1_, h2_, h3_, h4_, h5_⟩ := blk6 H1.out.k1
    go_wp2_with fail
    refine (HR.out _).mono ?_
    rintro e2 w2 ⟨rfl, ht⟩
    have H2 := Lib.hid (((H1.out.gen (.int .i64 0)).still ((Turn.refl _ _).alloc (.cells #[.int .i64 xg, .int .i64 xr, .int .i64 xt, .int .i64 xe, .int .i64 xl, .int .i64 xm] 23))).still ht)
    clear ht
    clear q0 q1 q2 q3 q4 q5 k0 k1_ k2 k3 k4 k5 r0 r1 r2 r3 r4 j0 j1 j2 j3 j4 c0 c1 c2 c3 c4 g0 g1 g2 g3 g4 s0 s1 s2 s3 s4 s5 h0_ h1_ h2_ h3_ h4_ h5_
    clear hz0 hz1 hz2 hz3 X1 H1
    have hz3 : b3 < w2.heap.size := H2.out.k3.lt
    have hz2 : b2 < w2.heap.size := H2.out.k2.lt
    have hz1 : b1 < w2.heap.size := H2.out.k1.lt
    have hz0 : b0 < w2.heap.size := H2.out.k0.lt
    obtain ⟨⟨q0, q1, q2, q3, q4, q5⟩, k0, k1_, k2, k3, k4, k5⟩ := blk6 H2.out.k3
    obtain ⟨⟨r0, r1, r2, r3, r4⟩, j0, j1, j2, j3, j4⟩ := blk5 H2.out.k2
    obtain ⟨⟨c0, c1, c2, c3, c4⟩, g0, g1, g2, g3, g4⟩ := blk5 H2.out.k0
    obtain ⟨⟨s0, s1, s2, s3, s4, s5⟩, h0_, h1_, h2_, h3_, h4_, h5_⟩ := blk6 H2.out.k1
    go_wp2_with fail
    rw [put6_eq, pu5_eq]
    have hf4 := ((H2.out.k2.pu5 (a' := .int .i64 N) (b' := .slice A n c) (c' := .slice B m d) (d' := .int .i64 F) (e' := .bool dd)).far6 (g := b3) H2.out.n23 (.int .i64 0) (.int .i64 0) (.int .i64 0) (.int .i64 0) (.int .i64 0) (.int .i64 0))
    have hf5 := ((H2.out.k3.far5 (g := b2) (Ne.symm H2.out.n23) (.int .i64 N) (.slice A n c) (.slice B m d) (.int .i64 F) (.bool dd)).put6 (a' := .int .i64 0) (b' := .int .i64 0) (c' := .int .i64 0) (d' := .int .i64 0) (e' := .int .i64 0) (f' := .int .i64 0))
    have hT := ((H2.out.t.pu5 (g := b2) (.inr H2.out.w2) (.int .i64 N) (.slice A n c) (.slice B m d) (.int .i64 F) (.bool dd)).put6 (g := b3) (.inr H2.out.w3) (.int .i64 0) (.int .i64 0) (.int .i64 0) (.int .i64 0) (.int .i64 0) (.int .i64 0))
    have hU := (((Turn.refl (fun k => k = b2 ∨ k = b3) w2).pu5 (g := b2) (.inl (.inl rfl)) (.int .i64 N) (.slice A n c) (.slice B m d) (.int .i64 F) (.bool dd)).put6 (g := b3) (.inl (.inr rfl)) (.int .i64 0) (.int .i64 0) (.int .i64 0) (.int .i64 0) (.int .i64 0) (.int .i64 0))
    generalize (put6 (pu5 w2 b2 (.int .i64 N) (.slice A n c) (.slice B m d) (.int .i64 F) (.bool dd)) b3 (.int .i64 0) (.int .i64 0) (.int .i64 0) (.int .i64 0) (.int .i64 0) (.int .i64 0)) = WF at *
    clear q0 q1 q2 q3 q4 q5 k0 k1_ k2 k3 k4 k5 r0 r1 r2 r3 r4 j0 j1 j2 j3 j4 c0 c1 c2 c3 c4 g0 g1 g2 g3 g4 s0 s1 s2 s3 s4 s5 h0_ h1_ h2_ h3_ h4_ h5_
    obtain ⟨e0, e1, e2, e3, e4, e5⟩ := (blk6 hf5).1
    obtain ⟨i0, i1, i2, i3, i4⟩ := (blk5 hf4).1
    exact bodyPost_ret (v := .tuple #[.agg #[.int .i64 N, .slice A n c, .slice B m d, .int .i64 F, .bool dd], .agg #[.int .i64 0, .int .i64 0, .int .i64 0, .int .i64 0, .int .i64 0, .int .i64 0], .int .i64 2]) (by simp [results, Try.results27, go_sem, e0, e1, e2, e3, e4, e5, i0, i1, i2, i3, i4]) rfl ⟨rfl, hT⟩
  · go_enter Try.func27, Try.ntmps27
    go_wp2_with fail
    obtain ⟨b3, hb3⟩ : ∃ b, b = w.heap.size + 1 + 1 + 1 := ⟨_, rfl⟩
    rw [← hb3] at H0 ⊢
    obtain ⟨b2, hb2⟩ : ∃ b, b = w.heap.size + 1 + 1 := ⟨_, rfl⟩
    rw [← hb2] at H0 ⊢
    obtain ⟨b1, hb1⟩ : ∃ b, b = w.heap.size + 1 := ⟨_, rfl⟩
    rw [← hb1] at H0 ⊢
    obtain ⟨b0, hb0⟩ : ∃ b, b = w.heap.size := ⟨_, rfl⟩
    rw [← hb0] at H0
    try rw [← hb0]
    clear hb3 hb2 hb1 hb0
    refine (HF.out _ H0.out.t).mono ?_
    rintro e1 w1 ⟨rfl, ht⟩
    have H1 := Lib.hid (H0.out.still ht)
    have X1 := Lib.hid (Blk.new w1 23 [.int .i64 xg, .int .i64 xr, .int .i64 xt, .int .i64 xe, .int .i64 xl, .int .i64 xm])
    have hz3 : b3 < w1.heap.size := H1.out.k3.lt
    have hz2 : b2 < w1.heap.size := H1.out.k2.lt
    have hz1 : b1 < w1.heap.size := H1.out.k1.lt
    have hz0 : b0 < w1.heap.size := H1.out.k0.lt
    have n01 := H1.out.n01
    have n12 := H1.out.n12
    have l23 := H1.out.l23
    clear ht
    obtain ⟨⟨q0, q1, q2, q3, q4, q5⟩, k0, k1_, k2, k3, k4, k5⟩ := blk6 H1.out.k3
    obtain ⟨⟨r0, r1, r2, r3, r4⟩, j0, j1, j2, j3, j4⟩ := blk5 H1.out.k2
    obtain ⟨⟨c0, c1, c2, c3, c4⟩, g0, g1, g2, g3, g4⟩ := blk5 H1.out.k0
    obtain ⟨⟨s0, s1, s2, s3, s4, s5⟩, h0_, h1_, h2_, h3_, h4_, h5_⟩ := blk6 H1.out.k1
    go_wp2_with fail
    refine (HR.out _).mono ?_
    rintro e2 w2 ⟨rfl, ht⟩
    have H2 := Lib.hid ((((H1.out.gen (.int .i64 0)).gen (.int .i64 (xg + 1))).still ((Turn.refl _ _).alloc (.cells #[.int .i64 xg, .int .i64 xr, .int .i64 xt, .int .i64 xe, .int .i64 xl, .int .i64 xm] 23))).still ht)
    clear ht
    clear q0 q1 q2 q3 q4 q5 k0 k1_ k2 k3 k4 k5 r0 r1 r2 r3 r4 j0 j1 j2 j3 j4 c0 c1 c2 c3 c4 g0 g1 g2 g3 g4 s0 s1 s2 s3 s4 s5 h0_ h1_ h2_ h3_ h4_ h5_
    clear hz0 hz1 hz2 hz3 X1 H1
    have hz3 : b3 < w2.heap.size := H2.out.k3.lt
    have hz2 : b2 < w2.heap.size := H2.out.k2.lt
    have hz1 : b1 < w2.heap.size := H2.out.k1.lt
    have hz0 : b0 < w2.heap.size := H2.out.k0.lt
    obtain ⟨⟨q0, q1, q2, q3, q4, q5⟩, k0, k1_, k2, k3, k4, k5⟩ := blk6 H2.out.k3
    obtain ⟨⟨r0, r1, r2, r3, r4⟩, j0, j1, j2, j3, j4⟩ := blk5 H2.out.k2
    obtain ⟨⟨c0, c1, c2, c3, c4⟩, g0, g1, g2, g3, g4⟩ := blk5 H2.out.k0
    obtain ⟨⟨s0, s1, s2, s3, s4, s5⟩, h0_, h1_, h2_, h3_, h4_, h5_⟩ := blk6 H2.out.k1
    go_wp2_with fail
    rw [put6_eq, pu5_eq]
    have hf4 := ((H2.out.k2.pu5 (a' := .int .i64 N) (b' := .slice A n c) (c' := .slice B m d) (d' := .int .i64 F) (e' := .bool dd)).far6 (g := b3) H2.out.n23 (.int .i64 0) (.int .i64 0) (.int .i64 0) (.int .i64 0) (.int .i64 0) (.int .i64 0))
    have hf5 := ((H2.out.k3.far5 (g := b2) (Ne.symm H2.out.n23) (.int .i64 N) (.slice A n c) (.slice B m d) (.int .i64 F) (.bool dd)).put6 (a' := .int .i64 0) (b' := .int .i64 0) (c' := .int .i64 0) (d' := .int .i64 0) (e' := .int .i64 0) (f' := .int .i64 0))
    have hT := ((H2.out.t.pu5 (g := b2) (.inr H2.out.w2) (.int .i64 N) (.slice A n c) (.slice B m d) (.int .i64 F) (.bool dd)).put6 (g := b3) (.inr H2.out.w3) (.int .i64 0) (.int .i64 0) (.int .i64 0) (.int .i64 0) (.int .i64 0) (.int .i64 0))
    have hU := (((Turn.refl (fun k => k = b2 ∨ k = b3) w2).pu5 (g := b2) (.inl (.inl rfl)) (.int .i64 N) (.slice A n c) (.slice B m d) (.int .i64 F) (.bool dd)).put6 (g := b3) (.inl (.inr rfl)) (.int .i64 0) (.int .i64 0) (.int .i64 0) (.int .i64 0) (.int .i64 0) (.int .i64 0))
    generalize (put6 (pu5 w2 b2 (.int .i64 N) (.slice A n c) (.slice B m d) (.int .i64 F) (.bool dd)) b3 (.int .i64 0) (.int .i64 0) (.int .i64 0) (.int .i64 0) (.int .i64 0) (.int .i64 0)) = WF at *
    clear q0 q1 q2 q3 q4 q5 k0 k1_ k2 k3 k4 k5 r0 r1 r2 r3 r4 j0 j1 j2 j3 j4 c0 c1 c2 c3 c4 g0 g1 g2 g3 g4 s0 s1 s2 s3 s4 s5 h0_ h1_ h2_ h3_ h4_ h5_
    obtain ⟨e0, e1, e2, e3, e4, e5⟩ := (blk6 hf5).1
    obtain ⟨i0, i1, i2, i3, i4⟩ := (blk5 hf4).1
    exact bodyPost_ret (v := .tuple #[.agg #[.int .i64 N, .slice A n c, .slice B m d, .int .i64 F, .bool dd], .agg #[.int .i64 0, .int .i64 0, .int .i64 0, .int .i64 0, .int .i64 0, .int .i64 0], .int .i64 2]) (by simp [results, Try.results27, go_sem, e0, e1, e2, e3, e4, e5, i0, i1, i2, i3, i4]) rfl ⟨rfl, hT⟩

/-- What Save leaves, where it writes. -/
def SvP (w : World) (Q1 : World → Option Addr → Nat → Prop) (Q2 : World → Option Addr → Nat → Nat → Option Addr → Nat → Prop) (A : Option Addr) (n c : Nat) (N F1 F2 : Int) (m1 m2 : Nat) (dd1 dd2 : Bool) (f1 f2 : Int) (s' : Sup) (r : Ending) (w' : World) : Prop :=
  Turn (fun _ => False) w w' ∧ ((¬ f1 = 0 ∧ ∃ B1 d1, r = .returned (.tuple #[.agg #[.int .i64 N, .slice A n c, .slice B1 m1 d1, .int .i64 F1, .bool dd1], uv zU, .int .i64 f1]) ∧ Q1 w' B1 d1) ∨
  (f1 = 0 ∧ ¬ f2 = 0 ∧ ∃ A9 n9 c9 B9 d9, r = .returned (.tuple #[.agg #[.int .i64 N, .slice A9 n9 c9, .slice B9 m2 d9, .int .i64 F2, .bool dd2], uv zU, .int .i64 f2]) ∧ Q2 w' A9 n9 c9 B9 d9) ∨
  (f1 = 0 ∧ f2 = 0 ∧ ∃ A9 n9 c9 B9 d9, r = .returned (.tuple #[.agg #[.int .i64 N, .slice A9 n9 c9, .slice B9 m2 d9, .int .i64 F2, .bool dd2], uv s', .int .i64 0]) ∧ Q2 w' A9 n9 c9 B9 d9))

theorem wpAnyH_namedU {P : Program} {md : Region.Mode} {ops : Array Oper} {Q : Exit → Act → World → Prop} {S : World → Prop} {fuel : Nat} {listed : Array Bool} {a : Act} {w : World} (h : ∀ X, X = w → wpAnyH P md ops Q S fuel listed a X) : wpAnyH P md ops Q S fuel listed a w := h w rfl
theorem Hd4.big {w W : World} {b0 b1 b2 b3 : Nat} {ds ss rs ts : List Value} (h : Hd4 w W b0 b1 b2 b3 ds ss rs ts) : w.heap.size + 3 < W.heap.size := by have := h.k3.lt; have := h.w0; have := h.n01; have := h.n12; have := h.l23; omega
theorem Hd4.in0 {w W : World} {b0 b1 b2 b3 : Nat} {ds ss rs ts : List Value} (h : Hd4 w W b0 b1 b2 b3 ds ss rs ts) : w.heap.size ≤ b0 ∧ b0 ≤ w.heap.size + 3 := by have := h.le3; have := h.w0; have := h.n01; have := h.n12; have := h.l23; omega
theorem Hd4.in2 {w W : World} {b0 b1 b2 b3 : Nat} {ds ss rs ts : List Value} (h : Hd4 w W b0 b1 b2 b3 ds ss rs ts) : w.heap.size ≤ b2 ∧ b2 ≤ w.heap.size + 3 := by have := h.le3; have := h.w0; have := h.n01; have := h.n12; have := h.l23; omega
theorem Hd4.in3 {w W : World} {b0 b1 b2 b3 : Nat} {ds ss rs ts : List Value} (h : Hd4 w W b0 b1 b2 b3 ds ss rs ts) : w.heap.size ≤ b3 ∧ b3 ≤ w.heap.size + 3 := by have := h.le3; have := h.w0; have := h.n01; have := h.n12; have := h.l23; omega

set_option maxHeartbeats 2000000 in
theorem refSave_c (A B : Option Addr) (n c m d : Nat) (N F : Int) (dd : Bool) (s : Sup) (x : Sup) (a f : Int) (G : Int) (hG : (f = 4 ∧ G = 0) ∨ (f = 0 ∧ G = x.g + 1 ∧ 0 ≤ x.g ∧ x.g < 1152921504606846976)) (Q1 : World → Option Addr → Nat → Prop) (Q2 : World → Option Addr → Nat → Nat → Option Addr → Nat → Prop) (m1 m2 : Nat) (F1 F2 : Int) (dd1 dd2 : Bool) (f1 f2 : Int) (PP : ByteArray) (w : World)
    (HF : Hid (∀ W, Turn (fun _ => False) w W → Calls Try.prog 26 #[.agg #[.int .i64 N, .slice A n c, .slice B m d, .int .i64 F, .bool dd]] W fun r w' => r = .returned (.tuple #[uv x, .int .i64 a, .int .i64 f]) ∧ Turn (fun _ => False) W w'))
    (HR : Hid (∀ W, Calls Try.prog 34 #[.agg #[.int .i64 G, .int .i64 s.r, .int .i64 s.t, .int .i64 s.e, .int .i64 s.l, .int .i64 s.m]] W fun r w' => r = .returned (.bool true) ∧ Turn (fun _ => False) W w'))
    (hQ1 : Hid (∀ W W' B d, Q1 W B d → Turn (fun k => w.heap.size ≤ k ∧ k ≤ w.heap.size + 3) W W' → Q1 W' B d))
    (hQ2 : Hid (∀ W W' A n c B d, Q2 W A n c B d → Turn (fun k => w.heap.size ≤ k ∧ k ≤ w.heap.size + 3) W W' → Q2 W' A n c B d))
    (HP : Hid (∀ W, Calls Try.prog 36 #[.agg #[.int .i64 G, .int .i64 s.r, .int .i64 s.t, .int .i64 s.e, .int .i64 s.l, .int .i64 s.m]] W fun r w' => ∃ v, r = .returned v ∧ (v = .string PP ∧ Turn (fun _ => False) W w')))
    (HW : Hid (∀ W, Turn (fun _ => False) w W → w.heap.size + 3 < W.heap.size → Calls Try.prog 19 #[.agg #[.int .i64 N, .slice A n c, .slice B m d, .int .i64 F, .bool dd], .int .i64 (G % 2), .string PP] W fun r w' => ∃ v, r = .returned v ∧ (∃ B1 d1, v = .tuple #[.agg #[.int .i64 N, .slice A n c, .slice B1 m1 d1, .int .i64 F1, .bool dd1], .int .i64 f1] ∧ Q1 w' B1 d1 ∧ Turn (fun _ => False) W w')))
    (HFL : Hid (f1 = 0 → ∀ W B1 d1, Q1 W B1 d1 → Turn (fun _ => False) w W → w.heap.size + 3 < W.heap.size → Calls Try.prog 53 #[.agg #[.int .i64 N, .slice A n c, .slice B1 m1 d1, .int .i64 F1, .bool dd1]] W fun r w' => ∃ A9 n9 c9 B9 d9, r = .returned (.tuple #[.agg #[.int .i64 N, .slice A9 n9 c9, .slice B9 m2 d9, .int .i64 F2, .bool dd2], .int .i64 f2]) ∧ Q2 w' A9 n9 c9 B9 d9 ∧ Turn (fun _ => False) W w')) :
    Calls Try.prog 27 #[.agg #[.int .i64 N, .slice A n c, .slice B m d, .int .i64 F, .bool dd], uv s] w fun r w' => SvP w Q1 Q2 A n c N F1 F2 m1 m2 dd1 dd2 f1 f2 ⟨G, s.r, s.t, s.e, s.l, s.m⟩ r w' := by
  obtain ⟨sg, sr, st, se, sl, sm⟩ := s
  obtain ⟨xg, xr, xt, xe, xl, xm⟩ := x
  unfold uv at *
  simp only at *
  have H0 := Lib.hid (Hd4.new w [.int .i64 N, .slice A n c, .slice B m d, .int .i64 F, .bool dd] [.int .i64 sg, .int .i64 sr, .int .i64 st, .int .i64 se, .int .i64 sl, .int .i64 sm] [.int .i64 0, .slice none 0 0, .slice none 0 0, .int .i64 0, .bool false] [.int .i64 0, .int .i64 0, .int .i64 0, .int .i64 0, .int .i64 0, .int .i64 0])
  rcases hG with ⟨rfl, rfl⟩ | ⟨rfl, rfl, hg1, hg2⟩
  · go_enter Try.func27, Try.ntmps27
    go_wp2_with fail
    obtain ⟨b3, hb3⟩ : ∃ b, b = w.heap.size + 1 + 1 + 1 := ⟨_, rfl⟩
    rw [← hb3] at H0 ⊢
    obtain ⟨b2, hb2⟩ : ∃ b, b = w.heap.size + 1 + 1 := ⟨_, rfl⟩
    rw [← hb2] at H0 ⊢
    obtain ⟨b1, hb1⟩ : ∃ b, b = w.heap.size + 1 := ⟨_, rfl⟩
    rw [← hb1] at H0 ⊢
    obtain ⟨b0, hb0⟩ : ∃ b, b = w.heap.size := ⟨_, rfl⟩
    rw [← hb0] at H0
    try rw [← hb0]
    clear hb3 hb2 hb1 hb0
    refine (HF.out _ H0.out.t).mono ?_
    rintro e1 w1 ⟨rfl, ht⟩
    have H1 := Lib.hid (H0.out.still ht)
    have X1 := Lib.hid (Blk.new w1 23 [.int .i64 xg, .int .i64 xr, .int .i64 xt, .int .i64 xe, .int .i64 xl, .int .i64 xm])
    have hz3 : b3 < w1.heap.size := H1.out.k3.lt
    have hz2 : b2 < w1.heap.size := H1.out.k2.lt
    have hz1 : b1 < w1.heap.size := H1.out.k1.lt
    have hz0 : b0 < w1.heap.size := H1.out.k0.lt
    have n01 := H1.out.n01
    have n12 := H1.out.n12
    have l23 := H1.out.l23
    clear ht
    obtain ⟨⟨q0, q1, q2, q3, q4, q5⟩, k0, k1_, k2, k3, k4, k5⟩ := blk6 H1.out.k3
    obtain ⟨⟨r0, r1, r2, r3, r4⟩, j0, j1, j2, j3, j4⟩ := blk5 H1.out.k2
    obtain ⟨⟨c0, c1, c2, c3, c4⟩, g0, g1, g2, g3, g4⟩ := blk5 H1.out.k0
    obtain ⟨⟨s0, s1, s2, s3, s4, s5⟩, h0_, h1_, h2_, h3_, h4_, h5_⟩ := blk6 H1.out.k1
    go_wp2_with fail
    refine (HR.out _).mono ?_
    rintro e2 w2 ⟨rfl, ht⟩
    have H2 := Lib.hid (((H1.out.gen (.int .i64 0)).still ((Turn.refl _ _).alloc (.cells #[.int .i64 xg, .int .i64 xr, .int .i64 xt, .int .i64 xe, .int .i64 xl, .int .i64 xm] 23))).still ht)
    clear ht
    clear q0 q1 q2 q3 q4 q5 k0 k1_ k2 k3 k4 k5 r0 r1 r2 r3 r4 j0 j1 j2 j3 j4 c0 c1 c2 c3 c4 g0 g1 g2 g3 g4 s0 s1 s2 s3 s4 s5 h0_ h1_ h2_ h3_ h4_ h5_
    clear hz0 hz1 hz2 hz3 X1 H1
    have hz3 : b3 < w2.heap.size := H2.out.k3.lt
    have hz2 : b2 < w2.heap.size := H2.out.k2.lt
    have hz1 : b1 < w2.heap.size := H2.out.k1.lt
    have hz0 : b0 < w2.heap.size := H2.out.k0.lt
    obtain ⟨⟨q0, q1, q2, q3, q4, q5⟩, k0, k1_, k2, k3, k4, k5⟩ := blk6 H2.out.k3
    obtain ⟨⟨r0, r1, r2, r3, r4⟩, j0, j1, j2, j3, j4⟩ := blk5 H2.out.k2
    obtain ⟨⟨c0, c1, c2, c3, c4⟩, g0, g1, g2, g3, g4⟩ := blk5 H2.out.k0
    obtain ⟨⟨s0, s1, s2, s3, s4, s5⟩, h0_, h1_, h2_, h3_, h4_, h5_⟩ := blk6 H2.out.k1
    have HWc : Hid (∀ W, Turn (fun _ => False) w W → w.heap.size + 3 < W.heap.size → Calls Try.prog 19 #[.agg #[.int .i64 N, .slice A n c, .slice B m d, .int .i64 F, .bool dd], .int .i64 (0 ), .string PP] W fun r w' => ∃ v, r = .returned v ∧ (∃ B1 d1, v = .tuple #[.agg #[.int .i64 N, .slice A n c, .slice B1 m1 d1, .int .i64 F1, .bool dd1], .int .i64 f1] ∧ Q1 w' B1 d1 ∧ Turn (fun _ => False) W w')) := Lib.hid (fun W h1 h2 => HW.out W h1 h2)
    have H2d := Lib.hid (H2.out.still ((Turn.refl _ _).drew))
    go_upto_region 11 with fail

    go_cut [10] (fun f10 wx => f10 = .int .i64 f1 ∧ ∃ B1 d1, Q1 wx B1 d1 ∧ Hd4 w wx b0 b1 b2 b3 [.int .i64 N, .slice A n c, .slice B1 m1 d1, .int .i64 F1, .bool dd1] [.int .i64 0, .int .i64 sr, .int .i64 st, .int .i64 se, .int .i64 sl, .int .i64 sm] [.int .i64 0, .slice none 0 0, .slice none 0 0, .int .i64 0, .bool false] [.int .i64 0, .int .i64 0, .int .i64 0, .int .i64 0, .int .i64 0, .int .i64 0])
    case first =>
      clear q0 q1 q2 q3 q4 q5 k0 k1_ k2 k3 k4 k5 r0 r1 r2 r3 r4 j0 j1 j2 j3 j4 c0 c1 c2 c3 c4 g0 g1 g2 g3 g4 s0 s1 s2 s3 s4 s5 h0_ h1_ h2_ h3_ h4_ h5_
      refine wp_region_noPanic ?_
      refine wp_region_held_drew (S := fun W => W.cell? ⟨b1, 0, none⟩ = some (.int .i64 0) ∧ W.cell? ⟨b1, 1, none⟩ = some (.int .i64 sr) ∧ W.cell? ⟨b1, 2, none⟩ = some (.int .i64 st) ∧ W.cell? ⟨b1, 3, none⟩ = some (.int .i64 se) ∧ W.cell? ⟨b1, 4, none⟩ = some (.int .i64 sl) ∧ W.cell? ⟨b1, 5, none⟩ = some (.int .i64 sm)) (by kernel_rfl) (blk6 H2d.out.k1).1 (fun hHeld => ?_)
      refine wpAnyH_take (i := 1) (v := ?_) rfl (by kernel_rfl) (by kernel_rfl) (by kernel_rfl) (fun _ _ _ h => h) (Or.inl ⟨by rfl, ?_⟩) (by assumption) ?_
      rotate_left 1
      · intro w' hSw
        go_simp
        all_goals first | with_reducible rfl | (rw [if_neg (by omega)]; done) | (rw [if_neg (by omega)]; with_reducible rfl)
      try simp only [List.getElem_toArray, List.getElem_cons_zero, List.getElem_cons_succ, Act.put, List.setIfInBounds_toArray, List.set_cons_zero, List.set_cons_succ]
      refine wpAnyH_take (i := 2) (v := ?_) rfl (by kernel_rfl) (by kernel_rfl) (by kernel_rfl) (fun _ _ _ h => h) (Or.inl ⟨by rfl, ?_⟩) (by assumption) ?_
      rotate_left 1
      · intro w' hSw
        go_simp
        all_goals first | with_reducible rfl | (rw [if_neg (by omega)]; done) | (rw [if_neg (by omega)]; with_reducible rfl)
      try simp only [List.getElem_toArray, List.getElem_cons_zero, List.getElem_cons_succ, Act.put, List.setIfInBounds_toArray, List.set_cons_zero, List.set_cons_succ]
      refine wpAnyH_take (i := 3) (v := ?_) rfl (by kernel_rfl) (by kernel_rfl) (by kernel_rfl) (fun _ _ _ h => h) (Or.inl ⟨by rfl, ?_⟩) (by assumption) ?_
      rotate_left 1
      · intro w' hSw
        go_simp
        all_goals first | with_reducible rfl | (rw [if_neg (by omega)]; done) | (rw [if_neg (by omega)]; with_reducible rfl)
      try simp only [List.getElem_toArray, List.getElem_cons_zero, List.getElem_cons_succ, Act.put, List.setIfInBounds_toArray, List.set_cons_zero, List.set_cons_succ]
      refine wpAnyH_take (i := 4) (v := ?_) rfl (by kernel_rfl) (by kernel_rfl) (by kernel_rfl) (fun _ _ _ h => h) (Or.inl ⟨by rfl, ?_⟩) (by assumption) ?_
      rotate_left 1
      · intro w' hSw
        go_simp
        all_goals first | with_reducible rfl | (rw [if_neg (by omega)]; done) | (rw [if_neg (by omega)]; with_reducible rfl)
      try simp only [List.getElem_toArray, List.getElem_cons_zero, List.getElem_cons_succ, Act.put, List.setIfInBounds_toArray, List.set_cons_zero, List.set_cons_succ]
      refine wpAnyH_ready (rs := [0, 5]) (by kernel_rfl) (by simp) ?_
      refine AllReadyH.cons rfl (fun K hK => ?_) (AllReadyH.cons rfl (fun K hK => ?_) AllReadyH.nil)
      · obtain ⟨c0, c1, c9, c3, c4⟩ := (blk5 H2d.out.k0).1
        go_simp
        refine hK.out _ _ (blk6 H2d.out.k1).1 (fun hHeld => ?_)
        clear hK K c0 c1 c9 c3 c4
        try simp only [List.getElem_toArray, List.getElem_cons_zero, List.getElem_cons_succ, Act.put, List.setIfInBounds_toArray, List.set_cons_zero, List.set_cons_succ]
        refine wpAnyH_ready (rs := [5]) (by kernel_rfl) (by simp) ?_
        refine AllReadyH.cons rfl (fun K hK => ?_) AllReadyH.nil
        refine step_call rfl 36 Try.f36 _ _ rfl Try.func36 (by kernel_rfl) (by kernel_rfl) _ _ (HP.out _) (by go_simp) ?_
        rintro v5 w3 ⟨rfl, ht⟩
        have H3 := Lib.hid (H2d.out.still ht)
        clear ht
        refine hK.out _ _ (blk6 H3.out.k1).1 (fun hHeld => ?_)
        clear hK K
        try simp only [List.getElem_toArray, List.getElem_cons_zero, List.getElem_cons_succ, Act.put, List.setIfInBounds_toArray, List.set_cons_zero, List.set_cons_succ]
        refine wpAnyH_ready (rs := [6]) (by kernel_rfl) (by simp) ?_
        refine AllReadyH.cons rfl (fun K hK => ?_) AllReadyH.nil
        refine step_call rfl 19 Try.f19 _ _ rfl Try.func19 (by kernel_rfl) (by kernel_rfl) _ _ (HWc.out _ H3.out.t H3.out.big) (by go_simp) ?_
        rintro v6 w4 ⟨B1, d1, rfl, hq1, ht⟩
        have H4 := Lib.hid (H3.out.still ht)
        have HQ := Lib.hid hq1
        clear ht hq1
        refine hK.out _ _ (blk6 H4.out.k1).1 (fun hHeld => ?_)
        clear hK K
        try simp only [List.getElem_toArray, List.getElem_cons_zero, List.getElem_cons_succ, Act.put, List.setIfInBounds_toArray, List.set_cons_zero, List.set_cons_succ]
        refine wpAnyH_take (i := 7) (v := ?_) rfl (by kernel_rfl) (by kernel_rfl) (by kernel_rfl) (fun _ _ _ h => h) (Or.inl ⟨by rfl, ?_⟩) (by assumption) ?_
        rotate_left 1
        · intro w' hSw
          go_simp
          all_goals first | with_reducible rfl | (rw [if_neg (by omega)]; done) | (rw [if_neg (by omega)]; with_reducible rfl)
        try simp only [List.getElem_toArray, List.getElem_cons_zero, List.getElem_cons_succ, Act.put, List.setIfInBounds_toArray, List.set_cons_zero, List.set_cons_succ]
        refine wpAnyH_take (i := 8) (v := ?_) rfl (by kernel_rfl) (by kernel_rfl) (by kernel_rfl) (fun _ _ _ h => h) (Or.inl ⟨by rfl, ?_⟩) (by assumption) ?_
        rotate_left 1
        · intro w' hSw
          go_simp
          all_goals first | with_reducible rfl | (rw [if_neg (by omega)]; done) | (rw [if_neg (by omega)]; with_reducible rfl)
        try simp only [List.getElem_toArray, List.getElem_cons_zero, List.getElem_cons_succ, Act.put, List.setIfInBounds_toArray, List.set_cons_zero, List.set_cons_succ]
        refine wpAnyH_take (i := 9) (v := ?_) rfl (by kernel_rfl) (by kernel_rfl) (by kernel_rfl) (fun _ _ _ h => h) (Or.inl ⟨by rfl, ?_⟩) (by assumption) ?_
        rotate_left 1
        · intro w' hSw
          go_simp
          all_goals first | with_reducible rfl | (rw [if_neg (by omega)]; done) | (rw [if_neg (by omega)]; with_reducible rfl)
        try simp only [List.getElem_toArray, List.getElem_cons_zero, List.getElem_cons_succ, Act.put, List.setIfInBounds_toArray, List.set_cons_zero, List.set_cons_succ]
        refine wpAnyH_ready (rs := [10]) (by kernel_rfl) (by simp) ?_
        refine AllReadyH.cons rfl (fun K hK => ?_) AllReadyH.nil
        obtain ⟨⟨c0, c1, c9, c3, c4⟩, g0, g1, g2, g3, g4⟩ := blk5 H4.out.k0
        have HS := Lib.hid (H4.out.dsk (.int .i64 N) (.slice A n c) (.slice B1 m1 d1) (.int .i64 F1) (.bool dd1))
        have HQ2 := Lib.hid (hQ1.out _ _ _ _ HQ.out ((Turn.refl (fun k => w.heap.size ≤ k ∧ k ≤ w.heap.size + 3) _).pu5 (g := b0) (.inl H4.out.in0) (.int .i64 N) (.slice A n c) (.slice B1 m1 d1) (.int .i64 F1) (.bool dd1)))
        go_simp
        refine hK.out _ _ (blk6 HS.out.k1).1 (fun hHeld => ?_)
        clear hK K c0 c1 c9 c3 c4 g0 g1 g2 g3 g4
        try simp only [List.getElem_toArray, List.getElem_cons_zero, List.getElem_cons_succ, Act.put, List.setIfInBounds_toArray, List.set_cons_zero, List.set_cons_succ]
        refine wpAnyH_take (i := 11) (v := ?_) rfl (by kernel_rfl) (by kernel_rfl) (by kernel_rfl) (fun _ _ _ h => h) (Or.inl ⟨by rfl, ?_⟩) (by assumption) ?_
        rotate_left 1
        · intro w' hSw
          go_simp
          all_goals first | with_reducible rfl | (rw [if_neg (by omega)]; done) | (rw [if_neg (by omega)]; with_reducible rfl)
        try simp only [List.getElem_toArray, List.getElem_cons_zero, List.getElem_cons_succ, Act.put, List.setIfInBounds_toArray, List.set_cons_zero, List.set_cons_succ]
        refine wpAnyH_done (by kernel_rfl) ?_ _
        refine NoPanic.normal ?_
        go_wp2_with fail
        go_meet
        exact ⟨rfl, B1, d1, HQ2.out, HS.out⟩
      · refine step_call rfl 36 Try.f36 _ _ rfl Try.func36 (by kernel_rfl) (by kernel_rfl) _ _ (HP.out _) (by go_simp) ?_
        rintro v5 w3 ⟨rfl, ht⟩
        have H3 := Lib.hid (H2d.out.still ht)
        clear ht
        refine hK.out _ _ (blk6 H3.out.k1).1 (fun hHeld => ?_)
        clear hK K
        try simp only [List.getElem_toArray, List.getElem_cons_zero, List.getElem_cons_succ, Act.put, List.setIfInBounds_toArray, List.set_cons_zero, List.set_cons_succ]
        refine wpAnyH_ready (rs := [0]) (by kernel_rfl) (by simp) ?_
        refine AllReadyH.cons rfl (fun K hK => ?_) AllReadyH.nil
        obtain ⟨c0, c1, c9, c3, c4⟩ := (blk5 H3.out.k0).1
        go_simp
        refine hK.out _ _ (blk6 H3.out.k1).1 (fun hHeld => ?_)
        clear hK K c0 c1 c9 c3 c4
        try simp only [List.getElem_toArray, List.getElem_cons_zero, List.getElem_cons_succ, Act.put, List.setIfInBounds_toArray, List.set_cons_zero, List.set_cons_succ]
        refine wpAnyH_ready (rs := [6]) (by kernel_rfl) (by simp) ?_
        refine AllReadyH.cons rfl (fun K hK => ?_) AllReadyH.nil
        refine step_call rfl 19 Try.f19 _ _ rfl Try.func19 (by kernel_rfl) (by kernel_rfl) _ _ (HWc.out _ H3.out.t H3.out.big) (by go_simp) ?_
        rintro v6 w4 ⟨B1, d1, rfl, hq1, ht⟩
        have H4 := Lib.hid (H3.out.still ht)
        have HQ := Lib.hid hq1
        clear ht hq1
        refine hK.out _ _ (blk6 H4.out.k1).1 (fun hHeld => ?_)
        clear hK K
        try simp only [List.getElem_toArray, List.getElem_cons_zero, List.getElem_cons_succ, Act.put, List.setIfInBounds_toArray, List.set_cons_zero, List.set_cons_succ]
        refine wpAnyH_take (i := 7) (v := ?_) rfl (by kernel_rfl) (by kernel_rfl) (by kernel_rfl) (fun _ _ _ h => h) (Or.inl ⟨by rfl, ?_⟩) (by assumption) ?_
        rotate_left 1
        · intro w' hSw
          go_simp
          all_goals first | with_reducible rfl | (rw [if_neg (by omega)]; done) | (rw [if_neg (by omega)]; with_reducible rfl)
        try simp only [List.getElem_toArray, List.getElem_cons_zero, List.getElem_cons_succ, Act.put, List.setIfInBounds_toArray, List.set_cons_zero, List.set_cons_succ]
        refine wpAnyH_take (i := 8) (v := ?_) rfl (by kernel_rfl) (by kernel_rfl) (by kernel_rfl) (fun _ _ _ h => h) (Or.inl ⟨by rfl, ?_⟩) (by assumption) ?_
        rotate_left 1
        · intro w' hSw
          go_simp
          all_goals first | with_reducible rfl | (rw [if_neg (by omega)]; done) | (rw [if_neg (by omega)]; with_reducible rfl)
        try simp only [List.getElem_toArray, List.getElem_cons_zero, List.getElem_cons_succ, Act.put, List.setIfInBounds_toArray, List.set_cons_zero, List.set_cons_succ]
        refine wpAnyH_take (i := 9) (v := ?_) rfl (by kernel_rfl) (by kernel_rfl) (by kernel_rfl) (fun _ _ _ h => h) (Or.inl ⟨by rfl, ?_⟩) (by assumption) ?_
        rotate_left 1
        · intro w' hSw
          go_simp
          all_goals first | with_reducible rfl | (rw [if_neg (by omega)]; done) | (rw [if_neg (by omega)]; with_reducible rfl)
        try simp only [List.getElem_toArray, List.getElem_cons_zero, List.getElem_cons_succ, Act.put, List.setIfInBounds_toArray, List.set_cons_zero, List.set_cons_succ]
        refine wpAnyH_ready (rs := [10]) (by kernel_rfl) (by simp) ?_
        refine AllReadyH.cons rfl (fun K hK => ?_) AllReadyH.nil
        obtain ⟨⟨c0, c1, c9, c3, c4⟩, g0, g1, g2, g3, g4⟩ := blk5 H4.out.k0
        have HS := Lib.hid (H4.out.dsk (.int .i64 N) (.slice A n c) (.slice B1 m1 d1) (.int .i64 F1) (.bool dd1))
        have HQ2 := Lib.hid (hQ1.out _ _ _ _ HQ.out ((Turn.refl (fun k => w.heap.size ≤ k ∧ k ≤ w.heap.size + 3) _).pu5 (g := b0) (.inl H4.out.in0) (.int .i64 N) (.slice A n c) (.slice B1 m1 d1) (.int .i64 F1) (.bool dd1)))
        go_simp
        refine hK.out _ _ (blk6 HS.out.k1).1 (fun hHeld => ?_)
        clear hK K c0 c1 c9 c3 c4 g0 g1 g2 g3 g4
        try simp only [List.getElem_toArray, List.getElem_cons_zero, List.getElem_cons_succ, Act.put, List.setIfInBounds_toArray, List.set_cons_zero, List.set_cons_succ]
        refine wpAnyH_take (i := 11) (v := ?_) rfl (by kernel_rfl) (by kernel_rfl) (by kernel_rfl) (fun _ _ _ h => h) (Or.inl ⟨by rfl, ?_⟩) (by assumption) ?_
        rotate_left 1
        · intro w' hSw
          go_simp
          all_goals first | with_reducible rfl | (rw [if_neg (by omega)]; done) | (rw [if_neg (by omega)]; with_reducible rfl)
        try simp only [List.getElem_toArray, List.getElem_cons_zero, List.getElem_cons_succ, Act.put, List.setIfInBounds_toArray, List.set_cons_zero, List.set_cons_succ]
        refine wpAnyH_done (by kernel_rfl) ?_ _
        refine NoPanic.normal ?_
        go_wp2_with fail
        go_meet
        exact ⟨rfl, B1, d1, HQ2.out, HS.out⟩
    case rest =>
      obtain ⟨rfl, B1, d1, hq1, hh⟩ := hcut
      have H4 := Lib.hid hh
      have HQ := Lib.hid hq1
      clear q0 q1 q2 q3 q4 q5 k0 k1_ k2 k3 k4 k5 r0 r1 r2 r3 r4 j0 j1 j2 j3 j4 c0 c1 c2 c3 c4 g0 g1 g2 g3 g4 s0 s1 s2 s3 s4 s5 h0_ h1_ h2_ h3_ h4_ h5_
      clear hh hq1
      obtain ⟨⟨q0, q1, q2, q3, q4, q5⟩, k0, k1_, k2, k3, k4, k5⟩ := blk6 H4.out.k3
      obtain ⟨⟨r0, r1, r2, r3, r4⟩, j0, j1, j2, j3, j4⟩ := blk5 H4.out.k2
      obtain ⟨⟨c0, c1, c2, c3, c4⟩, g0, g1, g2, g3, g4⟩ := blk5 H4.out.k0
      obtain ⟨⟨s0, s1, s2, s3, s4, s5⟩, h0_, h1_, h2_, h3_, h4_, h5_⟩ := blk6 H4.out.k1
      have hz3 : b3 < wc.heap.size := H4.out.k3.lt
      have hz2 : b2 < wc.heap.size := H4.out.k2.lt
      have hz1 : b1 < wc.heap.size := H4.out.k1.lt
      have hz0 : b0 < wc.heap.size := H4.out.k0.lt
      by_cases h1 : f1 = 0
      · have HFc := Lib.hid (HFL.out h1 _ _ _ HQ.out H4.out.t H4.out.big)
        subst h1
        go_wp2_with fail
        refine HFc.out.mono ?_
        rintro e5 w5 ⟨A9, n9, c9, B9, d9, rfl, hq2, ht⟩
        have HQ2 := Lib.hid hq2
        have H5 := Lib.hid (H4.out.still ht)
        clear ht hq2
        clear q0 q1 q2 q3 q4 q5 k0 k1_ k2 k3 k4 k5 r0 r1 r2 r3 r4 j0 j1 j2 j3 j4 c0 c1 c2 c3 c4 g0 g1 g2 g3 g4 s0 s1 s2 s3 s4 s5 h0_ h1_ h2_ h3_ h4_ h5_
        obtain ⟨⟨q0, q1, q2, q3, q4, q5⟩, k0, k1_, k2, k3, k4, k5⟩ := blk6 H5.out.k3
        obtain ⟨⟨r0, r1, r2, r3, r4⟩, j0, j1, j2, j3, j4⟩ := blk5 H5.out.k2
        obtain ⟨⟨c0, c1, c2, c3, c4⟩, g0, g1, g2, g3, g4⟩ := blk5 H5.out.k0
        obtain ⟨⟨s0, s1, s2, s3, s4, s5⟩, h0_, h1_, h2_, h3_, h4_, h5_⟩ := blk6 H5.out.k1
        have hz3 : b3 < w5.heap.size := H5.out.k3.lt
        have hz2 : b2 < w5.heap.size := H5.out.k2.lt
        have hz1 : b1 < w5.heap.size := H5.out.k1.lt
        have hz0 : b0 < w5.heap.size := H5.out.k0.lt
        have H6 := Lib.hid (H5.out.dsk (.int .i64 N) (.slice A9 n9 c9) (.slice B9 m2 d9) (.int .i64 F2) (.bool dd2))
        have HQ3 := Lib.hid (hQ2.out _ _ _ _ _ _ _ HQ2.out ((Turn.refl (fun k => w.heap.size ≤ k ∧ k ≤ w.heap.size + 3) _).pu5 (g := b0) (.inl H5.out.in0) (.int .i64 N) (.slice A9 n9 c9) (.slice B9 m2 d9) (.int .i64 F2) (.bool dd2)))
        go_upto_region 15 with fail
        rw [pu5_eq]
        clear q0 q1 q2 q3 q4 q5 k0 k1_ k2 k3 k4 k5 r0 r1 r2 r3 r4 j0 j1 j2 j3 j4 c0 c1 c2 c3 c4 g0 g1 g2 g3 g4 s0 s1 s2 s3 s4 s5 h0_ h1_ h2_ h3_ h4_ h5_
        generalize pu5 w5 b0 (.int .i64 N) (.slice A9 n9 c9) (.slice B9 m2 d9) (.int .i64 F2) (.bool dd2) = w6 at *
        obtain ⟨⟨q0, q1, q2, q3, q4, q5⟩, k0, k1_, k2, k3, k4, k5⟩ := blk6 H6.out.k3
        obtain ⟨⟨r0, r1, r2, r3, r4⟩, j0, j1, j2, j3, j4⟩ := blk5 H6.out.k2
        obtain ⟨⟨c0, c1, c2, c3, c4⟩, g0, g1, g2, g3, g4⟩ := blk5 H6.out.k0
        obtain ⟨⟨s0, s1, s2, s3, s4, s5⟩, h0_, h1_, h2_, h3_, h4_, h5_⟩ := blk6 H6.out.k1
        clear hz0 hz1 hz2 hz3 HQ2 H5
        have hz3 : b3 < w6.heap.size := H6.out.k3.lt
        have hz2 : b2 < w6.heap.size := H6.out.k2.lt
        have hz1 : b1 < w6.heap.size := H6.out.k1.lt
        have hz0 : b0 < w6.heap.size := H6.out.k0.lt
        have m01 := H6.out.n01
        have m12 := H6.out.n12
        have m23 := H6.out.l23
        by_cases h2 : f2 = 0
        · subst h2
          go_wp2_with fail
          clear q0 q1 q2 q3 q4 q5 k0 k1_ k2 k3 k4 k5 r0 r1 r2 r3 r4 j0 j1 j2 j3 j4 c0 c1 c2 c3 c4 g0 g1 g2 g3 g4 s0 s1 s2 s3 s4 s5 h0_ h1_ h2_ h3_ h4_ h5_
          refine wp_region_noPanic ?_
          refine wp_region_held_drew (S := fun W => (W.cell? ⟨b0, 0, none⟩ = some (.int .i64 N) ∧ W.cell? ⟨b0, 1, none⟩ = some (.slice A9 n9 c9) ∧ W.cell? ⟨b0, 2, none⟩ = some (.slice B9 m2 d9) ∧ W.cell? ⟨b0, 3, none⟩ = some (.int .i64 F2) ∧ W.cell? ⟨b0, 4, none⟩ = some (.bool dd2)) ∧ W.cell? ⟨b1, 0, none⟩ = some (.int .i64 0) ∧ W.cell? ⟨b1, 1, none⟩ = some (.int .i64 sr) ∧ W.cell? ⟨b1, 2, none⟩ = some (.int .i64 st) ∧ W.cell? ⟨b1, 3, none⟩ = some (.int .i64 se) ∧ W.cell? ⟨b1, 4, none⟩ = some (.int .i64 sl) ∧ W.cell? ⟨b1, 5, none⟩ = some (.int .i64 sm)) (by kernel_rfl) ⟨(blk5 (H6.out.still ((Turn.refl _ _).drew)).k0).1, (blk6 (H6.out.still ((Turn.refl _ _).drew)).k1).1⟩ (fun hHeld => ?_)
          refine wpAnyH_namedU (fun X0 hX0 => ?_)
          clear hHeld
          have C0r : Hid (Blk X0 b0 46 [.int .i64 N, .slice A9 n9 c9, .slice B9 m2 d9, .int .i64 F2, .bool dd2]) := Lib.hid (by rw [hX0]; exact H6.out.k0)
          have C1r : Hid (Blk X0 b1 23 [.int .i64 0, .int .i64 sr, .int .i64 st, .int .i64 se, .int .i64 sl, .int .i64 sm]) := Lib.hid (by rw [hX0]; exact H6.out.k1)
          have K4r : Hid (Blk X0 b2 46 [.int .i64 0, .slice none 0 0, .slice none 0 0, .int .i64 0, .bool false]) := Lib.hid (by rw [hX0]; exact H6.out.k2)
          have K5r : Hid (Blk X0 b3 23 [.int .i64 0, .int .i64 0, .int .i64 0, .int .i64 0, .int .i64 0, .int .i64 0]) := Lib.hid (by rw [hX0]; exact H6.out.k3)
          have TR : Hid (Turn (fun k => w.heap.size ≤ k ∧ k ≤ w.heap.size + 3) w6 X0) := Lib.hid (by rw [hX0]; exact (Turn.refl _ w6).drew)
          have hHeld : (X0.cell? ⟨b0, 0, none⟩ = some (.int .i64 N) ∧ X0.cell? ⟨b0, 1, none⟩ = some (.slice A9 n9 c9) ∧ X0.cell? ⟨b0, 2, none⟩ = some (.slice B9 m2 d9) ∧ X0.cell? ⟨b0, 3, none⟩ = some (.int .i64 F2) ∧ X0.cell? ⟨b0, 4, none⟩ = some (.bool dd2)) ∧ X0.cell? ⟨b1, 0, none⟩ = some (.int .i64 0) ∧ X0.cell? ⟨b1, 1, none⟩ = some (.int .i64 sr) ∧ X0.cell? ⟨b1, 2, none⟩ = some (.int .i64 st) ∧ X0.cell? ⟨b1, 3, none⟩ = some (.int .i64 se) ∧ X0.cell? ⟨b1, 4, none⟩ = some (.int .i64 sl) ∧ X0.cell? ⟨b1, 5, none⟩ = some (.int .i64 sm) := ⟨(blk5 C0r.out).1, (blk6 C1r.out).1⟩
          clear hX0
          refine wpAnyH_take (i := 0) (v := ?_) rfl (by kernel_rfl) (by kernel_rfl) (by kernel_rfl) (fun _ _ _ h => h) (Or.inl ⟨by rfl, ?_⟩) (by assumption) ?_
          rotate_left 1
          · intro w' hSw
            go_simp
            all_goals first | with_reducible rfl | (rw [if_neg (by omega)]; done) | (rw [if_neg (by omega)]; with_reducible rfl)
          try simp only [List.getElem_toArray, List.getElem_cons_zero, List.getElem_cons_succ, Act.put, List.setIfInBounds_toArray, List.set_cons_zero, List.set_cons_succ]
          refine wpAnyH_take (i := 1) (v := ?_) rfl (by kernel_rfl) (by kernel_rfl) (by kernel_rfl) (fun _ _ _ h => h) (Or.inl ⟨by rfl, ?_⟩) (by assumption) ?_
          rotate_left 1
          · intro w' hSw
            go_simp
            all_goals first | with_reducible rfl | (rw [if_neg (by omega)]; done) | (rw [if_neg (by omega)]; with_reducible rfl)
          try simp only [List.getElem_toArray, List.getElem_cons_zero, List.getElem_cons_succ, Act.put, List.setIfInBounds_toArray, List.set_cons_zero, List.set_cons_succ]
          refine wpAnyH_ready (rs := [2]) (by kernel_rfl) (by simp) ?_
          refine AllReadyH.cons rfl (fun K hK => ?_) AllReadyH.nil
          obtain ⟨⟨r0, r1, r2, r3, r4⟩, j0, j1, j2, j3, j4⟩ := blk5 K4r.out
          have HX5 := Lib.hid (C0r.out.far5 (g := b2) (by have := H6.out.n12; have := H6.out.n01; omega) (.int .i64 N) (.slice A9 n9 c9) (.slice B9 m2 d9) (.int .i64 F2) (.bool dd2))
          have HX6 := Lib.hid (C1r.out.far5 (g := b2) (by have := H6.out.n12; omega) (.int .i64 N) (.slice A9 n9 c9) (.slice B9 m2 d9) (.int .i64 F2) (.bool dd2))
          have HY4 := Lib.hid (K4r.out.pu5 (a' := .int .i64 N) (b' := .slice A9 n9 c9) (c' := .slice B9 m2 d9) (d' := .int .i64 F2) (e' := .bool dd2))
          have HY5 := Lib.hid (K5r.out.far5 (g := b2) (Ne.symm H6.out.n23) (.int .i64 N) (.slice A9 n9 c9) (.slice B9 m2 d9) (.int .i64 F2) (.bool dd2))
          have HTT := Lib.hid (TR.out.pu5 (g := b2) (.inl H6.out.in2) (.int .i64 N) (.slice A9 n9 c9) (.slice B9 m2 d9) (.int .i64 F2) (.bool dd2))
          go_simp
          refine hK.out _ _ ⟨(blk5 HX5.out).1, (blk6 HX6.out).1⟩ (fun hHeld => ?_)
          clear hK K r0 r1 r2 r3 r4 j0 j1 j2 j3 j4
          try simp only [List.getElem_toArray, List.getElem_cons_zero, List.getElem_cons_succ, Act.put, List.setIfInBounds_toArray, List.set_cons_zero, List.set_cons_succ]
          refine wpAnyH_namedU (fun XA eX => ?_)
          clear hHeld
          have HX5 : Hid (Blk XA b0 46 [.int .i64 N, .slice A9 n9 c9, .slice B9 m2 d9, .int .i64 F2, .bool dd2]) := Lib.hid (by rw [eX]; exact HX5.out)
          have HX6 : Hid (Blk XA b1 23 [.int .i64 0, .int .i64 sr, .int .i64 st, .int .i64 se, .int .i64 sl, .int .i64 sm]) := Lib.hid (by rw [eX]; exact HX6.out)
          have HY4 : Hid (Blk XA b2 46 [.int .i64 N, .slice A9 n9 c9, .slice B9 m2 d9, .int .i64 F2, .bool dd2]) := Lib.hid (by rw [eX]; exact HY4.out)
          have HY5 : Hid (Blk XA b3 23 [.int .i64 0, .int .i64 0, .int .i64 0, .int .i64 0, .int .i64 0, .int .i64 0]) := Lib.hid (by rw [eX]; exact HY5.out)
          have HTT : Hid (Turn (fun k => w.heap.size ≤ k ∧ k ≤ w.heap.size + 3) w6 XA) := Lib.hid (by rw [eX]; exact HTT.out)
          have hHeld := And.intro (blk5 HX5.out).1 (blk6 HX6.out).1
          clear eX
          refine wpAnyH_ready (rs := [3]) (by kernel_rfl) (by simp) ?_
          refine AllReadyH.cons rfl (fun K hK => ?_) AllReadyH.nil
          obtain ⟨⟨q0, q1, q2, q3, q4, q5⟩, k0, k1_, k2, k3, k4, k5⟩ := blk6 HY5.out
          have HX7 := Lib.hid (HX5.out.far6 (g := b3) (by have := H6.out.n12; have := H6.out.n01; have := H6.out.l23; omega) (.int .i64 0) (.int .i64 sr) (.int .i64 st) (.int .i64 se) (.int .i64 sl) (.int .i64 sm))
          have HX8 := Lib.hid (HX6.out.far6 (g := b3) (by have := H6.out.n12; have := H6.out.l23; omega) (.int .i64 0) (.int .i64 sr) (.int .i64 st) (.int .i64 se) (.int .i64 sl) (.int .i64 sm))
          have HZ5 := Lib.hid (HY5.out.put6 (a' := .int .i64 (0)) (b' := .int .i64 (sr)) (c' := .int .i64 (st)) (d' := .int .i64 (se)) (e' := .int .i64 (sl)) (f' := .int .i64 (sm)))
          have HZ4 := Lib.hid (HY4.out.far6 (g := b3) H6.out.n23 (.int .i64 0) (.int .i64 sr) (.int .i64 st) (.int .i64 se) (.int .i64 sl) (.int .i64 sm))
          have HTU := Lib.hid (HTT.out.put6 (g := b3) (.inl H6.out.in3) (.int .i64 0) (.int .i64 sr) (.int .i64 st) (.int .i64 se) (.int .i64 sl) (.int .i64 sm))
          go_simp
          refine hK.out _ _ ⟨(blk5 HX7.out).1, (blk6 HX8.out).1⟩ (fun hHeld => ?_)
          clear hK K q0 q1 q2 q3 q4 q5 k0 k1_ k2 k3 k4 k5
          try simp only [List.getElem_toArray, List.getElem_cons_zero, List.getElem_cons_succ, Act.put, List.setIfInBounds_toArray, List.set_cons_zero, List.set_cons_succ]
          refine wpAnyH_namedU (fun XB eX => ?_)
          clear hHeld
          have HX7 : Hid (Blk XB b0 46 [.int .i64 N, .slice A9 n9 c9, .slice B9 m2 d9, .int .i64 F2, .bool dd2]) := Lib.hid (by rw [eX]; exact HX7.out)
          have HX8 : Hid (Blk XB b1 23 [.int .i64 0, .int .i64 sr, .int .i64 st, .int .i64 se, .int .i64 sl, .int .i64 sm]) := Lib.hid (by rw [eX]; exact HX8.out)
          have HZ4 : Hid (Blk XB b2 46 [.int .i64 N, .slice A9 n9 c9, .slice B9 m2 d9, .int .i64 F2, .bool dd2]) := Lib.hid (by rw [eX]; exact HZ4.out)
          have HZ5 : Hid (Blk XB b3 23 [.int .i64 0, .int .i64 sr, .int .i64 st, .int .i64 se, .int .i64 sl, .int .i64 sm]) := Lib.hid (by rw [eX]; exact HZ5.out)
          have HTU : Hid (Turn (fun k => w.heap.size ≤ k ∧ k ≤ w.heap.size + 3) w6 XB) := Lib.hid (by rw [eX]; exact HTU.out)
          have hHeld := And.intro (blk5 HX7.out).1 (blk6 HX8.out).1
          clear eX
          refine wpAnyH_take (i := 4) (v := ?_) rfl (by kernel_rfl) (by kernel_rfl) (by kernel_rfl) (fun _ _ _ h => h) (Or.inl ⟨by rfl, ?_⟩) (by assumption) ?_
          rotate_left 1
          · intro w' hSw
            go_simp
            all_goals first | with_reducible rfl | (rw [if_neg (by omega)]; done) | (rw [if_neg (by omega)]; with_reducible rfl)
          try simp only [List.getElem_toArray, List.getElem_cons_zero, List.getElem_cons_succ, Act.put, List.setIfInBounds_toArray, List.set_cons_zero, List.set_cons_succ]
          refine wpAnyH_done (by kernel_rfl) ?_ _
          refine NoPanic.normal ?_
          go_wp2_with fail
          obtain ⟨e0, e1, e2, e3, e4, e5⟩ := (blk6 HZ5.out).1
          obtain ⟨i0, i1, i2, i3, i4⟩ := (blk5 HZ4.out).1
          exact bodyPost_ret (v := .tuple #[.agg #[.int .i64 N, .slice A9 n9 c9, .slice B9 m2 d9, .int .i64 F2, .bool dd2], .agg #[.int .i64 0, .int .i64 sr, .int .i64 st, .int .i64 se, .int .i64 sl, .int .i64 sm], .int .i64 0]) (by simp [results, Try.results27, go_sem, e0, e1, e2, e3, e4, e5, i0, i1, i2, i3, i4]) rfl ⟨H6.out.t.trans_new HTU.out (fun k hk e => by omega), .inr (.inr ⟨rfl, rfl, A9, n9, c9, B9, d9, rfl, hQ2.out _ _ _ _ _ _ _ HQ3.out HTU.out⟩)⟩
        · have h2' : (f2 != 0) = true := by rw [bne_iff_ne]; exact h2
          go_wp2_with fail
          rw [put6_eq, pu5_eq]
          have hf4 := ((H6.out.k2.pu5 (a' := .int .i64 N) (b' := .slice A9 n9 c9) (c' := .slice B9 m2 d9) (d' := .int .i64 F2) (e' := .bool dd2)).far6 (g := b3) H6.out.n23 (.int .i64 0) (.int .i64 0) (.int .i64 0) (.int .i64 0) (.int .i64 0) (.int .i64 0))
          have hf5 := ((H6.out.k3.far5 (g := b2) (Ne.symm H6.out.n23) (.int .i64 N) (.slice A9 n9 c9) (.slice B9 m2 d9) (.int .i64 F2) (.bool dd2)).put6 (a' := .int .i64 0) (b' := .int .i64 0) (c' := .int .i64 0) (d' := .int .i64 0) (e' := .int .i64 0) (f' := .int .i64 0))
          have hT := ((H6.out.t.pu5 (g := b2) (.inr H6.out.w2) (.int .i64 N) (.slice A9 n9 c9) (.slice B9 m2 d9) (.int .i64 F2) (.bool dd2)).put6 (g := b3) (.inr H6.out.w3) (.int .i64 0) (.int .i64 0) (.int .i64 0) (.int .i64 0) (.int .i64 0) (.int .i64 0))
          have hU := (((Turn.refl (fun k => w.heap.size ≤ k ∧ k ≤ w.heap.size + 3) w6).pu5 (g := b2) (.inl H6.out.in2) (.int .i64 N) (.slice A9 n9 c9) (.slice B9 m2 d9) (.int .i64 F2) (.bool dd2)).put6 (g := b3) (.inl H6.out.in3) (.int .i64 0) (.int .i64 0) (.int .i64 0) (.int .i64 0) (.int .i64 0) (.int .i64 0))
          have hq := hQ2.out _ _ _ _ _ _ _ HQ3.out hU
          generalize (put6 (pu5 w6 b2 (.int .i64 N) (.slice A9 n9 c9) (.slice B9 m2 d9) (.int .i64 F2) (.bool dd2)) b3 (.int .i64 0) (.int .i64 0) (.int .i64 0) (.int .i64 0) (.int .i64 0) (.int .i64 0)) = WF at *
          clear q0 q1 q2 q3 q4 q5 k0 k1_ k2 k3 k4 k5 r0 r1 r2 r3 r4 j0 j1 j2 j3 j4 c0 c1 c2 c3 c4 g0 g1 g2 g3 g4 s0 s1 s2 s3 s4 s5 h0_ h1_ h2_ h3_ h4_ h5_
          obtain ⟨e0, e1, e2, e3, e4, e5⟩ := (blk6 hf5).1
          obtain ⟨i0, i1, i2, i3, i4⟩ := (blk5 hf4).1
          exact bodyPost_ret (v := .tuple #[.agg #[.int .i64 N, .slice A9 n9 c9, .slice B9 m2 d9, .int .i64 F2, .bool dd2], .agg #[.int .i64 0, .int .i64 0, .int .i64 0, .int .i64 0, .int .i64 0, .int .i64 0], .int .i64 f2]) (by simp [results, Try.results27, go_sem, e0, e1, e2, e3, e4, e5, i0, i1, i2, i3, i4]) rfl ⟨hT, .inr (.inl ⟨rfl, h2, A9, n9, c9, B9, d9, rfl, hq⟩)⟩
      · have h1' : (f1 != 0) = true := by rw [bne_iff_ne]; exact h1
        go_wp2_with fail
        rw [put6_eq, pu5_eq]
        have hf4 := ((H4.out.k2.pu5 (a' := .int .i64 N) (b' := .slice A n c) (c' := .slice B1 m1 d1) (d' := .int .i64 F1) (e' := .bool dd1)).far6 (g := b3) H4.out.n23 (.int .i64 0) (.int .i64 0) (.int .i64 0) (.int .i64 0) (.int .i64 0) (.int .i64 0))
        have hf5 := ((H4.out.k3.far5 (g := b2) (Ne.symm H4.out.n23) (.int .i64 N) (.slice A n c) (.slice B1 m1 d1) (.int .i64 F1) (.bool dd1)).put6 (a' := .int .i64 0) (b' := .int .i64 0) (c' := .int .i64 0) (d' := .int .i64 0) (e' := .int .i64 0) (f' := .int .i64 0))
        have hT := ((H4.out.t.pu5 (g := b2) (.inr H4.out.w2) (.int .i64 N) (.slice A n c) (.slice B1 m1 d1) (.int .i64 F1) (.bool dd1)).put6 (g := b3) (.inr H4.out.w3) (.int .i64 0) (.int .i64 0) (.int .i64 0) (.int .i64 0) (.int .i64 0) (.int .i64 0))
        have hU := (((Turn.refl (fun k => w.heap.size ≤ k ∧ k ≤ w.heap.size + 3) wc).pu5 (g := b2) (.inl H4.out.in2) (.int .i64 N) (.slice A n c) (.slice B1 m1 d1) (.int .i64 F1) (.bool dd1)).put6 (g := b3) (.inl H4.out.in3) (.int .i64 0) (.int .i64 0) (.int .i64 0) (.int .i64 0) (.int .i64 0) (.int .i64 0))
        have hq := hQ1.out _ _ _ _ HQ.out hU
        generalize (put6 (pu5 wc b2 (.int .i64 N) (.slice A n c) (.slice B1 m1 d1) (.int .i64 F1) (.bool dd1)) b3 (.int .i64 0) (.int .i64 0) (.int .i64 0) (.int .i64 0) (.int .i64 0) (.int .i64 0)) = WF at *
        clear q0 q1 q2 q3 q4 q5 k0 k1_ k2 k3 k4 k5 r0 r1 r2 r3 r4 j0 j1 j2 j3 j4 c0 c1 c2 c3 c4 g0 g1 g2 g3 g4 s0 s1 s2 s3 s4 s5 h0_ h1_ h2_ h3_ h4_ h5_
        obtain ⟨e0, e1, e2, e3, e4, e5⟩ := (blk6 hf5).1
        obtain ⟨i0, i1, i2, i3, i4⟩ := (blk5 hf4).1
        exact bodyPost_ret (v := .tuple #[.agg #[.int .i64 N, .slice A n c, .slice B1 m1 d1, .int .i64 F1, .bool dd1], .agg #[.int .i64 0, .int .i64 0, .int .i64 0, .int .i64 0, .int .i64 0, .int .i64 0], .int .i64 f1]) (by simp [results, Try.results27, go_sem, e0, e1, e2, e3, e4, e5, i0, i1, i2, i3, i4]) rfl ⟨hT, .inl ⟨h1, B1, d1, rfl, hq⟩⟩
  · go_enter Try.func27, Try.ntmps27
    go_wp2_with fail
    obtain ⟨b3, hb3⟩ : ∃ b, b = w.heap.size + 1 + 1 + 1 := ⟨_, rfl⟩
    rw [← hb3] at H0 ⊢
    obtain ⟨b2, hb2⟩ : ∃ b, b = w.heap.size + 1 + 1 := ⟨_, rfl⟩
    rw [← hb2] at H0 ⊢
    obtain ⟨b1, hb1⟩ : ∃ b, b = w.heap.size + 1 := ⟨_, rfl⟩
    rw [← hb1] at H0 ⊢
    obtain ⟨b0, hb0⟩ : ∃ b, b = w.heap.size := ⟨_, rfl⟩
    rw [← hb0] at H0
    try rw [← hb0]
    clear hb3 hb2 hb1 hb0
    refine (HF.out _ H0.out.t).mono ?_
    rintro e1 w1 ⟨rfl, ht⟩
    have H1 := Lib.hid (H0.out.still ht)
    have X1 := Lib.hid (Blk.new w1 23 [.int .i64 xg, .int .i64 xr, .int .i64 xt, .int .i64 xe, .int .i64 xl, .int .i64 xm])
    have hz3 : b3 < w1.heap.size := H1.out.k3.lt
    have hz2 : b2 < w1.heap.size := H1.out.k2.lt
    have hz1 : b1 < w1.heap.size := H1.out.k1.lt
    have hz0 : b0 < w1.heap.size := H1.out.k0.lt
    have n01 := H1.out.n01
    have n12 := H1.out.n12
    have l23 := H1.out.l23
    clear ht
    obtain ⟨⟨q0, q1, q2, q3, q4, q5⟩, k0, k1_, k2, k3, k4, k5⟩ := blk6 H1.out.k3
    obtain ⟨⟨r0, r1, r2, r3, r4⟩, j0, j1, j2, j3, j4⟩ := blk5 H1.out.k2
    obtain ⟨⟨c0, c1, c2, c3, c4⟩, g0, g1, g2, g3, g4⟩ := blk5 H1.out.k0
    obtain ⟨⟨s0, s1, s2, s3, s4, s5⟩, h0_, h1_, h2_, h3_, h4_, h5_⟩ := blk6 H1.out.k1
    go_wp2_with fail
    refine (HR.out _).mono ?_
    rintro e2 w2 ⟨rfl, ht⟩
    have H2 := Lib.hid ((((H1.out.gen (.int .i64 0)).gen (.int .i64 (xg + 1))).still ((Turn.refl _ _).alloc (.cells #[.int .i64 xg, .int .i64 xr, .int .i64 xt, .int .i64 xe, .int .i64 xl, .int .i64 xm] 23))).still ht)
    clear ht
    clear q0 q1 q2 q3 q4 q5 k0 k1_ k2 k3 k4 k5 r0 r1 r2 r3 r4 j0 j1 j2 j3 j4 c0 c1 c2 c3 c4 g0 g1 g2 g3 g4 s0 s1 s2 s3 s4 s5 h0_ h1_ h2_ h3_ h4_ h5_
    clear hz0 hz1 hz2 hz3 X1 H1
    have hz3 : b3 < w2.heap.size := H2.out.k3.lt
    have hz2 : b2 < w2.heap.size := H2.out.k2.lt
    have hz1 : b1 < w2.heap.size := H2.out.k1.lt
    have hz0 : b0 < w2.heap.size := H2.out.k0.lt
    obtain ⟨⟨q0, q1, q2, q3, q4, q5⟩, k0, k1_, k2, k3, k4, k5⟩ := blk6 H2.out.k3
    obtain ⟨⟨r0, r1, r2, r3, r4⟩, j0, j1, j2, j3, j4⟩ := blk5 H2.out.k2
    obtain ⟨⟨c0, c1, c2, c3, c4⟩, g0, g1, g2, g3, g4⟩ := blk5 H2.out.k0
    obtain ⟨⟨s0, s1, s2, s3, s4, s5⟩, h0_, h1_, h2_, h3_, h4_, h5_⟩ := blk6 H2.out.k1
    have HWc : Hid (∀ W, Turn (fun _ => False) w W → w.heap.size + 3 < W.heap.size → Calls Try.prog 19 #[.agg #[.int .i64 N, .slice A n c, .slice B m d, .int .i64 F, .bool dd], .int .i64 ((xg + 1) % 2), .string PP] W fun r w' => ∃ v, r = .returned v ∧ (∃ B1 d1, v = .tuple #[.agg #[.int .i64 N, .slice A n c, .slice B1 m1 d1, .int .i64 F1, .bool dd1], .int .i64 f1] ∧ Q1 w' B1 d1 ∧ Turn (fun _ => False) W w')) := Lib.hid (fun W h1 h2 => HW.out W h1 h2)
    have H2d := Lib.hid (H2.out.still ((Turn.refl _ _).drew))
    go_upto_region 11 with fail
    have htm : (xg + 1).tmod 2 = (xg + 1) % 2 := Int.tmod_eq_emod_of_nonneg (by omega)
    go_cut [10] (fun f10 wx => f10 = .int .i64 f1 ∧ ∃ B1 d1, Q1 wx B1 d1 ∧ Hd4 w wx b0 b1 b2 b3 [.int .i64 N, .slice A n c, .slice B1 m1 d1, .int .i64 F1, .bool dd1] [.int .i64 (xg + 1), .int .i64 sr, .int .i64 st, .int .i64 se, .int .i64 sl, .int .i64 sm] [.int .i64 0, .slice none 0 0, .slice none 0 0, .int .i64 0, .bool false] [.int .i64 0, .int .i64 0, .int .i64 0, .int .i64 0, .int .i64 0, .int .i64 0])
    case first =>
      clear q0 q1 q2 q3 q4 q5 k0 k1_ k2 k3 k4 k5 r0 r1 r2 r3 r4 j0 j1 j2 j3 j4 c0 c1 c2 c3 c4 g0 g1 g2 g3 g4 s0 s1 s2 s3 s4 s5 h0_ h1_ h2_ h3_ h4_ h5_
      refine wp_region_noPanic ?_
      refine wp_region_held_drew (S := fun W => W.cell? ⟨b1, 0, none⟩ = some (.int .i64 (xg + 1)) ∧ W.cell? ⟨b1, 1, none⟩ = some (.int .i64 sr) ∧ W.cell? ⟨b1, 2, none⟩ = some (.int .i64 st) ∧ W.cell? ⟨b1, 3, none⟩ = some (.int .i64 se) ∧ W.cell? ⟨b1, 4, none⟩ = some (.int .i64 sl) ∧ W.cell? ⟨b1, 5, none⟩ = some (.int .i64 sm)) (by kernel_rfl) (blk6 H2d.out.k1).1 (fun hHeld => ?_)
      refine wpAnyH_take (i := 1) (v := ?_) rfl (by kernel_rfl) (by kernel_rfl) (by kernel_rfl) (fun _ _ _ h => h) (Or.inl ⟨by rfl, ?_⟩) (by assumption) ?_
      rotate_left 1
      · intro w' hSw
        go_simp
        all_goals first | with_reducible rfl | (rw [if_neg (by omega)]; done) | (rw [if_neg (by omega)]; with_reducible rfl)
      try simp only [List.getElem_toArray, List.getElem_cons_zero, List.getElem_cons_succ, Act.put, List.setIfInBounds_toArray, List.set_cons_zero, List.set_cons_succ]
      refine wpAnyH_take (i := 2) (v := ?_) rfl (by kernel_rfl) (by kernel_rfl) (by kernel_rfl) (fun _ _ _ h => h) (Or.inl ⟨by rfl, ?_⟩) (by assumption) ?_
      rotate_left 1
      · intro w' hSw
        go_simp
        all_goals first | with_reducible rfl | (rw [if_neg (by omega)]; done) | (rw [if_neg (by omega)]; with_reducible rfl)
      try simp only [List.getElem_toArray, List.getElem_cons_zero, List.getElem_cons_succ, Act.put, List.setIfInBounds_toArray, List.set_cons_zero, List.set_cons_succ]
      refine wpAnyH_take (i := 3) (v := ?_) rfl (by kernel_rfl) (by kernel_rfl) (by kernel_rfl) (fun _ _ _ h => h) (Or.inl ⟨by rfl, ?_⟩) (by assumption) ?_
      rotate_left 1
      · intro w' hSw
        go_simp
        all_goals first | with_reducible rfl | (rw [if_neg (by omega)]; done) | (rw [if_neg (by omega)]; with_reducible rfl)
      try simp only [List.getElem_toArray, List.getElem_cons_zero, List.getElem_cons_succ, Act.put, List.setIfInBounds_toArray, List.set_cons_zero, List.set_cons_succ]
      refine wpAnyH_take (i := 4) (v := ?_) rfl (by kernel_rfl) (by kernel_rfl) (by kernel_rfl) (fun _ _ _ h => h) (Or.inl ⟨by rfl, ?_⟩) (by assumption) ?_
      rotate_left 1
      · intro w' hSw
        go_simp
        all_goals first | with_reducible rfl | (rw [if_neg (by omega)]; done) | (rw [if_neg (by omega)]; with_reducible rfl)
      try simp only [List.getElem_toArray, List.getElem_cons_zero, List.getElem_cons_succ, Act.put, List.setIfInBounds_toArray, List.set_cons_zero, List.set_cons_succ]
      refine wpAnyH_ready (rs := [0, 5]) (by kernel_rfl) (by simp) ?_
      refine AllReadyH.cons rfl (fun K hK => ?_) (AllReadyH.cons rfl (fun K hK => ?_) AllReadyH.nil)
      · obtain ⟨c0, c1, c9, c3, c4⟩ := (blk5 H2d.out.k0).1
        go_simp
        refine hK.out _ _ (blk6 H2d.out.k1).1 (fun hHeld => ?_)
        clear hK K c0 c1 c9 c3 c4
        try simp only [List.getElem_toArray, List.getElem_cons_zero, List.getElem_cons_succ, Act.put, List.setIfInBounds_toArray, List.set_cons_zero, List.set_cons_succ]
        refine wpAnyH_ready (rs := [5]) (by kernel_rfl) (by simp) ?_
        refine AllReadyH.cons rfl (fun K hK => ?_) AllReadyH.nil
        refine step_call rfl 36 Try.f36 _ _ rfl Try.func36 (by kernel_rfl) (by kernel_rfl) _ _ (HP.out _) (by go_simp) ?_
        rintro v5 w3 ⟨rfl, ht⟩
        have H3 := Lib.hid (H2d.out.still ht)
        clear ht
        refine hK.out _ _ (blk6 H3.out.k1).1 (fun hHeld => ?_)
        clear hK K
        try simp only [List.getElem_toArray, List.getElem_cons_zero, List.getElem_cons_succ, Act.put, List.setIfInBounds_toArray, List.set_cons_zero, List.set_cons_succ]
        refine wpAnyH_ready (rs := [6]) (by kernel_rfl) (by simp) ?_
        refine AllReadyH.cons rfl (fun K hK => ?_) AllReadyH.nil
        refine step_call rfl 19 Try.f19 _ _ rfl Try.func19 (by kernel_rfl) (by kernel_rfl) _ _ (HWc.out _ H3.out.t H3.out.big) (by go_simp) ?_
        rintro v6 w4 ⟨B1, d1, rfl, hq1, ht⟩
        have H4 := Lib.hid (H3.out.still ht)
        have HQ := Lib.hid hq1
        clear ht hq1
        refine hK.out _ _ (blk6 H4.out.k1).1 (fun hHeld => ?_)
        clear hK K
        try simp only [List.getElem_toArray, List.getElem_cons_zero, List.getElem_cons_succ, Act.put, List.setIfInBounds_toArray, List.set_cons_zero, List.set_cons_succ]
        refine wpAnyH_take (i := 7) (v := ?_) rfl (by kernel_rfl) (by kernel_rfl) (by kernel_rfl) (fun _ _ _ h => h) (Or.inl ⟨by rfl, ?_⟩) (by assumption) ?_
        rotate_left 1
        · intro w' hSw
          go_simp
          all_goals first | with_reducible rfl | (rw [if_neg (by omega)]; done) | (rw [if_neg (by omega)]; with_reducible rfl)
        try simp only [List.getElem_toArray, List.getElem_cons_zero, List.getElem_cons_succ, Act.put, List.setIfInBounds_toArray, List.set_cons_zero, List.set_cons_succ]
        refine wpAnyH_take (i := 8) (v := ?_) rfl (by kernel_rfl) (by kernel_rfl) (by kernel_rfl) (fun _ _ _ h => h) (Or.inl ⟨by rfl, ?_⟩) (by assumption) ?_
        rotate_left 1
        · intro w' hSw
          go_simp
          all_goals first | with_reducible rfl | (rw [if_neg (by omega)]; done) | (rw [if_neg (by omega)]; with_reducible rfl)
        try simp only [List.getElem_toArray, List.getElem_cons_zero, List.getElem_cons_succ, Act.put, List.setIfInBounds_toArray, List.set_cons_zero, List.set_cons_succ]
        refine wpAnyH_take (i := 9) (v := ?_) rfl (by kernel_rfl) (by kernel_rfl) (by kernel_rfl) (fun _ _ _ h => h) (Or.inl ⟨by rfl, ?_⟩) (by assumption) ?_
        rotate_left 1
        · intro w' hSw
          go_simp
          all_goals first | with_reducible rfl | (rw [if_neg (by omega)]; done) | (rw [if_neg (by omega)]; with_reducible rfl)
        try simp only [List.getElem_toArray, List.getElem_cons_zero, List.getElem_cons_succ, Act.put, List.setIfInBounds_toArray, List.set_cons_zero, List.set_cons_succ]
        refine wpAnyH_ready (rs := [10]) (by kernel_rfl) (by simp) ?_
        refine AllReadyH.cons rfl (fun K hK => ?_) AllReadyH.nil
        obtain ⟨⟨c0, c1, c9, c3, c4⟩, g0, g1, g2, g3, g4⟩ := blk5 H4.out.k0
        have HS := Lib.hid (H4.out.dsk (.int .i64 N) (.slice A n c) (.slice B1 m1 d1) (.int .i64 F1) (.bool dd1))
        have HQ2 := Lib.hid (hQ1.out _ _ _ _ HQ.out ((Turn.refl (fun k => w.heap.size ≤ k ∧ k ≤ w.heap.size + 3) _).pu5 (g := b0) (.inl H4.out.in0) (.int .i64 N) (.slice A n c) (.slice B1 m1 d1) (.int .i64 F1) (.bool dd1)))
        go_simp
        refine hK.out _ _ (blk6 HS.out.k1).1 (fun hHeld => ?_)
        clear hK K c0 c1 c9 c3 c4 g0 g1 g2 g3 g4
        try simp only [List.getElem_toArray, List.getElem_cons_zero, List.getElem_cons_succ, Act.put, List.setIfInBounds_toArray, List.set_cons_zero, List.set_cons_succ]
        refine wpAnyH_take (i := 11) (v := ?_) rfl (by kernel_rfl) (by kernel_rfl) (by kernel_rfl) (fun _ _ _ h => h) (Or.inl ⟨by rfl, ?_⟩) (by assumption) ?_
        rotate_left 1
        · intro w' hSw
          go_simp
          all_goals first | with_reducible rfl | (rw [if_neg (by omega)]; done) | (rw [if_neg (by omega)]; with_reducible rfl)
        try simp only [List.getElem_toArray, List.getElem_cons_zero, List.getElem_cons_succ, Act.put, List.setIfInBounds_toArray, List.set_cons_zero, List.set_cons_succ]
        refine wpAnyH_done (by kernel_rfl) ?_ _
        refine NoPanic.normal ?_
        go_wp2_with fail
        go_meet
        exact ⟨rfl, B1, d1, HQ2.out, HS.out⟩
      · refine step_call rfl 36 Try.f36 _ _ rfl Try.func36 (by kernel_rfl) (by kernel_rfl) _ _ (HP.out _) (by go_simp) ?_
        rintro v5 w3 ⟨rfl, ht⟩
        have H3 := Lib.hid (H2d.out.still ht)
        clear ht
        refine hK.out _ _ (blk6 H3.out.k1).1 (fun hHeld => ?_)
        clear hK K
        try simp only [List.getElem_toArray, List.getElem_cons_zero, List.getElem_cons_succ, Act.put, List.setIfInBounds_toArray, List.set_cons_zero, List.set_cons_succ]
        refine wpAnyH_ready (rs := [0]) (by kernel_rfl) (by simp) ?_
        refine AllReadyH.cons rfl (fun K hK => ?_) AllReadyH.nil
        obtain ⟨c0, c1, c9, c3, c4⟩ := (blk5 H3.out.k0).1
        go_simp
        refine hK.out _ _ (blk6 H3.out.k1).1 (fun hHeld => ?_)
        clear hK K c0 c1 c9 c3 c4
        try simp only [List.getElem_toArray, List.getElem_cons_zero, List.getElem_cons_succ, Act.put, List.setIfInBounds_toArray, List.set_cons_zero, List.set_cons_succ]
        refine wpAnyH_ready (rs := [6]) (by kernel_rfl) (by simp) ?_
        refine AllReadyH.cons rfl (fun K hK => ?_) AllReadyH.nil
        refine step_call rfl 19 Try.f19 _ _ rfl Try.func19 (by kernel_rfl) (by kernel_rfl) _ _ (HWc.out _ H3.out.t H3.out.big) (by go_simp) ?_
        rintro v6 w4 ⟨B1, d1, rfl, hq1, ht⟩
        have H4 := Lib.hid (H3.out.still ht)
        have HQ := Lib.hid hq1
        clear ht hq1
        refine hK.out _ _ (blk6 H4.out.k1).1 (fun hHeld => ?_)
        clear hK K
        try simp only [List.getElem_toArray, List.getElem_cons_zero, List.getElem_cons_succ, Act.put, List.setIfInBounds_toArray, List.set_cons_zero, List.set_cons_succ]
        refine wpAnyH_take (i := 7) (v := ?_) rfl (by kernel_rfl) (by kernel_rfl) (by kernel_rfl) (fun _ _ _ h => h) (Or.inl ⟨by rfl, ?_⟩) (by assumption) ?_
        rotate_left 1
        · intro w' hSw
          go_simp
          all_goals first | with_reducible rfl | (rw [if_neg (by omega)]; done) | (rw [if_neg (by omega)]; with_reducible rfl)
        try simp only [List.getElem_toArray, List.getElem_cons_zero, List.getElem_cons_succ, Act.put, List.setIfInBounds_toArray, List.set_cons_zero, List.set_cons_succ]
        refine wpAnyH_take (i := 8) (v := ?_) rfl (by kernel_rfl) (by kernel_rfl) (by kernel_rfl) (fun _ _ _ h => h) (Or.inl ⟨by rfl, ?_⟩) (by assumption) ?_
        rotate_left 1
        · intro w' hSw
          go_simp
          all_goals first | with_reducible rfl | (rw [if_neg (by omega)]; done) | (rw [if_neg (by omega)]; with_reducible rfl)
        try simp only [List.getElem_toArray, List.getElem_cons_zero, List.getElem_cons_succ, Act.put, List.setIfInBounds_toArray, List.set_cons_zero, List.set_cons_succ]
        refine wpAnyH_take (i := 9) (v := ?_) rfl (by kernel_rfl) (by kernel_rfl) (by kernel_rfl) (fun _ _ _ h => h) (Or.inl ⟨by rfl, ?_⟩) (by assumption) ?_
        rotate_left 1
        · intro w' hSw
          go_simp
          all_goals first | with_reducible rfl | (rw [if_neg (by omega)]; done) | (rw [if_neg (by omega)]; with_reducible rfl)
        try simp only [List.getElem_toArray, List.getElem_cons_zero, List.getElem_cons_succ, Act.put, List.setIfInBounds_toArray, List.set_cons_zero, List.set_cons_succ]
        refine wpAnyH_ready (rs := [10]) (by kernel_rfl) (by simp) ?_
        refine AllReadyH.cons rfl (fun K hK => ?_) AllReadyH.nil
        obtain ⟨⟨c0, c1, c9, c3, c4⟩, g0, g1, g2, g3, g4⟩ := blk5 H4.out.k0
        have HS := Lib.hid (H4.out.dsk (.int .i64 N) (.slice A n c) (.slice B1 m1 d1) (.int .i64 F1) (.bool dd1))
        have HQ2 := Lib.hid (hQ1.out _ _ _ _ HQ.out ((Turn.refl (fun k => w.heap.size ≤ k ∧ k ≤ w.heap.size + 3) _).pu5 (g := b0) (.inl H4.out.in0) (.int .i64 N) (.slice A n c) (.slice B1 m1 d1) (.int .i64 F1) (.bool dd1)))
        go_simp
        refine hK.out _ _ (blk6 HS.out.k1).1 (fun hHeld => ?_)
        clear hK K c0 c1 c9 c3 c4 g0 g1 g2 g3 g4
        try simp only [List.getElem_toArray, List.getElem_cons_zero, List.getElem_cons_succ, Act.put, List.setIfInBounds_toArray, List.set_cons_zero, List.set_cons_succ]
        refine wpAnyH_take (i := 11) (v := ?_) rfl (by kernel_rfl) (by kernel_rfl) (by kernel_rfl) (fun _ _ _ h => h) (Or.inl ⟨by rfl, ?_⟩) (by assumption) ?_
        rotate_left 1
        · intro w' hSw
          go_simp
          all_goals first | with_reducible rfl | (rw [if_neg (by omega)]; done) | (rw [if_neg (by omega)]; with_reducible rfl)
        try simp only [List.getElem_toArray, List.getElem_cons_zero, List.getElem_cons_succ, Act.put, List.setIfInBounds_toArray, List.set_cons_zero, List.set_cons_succ]
        refine wpAnyH_done (by kernel_rfl) ?_ _
        refine NoPanic.normal ?_
        go_wp2_with fail
        go_meet
        exact ⟨rfl, B1, d1, HQ2.out, HS.out⟩
    case rest =>
      obtain ⟨rfl, B1, d1, hq1, hh⟩ := hcut
      have H4 := Lib.hid hh
      have HQ := Lib.hid hq1
      clear q0 q1 q2 q3 q4 q5 k0 k1_ k2 k3 k4 k5 r0 r1 r2 r3 r4 j0 j1 j2 j3 j4 c0 c1 c2 c3 c4 g0 g1 g2 g3 g4 s0 s1 s2 s3 s4 s5 h0_ h1_ h2_ h3_ h4_ h5_
      clear hh hq1
      obtain ⟨⟨q0, q1, q2, q3, q4, q5⟩, k0, k1_, k2, k3, k4, k5⟩ := blk6 H4.out.k3
      obtain ⟨⟨r0, r1, r2, r3, r4⟩, j0, j1, j2, j3, j4⟩ := blk5 H4.out.k2
      obtain ⟨⟨c0, c1, c2, c3, c4⟩, g0, g1, g2, g3, g4⟩ := blk5 H4.out.k0
      obtain ⟨⟨s0, s1, s2, s3, s4, s5⟩, h0_, h1_, h2_, h3_, h4_, h5_⟩ := blk6 H4.out.k1
      have hz3 : b3 < wc.heap.size := H4.out.k3.lt
      have hz2 : b2 < wc.heap.size := H4.out.k2.lt
      have hz1 : b1 < wc.heap.size := H4.out.k1.lt
      have hz0 : b0 < wc.heap.size := H4.out.k0.lt
      by_cases h1 : f1 = 0
      · have HFc := Lib.hid (HFL.out h1 _ _ _ HQ.out H4.out.t H4.out.big)
        subst h1
        go_wp2_with fail
        refine HFc.out.mono ?_
        rintro e5 w5 ⟨A9, n9, c9, B9, d9, rfl, hq2, ht⟩
        have HQ2 := Lib.hid hq2
        have H5 := Lib.hid (H4.out.still ht)
        clear ht hq2
        clear q0 q1 q2 q3 q4 q5 k0 k1_ k2 k3 k4 k5 r0 r1 r2 r3 r4 j0 j1 j2 j3 j4 c0 c1 c2 c3 c4 g0 g1 g2 g3 g4 s0 s1 s2 s3 s4 s5 h0_ h1_ h2_ h3_ h4_ h5_
        obtain ⟨⟨q0, q1, q2, q3, q4, q5⟩, k0, k1_, k2, k3, k4, k5⟩ := blk6 H5.out.k3
        obtain ⟨⟨r0, r1, r2, r3, r4⟩, j0, j1, j2, j3, j4⟩ := blk5 H5.out.k2
        obtain ⟨⟨c0, c1, c2, c3, c4⟩, g0, g1, g2, g3, g4⟩ := blk5 H5.out.k0
        obtain ⟨⟨s0, s1, s2, s3, s4, s5⟩, h0_, h1_, h2_, h3_, h4_, h5_⟩ := blk6 H5.out.k1
        have hz3 : b3 < w5.heap.size := H5.out.k3.lt
        have hz2 : b2 < w5.heap.size := H5.out.k2.lt
        have hz1 : b1 < w5.heap.size := H5.out.k1.lt
        have hz0 : b0 < w5.heap.size := H5.out.k0.lt
        have H6 := Lib.hid (H5.out.dsk (.int .i64 N) (.slice A9 n9 c9) (.slice B9 m2 d9) (.int .i64 F2) (.bool dd2))
        have HQ3 := Lib.hid (hQ2.out _ _ _ _ _ _ _ HQ2.out ((Turn.refl (fun k => w.heap.size ≤ k ∧ k ≤ w.heap.size + 3) _).pu5 (g := b0) (.inl H5.out.in0) (.int .i64 N) (.slice A9 n9 c9) (.slice B9 m2 d9) (.int .i64 F2) (.bool dd2)))
        go_upto_region 15 with fail
        rw [pu5_eq]
        clear q0 q1 q2 q3 q4 q5 k0 k1_ k2 k3 k4 k5 r0 r1 r2 r3 r4 j0 j1 j2 j3 j4 c0 c1 c2 c3 c4 g0 g1 g2 g3 g4 s0 s1 s2 s3 s4 s5 h0_ h1_ h2_ h3_ h4_ h5_
        generalize pu5 w5 b0 (.int .i64 N) (.slice A9 n9 c9) (.slice B9 m2 d9) (.int .i64 F2) (.bool dd2) = w6 at *
        obtain ⟨⟨q0, q1, q2, q3, q4, q5⟩, k0, k1_, k2, k3, k4, k5⟩ := blk6 H6.out.k3
        obtain ⟨⟨r0, r1, r2, r3, r4⟩, j0, j1, j2, j3, j4⟩ := blk5 H6.out.k2
        obtain ⟨⟨c0, c1, c2, c3, c4⟩, g0, g1, g2, g3, g4⟩ := blk5 H6.out.k0
        obtain ⟨⟨s0, s1, s2, s3, s4, s5⟩, h0_, h1_, h2_, h3_, h4_, h5_⟩ := blk6 H6.out.k1
        clear hz0 hz1 hz2 hz3 HQ2 H5
        have hz3 : b3 < w6.heap.size := H6.out.k3.lt
        have hz2 : b2 < w6.heap.size := H6.out.k2.lt
        have hz1 : b1 < w6.heap.size := H6.out.k1.lt
        have hz0 : b0 < w6.heap.size := H6.out.k0.lt
        have m01 := H6.out.n01
        have m12 := H6.out.n12
        have m23 := H6.out.l23
        by_cases h2 : f2 = 0
        · subst h2
          go_wp2_with fail
          clear q0 q1 q2 q3 q4 q5 k0 k1_ k2 k3 k4 k5 r0 r1 r2 r3 r4 j0 j1 j2 j3 j4 c0 c1 c2 c3 c4 g0 g1 g2 g3 g4 s0 s1 s2 s3 s4 s5 h0_ h1_ h2_ h3_ h4_ h5_
          refine wp_region_noPanic ?_
          refine wp_region_held_drew (S := fun W => (W.cell? ⟨b0, 0, none⟩ = some (.int .i64 N) ∧ W.cell? ⟨b0, 1, none⟩ = some (.slice A9 n9 c9) ∧ W.cell? ⟨b0, 2, none⟩ = some (.slice B9 m2 d9) ∧ W.cell? ⟨b0, 3, none⟩ = some (.int .i64 F2) ∧ W.cell? ⟨b0, 4, none⟩ = some (.bool dd2)) ∧ W.cell? ⟨b1, 0, none⟩ = some (.int .i64 (xg + 1)) ∧ W.cell? ⟨b1, 1, none⟩ = some (.int .i64 sr) ∧ W.cell? ⟨b1, 2, none⟩ = some (.int .i64 st) ∧ W.cell? ⟨b1, 3, none⟩ = some (.int .i64 se) ∧ W.cell? ⟨b1, 4, none⟩ = some (.int .i64 sl) ∧ W.cell? ⟨b1, 5, none⟩ = some (.int .i64 sm)) (by kernel_rfl) ⟨(blk5 (H6.out.still ((Turn.refl _ _).drew)).k0).1, (blk6 (H6.out.still ((Turn.refl _ _).drew)).k1).1⟩ (fun hHeld => ?_)
          refine wpAnyH_namedU (fun X0 hX0 => ?_)
          clear hHeld
          have C0r : Hid (Blk X0 b0 46 [.int .i64 N, .slice A9 n9 c9, .slice B9 m2 d9, .int .i64 F2, .bool dd2]) := Lib.hid (by rw [hX0]; exact H6.out.k0)
          have C1r : Hid (Blk X0 b1 23 [.int .i64 (xg + 1), .int .i64 sr, .int .i64 st, .int .i64 se, .int .i64 sl, .int .i64 sm]) := Lib.hid (by rw [hX0]; exact H6.out.k1)
          have K4r : Hid (Blk X0 b2 46 [.int .i64 0, .slice none 0 0, .slice none 0 0, .int .i64 0, .bool false]) := Lib.hid (by rw [hX0]; exact H6.out.k2)
          have K5r : Hid (Blk X0 b3 23 [.int .i64 0, .int .i64 0, .int .i64 0, .int .i64 0, .int .i64 0, .int .i64 0]) := Lib.hid (by rw [hX0]; exact H6.out.k3)
          have TR : Hid (Turn (fun k => w.heap.size ≤ k ∧ k ≤ w.heap.size + 3) w6 X0) := Lib.hid (by rw [hX0]; exact (Turn.refl _ w6).drew)
          have hHeld : (X0.cell? ⟨b0, 0, none⟩ = some (.int .i64 N) ∧ X0.cell? ⟨b0, 1, none⟩ = some (.slice A9 n9 c9) ∧ X0.cell? ⟨b0, 2, none⟩ = some (.slice B9 m2 d9) ∧ X0.cell? ⟨b0, 3, none⟩ = some (.int .i64 F2) ∧ X0.cell? ⟨b0, 4, none⟩ = some (.bool dd2)) ∧ X0.cell? ⟨b1, 0, none⟩ = some (.int .i64 (xg + 1)) ∧ X0.cell? ⟨b1, 1, none⟩ = some (.int .i64 sr) ∧ X0.cell? ⟨b1, 2, none⟩ = some (.int .i64 st) ∧ X0.cell? ⟨b1, 3, none⟩ = some (.int .i64 se) ∧ X0.cell? ⟨b1, 4, none⟩ = some (.int .i64 sl) ∧ X0.cell? ⟨b1, 5, none⟩ = some (.int .i64 sm) := ⟨(blk5 C0r.out).1, (blk6 C1r.out).1⟩
          clear hX0
          refine wpAnyH_take (i := 0) (v := ?_) rfl (by kernel_rfl) (by kernel_rfl) (by kernel_rfl) (fun _ _ _ h => h) (Or.inl ⟨by rfl, ?_⟩) (by assumption) ?_
          rotate_left 1
          · intro w' hSw
            go_simp
            all_goals first | with_reducible rfl | (rw [if_neg (by omega)]; done) | (rw [if_neg (by omega)]; with_reducible rfl)
          try simp only [List.getElem_toArray, List.getElem_cons_zero, List.getElem_cons_succ, Act.put, List.setIfInBounds_toArray, List.set_cons_zero, List.set_cons_succ]
          refine wpAnyH_take (i := 1) (v := ?_) rfl (by kernel_rfl) (by kernel_rfl) (by kernel_rfl) (fun _ _ _ h => h) (Or.inl ⟨by rfl, ?_⟩) (by assumption) ?_
          rotate_left 1
          · intro w' hSw
            go_simp
            all_goals first | with_reducible rfl | (rw [if_neg (by omega)]; done) | (rw [if_neg (by omega)]; with_reducible rfl)
          try simp only [List.getElem_toArray, List.getElem_cons_zero, List.getElem_cons_succ, Act.put, List.setIfInBounds_toArray, List.set_cons_zero, List.set_cons_succ]
          refine wpAnyH_ready (rs := [2]) (by kernel_rfl) (by simp) ?_
          refine AllReadyH.cons rfl (fun K hK => ?_) AllReadyH.nil
          obtain ⟨⟨r0, r1, r2, r3, r4⟩, j0, j1, j2, j3, j4⟩ := blk5 K4r.out
          have HX5 := Lib.hid (C0r.out.far5 (g := b2) (by have := H6.out.n12; have := H6.out.n01; omega) (.int .i64 N) (.slice A9 n9 c9) (.slice B9 m2 d9) (.int .i64 F2) (.bool dd2))
          have HX6 := Lib.hid (C1r.out.far5 (g := b2) (by have := H6.out.n12; omega) (.int .i64 N) (.slice A9 n9 c9) (.slice B9 m2 d9) (.int .i64 F2) (.bool dd2))
          have HY4 := Lib.hid (K4r.out.pu5 (a' := .int .i64 N) (b' := .slice A9 n9 c9) (c' := .slice B9 m2 d9) (d' := .int .i64 F2) (e' := .bool dd2))
          have HY5 := Lib.hid (K5r.out.far5 (g := b2) (Ne.symm H6.out.n23) (.int .i64 N) (.slice A9 n9 c9) (.slice B9 m2 d9) (.int .i64 F2) (.bool dd2))
          have HTT := Lib.hid (TR.out.pu5 (g := b2) (.inl H6.out.in2) (.int .i64 N) (.slice A9 n9 c9) (.slice B9 m2 d9) (.int .i64 F2) (.bool dd2))
          go_simp
          refine hK.out _ _ ⟨(blk5 HX5.out).1, (blk6 HX6.out).1⟩ (fun hHeld => ?_)
          clear hK K r0 r1 r2 r3 r4 j0 j1 j2 j3 j4
          try simp only [List.getElem_toArray, List.getElem_cons_zero, List.getElem_cons_succ, Act.put, List.setIfInBounds_toArray, List.set_cons_zero, List.set_cons_succ]
          refine wpAnyH_namedU (fun XA eX => ?_)
          clear hHeld
          have HX5 : Hid (Blk XA b0 46 [.int .i64 N, .slice A9 n9 c9, .slice B9 m2 d9, .int .i64 F2, .bool dd2]) := Lib.hid (by rw [eX]; exact HX5.out)
          have HX6 : Hid (Blk XA b1 23 [.int .i64 (xg + 1), .int .i64 sr, .int .i64 st, .int .i64 se, .int .i64 sl, .int .i64 sm]) := Lib.hid (by rw [eX]; exact HX6.out)
          have HY4 : Hid (Blk XA b2 46 [.int .i64 N, .slice A9 n9 c9, .slice B9 m2 d9, .int .i64 F2, .bool dd2]) := Lib.hid (by rw [eX]; exact HY4.out)
          have HY5 : Hid (Blk XA b3 23 [.int .i64 0, .int .i64 0, .int .i64 0, .int .i64 0, .int .i64 0, .int .i64 0]) := Lib.hid (by rw [eX]; exact HY5.out)
          have HTT : Hid (Turn (fun k => w.heap.size ≤ k ∧ k ≤ w.heap.size + 3) w6 XA) := Lib.hid (by rw [eX]; exact HTT.out)
          have hHeld := And.intro (blk5 HX5.out).1 (blk6 HX6.out).1
          clear eX
          refine wpAnyH_ready (rs := [3]) (by kernel_rfl) (by simp) ?_
          refine AllReadyH.cons rfl (fun K hK => ?_) AllReadyH.nil
          obtain ⟨⟨q0, q1, q2, q3, q4, q5⟩, k0, k1_, k2, k3, k4, k5⟩ := blk6 HY5.out
          have HX7 := Lib.hid (HX5.out.far6 (g := b3) (by have := H6.out.n12; have := H6.out.n01; have := H6.out.l23; omega) (.int .i64 (xg + 1)) (.int .i64 sr) (.int .i64 st) (.int .i64 se) (.int .i64 sl) (.int .i64 sm))
          have HX8 := Lib.hid (HX6.out.far6 (g := b3) (by have := H6.out.n12; have := H6.out.l23; omega) (.int .i64 (xg + 1)) (.int .i64 sr) (.int .i64 st) (.int .i64 se) (.int .i64 sl) (.int .i64 sm))
          have HZ5 := Lib.hid (HY5.out.put6 (a' := .int .i64 (xg + 1)) (b' := .int .i64 (sr)) (c' := .int .i64 (st)) (d' := .int .i64 (se)) (e' := .int .i64 (sl)) (f' := .int .i64 (sm)))
          have HZ4 := Lib.hid (HY4.out.far6 (g := b3) H6.out.n23 (.int .i64 (xg + 1)) (.int .i64 sr) (.int .i64 st) (.int .i64 se) (.int .i64 sl) (.int .i64 sm))
          have HTU := Lib.hid (HTT.out.put6 (g := b3) (.inl H6.out.in3) (.int .i64 (xg + 1)) (.int .i64 sr) (.int .i64 st) (.int .i64 se) (.int .i64 sl) (.int .i64 sm))
          go_simp
          refine hK.out _ _ ⟨(blk5 HX7.out).1, (blk6 HX8.out).1⟩ (fun hHeld => ?_)
          clear hK K q0 q1 q2 q3 q4 q5 k0 k1_ k2 k3 k4 k5
          try simp only [List.getElem_toArray, List.getElem_cons_zero, List.getElem_cons_succ, Act.put, List.setIfInBounds_toArray, List.set_cons_zero, List.set_cons_succ]
          refine wpAnyH_namedU (fun XB eX => ?_)
          clear hHeld
          have HX7 : Hid (Blk XB b0 46 [.int .i64 N, .slice A9 n9 c9, .slice B9 m2 d9, .int .i64 F2, .bool dd2]) := Lib.hid (by rw [eX]; exact HX7.out)
          have HX8 : Hid (Blk XB b1 23 [.int .i64 (xg + 1), .int .i64 sr, .int .i64 st, .int .i64 se, .int .i64 sl, .int .i64 sm]) := Lib.hid (by rw [eX]; exact HX8.out)
          have HZ4 : Hid (Blk XB b2 46 [.int .i64 N, .slice A9 n9 c9, .slice B9 m2 d9, .int .i64 F2, .bool dd2]) := Lib.hid (by rw [eX]; exact HZ4.out)
          have HZ5 : Hid (Blk XB b3 23 [.int .i64 (xg + 1), .int .i64 sr, .int .i64 st, .int .i64 se, .int .i64 sl, .int .i64 sm]) := Lib.hid (by rw [eX]; exact HZ5.out)
          have HTU : Hid (Turn (fun k => w.heap.size ≤ k ∧ k ≤ w.heap.size + 3) w6 XB) := Lib.hid (by rw [eX]; exact HTU.out)
          have hHeld := And.intro (blk5 HX7.out).1 (blk6 HX8.out).1
          clear eX
          refine wpAnyH_take (i := 4) (v := ?_) rfl (by kernel_rfl) (by kernel_rfl) (by kernel_rfl) (fun _ _ _ h => h) (Or.inl ⟨by rfl, ?_⟩) (by assumption) ?_
          rotate_left 1
          · intro w' hSw
            go_simp
            all_goals first | with_reducible rfl | (rw [if_neg (by omega)]; done) | (rw [if_neg (by omega)]; with_reducible rfl)
          try simp only [List.getElem_toArray, List.getElem_cons_zero, List.getElem_cons_succ, Act.put, List.setIfInBounds_toArray, List.set_cons_zero, List.set_cons_succ]
          refine wpAnyH_done (by kernel_rfl) ?_ _
          refine NoPanic.normal ?_
          go_wp2_with fail
          obtain ⟨e0, e1, e2, e3, e4, e5⟩ := (blk6 HZ5.out).1
          obtain ⟨i0, i1, i2, i3, i4⟩ := (blk5 HZ4.out).1
          exact bodyPost_ret (v := .tuple #[.agg #[.int .i64 N, .slice A9 n9 c9, .slice B9 m2 d9, .int .i64 F2, .bool dd2], .agg #[.int .i64 (xg + 1), .int .i64 sr, .int .i64 st, .int .i64 se, .int .i64 sl, .int .i64 sm], .int .i64 0]) (by simp [results, Try.results27, go_sem, e0, e1, e2, e3, e4, e5, i0, i1, i2, i3, i4]) rfl ⟨H6.out.t.trans_new HTU.out (fun k hk e => by omega), .inr (.inr ⟨rfl, rfl, A9, n9, c9, B9, d9, rfl, hQ2.out _ _ _ _ _ _ _ HQ3.out HTU.out⟩)⟩
        · have h2' : (f2 != 0) = true := by rw [bne_iff_ne]; exact h2
          go_wp2_with fail
          rw [put6_eq, pu5_eq]
          have hf4 := ((H6.out.k2.pu5 (a' := .int .i64 N) (b' := .slice A9 n9 c9) (c' := .slice B9 m2 d9) (d' := .int .i64 F2) (e' := .bool dd2)).far6 (g := b3) H6.out.n23 (.int .i64 0) (.int .i64 0) (.int .i64 0) (.int .i64 0) (.int .i64 0) (.int .i64 0))
          have hf5 := ((H6.out.k3.far5 (g := b2) (Ne.symm H6.out.n23) (.int .i64 N) (.slice A9 n9 c9) (.slice B9 m2 d9) (.int .i64 F2) (.bool dd2)).put6 (a' := .int .i64 0) (b' := .int .i64 0) (c' := .int .i64 0) (d' := .int .i64 0) (e' := .int .i64 0) (f' := .int .i64 0))
          have hT := ((H6.out.t.pu5 (g := b2) (.inr H6.out.w2) (.int .i64 N) (.slice A9 n9 c9) (.slice B9 m2 d9) (.int .i64 F2) (.bool dd2)).put6 (g := b3) (.inr H6.out.w3) (.int .i64 0) (.int .i64 0) (.int .i64 0) (.int .i64 0) (.int .i64 0) (.int .i64 0))
          have hU := (((Turn.refl (fun k => w.heap.size ≤ k ∧ k ≤ w.heap.size + 3) w6).pu5 (g := b2) (.inl H6.out.in2) (.int .i64 N) (.slice A9 n9 c9) (.slice B9 m2 d9) (.int .i64 F2) (.bool dd2)).put6 (g := b3) (.inl H6.out.in3) (.int .i64 0) (.int .i64 0) (.int .i64 0) (.int .i64 0) (.int .i64 0) (.int .i64 0))
          have hq := hQ2.out _ _ _ _ _ _ _ HQ3.out hU
          generalize (put6 (pu5 w6 b2 (.int .i64 N) (.slice A9 n9 c9) (.slice B9 m2 d9) (.int .i64 F2) (.bool dd2)) b3 (.int .i64 0) (.int .i64 0) (.int .i64 0) (.int .i64 0) (.int .i64 0) (.int .i64 0)) = WF at *
          clear q0 q1 q2 q3 q4 q5 k0 k1_ k2 k3 k4 k5 r0 r1 r2 r3 r4 j0 j1 j2 j3 j4 c0 c1 c2 c3 c4 g0 g1 g2 g3 g4 s0 s1 s2 s3 s4 s5 h0_ h1_ h2_ h3_ h4_ h5_
          obtain ⟨e0, e1, e2, e3, e4, e5⟩ := (blk6 hf5).1
          obtain ⟨i0, i1, i2, i3, i4⟩ := (blk5 hf4).1
          exact bodyPost_ret (v := .tuple #[.agg #[.int .i64 N, .slice A9 n9 c9, .slice B9 m2 d9, .int .i64 F2, .bool dd2], .agg #[.int .i64 0, .int .i64 0, .int .i64 0, .int .i64 0, .int .i64 0, .int .i64 0], .int .i64 f2]) (by simp [results, Try.results27, go_sem, e0, e1, e2, e3, e4, e5, i0, i1, i2, i3, i4]) rfl ⟨hT, .inr (.inl ⟨rfl, h2, A9, n9, c9, B9, d9, rfl, hq⟩)⟩
      · have h1' : (f1 != 0) = true := by rw [bne_iff_ne]; exact h1
        go_wp2_with fail
        rw [put6_eq, pu5_eq]
        have hf4 := ((H4.out.k2.pu5 (a' := .int .i64 N) (b' := .slice A n c) (c' := .slice B1 m1 d1) (d' := .int .i64 F1) (e' := .bool dd1)).far6 (g := b3) H4.out.n23 (.int .i64 0) (.int .i64 0) (.int .i64 0) (.int .i64 0) (.int .i64 0) (.int .i64 0))
        have hf5 := ((H4.out.k3.far5 (g := b2) (Ne.symm H4.out.n23) (.int .i64 N) (.slice A n c) (.slice B1 m1 d1) (.int .i64 F1) (.bool dd1)).put6 (a' := .int .i64 0) (b' := .int .i64 0) (c' := .int .i64 0) (d' := .int .i64 0) (e' := .int .i64 0) (f' := .int .i64 0))
        have hT := ((H4.out.t.pu5 (g := b2) (.inr H4.out.w2) (.int .i64 N) (.slice A n c) (.slice B1 m1 d1) (.int .i64 F1) (.bool dd1)).put6 (g := b3) (.inr H4.out.w3) (.int .i64 0) (.int .i64 0) (.int .i64 0) (.int .i64 0) (.int .i64 0) (.int .i64 0))
        have hU := (((Turn.refl (fun k => w.heap.size ≤ k ∧ k ≤ w.heap.size + 3) wc).pu5 (g := b2) (.inl H4.out.in2) (.int .i64 N) (.slice A n c) (.slice B1 m1 d1) (.int .i64 F1) (.bool dd1)).put6 (g := b3) (.inl H4.out.in3) (.int .i64 0) (.int .i64 0) (.int .i64 0) (.int .i64 0) (.int .i64 0) (.int .i64 0))
        have hq := hQ1.out _ _ _ _ HQ.out hU
        generalize (put6 (pu5 wc b2 (.int .i64 N) (.slice A n c) (.slice B1 m1 d1) (.int .i64 F1) (.bool dd1)) b3 (.int .i64 0) (.int .i64 0) (.int .i64 0) (.int .i64 0) (.int .i64 0) (.int .i64 0)) = WF at *
        clear q0 q1 q2 q3 q4 q5 k0 k1_ k2 k3 k4 k5 r0 r1 r2 r3 r4 j0 j1 j2 j3 j4 c0 c1 c2 c3 c4 g0 g1 g2 g3 g4 s0 s1 s2 s3 s4 s5 h0_ h1_ h2_ h3_ h4_ h5_
        obtain ⟨e0, e1, e2, e3, e4, e5⟩ := (blk6 hf5).1
        obtain ⟨i0, i1, i2, i3, i4⟩ := (blk5 hf4).1
        exact bodyPost_ret (v := .tuple #[.agg #[.int .i64 N, .slice A n c, .slice B1 m1 d1, .int .i64 F1, .bool dd1], .agg #[.int .i64 0, .int .i64 0, .int .i64 0, .int .i64 0, .int .i64 0, .int .i64 0], .int .i64 f1]) (by simp [results, Try.results27, go_sem, e0, e1, e2, e3, e4, e5, i0, i1, i2, i3, i4]) rfl ⟨hT, .inl ⟨h1, B1, d1, rfl, hq⟩⟩

end Go.Proofs.Ytcjoinahelmmpaa
/- Layer 11: the document's Save, over the document's disk, as the plain step. -/
namespace Go.Proofs.Ytcjoinahelmmpaa
open Go.RowKit
set_option linter.unusedVariables false
set_option maxRecDepth 100000

theorem write_u7 (D : Dsk) (i : Int) (s : Sup) : D.write i (u7 s) = D.write i (putU s) := by
  unfold Dsk.write Dsk.wrote
  rw [full_u7, full_put, len_u7, len_putU]
  rfl
theorem write_Ok {D : Dsk} (ok : D.Ok) (i : Int) (l : List UInt8) : (D.write i l).1.Ok := by
  unfold Dsk.write
  split
  · exact ok
  split
  · exact ok
  split
  · exact ok
  split
  · exact ok.burnt
  · rename_i h1 h2 h3 h4
    exact ok.wrote (by omega) (by omega)
theorem write_kept (D : Dsk) (i : Int) (l : List UInt8) : (D.write i l).1.kept = D.kept := by
  unfold Dsk.write
  split
  · rfl
  split
  · rfl
  split
  · rfl
  split
  · exact (burnt_kept D).1
  · exact (burnt_kept D).1
theorem keepAll_len (D : Dsk) (l : List (Nat × List UInt8)) : (D.keepAll l).kept.length = D.kept.length := by
  unfold Dsk.keepAll
  induction l generalizing D with
  | nil => rfl
  | cons x l ih => rw [List.foldl_cons, ih]; simp [Dsk.keepW]
theorem flush_kept (D : Dsk) : D.flush.1.kept.length = D.kept.length := by
  unfold Dsk.flush
  split
  · rfl
  split
  · rw [(burnt_kept D).1]
  · unfold Dsk.flushed
    show (D.burnt.keepAll D.pend).kept.length = _
    rw [keepAll_len, (burnt_kept D).1]
section
variable {S U : Nat → Prop} {w w' : World} {D : Dsk} {ks : List (List UInt8)} {A B : Option Addr} {c d : Nat}
theorem Rg.turnU {T : Nat → Prop} (h : Rg U w D ks A c B d) (ht : Turn T w w') (hT : ∀ k, T k → U k) : Rg U w' D ks A c B d :=
  ⟨⟨ownsRow_turn h.m.kept ht (fun k hk e => h.k k hk (hT k e)), ownsRow_turn h.m.pend ht (fun k hk e => h.p k hk (hT k e)), h.m.full, h.m.most⟩, h.k, h.p⟩
theorem Rg.less (h : Rg U w D ks A c B d) (hs : ∀ k, S k → U k) : Rg S w D ks A c B d := ⟨h.m, fun b hb e => h.k b hb (hs b e), fun b hb e => h.p b hb (hs b e)⟩
theorem Rg.wide (h : Rg S w D ks A c B d) : Rg (fun k => S k ∨ (w.heap.size ≤ k ∧ k ≤ w.heap.size + 3)) w D ks A c B d :=
  ⟨h.m, fun b hb e => by
    rcases e with e | e
    · exact h.k b hb e
    · have := own_lt_ h.m.kept b hb; omega, fun b hb e => by
    rcases e with e | e
    · exact h.p b hb e
    · have := own_lt_ h.m.pend b hb; omega⟩
end
theorem refSave_rg {S : Nat → Prop} {w : World} {D : Dsk} {ks : List (List UInt8)} {A B : Option Addr} {c d : Nat} (hS : ∀ k, S k → k < w.heap.size) (h : Rg S w D ks A c B d) (ok : D.Ok) (hp : D.pend.length ≤ 900000) (s : Sup) :
    Calls Try.prog 27 #[rd D ks A c B d, uv s] w fun r w' => ∃ ks' A' c' B' d', r = .returned (.tuple #[rd (D.save s).1 ks' A' c' B' d', uv (D.save s).2.1, .int .i64 (D.save s).2.2]) ∧ Rg S w' (D.save s).1 ks' A' c' B' d' ∧ Turn (fun _ => False) w w' := by
  have HF : Hid (∀ W, Turn (fun _ => False) w W → Calls Try.prog 26 #[rd D ks A c B d] W fun r w' => r = .returned (.tuple #[uv D.find.s, .int .i64 D.find.at_, .int .i64 D.find.f]) ∧ Turn (fun _ => False) W w') := Lib.hid (fun W ht => refFind_rm (h.m.still ht) ok (by omega))
  have hok := find_ok D
  have hno : ∀ e : Int, D.save s = (D, zU, e) → ∀ r w', r = Ending.returned (.tuple #[rd D ks A c B d, .agg #[.int .i64 0, .int .i64 0, .int .i64 0, .int .i64 0, .int .i64 0, .int .i64 0], .int .i64 e]) ∧ Turn (fun _ => False) w w' → ∃ ks' A' c' B' d', r = .returned (.tuple #[rd (D.save s).1 ks' A' c' B' d', uv (D.save s).2.1, .int .i64 (D.save s).2.2]) ∧ Rg S w' (D.save s).1 ks' A' c' B' d' ∧ Turn (fun _ => False) w w' := by
    intro e he r w' ⟨h1, h2⟩
    rw [he]
    exact ⟨ks, A, c, B, d, h1, h.still h2, h2⟩
  by_cases h4 : D.find.f = 4 ∨ D.find.f = 0
  · by_cases h18 : D.find.f = 0 ∧ D.find.s.g = 1152921504606846976
    · have hsv : D.save s = (D, zU, 18) := by
        have hnx : nxt D.find = (0, 18) := by
          unfold nxt
          rw [if_neg (by rw [h18.1]; decide), if_pos h18.1, if_pos h18.2]
        unfold Dsk.save
        rw [hnx]
        rfl
      refine (refSave_18 A B ks.length c D.pend.length d (D.kept.length : Int) D.fuse D.dead s D.find.s D.find.at_ D.find.f h18.1 h18.2 w HF).mono ?_
      exact hno 18 hsv
    · obtain ⟨G, hG, hn⟩ : ∃ G, ((D.find.f = 4 ∧ G = 0) ∨ (D.find.f = 0 ∧ G = D.find.s.g + 1 ∧ 0 ≤ D.find.s.g ∧ D.find.s.g < 1152921504606846976)) ∧ nxt D.find = (G, 0) := by
        by_cases h4' : D.find.f = 4
        · exact ⟨0, .inl ⟨h4', rfl⟩, by unfold nxt; rw [if_pos h4']⟩
        · have h0 : D.find.f = 0 := h4.resolve_left h4'
          have := rU_yes (hok h0)
          have hne : ¬ D.find.s.g = 1152921504606846976 := fun e => h18 ⟨h0, e⟩
          exact ⟨_, .inr ⟨h0, rfl, this.1, by omega⟩, by unfold nxt; rw [if_neg h4', if_pos h0, if_neg hne]⟩
      have hsv : D.save s = if rU (s.gen G) = true then (if (D.wf (G % 2) (putU (s.gen G))).2 = 0 then ((D.wf (G % 2) (putU (s.gen G))).1, s.gen G, 0) else ((D.wf (G % 2) (putU (s.gen G))).1, zU, (D.wf (G % 2) (putU (s.gen G))).2)) else (D, zU, 2) := by
        unfold Dsk.save; rw [hn, if_pos rfl]
      cases hr : rU (s.gen G) with
      | false =>
        rw [if_neg (by rw [hr]; simp)] at hsv
        refine (refSave_b A B ks.length c D.pend.length d (D.kept.length : Int) D.fuse D.dead s D.find.s D.find.at_ D.find.f G hG w HF (Lib.hid (fun W => (refRightU (s.gen G) W).mono (by rintro _ _ ⟨rfl, rfl⟩; rw [hr]; exact ⟨rfl, (Turn.refl _ _).alloc _⟩)))).mono ?_
        exact hno 2 hsv
      | true =>
        rw [if_pos hr] at hsv
        obtain ⟨D1, hD1⟩ : ∃ X, (D.write (G % 2) (putU (s.gen G))).1 = X := ⟨_, rfl⟩
        obtain ⟨f1, hf1⟩ : ∃ X, (D.write (G % 2) (putU (s.gen G))).2 = X := ⟨_, rfl⟩
        have hk1 : D1.kept.length = D.kept.length := by rw [← hD1, write_kept]
        have ok1 : D1.Ok := hD1 ▸ write_Ok ok _ _
        have hp1 : D1.pend.length ≤ 1000000 := by have := write_pend D (G % 2) (putU (s.gen G)); rw [hD1] at this; omega
        have hk2 := flush_kept D1
        obtain ⟨U, hU⟩ : ∃ U : Nat → Prop, U = (fun k => S k ∨ (w.heap.size ≤ k ∧ k ≤ w.heap.size + 3)) := ⟨_, rfl⟩
        have hUS : ∀ k, S k → U k := fun k hk => by rw [hU]; exact .inl hk
        have hUw : ∀ k, (w.heap.size ≤ k ∧ k ≤ w.heap.size + 3) → U k := fun k hk => by rw [hU]; exact .inr hk
        have hUl : ∀ W : World, Turn (fun _ => False) w W → w.heap.size + 3 < W.heap.size → ∀ k, U k → k < W.heap.size := fun W ht hz k hk => by
          rw [hU] at hk
          rcases hk with hk | hk
          · have := hS k hk; have := ht.size; omega
          · omega
        have hw0 : Rg U w D ks A c B d := hU ▸ h.wide
        have hwf : D.wf (G % 2) (putU (s.gen G)) = if f1 = 0 then D1.flush else (D1, f1) := by
          unfold Dsk.wf
          rw [hf1, hD1]
          split
          · rfl
          · exact Prod.ext hD1 hf1
        refine (refSave_c A B ks.length c D.pend.length d (D.kept.length : Int) D.fuse D.dead s D.find.s D.find.at_ D.find.f G hG
          (fun W B1 d1 => Rg U W D1 ks A c B1 d1) (fun W A9 n9 c9 B9 d9 => ∃ ks', ks'.length = n9 ∧ Rg U W D1.flush.1 ks' A9 c9 B9 d9) D1.pend.length D1.flush.1.pend.length D1.fuse D1.flush.1.fuse D1.dead D1.flush.1.dead f1 D1.flush.2 ⟨(u7 (s.gen G)).toArray⟩ w HF
          (Lib.hid (fun W => (refRightU (s.gen G) W).mono (by rintro _ _ ⟨rfl, rfl⟩; rw [hr]; exact ⟨rfl, (Turn.refl _ _).alloc _⟩)))
          (Lib.hid (fun W W' B1 d1 hq ht => Rg.turnU hq ht hUw)) (Lib.hid (fun W W' A9 n9 c9 B9 d9 hq ht => by obtain ⟨ks', e, hq⟩ := hq; exact ⟨ks', e, Rg.turnU hq ht hUw⟩))
          (Lib.hid (fun W => (refPutU (s.gen G) hr W).mono (fun r w' ⟨h1, h2⟩ => ⟨_, h1, rfl, h2⟩)))
          (Lib.hid (fun W ht hz => (write_rg (hUl W ht hz) (hw0.still ht) ok (by omega) (G % 2) ⟨(u7 (s.gen G)).toArray⟩).mono (fun r w' ⟨B', d', h1, h2, h3⟩ => by
            rw [show (⟨(u7 (s.gen G)).toArray⟩ : ByteArray).data.toList = u7 (s.gen G) from rfl, write_u7, hD1] at h1 h2
            rw [hf1] at h1
            unfold rd at h1
            rw [hk1] at h1
            exact ⟨_, h1, B', d', rfl, h2, h3⟩)))
          (Lib.hid (fun _ W B1 d1 hq ht hz => by
            have := flush_rg (hUl W ht hz) hq ok1 hp1
            unfold rd at this
            rw [hk1] at this
            refine this.mono (fun r w' ⟨ks', A', c', B', d', h1, h2, h3⟩ => ?_)
            rw [hk2, hk1] at h1
            exact ⟨A', ks'.length, c', B', d', h1, ⟨ks', rfl, h2⟩, h3⟩))).mono ?_
        intro r w' hP
        unfold SvP at hP
        obtain ⟨hT, hP⟩ := hP
        rcases hP with ⟨hf, B1, d1, rfl, hq⟩ | ⟨hf, hf2, A9, n9, c9, B9, d9, rfl, ks', rfl, hq⟩ | ⟨hf, hf2, A9, n9, c9, B9, d9, rfl, ks', rfl, hq⟩
        · rw [if_neg hf] at hwf
          rw [hwf, if_neg hf] at hsv
          rw [hsv]
          refine ⟨ks, A, c, B1, d1, ?_, hq.less hUS, hT⟩
          unfold rd
          rw [hk1]
        · rw [if_pos hf] at hwf
          rw [hwf, if_neg hf2] at hsv
          rw [hsv]
          refine ⟨ks', A9, c9, B9, d9, ?_, hq.less hUS, hT⟩
          unfold rd
          rw [hk2, hk1]
        · rw [if_pos hf] at hwf
          rw [hwf, if_pos hf2] at hsv
          rw [hsv]
          refine ⟨ks', A9, c9, B9, d9, ?_, hq.less hUS, hT⟩
          unfold rd
          rw [hk2, hk1]
          rfl
  · have h0 : ¬ D.find.f = 0 := fun e => h4 (.inr e)
    have h4' : ¬ D.find.f = 4 := fun e => h4 (.inl e)
    have hsv : D.save s = (D, zU, D.find.f) := by
      unfold Dsk.save nxt
      rw [if_neg h4', if_neg h0, if_neg h0]
    refine (refSave_a A B ks.length c D.pend.length d (D.kept.length : Int) D.fuse D.dead s D.find.s D.find.at_ D.find.f h0 h4' w HF).mono ?_
    exact hno _ hsv
end Go.Proofs.Ytcjoinahelmmpaa
/- Layer 11: both disks side by side. -/
namespace Go.Proofs.Ytcjoinahelmmpaa
open Go.RowKit
set_option linter.unusedVariables false
set_option maxRecDepth 100000

theorem Try.infoIntN : (Try.prog.info? 3).map (fun i => (i.zero, i.size, i.bytes)) = some (some (.int .i64 0), 1, 8) := by kernel_rfl
theorem run_app_intsN {P : Program} (w : World) (t ty e : TypeId) (i : TypeInfo) (ht : P.underlying t = some (.slice e)) (hi : P.info? e = some i) (hz : i.zero = some (.int .i64 0)) (hsize : i.size = 1) (hby : i.bytes = 8)
    (g n c : Nat) (A : Option Addr) (zs : List Int) (hn : zs.length = n) (hx : Iv (fun _ => False) w (.slice A n c) zs) (hbytes : n ≤ 1000) :
    ∃ v' w', (Builtin.append_ #[t, t] ty #[.slice (some ⟨g, 0, none⟩) 0 0, .slice A n c]).run P w = .ok v' w' ∧ (∃ A' c', v' = .slice A' n c' ∧ ∀ S : Nat → Prop, (∀ k, S k → k < w.heap.size) → Iv S w' (.slice A' n c') zs) ∧ Turn (fun _ => False) w w' := by
  subst hn
  by_cases h0 : zs.length = 0
  · obtain rfl : zs = [] := List.eq_nil_of_length_eq_zero h0
    refine ⟨.slice (some ⟨g, 0, none⟩) 0 0, w, ?_, ⟨_, 0, rfl, fun S _ => ⟨_, _, rfl, fun h => absurd h (by simp)⟩⟩, Turn.refl _ _⟩
    cases A with
    | none => simp [Builtin.append_, run_underlying ht, sizeOf, typeInfo, hi, Builtin.lenOf, Builtin.firstCells, storeCells]
    | some ad =>
      have := run_append_room_cells (P := P) w t ty e i ht hi g 0 0 0 ad 0 c [] (by simp) (by simp) (by simp) (by simp) (by simp) (by simp)
      simpa [World.setCells] using this
  · obtain ⟨A', c', he, hr⟩ := hx
    obtain ⟨b, o, hA, hlt, _, hc⟩ := hr (by omega)
    injection he with he _ he3
    subst he he3 hA
    obtain ⟨v', w', hrun, h2, h3⟩ := run_append_arg_grows (P := P) w t ty e i (.int .i64 0) 1 8 ht hi hz hsize hby rfl (by decide) ⟨g, 0, none⟩ 0 0 [] (by simp) (by simp) ⟨b, o, none⟩ zs.length c (zs.map (Value.int .i64)) (by simp) (fun j u hu => by
      rw [List.getElem?_map] at hu
      cases hj : zs[j]? with
      | none => rw [hj] at hu; cases hu
      | some z =>
        rw [hj] at hu; cases hu
        rw [Addr.add_mid]; exact hc j z hj) (by omega) (by unfold maxLen; omega) (by omega)
    have ho : w'.ownsRow w.heap.size e 1 v' zs.length (zs.map (Value.int .i64)) := by simpa using h2
    have ht' : Turn (fun _ => False) w w' := Turn.of_below ((Below.refl w.heap.size w).grown h3 (Nat.le_refl _) (by intro k hk; cases hk)) (fun k h1 h2 => by omega)
    obtain ⟨_, ⟨_, h00⟩ | ⟨g', cap, cur, rfl, hB, hh, hn, hcap, hs, ht2⟩⟩ := ho
    · exact absurd h00 h0
    · refine ⟨_, w', hrun, ⟨_, cap, rfl, fun S hS => ⟨_, _, rfl, fun _ => ⟨g', 0, rfl, (Array.getElem?_eq_some_iff.1 hh).1, fun h => by have := hS _ h; omega, fun j z hj => ?_⟩⟩⟩, ht'⟩
      have hcell : (zs.map (Value.int .i64))[j]? = some (.int .i64 z) := by rw [List.getElem?_map, hj]; rfl
      rw [← ht2, List.getElem?_take] at hcell
      split at hcell
      · have : w'.cell? ⟨g', 0 + j, none⟩ = cur[j]? := by simp [World.cell?, hh]
        rw [this]; simpa using hcell
      · cases hcell
theorem Iv.lessN {S T : Nat → Prop} {w : World} {v : Value} {zs : List Int} (h : Iv S w v zs) (hs : ∀ k, T k → S k) : Iv T w v zs := by
  obtain ⟨A, c, e, hr⟩ := h
  exact ⟨A, c, e, fun hp => by obtain ⟨b, o, e1, e2, e3, e4⟩ := hr hp; exact ⟨b, o, e1, e2, fun h => e3 (hs _ h), e4⟩⟩
theorem wpList_app_intsN {P : Program} {w : World} {ops : Array Oper} {rest : List Oper} {o : Oper} {a : Go.Act} {Q : Exit → Go.Act → World → Prop} (hgd : o.guard = none) (s y : Operand) (t : TypeId)
    (ho : o.op = .call { callee := .builtin .append, args := #[s, y], argTypes := #[t, t] })
    (e : TypeId) (i : TypeInfo) (ht : P.underlying t = some (.slice e)) (hi : P.info? e = some i) (hz : i.zero = some (.int .i64 0)) (hsize : i.size = 1) (hby : i.bytes = 8)
    (g n c : Nat) (A : Option Addr) (zs : List Int) (hs : a.eval s = .slice (some ⟨g, 0, none⟩) 0 0) (hy : a.eval y = .slice A n c) (hn : zs.length = n) (hx : Iv (fun _ => False) w (.slice A n c) zs) (hbytes : n ≤ 1000)
    (h : ∀ v' w', (∃ A' c', v' = .slice A' n c' ∧ ∀ S : Nat → Prop, (∀ k, S k → k < w.heap.size) → Iv S w' (.slice A' n c') zs) → Turn (fun _ => False) w w' → wpList P ops Q rest (a.put o.dst v') w') : wpList P ops Q (o :: rest) a w :=
  wpList_plain hgd fun K hK => by
    obtain ⟨v', w', hr, h2, h3⟩ := run_app_intsN (P := P) w t o.type e i ht hi hz hsize hby g n c A zs hn hx hbytes
    unfold Oper.wp execOp
    simp only [ho, resolve, invoke, builtin, Sem.run_bind, Sem.run_pure, Result.andThen_ok, List.map_toArray, List.map_cons, List.map_nil, hs, hy, hr]
    exact hK _ _ (h v' w' h2 h3)
/-- The document's disk's cells. -/
def rdc (D : Dsk) (ks : List (List UInt8)) (A : Option Addr) (c : Nat) (B : Option Addr) (d : Nat) : List Value := [.int .i64 (D.kept.length : Int), .slice A ks.length c, .slice B D.pend.length d, .int .i64 D.fuse, .bool D.dead]
/-- Both disks: the program's, and the document's, which lies in a box. -/
structure Rd11 (w : World) (p b7 : Nat) (S : Nat → Prop) (W : World) (D DM : Dsk) (ks : List (List UInt8)) (A : Option Addr) (c : Nat) (B : Option Addr) (d : Nat) : Prop where
  lv : Lv11 w p S W D
  rg : Rg (fun k => S k ∨ k = b7) W DM ks A c B d
  bx : Blk W b7 46 (rdc DM ks A c B d)
  nb : ¬ S b7
  wb : w.heap.size ≤ b7
section
variable {w : World} {p b7 : Nat} {S S' : Nat → Prop} {W W' : World} {D D' DM DM' : Dsk} {ks ks' : List (List UInt8)} {A A' B B' : Option Addr} {c c' d d' : Nat}
theorem Stp.plus (h : Stp S W S' W') (b : Nat) : Stp (fun k => S k ∨ k = b) W (fun k => S' k ∨ k = b) W' :=
  ⟨h.1.mono (fun _ _ h => .inl h), fun k hk => by
    rcases hk with hk | hk
    · rcases h.2 k hk with h1 | h1
      · exact .inl (.inl h1)
      · exact .inr h1
    · exact .inl (.inr hk)⟩
theorem Rd11.still (h : Rd11 w p b7 S W D DM ks A c B d) (ht : Turn (fun _ => False) W W') : Rd11 w p b7 S W' D DM ks A c B d := ⟨h.lv.still ht, h.rg.still ht, h.bx.turn ht (fun h => h), h.nb, h.wb⟩
theorem Rd11.step (h : Rd11 w p b7 S W D DM ks A c B d) (hq : Dq S' W' p D') (hs : Stp S W S' W') : Rd11 w p b7 S' W' D' DM ks A c B d :=
  ⟨h.lv.step hq hs, h.rg.stp (hs.plus b7), h.bx.turn hs.1 h.nb, fun e => by
    rcases hs.2 b7 e with h1 | h1
    · exact h.nb h1
    · have := h.bx.lt; omega, h.wb⟩
theorem Rd11.lt (h : Rd11 w p b7 S W D DM ks A c B d) : ∀ k, (S k ∨ k = b7) → k < W.heap.size := fun k hk => by
  rcases hk with hk | hk
  · exact h.lv.dq.lt k hk
  · have := h.bx.lt; omega
theorem Rd11.store (h : Rd11 w p b7 S W D DM ks A c B d) (hr : Rg (fun k => S k ∨ k = b7) W DM' ks' A' c' B' d') :
    Rd11 w p b7 S (pu5 W b7 (.int .i64 (DM'.kept.length : Int)) (.slice A' ks'.length c') (.slice B' DM'.pend.length d') (.int .i64 DM'.fuse) (.bool DM'.dead)) D DM' ks' A' c' B' d' := by
  have ht := (Turn.refl (fun k => k = b7) W).pu5 (g := b7) (.inl rfl) (.int .i64 (DM'.kept.length : Int)) (.slice A' ks'.length c') (.slice B' DM'.pend.length d') (.int .i64 DM'.fuse) (.bool DM'.dead)
  exact ⟨⟨h.lv.dq.turn ht (fun k hk e => h.nb (e ▸ hk)), h.lv.t.pu5 (.inr h.wb) _ _ _ _ _, h.lv.s⟩, hr.turnU ht (fun k e => .inr e), h.bx.pu5, h.nb, h.wb⟩
end
/-- A box apart from the disk. -/
def Bz (S : Nat → Prop) (W : World) (b t : Nat) (cs : List Value) : Prop := Blk W b t cs ∧ ¬ S b
theorem Bz.still {S : Nat → Prop} {W W' : World} {b t : Nat} {cs : List Value} (h : Bz S W b t cs) (ht : Turn (fun _ => False) W W') : Bz S W' b t cs := ⟨h.1.turn ht (fun h => h), h.2⟩
theorem Bz.step {S S' : Nat → Prop} {W W' : World} {b t : Nat} {cs : List Value} (h : Bz S W b t cs) (hs : Stp S W S' W') : Bz S' W' b t cs :=
  ⟨h.1.turn hs.1 h.2, fun hk => by
    rcases hs.2 b hk with h1 | h1
    · exact h.2 h1
    · have := h.1.lt; omega⟩
theorem Bz.new {w : World} {p : Nat} {S : Nat → Prop} {W : World} {D : Dsk} (h : Lv11 w p S W D) (t : Nat) (cs : List Value) : Bz S (W.alloc (.cells cs.toArray t)) W.heap.size t cs :=
  ⟨Blk.new _ _ _, fun hk => by have := h.dq.lt _ hk; omega⟩
theorem Bz.pu5 {S : Nat → Prop} {W : World} {b t g : Nat} {cs : List Value} (h : Bz S W b t cs) (hn : b ≠ g) (a1 a2 a3 a4 a5 : Value) : Bz S (Go.Proofs.Ytcjoinahelmmpaa.pu5 W g a1 a2 a3 a4 a5) b t cs := ⟨h.1.far5 hn a1 a2 a3 a4 a5, h.2⟩
theorem save_pend (D : Dsk) (s : Sup) : (D.save s).1.pend.length ≤ D.pend.length + 1 := by
  have hw : ∀ i l, (D.wf i l).1.pend.length ≤ D.pend.length + 1 := fun i l => by
    have h1 := write_pend D i l
    unfold Dsk.wf
    split
    · unfold Dsk.flush
      split
      · exact h1
      split
      · simp [(burnt_kept _).2]; exact h1
      · simp [Dsk.flushed, Dsk.lost]
    · exact h1
  unfold Dsk.save
  split
  · split
    · split <;> exact hw _ _
    · simp
  · simp
theorem arm_pend (D : Dsk) (n : Int) : (D.arm n).1.pend.length = D.pend.length := by unfold Dsk.arm; split <;> rfl
end Go.Proofs.Ytcjoinahelmmpaa
