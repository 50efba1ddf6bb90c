/- Layer 11: the document's Bytes and Read. -/
import Derived.Test.YtcjoinahelmmpaaSuC
namespace Go.Proofs.Ytcjoinahelmmpaa
open Go.RowKit
set_option linter.unusedVariables false
set_option linter.unusedSimpArgs false
set_option maxRecDepth 100000

theorem full_u7 (s : Sup) : full (u7 s) = putU s := by
  unfold full putU
  rw [len_u7]
/-- What Read answers. -/
def rdU (o : Option Sup) : Value := match o with
  | some s => .tuple #[uv s, .int .i64 0]
  | none => .tuple #[.agg #[.int .i64 0, .int .i64 0, .int .i64 0, .int .i64 0, .int .i64 0, .int .i64 0], .int .i64 4]
theorem refBytesU_bad (s : Sup) (h : rU s = false) (w : World) :
    Calls Try.prog 11 #[uv s] w fun e w' => e = .returned (.tuple #[.string ⟨#[]⟩, .int .i64 2]) ∧ Turn (fun _ => False) w w' := by
  have HC : Hid (∀ W, Calls Try.prog 34 #[uv s] W fun e w' => e = .returned (.bool false) ∧ w' = W.alloc (ubox s)) := Lib.hid (fun W => by have := refRightU s W; rw [h] at this; exact this)
  obtain ⟨g, r, t, e, l, m⟩ := s
  unfold uv ubox at *
  simp only at HC ⊢
  clear h
  go_enter Try.func11, Try.ntmps11
  go_wp2_with fail
  refine (HC.out _).mono ?_
  rintro e w' ⟨rfl, rfl⟩
  go_wp2_with fail
  go_ret2
  exact ⟨rfl, ((Turn.refl _ _).alloc _).alloc _⟩
theorem refBytesU_ok (s : Sup) (h : rU s = true) (P : ByteArray) (hP : P = ⟨(putU s).toArray⟩) (w : World) :
    Calls Try.prog 11 #[uv s] w fun e w' => e = .returned (.tuple #[.string P, .int .i64 0]) ∧ Turn (fun _ => False) w w' := by
  have HC : Hid (∀ W, Calls Try.prog 34 #[uv s] W fun e w' => e = .returned (.bool true) ∧ w' = W.alloc (ubox s)) := Lib.hid (fun W => by have := refRightU s W; rw [h] at this; exact this)
  obtain ⟨Q, hQ⟩ : ∃ Q : ByteArray, Q = ⟨(u7 s).toArray⟩ := ⟨_, rfl⟩
  have HP : Hid (∀ W, Calls Try.prog 36 #[uv s] W fun e w' => e = .returned (.string Q) ∧ Turn (fun _ => False) W w') := Lib.hid (fun W => by have := refPutU s h W; rw [← hQ] at this; exact this)
  have HF : Hid (∀ W, Calls Try.prog 35 #[.string Q] W fun e w' => e = .returned (.string P) ∧ Turn (fun _ => False) W w') := Lib.hid (fun W => by
    have := full_r Q (by rw [hQ]; exact Nat.le_trans (Nat.le_of_eq (List.size_toArray.trans (len_u7 s))) (by decide)) W
    rw [hQ] at this
    simp only [sv] at this
    rw [full_u7] at this
    rw [hQ, hP]; exact this)
  obtain ⟨g, r, t, e, l, m⟩ := s
  unfold uv ubox at *
  simp only at HC HP ⊢
  clear h hP hQ
  go_enter Try.func11, Try.ntmps11
  go_wp2_with fail
  refine (HC.out _).mono ?_
  rintro e w' ⟨rfl, rfl⟩
  go_wp2_with fail
  refine (HP.out _).mono ?_
  rintro e w1 ⟨rfl, h1⟩
  have T1 := Lib.hid h1
  clear h1
  go_wp2_with fail
  refine (HF.out _).mono ?_
  rintro e w2 ⟨rfl, h2⟩
  have T2 := Lib.hid h2
  clear h2
  go_wp2_with fail
  go_ret2
  exact ⟨rfl, ((((Turn.refl _ _).alloc _).alloc _).trans T1.out).trans T2.out⟩
theorem refReadU_short (S : ByteArray) (h : S.size ≠ 128) (w : World) :
    Calls Try.prog 16 #[.string S] w fun e w' => e = .returned (rdU none) ∧ Turn (fun _ => False) w w' := by
  have hq : ((S.size : Int) == 128) = false := by simp; omega
  have hq2 : ((S.size : Int) != 128) = true := by simp; omega
  clear h
  go_enter Try.func16, Try.ntmps16
  go_wp2
  exact bodyPost_ret (v := .tuple #[.agg #[.int .i64 0, .int .i64 0, .int .i64 0, .int .i64 0, .int .i64 0, .int .i64 0], .int .i64 4]) (by simp [results, Try.results16, go_sem]) rfl ⟨rfl, by
    repeat (first | exact (Turn.refl _ _) | refine Turn.setCell ?_ (by simp) _ | refine Turn.alloc ?_ _)⟩
theorem num_refU (S : ByteArray) (l : List UInt8) (hS : S = ⟨l.toArray⟩) (hl : l.length = 128) :
    (∀ W, Calls Try.prog 42 #[.string S, .int .i64 4, .int .i64 8] W fun e w' => e = .returned (.int .i64 (wrap64 (num 8 l 4 : Nat))) ∧ W = w') ∧
    (∀ W, Calls Try.prog 42 #[.string S, .int .i64 12, .int .i64 4] W fun e w' => e = .returned (.int .i64 (num 4 l 12 : Nat)) ∧ W = w') ∧
    (∀ W, Calls Try.prog 42 #[.string S, .int .i64 16, .int .i64 8] W fun e w' => e = .returned (.int .i64 (wrap64 (num 8 l 16 : Nat))) ∧ W = w') ∧
    (∀ W, Calls Try.prog 42 #[.string S, .int .i64 24, .int .i64 4] W fun e w' => e = .returned (.int .i64 (num 4 l 24 : Nat)) ∧ W = w') ∧
    (∀ W, Calls Try.prog 42 #[.string S, .int .i64 28, .int .i64 8] W fun e w' => e = .returned (.int .i64 (wrap64 (num 8 l 28 : Nat))) ∧ W = w') ∧
    (∀ W, Calls Try.prog 42 #[.string S, .int .i64 36, .int .i64 8] W fun e w' => e = .returned (.int .i64 (wrap64 (num 8 l 36 : Nat))) ∧ W = w') := by
  have b1 : num 4 l 12 < 4294967296 := by have := num_lt 4 l 12; simpa using this
  have b2 : num 4 l 24 < 4294967296 := by have := num_lt 4 l 24; simpa using this
  have w1 : wrap64 (num 4 l 12 : Nat) = (num 4 l 12 : Nat) := IntWalk.wrap64_in _ ⟨by omega, by omega⟩
  have w2 : wrap64 (num 4 l 24 : Nat) = (num 4 l 24 : Nat) := IntWalk.wrap64_in _ ⟨by omega, by omega⟩
  refine ⟨fun W => ?_, fun W => ?_, fun W => ?_, fun W => ?_, fun W => ?_, fun W => ?_⟩
  · exact refNumber_any S l hS 4 8 (by decide) (by omega) (by omega) W
  · have := refNumber_any S l hS 12 4 (by decide) (by omega) (by omega) W
    rw [w1] at this
    exact this
  · exact refNumber_any S l hS 16 8 (by decide) (by omega) (by omega) W
  · have := refNumber_any S l hS 24 4 (by decide) (by omega) (by omega) W
    rw [w2] at this
    exact this
  · exact refNumber_any S l hS 28 8 (by decide) (by omega) (by omega) W
  · exact refNumber_any S l hS 36 8 (by decide) (by omega) (by omega) W
theorem ba_neU {S T : ByteArray} (h : S ≠ T) : (S.toList == T.toList) = false := by
  have : S.toList ≠ T.toList := fun e => h (by
    have h1 : S.data.toList = T.data.toList := by rw [ByteArray.toList_eq, ByteArray.toList_eq] at e; exact e
    exact ByteArray.ext (Array.ext' h1))
  simpa using this
set_option maxHeartbeats 4000000 in
theorem refReadU_128 (S : ByteArray) (l : List UInt8) (hS : S = ⟨l.toArray⟩) (hl : l.length = 128) (w : World) :
    Calls Try.prog 16 #[.string S] w fun e w' => e = .returned (rdU (readU l)) ∧ Turn (fun _ => False) w w' := by
  have HN := num_refU S l hS hl
  have N1 := Lib.hid HN.1
  have N2 := Lib.hid HN.2.1
  have N3 := Lib.hid HN.2.2.1
  have N4 := Lib.hid HN.2.2.2.1
  have N5 := Lib.hid HN.2.2.2.2.1
  have N6 := Lib.hid HN.2.2.2.2.2
  have hsz : S.size = 128 := by rw [hS]; simpa [ByteArray.size] using hl
  have hq : ((S.size : Int) != 128) = false := by simp; omega
  have HSS := Lib.hid hS
  have HR : Hid (readU l = if rU (parseU l) = true ∧ putU (parseU l) = l then some (parseU l) else none) := Lib.hid (by
    unfold readU
    by_cases hx : rU (parseU l) = true ∧ putU (parseU l) = l
    · rw [if_pos ⟨hl, hx.1, hx.2⟩, if_pos hx]
    · rw [if_neg (fun h => hx h.2), if_neg hx])
  obtain ⟨s, hs⟩ : ∃ s, parseU l = s := ⟨_, rfl⟩
  rw [hs] at HR
  have HRI := Lib.hid (refRightU s)
  have HPU := Lib.hid (refPutU s)
  have b1 : 0 ≤ num 4 l 12 ∧ num 4 l 12 < 4294967296 := ⟨Nat.zero_le _, by have := num_lt 4 l 12; simpa using this⟩
  obtain ⟨g, r, t, e, lm, m⟩ := s
  have hs' := hs
  unfold parseU at hs'
  injection hs' with x1 x2 x3 x4 x5 x6
  rw [x1] at N1
  rw [x3] at N3
  rw [x4] at N4
  rw [x5] at N5
  rw [x6] at N6
  clear HN hS hsz hs x1 x3 x4 x5 x6
  obtain ⟨k, hk⟩ : ∃ k : Int, k = (num 4 l 12 : Int) := ⟨_, rfl⟩
  rw [← hk] at N2 x2
  have hk1 : 0 ≤ k := by omega
  have hk2 : k < 4294967296 := by omega
  clear b1 hk
  obtain rfl := x2
  unfold uv ubox at *
  simp only at HRI HPU
  have W1 : Hid (∀ W, Calls Try.prog 34 #[.agg #[.int .i64 g, .int .i64 (k - 1), .int .i64 t, .int .i64 e, .int .i64 lm, .int .i64 m]] W fun e_1 w' => e_1 = .returned (.bool (rU ⟨g, k - 1, t, e, lm, m⟩)) ∧ Turn (fun _ => False) W w') := Lib.hid (fun W => (HRI.out W).mono (by rintro _ _ ⟨rfl, rfl⟩; exact ⟨rfl, (Turn.refl _ _).alloc _⟩))
  clear HRI
  go_enter Try.func16, Try.ntmps16
  go_wp2_with (first
    | (go_at_call 42; (with_reducible refine (N1.out _).mono ?_); rintro e w' ⟨rfl, rfl⟩)
    | (go_at_call 42; (with_reducible refine (N2.out _).mono ?_); rintro e w' ⟨rfl, rfl⟩)
    | (go_at_call 42; (with_reducible refine (N3.out _).mono ?_); rintro e w' ⟨rfl, rfl⟩)
    | (go_at_call 42; (with_reducible refine (N4.out _).mono ?_); rintro e w' ⟨rfl, rfl⟩)
    | (go_at_call 42; (with_reducible refine (N5.out _).mono ?_); rintro e w' ⟨rfl, rfl⟩)
    | (go_at_call 42; (with_reducible refine (N6.out _).mono ?_); rintro e w' ⟨rfl, rfl⟩))
  have B0 := Lib.hid ((Blk.new w 23 [.int .i64 0, .int .i64 0, .int .i64 0, .int .i64 0, .int .i64 0, .int .i64 0]).alloc (.cells #[.int .i64 g, .int .i64 (k - 1), .int .i64 t, .int .i64 e, .int .i64 lm, .int .i64 m] 23))
  have B1 := Lib.hid (Blk.new_ (w.alloc (.cells #[.int .i64 0, .int .i64 0, .int .i64 0, .int .i64 0, .int .i64 0, .int .i64 0] 23)) 23 [.int .i64 g, .int .i64 (k - 1), .int .i64 t, .int .i64 e, .int .i64 lm, .int .i64 m] (k := w.heap.size + 1) (by simp))
  have T0 := Lib.hid (((Turn.refl (fun _ => False) w).alloc (.cells #[.int .i64 0, .int .i64 0, .int .i64 0, .int .i64 0, .int .i64 0, .int .i64 0] 23)).alloc (.cells #[.int .i64 g, .int .i64 (k - 1), .int .i64 t, .int .i64 e, .int .i64 lm, .int .i64 m] 23))
  refine (W1.out _).mono ?_
  rintro e1 w1 ⟨rfl, ht⟩
  have C0 := Lib.hid (B0.out.turn ht (fun h => h))
  have C1 := Lib.hid (B1.out.turn ht (fun h => h))
  have T1 := Lib.hid (T0.out.trans ht)
  clear ht B0 B1 T0
  obtain ⟨rr, hrr⟩ : ∃ rr, rU ⟨g, k - 1, t, e, lm, m⟩ = rr := ⟨_, rfl⟩
  rw [hrr] at HR ⊢
  have HRR := Lib.hid hrr
  clear hrr
  obtain ⟨⟨q0, q1, q2, q3, q4, q5⟩, k0, k1_, k2, k3, k4, k5⟩ := blk6 C0.out
  cases rr with
  | false =>
    have HR2 : Hid (readU l = none) := Lib.hid (by rw [HR.out, if_neg (fun h => by cases h.1)])
    clear HR
    go_wp2_with fail
    rw [put6_eq]
    have hf := C0.out.put6 (a' := .int .i64 0) (b' := .int .i64 0) (c' := .int .i64 0) (d' := .int .i64 0) (e' := .int .i64 0) (f' := .int .i64 0)
    have hT := T1.out.put6 (g := w.heap.size) (.inr (Nat.le_refl _)) (.int .i64 0) (.int .i64 0) (.int .i64 0) (.int .i64 0) (.int .i64 0) (.int .i64 0)
    generalize put6 w1 w.heap.size (.int .i64 0) (.int .i64 0) (.int .i64 0) (.int .i64 0) (.int .i64 0) (.int .i64 0) = WF at *
    clear q0 q1 q2 q3 q4 q5 k0 k1_ k2 k3 k4 k5
    obtain ⟨e0, e1, e2, e3, e4, e5⟩ := (blk6 hf).1
    exact bodyPost_ret (v := .tuple #[.agg #[.int .i64 0, .int .i64 0, .int .i64 0, .int .i64 0, .int .i64 0, .int .i64 0], .int .i64 4]) (by simp [results, Try.results16, go_sem, e0, e1, e2, e3, e4, e5]) rfl ⟨by rw [HR2.out]; rfl, hT⟩
  | true =>
    obtain ⟨Q, hQ⟩ : ∃ Q : ByteArray, Q = ⟨(u7 ⟨g, k - 1, t, e, lm, m⟩).toArray⟩ := ⟨_, rfl⟩
    obtain ⟨P, hP⟩ : ∃ P : ByteArray, P = ⟨(putU ⟨g, k - 1, t, e, lm, m⟩).toArray⟩ := ⟨_, rfl⟩
    have HP1 : Hid (∀ W, Calls Try.prog 36 #[.agg #[.int .i64 g, .int .i64 (k - 1), .int .i64 t, .int .i64 e, .int .i64 lm, .int .i64 m]] W fun e w' => e = .returned (.string Q) ∧ Turn (fun _ => False) W w') := Lib.hid (fun W => by have := HPU.out HRR.out W; rw [← hQ] at this; exact this)
    have HF : Hid (∀ W, Calls Try.prog 35 #[.string Q] W fun e w' => e = .returned (.string P) ∧ Turn (fun _ => False) W w') := Lib.hid (fun W => by
      have := full_r Q (by rw [hQ]; exact Nat.le_trans (Nat.le_of_eq (List.size_toArray.trans (len_u7 _))) (by decide)) W
      rw [hQ] at this
      simp only [sv] at this
      rw [full_u7] at this
      rw [hQ, hP]; exact this)
    have HPP := Lib.hid hP
    clear HPU hQ hP HRR
    obtain ⟨p0, p1, p2, p3, p4, p5⟩ := (blk6 C1.out).1
    go_wp2_with fail
    refine (HP1.out _).mono ?_
    rintro e1 w2 ⟨rfl, ht⟩
    have D0 := Lib.hid (C0.out.turn ht (fun h => h))
    have D1 := Lib.hid (C1.out.turn ht (fun h => h))
    have T2 := Lib.hid (T1.out.trans ht)
    clear ht C0 C1 T1 q0 q1 q2 q3 q4 q5 k0 k1_ k2 k3 k4 k5 p0 p1 p2 p3 p4 p5
    go_wp2_with fail
    refine (HF.out _).mono ?_
    rintro e1 w3 ⟨rfl, ht⟩
    have E0 := Lib.hid (D0.out.turn ht (fun h => h))
    have E1 := Lib.hid (D1.out.turn ht (fun h => h))
    have T3 := Lib.hid (T2.out.trans ht)
    clear ht D0 D1 T2
    obtain ⟨⟨q0, q1, q2, q3, q4, q5⟩, k0, k1_, k2, k3, k4, k5⟩ := blk6 E0.out
    obtain ⟨p0, p1, p2, p3, p4, p5⟩ := (blk6 E1.out).1
    by_cases he : putU ⟨g, k - 1, t, e, lm, m⟩ = l
    · have HR2 : Hid (readU l = some ⟨g, k - 1, t, e, lm, m⟩) := Lib.hid (by rw [HR.out, if_pos (by first | exact ⟨rfl, he⟩ | exact ⟨trivial, he⟩)])
      obtain rfl : P = S := by rw [HPP.out, HSS.out, he]
      have hs2 : (P.toList != P.toList) = false := by simp
      have hs3 : (P.toList == P.toList) = true := by simp
      clear HR he HPP HSS
      go_wp2_with fail
      rw [put6_eq]
      have hf := E0.out.put6 (a' := .int .i64 g) (b' := .int .i64 (k - 1)) (c' := .int .i64 t) (d' := .int .i64 e) (e' := .int .i64 lm) (f' := .int .i64 m)
      have hT := T3.out.put6 (g := w.heap.size) (.inr (Nat.le_refl _)) (.int .i64 g) (.int .i64 (k - 1)) (.int .i64 t) (.int .i64 e) (.int .i64 lm) (.int .i64 m)
      generalize put6 w3 w.heap.size (.int .i64 g) (.int .i64 (k - 1)) (.int .i64 t) (.int .i64 e) (.int .i64 lm) (.int .i64 m) = WF at *
      clear q0 q1 q2 q3 q4 q5 k0 k1_ k2 k3 k4 k5 p0 p1 p2 p3 p4 p5
      obtain ⟨e0, e1, e2, e3, e4, e5⟩ := (blk6 hf).1
      exact bodyPost_ret (v := .tuple #[.agg #[.int .i64 g, .int .i64 (k - 1), .int .i64 t, .int .i64 e, .int .i64 lm, .int .i64 m], .int .i64 0]) (by simp [results, Try.results16, go_sem, e0, e1, e2, e3, e4, e5]) rfl ⟨by rw [HR2.out]; rfl, hT⟩
    · have HR2 : Hid (readU l = none) := Lib.hid (by rw [HR.out, if_neg (fun h => he h.2)])
      have hne : P ≠ S := fun e => he (by rw [HPP.out, HSS.out] at e; injection e with e; simpa using e)
      have hs3 := ba_neU hne
      have hs2 : (P.toList != S.toList) = true := by simp [bne, hs3]
      clear HR he HPP HSS hne
      go_wp2_with fail
      rw [put6_eq]
      have hf := E0.out.put6 (a' := .int .i64 0) (b' := .int .i64 0) (c' := .int .i64 0) (d' := .int .i64 0) (e' := .int .i64 0) (f' := .int .i64 0)
      have hT := T3.out.put6 (g := w.heap.size) (.inr (Nat.le_refl _)) (.int .i64 0) (.int .i64 0) (.int .i64 0) (.int .i64 0) (.int .i64 0) (.int .i64 0)
      generalize put6 w3 w.heap.size (.int .i64 0) (.int .i64 0) (.int .i64 0) (.int .i64 0) (.int .i64 0) (.int .i64 0) = WF at *
      clear q0 q1 q2 q3 q4 q5 k0 k1_ k2 k3 k4 k5 p0 p1 p2 p3 p4 p5
      obtain ⟨e0, e1, e2, e3, e4, e5⟩ := (blk6 hf).1
      exact bodyPost_ret (v := .tuple #[.agg #[.int .i64 0, .int .i64 0, .int .i64 0, .int .i64 0, .int .i64 0, .int .i64 0], .int .i64 4]) (by simp [results, Try.results16, go_sem, e0, e1, e2, e3, e4, e5]) rfl ⟨by rw [HR2.out]; rfl, hT⟩
theorem refReadU_any (S : ByteArray) (l : List UInt8) (hS : S = ⟨l.toArray⟩) (w : World) :
    Calls Try.prog 16 #[.string S] w fun e w' => e = .returned (rdU (readU l)) ∧ Turn (fun _ => False) w w' := by
  have hsz : S.size = l.length := by rw [hS]; simp [ByteArray.size]
  by_cases hl : l.length = 128
  · exact refReadU_128 S l hS hl w
  · rw [show readU l = none from by unfold readU; rw [if_neg (fun h => hl h.1)]]
    exact refReadU_short S (by omega) w
end Go.Proofs.Ytcjoinahelmmpaa
