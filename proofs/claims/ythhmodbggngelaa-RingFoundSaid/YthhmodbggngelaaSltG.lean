/- Layer 5: Read. -/
import Derived.Test.YthhmodbggngelaaSltF
namespace Go.Proofs.Ythhmodbggngelaa
open Go.RowKit
set_option linter.unusedVariables false
set_option maxRecDepth 100000

theorem ba_ne {S T : ByteArray} (h : S ≠ T) : (S.toList == T.toList) = false := by
  have : S.toList ≠ T.toList := fun e => h (by
    have h1 : S.data.toList = T.data.toList := by rw [ByteArray.toList_eq, ByteArray.toList_eq] at e; exact e
    exact ByteArray.ext (Array.ext' h1))
  simpa using this
theorem equal5 (v1 v2 : Value) (l1 l2 : List UInt8) (w : World) (B1 B2 : Nat) (h1 : Sl w B1 v1 l1) (h2 : Sl w B2 v2 l2) :
    Calls Try.prog 66 #[v1, v2] w fun e w' => e = .returned (.bool (decide (l1 = l2))) ∧ w = w' := by
  have c1 := sl_conv h1
  have c2 := sl_conv h2
  obtain ⟨A1, k1, rfl, _⟩ := h1
  obtain ⟨A2, k2, rfl, _⟩ := h2
  generalize l1.length = n1 at *
  generalize l2.length = n2 at *
  by_cases he : l1 = l2
  · subst he
    rw [decide_eq_true (p := l1 = l1) rfl]
    obtain ⟨S, hS⟩ : ∃ S : ByteArray, ⟨l1.toArray⟩ = S := ⟨_, rfl⟩
    rw [hS] at c1 c2
    have hs := str_same S
    clear hS
    go_enter Try.func66, Try.ntmps66
    go_wp2
    go_ret
    exact ⟨rfl, rfl⟩
  · rw [decide_eq_false he]
    have hne : (⟨l1.toArray⟩ : ByteArray) ≠ ⟨l2.toArray⟩ := fun e => he (by injection e with e; simpa using e)
    obtain ⟨S, hS⟩ : ∃ S : ByteArray, ⟨l1.toArray⟩ = S := ⟨_, rfl⟩
    obtain ⟨T, hT⟩ : ∃ S : ByteArray, ⟨l2.toArray⟩ = S := ⟨_, rfl⟩
    rw [hS] at c1 hne
    rw [hT] at c2 hne
    have hs := ba_ne hne
    clear hS hT hne he
    go_enter Try.func66, Try.ntmps66
    go_wp2
    go_ret
    exact ⟨rfl, rfl⟩
@[go_sem] def zst : Value := .agg #[.int .i64 0, .int .i64 0, .bool false, .bool false, .string ⟨#[]⟩]
theorem read5_no (A : Option Addr) (n cap : Nat) (w : World) (hf : ∀ W, Below w.heap.size w W → w.heap.size ≤ W.heap.size → Calls Try.prog 65 #[.slice A n cap] W fun e w' => e = .returned (.tuple #[.agg #[.int .i64 0, .int .i64 0, .bool false, .bool false, .string ⟨#[]⟩], .bool false]) ∧ Below W.heap.size W w') :
    Calls Try.prog 54 #[.slice A n cap] w fun e w' => e = .returned (.tuple #[.agg #[.int .i64 0, .int .i64 0, .bool false, .bool false, .string ⟨#[]⟩], .int .i64 4]) ∧ Below w.heap.size w w' := by
  have HF := Lib.hid hf
  clear hf
  go_enter Try.func54, Try.ntmps54
  go_wp2_with fail
  refine (HF.out _ ((Below.refl w.heap.size w).alloc (Nat.le_refl _) _) (by simp)).mono ?_
  rintro e w1 ⟨rfl, hb⟩
  have hk := (Blk.new w 81 [.int .i64 0, .int .i64 0, .bool false, .bool false, .string ⟨#[]⟩]).below hb (by simp)
  have HK := Lib.hid hk
  have HB := Lib.hid (((Below.refl w.heap.size w).alloc (Nat.le_refl _) _).trans (hb.mono (by simp)))
  have q0 := hk.cell 0
  have q1 := hk.cell 1
  have q2 := hk.cell 2
  have q3 := hk.cell 3
  have q4 := hk.cell 4
  have k0 := hk.free 0
  have k1 := hk.free 1
  have k2 := hk.free 2
  have k3 := hk.free 3
  have k4 := hk.free 4
  have hlt := hk.lt
  simp only [List.getElem?_cons_zero, List.getElem?_cons_succ] at q0 q1 q2 q3 q4
  clear hb hk
  go_wp2
  have hf := (((((HK.out.put 0 (.int .i64 0)).put 1 (.int .i64 0)).put 2 (.bool false)).put 3 (.bool false)).put 4 (.string ⟨#[]⟩))
  simp only [List.set_cons_zero, List.set_cons_succ] at hf
  have hb := (((((HB.out.setCell (p := ⟨w.heap.size, 0, none⟩) (Nat.le_refl _) (.int .i64 0)).setCell (p := ⟨w.heap.size, 1, none⟩) (Nat.le_refl _) (.int .i64 0)).setCell (p := ⟨w.heap.size, 2, none⟩) (Nat.le_refl _) (.bool false)).setCell (p := ⟨w.heap.size, 3, none⟩) (Nat.le_refl _) (.bool false)).setCell (p := ⟨w.heap.size, 4, none⟩) (Nat.le_refl _) (.string ⟨#[]⟩))
  have hf2 := hf.alloc (.cells #[.int .i64 0, .int .i64 0, .bool false, .bool false, .string ⟨#[]⟩] 81)
  have hb2 := hb.alloc (by simpa [World.setCell] using HB.out.size) (.cells #[.int .i64 0, .int .i64 0, .bool false, .bool false, .string ⟨#[]⟩] 81)
  have e0 := hf2.cell 0
  have e1 := hf2.cell 1
  have e2 := hf2.cell 2
  have e3 := hf2.cell 3
  have e4 := hf2.cell 4
  simp only [List.getElem?_cons_zero, List.getElem?_cons_succ] at e0 e1 e2 e3 e4
  clear q0 q1 q2 q3 q4 k0 k1 k2 k3 k4 hf hb hf2
  generalize (((((w1.setCell ⟨w.heap.size, 0, none⟩ (.int .i64 0)).setCell ⟨w.heap.size, 1, none⟩ (.int .i64 0)).setCell ⟨w.heap.size, 2, none⟩ (.bool false)).setCell ⟨w.heap.size, 3, none⟩ (.bool false)).setCell ⟨w.heap.size, 4, none⟩ (.string ⟨#[]⟩)).alloc (.cells #[.int .i64 0, .int .i64 0, .bool false, .bool false, .string ⟨#[]⟩] 81) = WF at *
  exact bodyPost_ret (v := .tuple #[.agg #[.int .i64 0, .int .i64 0, .bool false, .bool false, .string ⟨#[]⟩], .int .i64 4]) (by simp [results, Try.results54, go_sem, e0, e1, e2, e3, e4]) rfl ⟨rfl, hb2⟩
set_option maxHeartbeats 4000000 in
/-- The parse is right or not, its own bytes are these or not. -/
theorem read5_yes (v : Value) (l : List UInt8) (w : World) (hv : Sl w w.heap.size v l) (hl : l.length = 128) (hn : num 2 l 14 ≤ 108) :
    Calls Try.prog 54 #[v] w fun e w' => e = .returned (if r5 (parse5 l) = true ∧ put5 (parse5 l) = l then .tuple #[stv (parse5 l), .int .i64 0] else .tuple #[.agg #[.int .i64 0, .int .i64 0, .bool false, .bool false, .string ⟨#[]⟩], .int .i64 4]) ∧ Below w.heap.size w w' := by
  have HV := Lib.hid hv
  have HF : Hid (∀ W, Below w.heap.size w W → w.heap.size ≤ W.heap.size → Calls Try.prog 65 #[v] W fun e w' => e = .returned (.tuple #[stv (parse5 l), .bool true]) ∧ Below W.heap.size W w') := Lib.hid (fun W hb hz => by
    have := fields5_any v l W ((hv.below hb (Nat.le_refl _)).more hz) hl
    rw [if_pos hn] at this
    exact this)
  have HBB := Lib.hid (bytes5_bad (parse5 l))
  have HBO := Lib.hid (bytes5_ok (parse5 l))
  have HPL := Lib.hid (fun h : r5 (parse5 l) = true => len_put5 (r5_yes h).2.2.2.2)
  generalize parse5 l = s at *
  generalize put5 s = ps at *
  generalize hRR : (if r5 s = true ∧ ps = l then Value.tuple #[stv s, .int .i64 0] else Value.tuple #[.agg #[.int .i64 0, .int .i64 0, .bool false, .bool false, .string ⟨#[]⟩], .int .i64 4]) = R
  have RR := Lib.hid hRR.symm
  have HL := Lib.hid hl
  clear hRR hv hl hn
  by_cases hr : r5 s = true
  · have HB : Hid (∀ W, Calls Try.prog 42 #[stv s] W fun e w' => ∃ v, e = .returned (.tuple #[v, .int .i64 0]) ∧ w'.ownsRow W.heap.size 5 1 v 128 (bv ps) ∧ Below W.heap.size W w') := Lib.hid (fun W => HBO.out hr W)
    have RA : Hid (R = if ps = l then Value.tuple #[stv s, .int .i64 0] else Value.tuple #[.agg #[.int .i64 0, .int .i64 0, .bool false, .bool false, .string ⟨#[]⟩], .int .i64 4]) := Lib.hid (by rw [RR.out]; simp only [hr, true_and])
    have HPL' := Lib.hid (HPL.out hr)
    clear HBB HBO HPL hr RR
    obtain ⟨e, q, f, z, d⟩ := s
    unfold stv at *
    simp only at HF HB RA
    go_enter Try.func54, Try.ntmps54
    go_wp2_with fail
    refine (HF.out _ ((Below.refl w.heap.size w).alloc (Nat.le_refl _) _) (by simp)).mono ?_
    rintro e1 w1 ⟨rfl, hb⟩
    have HK := Lib.hid ((Blk.new w 81 [.int .i64 0, .int .i64 0, .bool false, .bool false, .string ⟨#[]⟩]).below hb (by simp))
    have C1 := Lib.hid (((Below.refl w.heap.size w).alloc (Nat.le_refl _) _).trans (hb.mono (by simp)))
    clear hb
    go_wp2_with fail
    refine (HB.out _).mono ?_
    rintro e2 w2 ⟨v2, rfl, ho, hb⟩
    have O2 : Hid (Sl w2 w2.heap.size v2 ps) := Lib.hid (by have := HPL'.out; rw [← this] at ho; exact Sl.of_own ho)
    have G2 := Lib.hid ((Blk.new w1 81 [.int .i64 e, .int .i64 q, .bool f, .bool z, .string d]).below hb (by simp))
    have K2 := Lib.hid ((HK.out.alloc _).below hb (by have := HK.out.lt; simp; omega))
    have C2 := Lib.hid ((C1.out.alloc C1.out.size _).trans (hb.mono (by have := C1.out.size; simp; omega)))
    have V2 := Lib.hid ((HV.out.below C2.out (Nat.le_refl _)).more C2.out.size)
    have gw : w.heap.size < w1.heap.size := HK.out.lt
    clear ho hb
    have q0 := K2.out.cell 0
    have q1 := K2.out.cell 1
    have q2 := K2.out.cell 2
    have q3 := K2.out.cell 3
    have q4 := K2.out.cell 4
    have k0 := K2.out.free 0
    have k1 := K2.out.free 1
    have k2 := K2.out.free 2
    have k3 := K2.out.free 3
    have k4 := K2.out.free 4
    have c0 := G2.out.cell 0
    have c1 := G2.out.cell 1
    have c2 := G2.out.cell 2
    have c3 := G2.out.cell 3
    have c4 := G2.out.cell 4
    simp only [List.getElem?_cons_zero, List.getElem?_cons_succ] at q0 q1 q2 q3 q4 c0 c1 c2 c3 c4
    obtain ⟨g6, hg6⟩ : ∃ g, w1.heap.size = g := ⟨_, rfl⟩
    rw [hg6] at c0 c1 c2 c3 c4 gw ⊢
    clear hg6
    by_cases he : ps = l
    · have HE : Hid (decide (ps = l) = true) := Lib.hid (decide_eq_true he)
      have RB := Lib.hid (RA.out.trans (if_pos he))
      have HEQ : Hid (Calls Try.prog 66 #[v2, v] w2 fun e w' => e = .returned (.bool true) ∧ w2 = w') := Lib.hid (by have := equal5 v2 v ps l w2 _ _ O2.out V2.out; rw [HE.out] at this; exact this)
      clear he
      go_wp2_with fail
      refine HEQ.out.mono ?_
      rintro e3 w3 ⟨rfl, rfl⟩
      go_wp2_with fail
      have hf := (((((K2.out.put 0 (.int .i64 e)).put 1 (.int .i64 q)).put 2 (.bool f)).put 3 (.bool z)).put 4 (.string d))
      simp only [List.set_cons_zero, List.set_cons_succ] at hf
      have hb := (((((C2.out.setCell (p := ⟨w.heap.size, 0, none⟩) (Nat.le_refl _) (.int .i64 e)).setCell (p := ⟨w.heap.size, 1, none⟩) (Nat.le_refl _) (.int .i64 q)).setCell (p := ⟨w.heap.size, 2, none⟩) (Nat.le_refl _) (.bool f)).setCell (p := ⟨w.heap.size, 3, none⟩) (Nat.le_refl _) (.bool z)).setCell (p := ⟨w.heap.size, 4, none⟩) (Nat.le_refl _) (.string d))
      have e0 := hf.cell 0
      have e1 := hf.cell 1
      have e2 := hf.cell 2
      have e3 := hf.cell 3
      have e4 := hf.cell 4
      simp only [List.getElem?_cons_zero, List.getElem?_cons_succ] at e0 e1 e2 e3 e4
      clear q0 q1 q2 q3 q4 k0 k1 k2 k3 k4 hf
      generalize (((((w2.setCell ⟨w.heap.size, 0, none⟩ (.int .i64 e)).setCell ⟨w.heap.size, 1, none⟩ (.int .i64 q)).setCell ⟨w.heap.size, 2, none⟩ (.bool f)).setCell ⟨w.heap.size, 3, none⟩ (.bool z)).setCell ⟨w.heap.size, 4, none⟩ (.string d)) = WF at *
      exact bodyPost_ret (v := .tuple #[.agg #[.int .i64 e, .int .i64 q, .bool f, .bool z, .string d], .int .i64 0]) (by simp [results, Try.results54, go_sem, e0, e1, e2, e3, e4]) rfl ⟨by rw [RB.out], hb⟩
    · have HE : Hid (decide (ps = l) = false) := Lib.hid (decide_eq_false he)
      have RB := Lib.hid (RA.out.trans (if_neg he))
      have HEQ : Hid (Calls Try.prog 66 #[v2, v] w2 fun e w' => e = .returned (.bool false) ∧ w2 = w') := Lib.hid (by have := equal5 v2 v ps l w2 _ _ O2.out V2.out; rw [HE.out] at this; exact this)
      clear he
      go_wp2_with fail
      refine HEQ.out.mono ?_
      rintro e3 w3 ⟨rfl, rfl⟩
      go_wp2_with fail
      have hf := (((((K2.out.put 0 (.int .i64 0)).put 1 (.int .i64 0)).put 2 (.bool false)).put 3 (.bool false)).put 4 (.string ⟨#[]⟩))
      simp only [List.set_cons_zero, List.set_cons_succ] at hf
      have hb := (((((C2.out.setCell (p := ⟨w.heap.size, 0, none⟩) (Nat.le_refl _) (.int .i64 0)).setCell (p := ⟨w.heap.size, 1, none⟩) (Nat.le_refl _) (.int .i64 0)).setCell (p := ⟨w.heap.size, 2, none⟩) (Nat.le_refl _) (.bool false)).setCell (p := ⟨w.heap.size, 3, none⟩) (Nat.le_refl _) (.bool false)).setCell (p := ⟨w.heap.size, 4, none⟩) (Nat.le_refl _) (.string ⟨#[]⟩))
      have e0 := hf.cell 0
      have e1 := hf.cell 1
      have e2 := hf.cell 2
      have e3 := hf.cell 3
      have e4 := hf.cell 4
      simp only [List.getElem?_cons_zero, List.getElem?_cons_succ] at e0 e1 e2 e3 e4
      clear q0 q1 q2 q3 q4 k0 k1 k2 k3 k4 hf
      generalize (((((w2.setCell ⟨w.heap.size, 0, none⟩ (.int .i64 0)).setCell ⟨w.heap.size, 1, none⟩ (.int .i64 0)).setCell ⟨w.heap.size, 2, none⟩ (.bool false)).setCell ⟨w.heap.size, 3, none⟩ (.bool false)).setCell ⟨w.heap.size, 4, none⟩ (.string ⟨#[]⟩)) = WF at *
      exact bodyPost_ret (v := .tuple #[.agg #[.int .i64 0, .int .i64 0, .bool false, .bool false, .string ⟨#[]⟩], .int .i64 4]) (by simp [results, Try.results54, go_sem, e0, e1, e2, e3, e4]) rfl ⟨by rw [RB.out], hb⟩
  · have hr2 : r5 s = false := by simpa using hr
    have HB : Hid (∀ W, Calls Try.prog 42 #[stv s] W fun e w' => e = .returned (.tuple #[.slice none 0 0, .int .i64 2]) ∧ Below W.heap.size W w') := Lib.hid (fun W => HBB.out hr2 W)
    have RA : Hid (R = Value.tuple #[.agg #[.int .i64 0, .int .i64 0, .bool false, .bool false, .string ⟨#[]⟩], .int .i64 4]) := Lib.hid (by rw [RR.out]; exact if_neg (fun h => hr h.1))
    clear HBB HBO HPL hr hr2 RR
    obtain ⟨e, q, f, z, d⟩ := s
    unfold stv at *
    simp only at HF HB RA
    go_enter Try.func54, Try.ntmps54
    go_wp2_with fail
    refine (HF.out _ ((Below.refl w.heap.size w).alloc (Nat.le_refl _) _) (by simp)).mono ?_
    rintro e1 w1 ⟨rfl, hb⟩
    have HK := Lib.hid ((Blk.new w 81 [.int .i64 0, .int .i64 0, .bool false, .bool false, .string ⟨#[]⟩]).below hb (by simp))
    have C1 := Lib.hid (((Below.refl w.heap.size w).alloc (Nat.le_refl _) _).trans (hb.mono (by simp)))
    clear hb
    go_wp2_with fail
    refine (HB.out _).mono ?_
    rintro e2 w2 ⟨rfl, hb⟩
    have K2 := Lib.hid ((HK.out.alloc _).below hb (by have := HK.out.lt; simp; omega))
    have C2 := Lib.hid ((C1.out.alloc C1.out.size _).trans (hb.mono (by have := C1.out.size; simp; omega)))
    clear hb
    have q0 := K2.out.cell 0
    have q1 := K2.out.cell 1
    have q2 := K2.out.cell 2
    have q3 := K2.out.cell 3
    have q4 := K2.out.cell 4
    have k0 := K2.out.free 0
    have k1 := K2.out.free 1
    have k2 := K2.out.free 2
    have k3 := K2.out.free 3
    have k4 := K2.out.free 4
    simp only [List.getElem?_cons_zero, List.getElem?_cons_succ] at q0 q1 q2 q3 q4
    go_wp2_with fail
    have hf := (((((K2.out.put 0 (.int .i64 0)).put 1 (.int .i64 0)).put 2 (.bool false)).put 3 (.bool false)).put 4 (.string ⟨#[]⟩))
    simp only [List.set_cons_zero, List.set_cons_succ] at hf
    have hb := (((((C2.out.setCell (p := ⟨w.heap.size, 0, none⟩) (Nat.le_refl _) (.int .i64 0)).setCell (p := ⟨w.heap.size, 1, none⟩) (Nat.le_refl _) (.int .i64 0)).setCell (p := ⟨w.heap.size, 2, none⟩) (Nat.le_refl _) (.bool false)).setCell (p := ⟨w.heap.size, 3, none⟩) (Nat.le_refl _) (.bool false)).setCell (p := ⟨w.heap.size, 4, none⟩) (Nat.le_refl _) (.string ⟨#[]⟩))
    have e0 := hf.cell 0
    have e1 := hf.cell 1
    have e2 := hf.cell 2
    have e3 := hf.cell 3
    have e4 := hf.cell 4
    simp only [List.getElem?_cons_zero, List.getElem?_cons_succ] at e0 e1 e2 e3 e4
    clear q0 q1 q2 q3 q4 k0 k1 k2 k3 k4 hf
    generalize (((((w2.setCell ⟨w.heap.size, 0, none⟩ (.int .i64 0)).setCell ⟨w.heap.size, 1, none⟩ (.int .i64 0)).setCell ⟨w.heap.size, 2, none⟩ (.bool false)).setCell ⟨w.heap.size, 3, none⟩ (.bool false)).setCell ⟨w.heap.size, 4, none⟩ (.string ⟨#[]⟩)) = WF at *
    exact bodyPost_ret (v := .tuple #[.agg #[.int .i64 0, .int .i64 0, .bool false, .bool false, .string ⟨#[]⟩], .int .i64 4]) (by simp [results, Try.results54, go_sem, e0, e1, e2, e3, e4]) rfl ⟨by rw [RA.out], hb⟩
end Go.Proofs.Ythhmodbggngelaa
