/- Layer 8: the document's bytes of a node. -/
import Derived.Test.YtcmghbglnkfbaaaPgL
namespace Go.Proofs.Ytcmghbglnkfbaaa
open Go.RowKit
set_option linter.unusedVariables false
set_option maxRecDepth 100000

theorem cat8 (a b c : ByteArray) (h : a.size + b.size ≤ 4611686018427387904) (hc : c = a ++ b) : Op.stringOp .add a b = pure (.string c) := by
  subst hc
  unfold Op.stringOp
  simp only
  rw [if_neg (by show ¬ (IntKind.i64.max < _); have : IntKind.i64.max = 9223372036854775807 := by decide
                 rw [this]; omega)]
theorem ba_cat (a b : List UInt8) : (⟨(a ++ b).toArray⟩ : ByteArray) = ⟨a.toArray⟩ ++ ⟨b.toArray⟩ := by apply ByteArray.ext; simp
theorem ba_sz (a : List UInt8) : (⟨a.toArray⟩ : ByteArray).size = a.length := by simp [ByteArray.size]
theorem field8 (n : Int) (k : Nat) (hk : k ≤ 8) (P : ByteArray) (hP : P = ⟨(fld k n).toArray⟩) (x : Int) (hx : x = k) (w : World) :
    Calls Try.prog 34 #[.int .i64 n, .int .i64 x] w fun e w' => ∃ v, e = .returned v ∧ (v = .string P ∧ Turn (fun _ => False) w w') := by
  subst hP hx
  exact (refField_any n k hk w).mono fun e w' h => ⟨_, h.1, rfl, Turn.of_below h.2 (fun k h1 h2 => by omega)⟩
theorem made_same8 (k m : Nat) (v : Value) (hk : 0 < k) : madeCells (List.replicate k v).toArray m = (List.replicate m v).toArray := by
  unfold madeCells
  apply Array.ext
  · simp
  · intro i h3 h4
    have : i % k < k := Nat.mod_lt _ hk
    simp [this]
theorem make_nz (n : Nat) (h1 : n ≤ 1000000) (w : World) : (Instr.makeSlice 22 (.int .i64 n) (.int .i64 n)).run Try.prog w = .ok (.slice (some ⟨w.heap.size, 0, none⟩) n n) (w.alloc (.cells (bv (List.replicate n 0)).toArray 5)) := by
  obtain ⟨i, hi, hz, hs, hb⟩ := info_parts Try.info5
  have := run_makeSlice (P := Try.prog) (w := w) 22 5 i _ Try.underlying22 hi hz .i64 .i64 n n (Int.natCast_nonneg _) (Int.le_refl _) (by rw [hs]; simp; omega) (by rw [hb]; omega) (by omega)
  rw [this, hs, Int.toNat_natCast, Nat.mul_one, show (Value.int .u8 0).cells = (List.replicate 1 (Value.int .u8 0)).toArray from rfl, made_same8 1 _ _ (by decide)]
  simp [bv]
  rfl
theorem nz_str (n : Nat) (Z : ByteArray) (hZ : Z = ⟨(List.replicate n (0 : UInt8)).toArray⟩) (w : World) (g : Nat) (h : Blk w g 5 (bv (List.replicate n 0))) : (convert 22 9 (.slice (some ⟨g, 0, none⟩) n n)).run Try.prog w = .ok (.string Z) w := by
  subst hZ
  have h1 := run_str w 22 9 5 (some ⟨g, 0, none⟩) n (List.replicate n (0 : UInt8)) Try.underlying22 Try.underlying5 Try.underlying9 (fun _ => ⟨_, rfl, fun j c hj => by
    have h2 := h.cell j
    rw [bv_at, hj] at h2
    rw [Addr.add_mid, Nat.zero_add]; exact h2⟩)
  rw [List.length_replicate] at h1
  exact h1
set_option maxHeartbeats 8000000 in
theorem refPutL_any (n : Nd) (A1 : Option Addr) (c1 : Nat) (A2 : Option Addr) (c2 : Nat) (A3 : Option Addr) (c3 : Nat) (w : World) (h : No w A1 c1 A2 c2 A3 c3 n) (hf : Few8 n) (hck : check8 n = 0) (hlf : n.leaf = true) :
    Calls Try.prog 19 #[nv8 A1 c1 A2 c2 A3 c3 n] w fun e w' => e = .returned (.string ⟨(pgb n).toArray⟩) ∧ Turn (fun _ => False) w w' := by
  obtain ⟨hst, hsz⟩ := check8_ok hck
  have HST := Lib.hid hst
  have HSZ := Lib.hid hsz
  have HN := Lib.hid h
  have f1 := hf.nk
  have HLR : Hid ((body8 n n.keys.length).length = size8 n) := Lib.hid (len_raw8 hst)
  have HMO := Lib.hid (fun i j (h : i ≤ j) => body8_mono n h)
  have HSU := Lib.hid (body8_succ n)
  have HPB : Hid (pgb n = body8 n n.keys.length ++ List.replicate (1024 - (body8 n n.keys.length).length) 0) := Lib.hid rfl
  have HZ8 : Hid (body8 n 0 = head8 n.leaf n.keys.length (n.kids.getD 0 0)) := Lib.hid (by unfold body8; rw [ents8, List.append_nil])
  have HEN : Hid (∀ j, ent8 n j = if n.leaf then lent8 (key8 n.keys j) (key8 n.vals j) else kent8 (key8 n.keys j) (n.kids.getD (j + 1) 0)) := Lib.hid (fun j => rfl)
  have hst2 := hst.2
  clear h hf hck hst hsz
  obtain ⟨RS, hRS⟩ : ∃ S : ByteArray, ⟨(pgb n).toArray⟩ = S := ⟨_, rfl⟩
  rw [hRS]
  have HRS := Lib.hid hRS
  have T0 := Lib.hid ((Turn.refl (fun _ => False) w).alloc (.cells #[.bool n.leaf, .slice A1 n.keys.length c1, .slice A2 n.vals.length c2, .slice A3 n.kids.length c3] 26))
  have B0 := Lib.hid (Blk.new w 26 [.bool n.leaf, .slice A1 n.keys.length c1, .slice A2 n.vals.length c2, .slice A3 n.kids.length c3])
  rw [hlf] at hst2 HZ8 HEN B0 T0
  have HND2 := Lib.hid hst2
  obtain ⟨nk, hnk⟩ : ∃ k, n.keys.length = k := ⟨_, rfl⟩
  obtain ⟨nv, hnv⟩ : ∃ k, n.vals.length = k := ⟨_, rfl⟩
  obtain ⟨nd, hnd⟩ : ∃ k, n.kids.length = k := ⟨_, rfl⟩
  have HNK := Lib.hid hnk
  have HNV := Lib.hid hnv
  have HND := Lib.hid hnd
  simp only [nv8] at *
  rw [hnk, hnv, hnd] at B0 T0 ⊢
  rw [hlf]
  rw [hnk] at f1 HLR HPB HZ8
  obtain ⟨PN, hPN⟩ : ∃ S : ByteArray, S = ⟨(fld 2 (nk : Int)).toArray⟩ := ⟨_, rfl⟩
  have HPN := Lib.hid (field8 (nk : Int) 2 (by decide) PN hPN 2 rfl)
  obtain ⟨S0, hS0⟩ : ∃ S : ByteArray, S = (⟨#[76]⟩ : ByteArray) ++ PN := ⟨_, rfl⟩
  have hz0 : PN.size = 2 := by rw [hPN, ba_sz, len_fld]
  have hzc : (⟨#[76]⟩ : ByteArray).size = 1 := rfl
  have hcat0 := cat8 (⟨#[76]⟩ : ByteArray) PN S0 (by omega) hS0
  have HB0 : Hid (S0 = ⟨(body8 n 0).toArray⟩) := Lib.hid (by subst hS0 hPN; rw [HZ8.out, head8, if_pos rfl, ba_cat]; congr 1)
  clear hnk hnv hnd hst2 hRS hPN hS0 hz0 hzc
  go_enter Try.func19, Try.ntmps19
  go_wp2_with fail
  refine (HPN.out _).mono ?_
  rintro e w1 ⟨v, rfl, rfl, ht1⟩
  have T1 := Lib.hid (T0.out.trans ht1)
  have B1 := Lib.hid (B0.out.turn ht1 (fun h => h))
  clear ht1 T0 B0
  have y0 : w1.cell? ⟨w.heap.size, 0, none⟩ = some (.bool true) := B1.out.cell 0
  have y1 : w1.cell? ⟨w.heap.size, 1, none⟩ = some (.slice A1 nk c1) := B1.out.cell 1
  have y2 : w1.cell? ⟨w.heap.size, 2, none⟩ = some (.slice A2 nv c2) := B1.out.cell 2
  have y3 : w1.cell? ⟨w.heap.size, 3, none⟩ = some (.slice A3 nd c3) := B1.out.cell 3
  have T2 := T1
  have B2 := B1
  go_wp2_with fail
  go_loopw [3, 4] (fun vs vi wr => ∃ (j : Nat) (S : ByteArray), j ≤ nk ∧ vi = .int .i64 j ∧ vs = .string S ∧ Hid (S = ⟨(body8 n j).toArray⟩) ∧ Blk wr w.heap.size 26 [.bool true, .slice A1 nk c1, .slice A2 nv c2, .slice A3 nd c3] ∧ Turn (fun _ => False) w wr) (fun _ vi _ => nk - (intOf vi).toNat)
  case atStart => exact ⟨0, _, Nat.zero_le _, rfl, rfl, HB0.out, B2.out, T2.out⟩
  case round =>
    clear T1 B1 T2 B2 HB0 hcat0
    obtain ⟨j, S, hj, rfl, rfl, HS, hB, hT⟩ := hrel
    have TT := Lib.hid hT
    have BB := Lib.hid hB
    have y0 : wr.cell? ⟨w.heap.size, 0, none⟩ = some (.bool true) := hB.cell 0
    have y1 : wr.cell? ⟨w.heap.size, 1, none⟩ = some (.slice A1 nk c1) := hB.cell 1
    have y2 : wr.cell? ⟨w.heap.size, 2, none⟩ = some (.slice A2 nv c2) := hB.cell 2
    have y3 : wr.cell? ⟨w.heap.size, 3, none⟩ = some (.slice A3 nd c3) := hB.cell 3
    have HSS : Hid (S.size = (body8 n j).length) := Lib.hid (by rw [HS.out, ba_sz])
    by_cases hlt : j < nk
    · have hks := Lib.hid (key8_some (K := n.keys) (j := j) (by rw [HNK.out]; exact hlt))
      have hkz : (key8 n.keys j).size ≤ 128 := (HST.out.1 j (by rw [HNK.out]; exact hlt)).1
      obtain ⟨b1, o1, rfl, hb1, hc1⟩ := HN.out.keys (by rw [HNK.out]; omega)
      have HX1 : Hid (∀ X, Turn (fun _ => False) w X → X.cell? ⟨b1, o1 + j, none⟩ = some (.string (key8 n.keys j))) := Lib.hid (fun X hX => hc1 X hX j _ hks.out)
      have y4 := HX1.out _ hT
      have hsj : S.size ≤ 1024 := by
        have h1 := HMO.out j nk (by omega)
        rw [HSS.out]; have := HLR.out; have := HSZ.out; omega
      have hi1 : (j : Int) < (nk : Int) := by omega
      have hi2 : (0 : Int) ≤ (j : Int) := by omega
      have z3 := wrap_of ((j : Int) + 1) (by omega) (by omega)
      have hsu := Lib.hid (HSU.out j)
      have hen := Lib.hid (HEN.out j)
      have hvl : j < n.vals.length := by rw [HND2.out.2.1, HNK.out]; exact hlt
      have hvz := HND2.out.1 j hvl
      have hvs := Lib.hid (key8_some (K := n.vals) hvl)
      obtain ⟨b2, o2, rfl, hb2, hc2⟩ := HN.out.vals (by omega)
      have HX2 : Hid (∀ X, Turn (fun _ => False) w X → X.cell? ⟨b2, o2 + j, none⟩ = some (.string (key8 n.vals j))) := Lib.hid (fun X hX => hc2 X hX j _ hvs.out)
      have hvl2 : (j : Int) < (nv : Int) := by have := HNV.out; omega
      have hvl3 : decide ((j : Int) < (nv : Int)) = true := decide_eq_true hvl2
      generalize key8 n.vals j = vl at *
      generalize key8 n.keys j = ky at *
      obtain ⟨P1, hP1⟩ : ∃ S : ByteArray, S = ⟨(fld 1 (ky.size : Int)).toArray⟩ := ⟨_, rfl⟩
      obtain ⟨P2, hP2⟩ : ∃ S : ByteArray, S = ⟨(fld 2 (vl.size : Int)).toArray⟩ := ⟨_, rfl⟩
      have HP1 := Lib.hid (field8 (ky.size : Int) 1 (by decide) P1 hP1 1 rfl)
      have HP2 := Lib.hid (field8 (vl.size : Int) 2 (by decide) P2 hP2 2 rfl)
      have hz1 : P1.size = 1 := by subst hP1; rw [ba_sz, len_fld]
      have hz2 : P2.size = 2 := by subst hP2; rw [ba_sz, len_fld]
      obtain ⟨Q1, hQ1⟩ : ∃ Q : ByteArray, Q = S ++ P1 := ⟨_, rfl⟩
      obtain ⟨Q2, hQ2⟩ : ∃ Q : ByteArray, Q = Q1 ++ ky := ⟨_, rfl⟩
      obtain ⟨Q3, hQ3⟩ : ∃ Q : ByteArray, Q = Q2 ++ P2 := ⟨_, rfl⟩
      obtain ⟨Q4, hQ4⟩ : ∃ Q : ByteArray, Q = Q3 ++ vl := ⟨_, rfl⟩
      have q1 : Q1.size = S.size + 1 := by rw [hQ1, ByteArray.size_append, hz1]
      have q2 : Q2.size = S.size + 1 + ky.size := by rw [hQ2, ByteArray.size_append, q1]
      have q3 : Q3.size = S.size + 1 + ky.size + 2 := by rw [hQ3, ByteArray.size_append, q2, hz2]
      have t1 := cat8 S P1 Q1 (by omega) hQ1
      have t2 := cat8 Q1 ky Q2 (by omega) hQ2
      have t3 := cat8 Q2 P2 Q3 (by omega) hQ3
      have t4 := cat8 Q3 vl Q4 (by omega) hQ4
      have HQ : Hid (Q4 = ⟨(body8 n (j + 1)).toArray⟩) := Lib.hid (by rw [hsu.out, hen.out]; (first | rw [if_pos rfl] | rw [if_pos trivial]); rw [hQ4, hQ3, hQ2, hQ1, HS.out, hP1, hP2]; unfold lent8; apply ByteArray.ext; simp)
      have HH1 := Lib.hid hb1
      clear hT hB hc1 hc2 hvl hvz hkz hP1 hP2 hQ1 hQ2 hQ3 hQ4 q1 q2 q3 hz1 hz2 hsj y2 y3
      go_wp2_with fail
      go_region_held3 (fun X => X.cell? ⟨w.heap.size, 1, none⟩ = some (.slice (some ⟨b1, o1, none⟩) nk c1) ∧ X.cell? ⟨b1, o1 + j, none⟩ = some (.string ky))
        (first
          | exact ⟨y1, y4⟩
          | exact ⟨B5.out.cell 1, HX1.out _ T5.out⟩)
        (first
          | (refine step_call rfl 34 Try.f34 _ _ rfl Try.func34 (by kernel_rfl) (by kernel_rfl) _ _ (HP1.out _) (by go_simp) ?_; rintro v5 w5 ⟨rfl, ht5⟩; have T5 := Lib.hid (TT.out.drew.trans ht5); have B5 := Lib.hid (BB.out.turn ((Turn.refl _ wr).drew.trans ht5) (fun h => h)); clear ht5))
      all_goals clear y0 y1 y4
      all_goals have y0 : w5.cell? ⟨w.heap.size, 0, none⟩ = some (.bool true) := B5.out.cell 0
      all_goals have y2 : w5.cell? ⟨w.heap.size, 2, none⟩ = some (.slice (some ⟨b2, o2, none⟩) nv c2) := B5.out.cell 2
      all_goals have y5 := HX2.out _ T5.out
      all_goals go_wp2_with fail
      all_goals go_region_held3 (fun X => X.cell? ⟨w.heap.size, 2, none⟩ = some (.slice (some ⟨b2, o2, none⟩) nv c2) ∧ X.cell? ⟨b2, o2 + j, none⟩ = some (.string vl))
        (first
          | exact ⟨y2, y5⟩
          | exact ⟨B6.out.cell 2, HX2.out _ T6.out⟩)
        (first
          | (refine step_call rfl 34 Try.f34 _ _ rfl Try.func34 (by kernel_rfl) (by kernel_rfl) _ _ (HP2.out _) (by go_simp) ?_; rintro v6 w6 ⟨rfl, ht6⟩; have T6 := Lib.hid (T5.out.drew.trans ht6); have B6 := Lib.hid (B5.out.turn ((Turn.refl _ w5).drew.trans ht6) (fun h => h)); clear ht6))
      all_goals clear y0 y2 y5
      all_goals have y0 : w6.cell? ⟨w.heap.size, 0, none⟩ = some (.bool true) := B6.out.cell 0
      all_goals go_wp2_with fail
      all_goals go_roundw
      case rel => exact ⟨j + 1, _, hlt, by simp, rfl, HQ, B6.out, T6.out⟩
      case measure => simp [intOf]; omega
    · obtain rfl : j = nk := by omega
      have hi1 : ¬ (j : Int) < (j : Int) := by omega
      have hle : S.size ≤ 1024 := by rw [HSS.out]; have := HLR.out; have := HSZ.out; omega
      obtain ⟨m, hm⟩ : ∃ m, m = 1024 - S.size := ⟨_, rfl⟩
      have hm1 : (1024 : Int) - (S.size : Int) = (m : Int) := by omega
      have hmle : m ≤ 1000000 := by omega
      have z9 := wrap_of (m : Int) (by omega) (by omega)
      have hmk := make_nz m hmle wr
      obtain ⟨Z, hZ⟩ : ∃ Z : ByteArray, Z = ⟨(List.replicate m (0 : UInt8)).toArray⟩ := ⟨_, rfl⟩
      have hzs : Z.size = m := by rw [hZ, ba_sz, List.length_replicate]
      obtain ⟨C, hC⟩ : ∃ C : Array Value, (bv (List.replicate m 0)).toArray = C := ⟨_, rfl⟩
      rw [hC] at hmk
      have hcv := nz_str m Z hZ (wr.alloc (.cells C 5)) wr.heap.size (by rw [← hC]; exact Blk.new _ _ _)
      have t9 := cat8 S Z RS (by omega) (by rw [← HRS.out, HPB.out, ba_cat, ← HS.out, hZ, hm, HSS.out])
      have T9 := Lib.hid (TT.out.alloc (.cells C 5))
      clear hT hB hC hZ hm hzs hle y0 y2 y3
      go_wp2_with fail
      go_ret
      exact ⟨rfl, T9.out⟩
set_option maxHeartbeats 8000000 in
theorem refPutK_any (n : Nd) (A1 : Option Addr) (c1 : Nat) (A2 : Option Addr) (c2 : Nat) (A3 : Option Addr) (c3 : Nat) (w : World) (h : No w A1 c1 A2 c2 A3 c3 n) (hf : Few8 n) (hck : check8 n = 0) (hlf : n.leaf = false) :
    Calls Try.prog 19 #[nv8 A1 c1 A2 c2 A3 c3 n] w fun e w' => e = .returned (.string ⟨(pgb n).toArray⟩) ∧ Turn (fun _ => False) w w' := by
  obtain ⟨hst, hsz⟩ := check8_ok hck
  have HST := Lib.hid hst
  have HSZ := Lib.hid hsz
  have HN := Lib.hid h
  have f1 := hf.nk
  have HLR : Hid ((body8 n n.keys.length).length = size8 n) := Lib.hid (len_raw8 hst)
  have HMO := Lib.hid (fun i j (h : i ≤ j) => body8_mono n h)
  have HSU := Lib.hid (body8_succ n)
  have HPB : Hid (pgb n = body8 n n.keys.length ++ List.replicate (1024 - (body8 n n.keys.length).length) 0) := Lib.hid rfl
  have HZ8 : Hid (body8 n 0 = head8 n.leaf n.keys.length (n.kids.getD 0 0)) := Lib.hid (by unfold body8; rw [ents8, List.append_nil])
  have HEN : Hid (∀ j, ent8 n j = if n.leaf then lent8 (key8 n.keys j) (key8 n.vals j) else kent8 (key8 n.keys j) (n.kids.getD (j + 1) 0)) := Lib.hid (fun j => rfl)
  have hst2 := hst.2
  clear h hf hck hst hsz
  obtain ⟨RS, hRS⟩ : ∃ S : ByteArray, ⟨(pgb n).toArray⟩ = S := ⟨_, rfl⟩
  rw [hRS]
  have HRS := Lib.hid hRS
  have T0 := Lib.hid ((Turn.refl (fun _ => False) w).alloc (.cells #[.bool n.leaf, .slice A1 n.keys.length c1, .slice A2 n.vals.length c2, .slice A3 n.kids.length c3] 26))
  have B0 := Lib.hid (Blk.new w 26 [.bool n.leaf, .slice A1 n.keys.length c1, .slice A2 n.vals.length c2, .slice A3 n.kids.length c3])
  rw [hlf] at hst2 HZ8 HEN B0 T0
  have HND2 := Lib.hid hst2
  obtain ⟨nk, hnk⟩ : ∃ k, n.keys.length = k := ⟨_, rfl⟩
  obtain ⟨nv, hnv⟩ : ∃ k, n.vals.length = k := ⟨_, rfl⟩
  obtain ⟨nd, hnd⟩ : ∃ k, n.kids.length = k := ⟨_, rfl⟩
  have HNK := Lib.hid hnk
  have HNV := Lib.hid hnv
  have HND := Lib.hid hnd
  simp only [nv8] at *
  rw [hnk, hnv, hnd] at B0 T0 ⊢
  rw [hlf]
  rw [hnk] at f1 HLR HPB HZ8
  obtain ⟨PN, hPN⟩ : ∃ S : ByteArray, S = ⟨(fld 2 (nk : Int)).toArray⟩ := ⟨_, rfl⟩
  have HPN := Lib.hid (field8 (nk : Int) 2 (by decide) PN hPN 2 rfl)
  obtain ⟨S0, hS0⟩ : ∃ S : ByteArray, S = (⟨#[73]⟩ : ByteArray) ++ PN := ⟨_, rfl⟩
  have hz0 : PN.size = 2 := by rw [hPN, ba_sz, len_fld]
  have hzc : (⟨#[73]⟩ : ByteArray).size = 1 := rfl
  have hcat0 := cat8 (⟨#[73]⟩ : ByteArray) PN S0 (by omega) hS0
  have hk0 := kid8_some (Z := n.kids) (j := 0) (by have := HND2.out.2.2; omega)
  have hnd1 : (0 : Int) < (nd : Int) := by have := HND2.out.2.2; omega
  obtain ⟨b3, o3, rfl, hb3, hc3⟩ := HN.out.kids (by have := HND2.out.2.2; omega)
  have HC3 := Lib.hid hc3
  have HX0 : Hid (∀ X, Turn (fun _ => False) w X → X.cell? ⟨b3, o3, none⟩ = some (.int .i64 (n.kids.getD 0 0))) := Lib.hid (fun X hX => hc3 X hX 0 _ hk0)
  obtain ⟨PK, hPK⟩ : ∃ S : ByteArray, S = ⟨(fld 4 (n.kids.getD 0 0)).toArray⟩ := ⟨_, rfl⟩
  have HPK := Lib.hid (field8 (n.kids.getD 0 0) 4 (by decide) PK hPK 4 rfl)
  obtain ⟨S1, hS1⟩ : ∃ S : ByteArray, S = S0 ++ PK := ⟨_, rfl⟩
  have hz1 : PK.size = 4 := by rw [hPK, ba_sz, len_fld]
  have hz3 : S0.size = 3 := by rw [hS0, ByteArray.size_append, hz0, hzc]
  have hcat1 := cat8 S0 PK S1 (by omega) hS1
  have HB0 : Hid (S1 = ⟨(body8 n 0).toArray⟩) := Lib.hid (by subst hS1 hS0 hPN hPK; rw [HZ8.out, head8, if_neg (by decide), ba_cat, ba_cat]; congr 2)
  generalize n.kids.getD 0 0 = kid0 at *
  clear hnk hnv hnd hst2 hRS hPN hS0 hPK hS1 hc3 hk0 hz0 hzc hz1 hz3
  go_enter Try.func19, Try.ntmps19
  go_wp2_with fail
  refine (HPN.out _).mono ?_
  rintro e w1 ⟨v, rfl, rfl, ht1⟩
  have T1 := Lib.hid (T0.out.trans ht1)
  have B1 := Lib.hid (B0.out.turn ht1 (fun h => h))
  clear ht1 T0 B0
  have y0 : w1.cell? ⟨w.heap.size, 0, none⟩ = some (.bool false) := B1.out.cell 0
  have y1 : w1.cell? ⟨w.heap.size, 1, none⟩ = some (.slice A1 nk c1) := B1.out.cell 1
  have y2 : w1.cell? ⟨w.heap.size, 2, none⟩ = some (.slice A2 nv c2) := B1.out.cell 2
  have y3 : w1.cell? ⟨w.heap.size, 3, none⟩ = some (.slice (some ⟨b3, o3, none⟩) nd c3) := B1.out.cell 3
  have y4 := HX0.out _ T1.out
  go_wp2_with fail
  refine (HPK.out _).mono ?_
  rintro e w2 ⟨v, rfl, rfl, ht2⟩
  have T2 := Lib.hid (T1.out.trans ht2)
  have B2 := Lib.hid (B1.out.turn ht2 (fun h => h))
  clear ht2 y0 y1 y2 y3 y4
  go_wp2_with fail
  go_loopw [3, 4] (fun vs vi wr => ∃ (j : Nat) (S : ByteArray), j ≤ nk ∧ vi = .int .i64 j ∧ vs = .string S ∧ Hid (S = ⟨(body8 n j).toArray⟩) ∧ Blk wr w.heap.size 26 [.bool false, .slice A1 nk c1, .slice A2 nv c2, .slice (some ⟨b3, o3, none⟩) nd c3] ∧ Turn (fun _ => False) w wr) (fun _ vi _ => nk - (intOf vi).toNat)
  case atStart => exact ⟨0, _, Nat.zero_le _, rfl, rfl, HB0.out, B2.out, T2.out⟩
  case round =>
    clear T1 B1 T2 B2 HB0 hcat0
    obtain ⟨j, S, hj, rfl, rfl, HS, hB, hT⟩ := hrel
    have TT := Lib.hid hT
    have BB := Lib.hid hB
    have y0 : wr.cell? ⟨w.heap.size, 0, none⟩ = some (.bool false) := hB.cell 0
    have y1 : wr.cell? ⟨w.heap.size, 1, none⟩ = some (.slice A1 nk c1) := hB.cell 1
    have y2 : wr.cell? ⟨w.heap.size, 2, none⟩ = some (.slice A2 nv c2) := hB.cell 2
    have y3 : wr.cell? ⟨w.heap.size, 3, none⟩ = some (.slice (some ⟨b3, o3, none⟩) nd c3) := hB.cell 3
    have HSS : Hid (S.size = (body8 n j).length) := Lib.hid (by rw [HS.out, ba_sz])
    by_cases hlt : j < nk
    · have hks := Lib.hid (key8_some (K := n.keys) (j := j) (by rw [HNK.out]; exact hlt))
      have hkz : (key8 n.keys j).size ≤ 128 := (HST.out.1 j (by rw [HNK.out]; exact hlt)).1
      obtain ⟨b1, o1, rfl, hb1, hc1⟩ := HN.out.keys (by rw [HNK.out]; omega)
      have HX1 : Hid (∀ X, Turn (fun _ => False) w X → X.cell? ⟨b1, o1 + j, none⟩ = some (.string (key8 n.keys j))) := Lib.hid (fun X hX => hc1 X hX j _ hks.out)
      have y4 := HX1.out _ hT
      have hsj : S.size ≤ 1024 := by
        have h1 := HMO.out j nk (by omega)
        rw [HSS.out]; have := HLR.out; have := HSZ.out; omega
      have hi1 : (j : Int) < (nk : Int) := by omega
      have hi2 : (0 : Int) ≤ (j : Int) := by omega
      have z3 := wrap_of ((j : Int) + 1) (by omega) (by omega)
      have hsu := Lib.hid (HSU.out j)
      have hen := Lib.hid (HEN.out j)
      have hvl : j + 1 < n.kids.length := by rw [HND2.out.2.2, HNK.out]; omega
      have hvs := Lib.hid (kid8_some (Z := n.kids) hvl)
      have HX2 : Hid (∀ X, Turn (fun _ => False) w X → X.cell? ⟨b3, o3 + (j + 1), none⟩ = some (.int .i64 (n.kids.getD (j + 1) 0))) := Lib.hid (fun X hX => HC3.out X hX (j + 1) _ hvs.out)
      have hvl2 : (j : Int) + 1 < (nd : Int) := by have := HND.out; omega
      have hvl3 : decide ((j : Int) + 1 < (nd : Int)) = true := decide_eq_true hvl2
      generalize n.kids.getD (j + 1) 0 = vl at *
      generalize key8 n.keys j = ky at *
      obtain ⟨P1, hP1⟩ : ∃ S : ByteArray, S = ⟨(fld 1 (ky.size : Int)).toArray⟩ := ⟨_, rfl⟩
      obtain ⟨P2, hP2⟩ : ∃ S : ByteArray, S = ⟨(fld 4 vl).toArray⟩ := ⟨_, rfl⟩
      have HP1 := Lib.hid (field8 (ky.size : Int) 1 (by decide) P1 hP1 1 rfl)
      have HP2 := Lib.hid (field8 vl 4 (by decide) P2 hP2 4 rfl)
      have hz1 : P1.size = 1 := by subst hP1; rw [ba_sz, len_fld]
      have hz2 : P2.size = 4 := by subst hP2; rw [ba_sz, len_fld]
      obtain ⟨Q1, hQ1⟩ : ∃ Q : ByteArray, Q = S ++ P1 := ⟨_, rfl⟩
      obtain ⟨Q2, hQ2⟩ : ∃ Q : ByteArray, Q = Q1 ++ ky := ⟨_, rfl⟩
      obtain ⟨Q3, hQ3⟩ : ∃ Q : ByteArray, Q = Q2 ++ P2 := ⟨_, rfl⟩
      have q1 : Q1.size = S.size + 1 := by rw [hQ1, ByteArray.size_append, hz1]
      have q2 : Q2.size = S.size + 1 + ky.size := by rw [hQ2, ByteArray.size_append, q1]
      have t1 := cat8 S P1 Q1 (by omega) hQ1
      have t2 := cat8 Q1 ky Q2 (by omega) hQ2
      have t3 := cat8 Q2 P2 Q3 (by omega) hQ3
      have HQ : Hid (Q3 = ⟨(body8 n (j + 1)).toArray⟩) := Lib.hid (by rw [hsu.out, hen.out]; (first | rw [if_neg (by decide)] | rw [if_neg (fun h => h)]); rw [hQ3, hQ2, hQ1, HS.out, hP1, hP2]; unfold kent8; apply ByteArray.ext; simp)
      have HH1 := Lib.hid hb1
      clear hT hB hc1 hvl hkz hP1 hP2 hQ1 hQ2 hQ3 q1 q2 hz1 hz2 hsj y2 y3
      go_wp2_with fail
      go_region_held3 (fun X => X.cell? ⟨w.heap.size, 1, none⟩ = some (.slice (some ⟨b1, o1, none⟩) nk c1) ∧ X.cell? ⟨b1, o1 + j, none⟩ = some (.string ky))
        (first
          | exact ⟨y1, y4⟩
          | exact ⟨B5.out.cell 1, HX1.out _ T5.out⟩)
        (first
          | (refine step_call rfl 34 Try.f34 _ _ rfl Try.func34 (by kernel_rfl) (by kernel_rfl) _ _ (HP1.out _) (by go_simp) ?_; rintro v5 w5 ⟨rfl, ht5⟩; have T5 := Lib.hid (TT.out.drew.trans ht5); have B5 := Lib.hid (BB.out.turn ((Turn.refl _ wr).drew.trans ht5) (fun h => h)); clear ht5))
      all_goals clear y0 y1 y4
      all_goals have y0 : w5.cell? ⟨w.heap.size, 0, none⟩ = some (.bool false) := B5.out.cell 0
      all_goals have y3 : w5.cell? ⟨w.heap.size, 3, none⟩ = some (.slice (some ⟨b3, o3, none⟩) nd c3) := B5.out.cell 3
      all_goals have y5 := HX2.out _ T5.out
      all_goals go_wp2_with fail
      all_goals refine (HP2.out _).mono ?_
      all_goals rintro e w6 ⟨v, rfl, rfl, ht6⟩
      all_goals have T6 := Lib.hid (T5.out.trans ht6)
      all_goals have B6 := Lib.hid (B5.out.turn ht6 (fun h => h))
      all_goals clear ht6 y0 y3 y5
      all_goals go_wp2_with fail
      all_goals go_roundw
      case rel => exact ⟨j + 1, _, hlt, by simp, rfl, HQ, B6.out, T6.out⟩
      case measure => simp [intOf]; omega
    · obtain rfl : j = nk := by omega
      have hi1 : ¬ (j : Int) < (j : Int) := by omega
      have hle : S.size ≤ 1024 := by rw [HSS.out]; have := HLR.out; have := HSZ.out; omega
      obtain ⟨m, hm⟩ : ∃ m, m = 1024 - S.size := ⟨_, rfl⟩
      have hm1 : (1024 : Int) - (S.size : Int) = (m : Int) := by omega
      have hmle : m ≤ 1000000 := by omega
      have z9 := wrap_of (m : Int) (by omega) (by omega)
      have hmk := make_nz m hmle wr
      obtain ⟨Z, hZ⟩ : ∃ Z : ByteArray, Z = ⟨(List.replicate m (0 : UInt8)).toArray⟩ := ⟨_, rfl⟩
      have hzs : Z.size = m := by rw [hZ, ba_sz, List.length_replicate]
      obtain ⟨C, hC⟩ : ∃ C : Array Value, (bv (List.replicate m 0)).toArray = C := ⟨_, rfl⟩
      rw [hC] at hmk
      have hcv := nz_str m Z hZ (wr.alloc (.cells C 5)) wr.heap.size (by rw [← hC]; exact Blk.new _ _ _)
      have t9 := cat8 S Z RS (by omega) (by rw [← HRS.out, HPB.out, ba_cat, ← HS.out, hZ, hm, HSS.out])
      have T9 := Lib.hid (TT.out.alloc (.cells C 5))
      clear hT hB hC hZ hm hzs hle y0 y2 y3
      go_wp2_with fail
      go_ret
      exact ⟨rfl, T9.out⟩
end Go.Proofs.Ytcmghbglnkfbaaa
