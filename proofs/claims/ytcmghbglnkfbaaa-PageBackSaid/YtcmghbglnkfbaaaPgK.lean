/- Layer 8: the program's Bytes. -/
import Derived.Test.YtcmghbglnkfbaaaPgJ
import Derived.Test.YtcmghbglnkfbaaaAppZ
namespace Go.Proofs.Ytcmghbglnkfbaaa
open Go.RowKit
set_option linter.unusedVariables false
set_option maxRecDepth 100000

def ent8 (n : Nd) (j : Nat) : List UInt8 := if n.leaf then lent8 (key8 n.keys j) (key8 n.vals j) else kent8 (key8 n.keys j) (n.kids.getD (j + 1) 0)
def ents8 (n : Nd) : Nat → List UInt8
  | 0 => []
  | j + 1 => ents8 n j ++ ent8 n j
def body8 (n : Nd) (j : Nat) : List UInt8 := head8 n.leaf n.keys.length (n.kids.getD 0 0) ++ ents8 n j
def raw8 (n : Nd) : List UInt8 := body8 n n.keys.length
def pgb (n : Nd) : List UInt8 := raw8 n ++ List.replicate (1024 - (raw8 n).length) 0
theorem body8_succ (n : Nd) (j : Nat) : body8 n (j + 1) = body8 n j ++ ent8 n j := by unfold body8; rw [ents8, List.append_assoc]
theorem body8_mono (n : Nd) : ∀ {i j : Nat}, i ≤ j → (body8 n i).length ≤ (body8 n j).length := by
  intro i j h
  induction j with
  | zero => obtain rfl : i = 0 := by omega
            exact Nat.le_refl _
  | succ j ih =>
    rcases Nat.lt_or_ge i (j + 1) with h1 | h1
    · have := ih (by omega)
      rw [body8_succ, List.length_append]; omega
    · obtain rfl : i = j + 1 := by omega
      exact Nat.le_refl _
theorem len_ents_leaf (n : Nd) (hl : n.leaf = true) (hv : n.vals.length = n.keys.length) : ∀ j, j ≤ n.keys.length → (ents8 n j).length = 3 * j + sumS (n.keys.take j) + sumS (n.vals.take j) := by
  intro j
  induction j with
  | zero => intro _; simp [ents8, sumS]
  | succ j ih =>
    intro hj
    have h1 : n.keys[j]? = some (key8 n.keys j) := by unfold key8; rw [List.getD_eq_getElem?_getD, List.getElem?_eq_getElem (by omega)]; rfl
    have h2 : n.vals[j]? = some (key8 n.vals j) := by unfold key8; rw [List.getD_eq_getElem?_getD, List.getElem?_eq_getElem (by omega)]; rfl
    rw [ents8, List.length_append, ih (by omega), sumS_take h1, sumS_take h2]
    unfold ent8
    rw [hl, if_pos rfl, len_lent8]
    omega
theorem len_ents_kids (n : Nd) (hl : n.leaf = false) : ∀ j, j ≤ n.keys.length → (ents8 n j).length = 5 * j + sumS (n.keys.take j) := by
  intro j
  induction j with
  | zero => intro _; simp [ents8, sumS]
  | succ j ih =>
    intro hj
    have h1 : n.keys[j]? = some (key8 n.keys j) := by unfold key8; rw [List.getD_eq_getElem?_getD, List.getElem?_eq_getElem (by omega)]; rfl
    rw [ents8, List.length_append, ih (by omega), sumS_take h1]
    unfold ent8
    rw [hl, if_neg (by decide), len_kent8]
    omega
theorem len_raw8 {n : Nd} (h : Stands8 n) : (raw8 n).length = size8 n := by
  unfold raw8 body8 size8 kb8
  rw [List.length_append, len_head8]
  have h2 := h.2
  cases hl : n.leaf
  · rw [len_ents_kids n hl _ (Nat.le_refl _), List.take_of_length_le (Nat.le_refl _)]
    simp; omega
  · rw [hl] at h2
    rw [len_ents_leaf n hl h2.2.1 _ (Nat.le_refl _), List.take_of_length_le (Nat.le_refl _), List.take_of_length_le (by rw [h2.2.1]; exact Nat.le_refl _)]
    simp; omega
theorem check8_ok {n : Nd} (h : check8 n = 0) : Stands8 n ∧ size8 n ≤ 1024 := by
  unfold check8 at h
  cases hs : st8 n with
  | false => rw [hs] at h; simp at h
  | true =>
    rw [hs] at h
    refine ⟨st8_of hs, ?_⟩
    by_cases hz : size8 n ≤ 1024
    · exact hz
    · simp [hz] at h
theorem len_pgb {n : Nd} (h : check8 n = 0) : (pgb n).length = 1024 := by
  obtain ⟨h1, h2⟩ := check8_ok h
  unfold pgb
  rw [List.length_append, List.length_replicate, len_raw8 h1]; omega
theorem key8_some {K : List ByteArray} {j : Nat} (h : j < K.length) : K[j]? = some (key8 K j) := by unfold key8; rw [List.getD_eq_getElem?_getD, List.getElem?_eq_getElem h]; rfl
theorem kid8_some {Z : List Int} {j : Nat} (h : j < Z.length) : Z[j]? = some (Z.getD j 0) := by rw [List.getD_eq_getElem?_getD, List.getElem?_eq_getElem h]; rfl
theorem check8_le (n : Nd) : check8 n = 0 ∨ check8 n = 2 ∨ check8 n = 5 := by unfold check8; split <;> (try split) <;> simp
set_option maxHeartbeats 8000000 in
theorem bytes_any (n : Nd) (A1 : Option Addr) (c1 : Nat) (A2 : Option Addr) (c2 : Nat) (A3 : Option Addr) (c3 : Nat) (w : World) (h : No w A1 c1 A2 c2 A3 c3 n) (hf : Few8 n) :
    Calls Try.prog 10 #[nv8 A1 c1 A2 c2 A3 c3 n] w fun e w' => ∃ v, e = .returned (.tuple #[v, .int .i64 (check8 n : Nat)]) ∧ (check8 n = 0 → w'.ownsRow w.heap.size 5 1 v 1024 (bv (pgb n))) ∧ (check8 n ≠ 0 → v = .slice none 0 0) ∧ Turn (fun _ => False) w w' := by
  obtain ⟨i0, hi0, hy1, hy2, hy3⟩ := info_parts Try.info5
  have HCK := Lib.hid (fun W (ht : Turn (fun _ => False) w W) => check_any n A1 c1 A2 c2 A3 c3 W (h.turn ht) hf)
  have HN := Lib.hid h
  have f1 := hf.nk
  have HLE := Lib.hid (check8_le n)
  have HOK := Lib.hid (@check8_ok n)
  have HLR := Lib.hid (@len_raw8 n)
  have HMO := Lib.hid (fun i j (h : i ≤ j) => body8_mono n h)
  have HSU := Lib.hid (body8_succ n)
  have HRW : Hid (raw8 n = body8 n n.keys.length) := Lib.hid rfl
  have HPB : Hid (pgb n = raw8 n ++ List.replicate (1024 - (raw8 n).length) 0) := Lib.hid rfl
  have HZ8 : Hid (body8 n 0 = head8 n.leaf n.keys.length (n.kids.getD 0 0)) := Lib.hid (by unfold body8; rw [ents8, List.append_nil])
  have HHL := Lib.hid (fun W (hl : n.leaf = true) => headL_any n A1 c1 A2 c2 A3 c3 W hl)
  have HHK := Lib.hid (fun W (hl : n.leaf = false) h k0 hk => headK_any n A1 c1 A2 c2 A3 c3 W hl h k0 hk)
  have HEN : Hid (∀ j, ent8 n j = if n.leaf then lent8 (key8 n.keys j) (key8 n.vals j) else kent8 (key8 n.keys j) (n.kids.getD (j + 1) 0)) := Lib.hid (fun j => rfl)
  have T0 := Lib.hid ((Turn.refl (fun _ => False) w).alloc (.cells #[.bool n.leaf, .slice A1 n.keys.length c1, .slice A2 n.vals.length c2, .slice A3 n.kids.length c3] 26))
  have B0 := Lib.hid (Blk.new w 26 [.bool n.leaf, .slice A1 n.keys.length c1, .slice A2 n.vals.length c2, .slice A3 n.kids.length c3])
  obtain ⟨CK, hCK⟩ : ∃ c, check8 n = c := ⟨_, rfl⟩
  have HCC := Lib.hid hCK
  rw [hCK] at HCK HLE HOK ⊢
  clear h hf hCK
  obtain ⟨nk, hnk⟩ : ∃ k, n.keys.length = k := ⟨_, rfl⟩
  obtain ⟨nv, hnv⟩ : ∃ k, n.vals.length = k := ⟨_, rfl⟩
  obtain ⟨nd, hnd⟩ : ∃ k, n.kids.length = k := ⟨_, rfl⟩
  obtain ⟨leaf, hlf⟩ : ∃ k, n.leaf = k := ⟨_, rfl⟩
  have HNK := Lib.hid hnk
  have HNV := Lib.hid hnv
  have HND := Lib.hid hnd
  have HLF := Lib.hid hlf
  simp only [nv8] at *
  rw [hnk, hnv, hnd, hlf] at HCK B0 T0 ⊢
  rw [hnk] at f1 HRW HZ8 HHL HHK
  rw [hnv, hnd, hlf] at HHL HHK
  rw [hlf] at HZ8 HEN
  clear hnk hnv hnd hlf
  go_enter Try.func10, Try.ntmps10
  go_wp2_with fail
  refine (HCK.out _ T0.out).mono ?_
  rintro e w1 ⟨rfl, ht1⟩
  have T1 := Lib.hid (T0.out.trans ht1)
  have B1 := Lib.hid (B0.out.turn ht1 (fun h => h))
  clear ht1 T0 B0 HCK
  have y0 : w1.cell? ⟨w.heap.size, 0, none⟩ = some (.bool leaf) := B1.out.cell 0
  have y1 : w1.cell? ⟨w.heap.size, 1, none⟩ = some (.slice A1 nk c1) := B1.out.cell 1
  have y2 : w1.cell? ⟨w.heap.size, 2, none⟩ = some (.slice A2 nv c2) := B1.out.cell 2
  have y3 : w1.cell? ⟨w.heap.size, 3, none⟩ = some (.slice A3 nd c3) := B1.out.cell 3
  by_cases hz : CK = 0
  · subst hz
    have hz1 : w.heap.size + 1 ≤ w1.heap.size := by have := B1.out.lt; omega
    obtain ⟨hst, hsz⟩ := HOK.out rfl
    have HST := Lib.hid hst
    have HSZ := Lib.hid hsz
    clear hst hsz HOK HLE
    go_wp2_with (at_make; refine wpList_make_own _ rfl _ _ 22 rfl (w.heap.size + 1) 5 i0 (.int .u8 0) 1 Try.underlying22 hi0 hy1 hy2 .i64 .i64 _ 1024 rfl rfl (by omega) (by rw [hy3]; decide) (by unfold maxLen; decide) hz1 ?_; intro w2 ho2 hg2; have HO2 : Hid (w2.ownsRow (w.heap.size + 1) 5 1 (.slice (some ⟨w1.heap.size, 0, none⟩) 0 1024) ([] : List UInt8).length (bv [])) := Lib.hid ho2; have ht2 : Turn (fun _ => False) w1 w2 := ⟨hg2.os, hg2.tape, hg2.output, hg2.size, fun k hk _ => hg2.block k hk (by intro h; cases h)⟩; have T2 := Lib.hid (T1.out.trans ht2); have B2 := Lib.hid (B1.out.turn ht2 (fun h => h)); have z2 := ht2.size; clear ho2 hg2 ht2 y0 y1 y2 y3; have y0 : w2.cell? ⟨w.heap.size, 0, none⟩ = some (.bool leaf) := B2.out.cell 0; have y1 : w2.cell? ⟨w.heap.size, 1, none⟩ = some (.slice A1 nk c1) := B2.out.cell 1; have y2 : w2.cell? ⟨w.heap.size, 2, none⟩ = some (.slice A2 nv c2) := B2.out.cell 2; have y3 : w2.cell? ⟨w.heap.size, 3, none⟩ = some (.slice A3 nd c3) := B2.out.cell 3)
    cases leaf
    · have hk0 := kid8_some (Z := n.kids) (j := 0) (by have := HST.out.2; rw [HLF.out] at this; have h5 := this.2.2; omega)
      refine (HHK.out _ (by first | trivial | rfl) (HN.out.turn T2.out) _ hk0).mono ?_
      rintro e3 w3 ⟨v3, rfl, ho3, hb3⟩
      have S3 := Lib.hid (Sl.of_own ho3)
      have ht3 : Turn (fun _ => False) w2 w3 := Turn.of_below hb3 (fun k h1 h2 => absurd h1 (Nat.not_lt.2 h2))
      have T3 := Lib.hid (T2.out.trans ht3)
      have B3 := Lib.hid (B2.out.turn ht3 (fun h => h))
      have O3 := Lib.hid (own_turn8 HO2.out ht3)
      have z3 := ht3.size
      clear ho3 hb3 ht3
      go_wp2_with (at_builtin; refine wpList_app_bytes _ rfl _ _ 22 rfl (w.heap.size + 1) w3.heap.size 5 i0 Try.underlying22 hi0 hy1 hy2 hy3 (.slice (some ⟨w1.heap.size, 0, none⟩) 0 1024) v3 [] (head8 false nk (n.kids.getD 0 0)) rfl rfl O3.out S3.out (by rw [len_head8]; simp) (by omega) ?_; intro v4 w4 ho4 hg4; have ht4 := grown_below hg4 O3.out (by omega); have T4 := Lib.hid (T3.out.trans_new (Turn.of_below (S := fun k => w.heap.size + 1 ≤ k) ht4 (fun k h1 h2 => h2)) (fun k h1 h2 => absurd h2 (by omega))); have B4 := Lib.hid (B3.out.below ht4 (by omega)); have O4 : Hid (w4.ownsRow (w.heap.size + 1) 5 1 v4 (body8 n 0).length (bv (body8 n 0))) := Lib.hid (by rw [HZ8.out]; exact ho4); have y1 : w4.cell? ⟨w.heap.size, 1, none⟩ = some (.slice A1 nk c1) := B4.out.cell 1; clear ho4 hg4 ht4)
      go_loopw [5, 6, 7, 21] (fun vb _ _ vi wr => ∃ (j l : Nat) (AV : Option Addr) (cv : Nat), j ≤ nk ∧ vi = .int .i64 j ∧ vb = .slice AV l cv ∧ (body8 n j).length = l ∧ wr.ownsRow (w.heap.size + 1) 5 1 (.slice AV l cv) (body8 n j).length (bv (body8 n j)) ∧ Blk wr w.heap.size 26 [.bool false, .slice A1 nk c1, .slice A2 nv c2, .slice A3 nd c3] ∧ Turn (fun _ => False) w wr) (fun _ _ _ vi _ => nk - (intOf vi).toNat)
      case atStart =>
        obtain ⟨A4, c4, hv4⟩ := own_slice8 O4.out
        exact ⟨0, _, A4, c4, Nat.zero_le _, rfl, hv4, rfl, hv4 ▸ O4.out, B4.out, T4.out⟩
      case round =>
        clear y0 y1
        obtain ⟨j, bl, AV, cv, hj, rfl, rfl, hbl, ho, hB, hT⟩ := hrel
        have HBLL := Lib.hid hbl
        have TT := Lib.hid hT
        have BB := Lib.hid hB
        have OO := Lib.hid ho
        have zr : w.heap.size + 1 ≤ wr.heap.size := by have := hB.lt; omega
        have y0 : wr.cell? ⟨w.heap.size, 0, none⟩ = some (.bool false) := hB.cell 0
        have y2 : wr.cell? ⟨w.heap.size, 2, none⟩ = some (.slice A2 nv c2) := hB.cell 2
        have y3 : wr.cell? ⟨w.heap.size, 3, none⟩ = some (.slice A3 nd c3) := hB.cell 3
        by_cases hlt : j < nk
        · have hks := Lib.hid (key8_some (K := n.keys) (j := j) (by rw [HNK.out]; exact hlt))
          have hkz : (key8 n.keys j).size ≤ 128 := (HST.out.1 j (by rw [HNK.out]; exact hlt)).1
          obtain ⟨b1, o1, rfl, hb1, hc1⟩ := HN.out.keys (by rw [HNK.out]; omega)
          have y4 : wr.cell? ⟨b1, o1 + j, none⟩ = some (.string (key8 n.keys j)) := hc1 wr hT j _ hks.out
          have hnv : Hid ((∀ j, j < n.kids.length → 0 ≤ n.kids.getD j 0 ∧ n.kids.getD j 0 < 16384) ∧ n.vals.length = 0 ∧ n.kids.length = n.keys.length + 1) := Lib.hid (by have := HST.out.2; rw [HLF.out] at this; exact this)
          have hvl : j + 1 < n.kids.length := by rw [hnv.out.2.2, HNK.out]; omega
          have hvs := Lib.hid (kid8_some (Z := n.kids) hvl)
          obtain ⟨b3, o3, rfl, hb3, hc3⟩ := HN.out.kids (by omega)
          have y5 : wr.cell? ⟨b3, o3 + (j + 1), none⟩ = some (.int .i64 (n.kids.getD (j + 1) 0)) := hc3 wr hT (j + 1) _ hvs.out
          have hvl2 : (j : Int) + 1 < (nd : Int) := by have := HND.out; omega
          have z5 := wrap_of ((j : Int) + 1) (by omega) (by omega)
          have hE : Hid (ent8 n j = kent8 (key8 n.keys j) (n.kids.getD (j + 1) 0)) := Lib.hid (by rw [HEN.out]; simp)
          have HLT := Lib.hid (kent_any (key8 n.keys j) (n.kids.getD (j + 1) 0) hkz)
          generalize n.kids.getD (j + 1) 0 = vl at *
          generalize key8 n.keys j = ky at *
          have hi1 : (j : Int) < (nk : Int) := by omega
          have hi2 : (0 : Int) ≤ (j : Int) := by omega
          have z3 := wrap_of ((j : Int) + 1) (by omega) (by omega)
          have hbd : (body8 n j).length + (ent8 n j).length ≤ 1024 := by
            have h1 := HMO.out (j + 1) nk (by omega)
            rw [HSU.out, List.length_append, ← HRW.out, HLR.out HST.out] at h1
            have := HSZ.out; omega
          have HBD := Lib.hid hbd
          clear hT hc1 ho hB hkz hbd hbl hvl
          go_wp2_with fail
          refine (HLT.out _).mono ?_
          rintro e5 w5 ⟨v5, rfl, ho5, hb5⟩
          have S5 : Hid (Sl w5 w5.heap.size v5 (ent8 n j)) := Lib.hid (by rw [hE.out]; exact Sl.of_own ho5)
          have ht5 : Turn (fun _ => False) wr w5 := Turn.of_below hb5 (fun k h1 h2 => absurd h1 (Nat.not_lt.2 h2))
          have T5 := Lib.hid (TT.out.trans ht5)
          have B5 := Lib.hid (BB.out.turn ht5 (fun h => h))
          have O5 := Lib.hid (own_turn8 OO.out ht5)
          have z5 := ht5.size
          clear ho5 hb5 ht5 y0 y2 y3 y4 y5
          go_wp2_with (at_builtin; refine wpList_app_bytes _ rfl _ _ 22 rfl (w.heap.size + 1) w5.heap.size 5 i0 Try.underlying22 hi0 hy1 hy2 hy3 _ v5 (body8 n j) (ent8 n j) rfl rfl O5.out S5.out (by have := HBD.out; omega) (by omega) ?_; intro v6 w6 ho6 hg6; have ht6 := grown_below hg6 O5.out (by omega); have T6 := Lib.hid (T5.out.trans_new (Turn.of_below (S := fun k => w.heap.size + 1 ≤ k) ht6 (fun k h1 h2 => h2)) (fun k h1 h2 => absurd h2 (by omega))); have B6 := Lib.hid (B5.out.below ht6 (by omega)); have O6 : Hid (w6.ownsRow (w.heap.size + 1) 5 1 v6 (body8 n (j + 1)).length (bv (body8 n (j + 1)))) := Lib.hid (by rw [HSU.out]; exact ho6); clear ho6 hg6 ht6)
          go_roundw
          case rel =>
            obtain ⟨A6, c6, hv6⟩ := own_slice8 O6.out
            exact ⟨j + 1, _, A6, c6, hlt, by simp, hv6, rfl, hv6 ▸ O6.out, B6.out, T6.out⟩
          case measure => simp [intOf]; omega
        · obtain rfl : j = nk := by omega
          have hi1 : ¬ (j : Int) < (j : Int) := by omega
          have hle : (body8 n j).length ≤ 1024 := by have h1 := HLR.out HST.out; rw [HRW.out] at h1; have := HSZ.out; omega
          have hpos : 0 < (body8 n j).length := by have := HMO.out 0 j (by omega); rw [HZ8.out, len_head8] at this; simp at this; omega
          rw [hbl] at hle hpos
          have hk : Hid ((1024 : Int) - (bl : Int) = ((1024 - bl : Nat) : Int)) := Lib.hid (by omega)
          have z9 := wrap_of ((1024 : Int) - (bl : Int)) (by omega) (by omega)
          clear hT ho hB hbl y0 y2 y3
          go_wp2_with (at_builtin; refine wpList_app_zeros8 rfl _ _ 22 3 rfl (w.heap.size + 1) 5 i0 Try.underlying22 Try.underlying3 hi0 hy1 hy2 hy3 (.slice AV bl cv) (body8 n j) (by rw [HBLL.out]; exact hpos) (1024 - bl) _ hk.out rfl rfl OO.out (by rw [HBLL.out]; omega) zr ?_; intro v6 w6 ho6 hg6; have ht6 := grown_below hg6 OO.out zr; have T6 := Lib.hid (TT.out.trans_new (Turn.of_below (S := fun k => w.heap.size + 1 ≤ k) ht6 (fun k h1 h2 => h2)) (fun k h1 h2 => absurd h2 (by omega))); have HO6 := Lib.hid ho6; clear ho6 hg6 ht6)
          go_ret2
          first | refine ⟨_, rfl, fun _ => ?_, fun h => absurd rfl h, T6.out⟩ | refine ⟨_, rfl, ?_, T6.out⟩
          have h1 := own_low8 HO6.out (Nat.le_succ _)
          rw [← HBLL.out, ← HRW.out, ← HPB.out, len_pgb HCC.out] at h1
          exact h1
    · refine (HHL.out _ (by first | trivial | rfl)).mono ?_
      rintro e3 w3 ⟨v3, rfl, ho3, hb3⟩
      have S3 := Lib.hid (Sl.of_own ho3)
      have ht3 : Turn (fun _ => False) w2 w3 := Turn.of_below hb3 (fun k h1 h2 => absurd h1 (Nat.not_lt.2 h2))
      have T3 := Lib.hid (T2.out.trans ht3)
      have B3 := Lib.hid (B2.out.turn ht3 (fun h => h))
      have O3 := Lib.hid (own_turn8 HO2.out ht3)
      have z3 := ht3.size
      clear ho3 hb3 ht3
      go_wp2_with (at_builtin; refine wpList_app_bytes _ rfl _ _ 22 rfl (w.heap.size + 1) w3.heap.size 5 i0 Try.underlying22 hi0 hy1 hy2 hy3 (.slice (some ⟨w1.heap.size, 0, none⟩) 0 1024) v3 [] (head8 true nk 0) rfl rfl O3.out S3.out (by rw [len_head8]; simp) (by omega) ?_; intro v4 w4 ho4 hg4; have ht4 := grown_below hg4 O3.out (by omega); have T4 := Lib.hid (T3.out.trans_new (Turn.of_below (S := fun k => w.heap.size + 1 ≤ k) ht4 (fun k h1 h2 => h2)) (fun k h1 h2 => absurd h2 (by omega))); have B4 := Lib.hid (B3.out.below ht4 (by omega)); have O4 : Hid (w4.ownsRow (w.heap.size + 1) 5 1 v4 (body8 n 0).length (bv (body8 n 0))) := Lib.hid (by rw [HZ8.out]; exact ho4); have y1 : w4.cell? ⟨w.heap.size, 1, none⟩ = some (.slice A1 nk c1) := B4.out.cell 1; clear ho4 hg4 ht4)
      go_loopw [5, 6, 7, 21] (fun vb _ _ vi wr => ∃ (j l : Nat) (AV : Option Addr) (cv : Nat), j ≤ nk ∧ vi = .int .i64 j ∧ vb = .slice AV l cv ∧ (body8 n j).length = l ∧ wr.ownsRow (w.heap.size + 1) 5 1 (.slice AV l cv) (body8 n j).length (bv (body8 n j)) ∧ Blk wr w.heap.size 26 [.bool true, .slice A1 nk c1, .slice A2 nv c2, .slice A3 nd c3] ∧ Turn (fun _ => False) w wr) (fun _ _ _ vi _ => nk - (intOf vi).toNat)
      case atStart =>
        obtain ⟨A4, c4, hv4⟩ := own_slice8 O4.out
        exact ⟨0, _, A4, c4, Nat.zero_le _, rfl, hv4, rfl, hv4 ▸ O4.out, B4.out, T4.out⟩
      case round =>
        clear y0 y1
        obtain ⟨j, bl, AV, cv, hj, rfl, rfl, hbl, ho, hB, hT⟩ := hrel
        have HBLL := Lib.hid hbl
        have TT := Lib.hid hT
        have BB := Lib.hid hB
        have OO := Lib.hid ho
        have zr : w.heap.size + 1 ≤ wr.heap.size := by have := hB.lt; omega
        have y0 : wr.cell? ⟨w.heap.size, 0, none⟩ = some (.bool true) := hB.cell 0
        have y2 : wr.cell? ⟨w.heap.size, 2, none⟩ = some (.slice A2 nv c2) := hB.cell 2
        have y3 : wr.cell? ⟨w.heap.size, 3, none⟩ = some (.slice A3 nd c3) := hB.cell 3
        by_cases hlt : j < nk
        · have hks := Lib.hid (key8_some (K := n.keys) (j := j) (by rw [HNK.out]; exact hlt))
          have hkz : (key8 n.keys j).size ≤ 128 := (HST.out.1 j (by rw [HNK.out]; exact hlt)).1
          obtain ⟨b1, o1, rfl, hb1, hc1⟩ := HN.out.keys (by rw [HNK.out]; omega)
          have y4 : wr.cell? ⟨b1, o1 + j, none⟩ = some (.string (key8 n.keys j)) := hc1 wr hT j _ hks.out
          have hnv : Hid ((∀ j, j < n.vals.length → (key8 n.vals j).size ≤ 200) ∧ n.vals.length = n.keys.length ∧ n.kids.length = 0) := Lib.hid (by have := HST.out.2; rw [HLF.out] at this; exact this)
          have hvl : j < n.vals.length := by rw [hnv.out.2.1, HNK.out]; exact hlt
          have hvz := hnv.out.1 j hvl
          have hvs := Lib.hid (key8_some (K := n.vals) hvl)
          obtain ⟨b2, o2, rfl, hb2, hc2⟩ := HN.out.vals (by omega)
          have y5 : wr.cell? ⟨b2, o2 + j, none⟩ = some (.string (key8 n.vals j)) := hc2 wr hT j _ hvs.out
          have hvl2 : (j : Int) < (nv : Int) := by have := HNV.out; omega
          have hE : Hid (ent8 n j = lent8 (key8 n.keys j) (key8 n.vals j)) := Lib.hid (by rw [HEN.out]; simp)
          have HLT := Lib.hid (lent_any (key8 n.keys j) (key8 n.vals j) hkz hvz)
          generalize key8 n.vals j = vl at *
          generalize key8 n.keys j = ky at *
          have hi1 : (j : Int) < (nk : Int) := by omega
          have hi2 : (0 : Int) ≤ (j : Int) := by omega
          have z3 := wrap_of ((j : Int) + 1) (by omega) (by omega)
          have hbd : (body8 n j).length + (ent8 n j).length ≤ 1024 := by
            have h1 := HMO.out (j + 1) nk (by omega)
            rw [HSU.out, List.length_append, ← HRW.out, HLR.out HST.out] at h1
            have := HSZ.out; omega
          have HBD := Lib.hid hbd
          clear hT hc1 ho hB hkz hbd hbl hvl hvz
          go_wp2_with fail
          refine (HLT.out _).mono ?_
          rintro e5 w5 ⟨v5, rfl, ho5, hb5⟩
          have S5 : Hid (Sl w5 w5.heap.size v5 (ent8 n j)) := Lib.hid (by rw [hE.out]; exact Sl.of_own ho5)
          have ht5 : Turn (fun _ => False) wr w5 := Turn.of_below hb5 (fun k h1 h2 => absurd h1 (Nat.not_lt.2 h2))
          have T5 := Lib.hid (TT.out.trans ht5)
          have B5 := Lib.hid (BB.out.turn ht5 (fun h => h))
          have O5 := Lib.hid (own_turn8 OO.out ht5)
          have z5 := ht5.size
          clear ho5 hb5 ht5 y0 y2 y3 y4 y5
          go_wp2_with (at_builtin; refine wpList_app_bytes _ rfl _ _ 22 rfl (w.heap.size + 1) w5.heap.size 5 i0 Try.underlying22 hi0 hy1 hy2 hy3 _ v5 (body8 n j) (ent8 n j) rfl rfl O5.out S5.out (by have := HBD.out; omega) (by omega) ?_; intro v6 w6 ho6 hg6; have ht6 := grown_below hg6 O5.out (by omega); have T6 := Lib.hid (T5.out.trans_new (Turn.of_below (S := fun k => w.heap.size + 1 ≤ k) ht6 (fun k h1 h2 => h2)) (fun k h1 h2 => absurd h2 (by omega))); have B6 := Lib.hid (B5.out.below ht6 (by omega)); have O6 : Hid (w6.ownsRow (w.heap.size + 1) 5 1 v6 (body8 n (j + 1)).length (bv (body8 n (j + 1)))) := Lib.hid (by rw [HSU.out]; exact ho6); clear ho6 hg6 ht6)
          go_roundw
          case rel =>
            obtain ⟨A6, c6, hv6⟩ := own_slice8 O6.out
            exact ⟨j + 1, _, A6, c6, hlt, by simp, hv6, rfl, hv6 ▸ O6.out, B6.out, T6.out⟩
          case measure => simp [intOf]; omega
        · obtain rfl : j = nk := by omega
          have hi1 : ¬ (j : Int) < (j : Int) := by omega
          have hle : (body8 n j).length ≤ 1024 := by have h1 := HLR.out HST.out; rw [HRW.out] at h1; have := HSZ.out; omega
          have hpos : 0 < (body8 n j).length := by have := HMO.out 0 j (by omega); rw [HZ8.out, len_head8] at this; simp at this; omega
          rw [hbl] at hle hpos
          have hk : Hid ((1024 : Int) - (bl : Int) = ((1024 - bl : Nat) : Int)) := Lib.hid (by omega)
          have z9 := wrap_of ((1024 : Int) - (bl : Int)) (by omega) (by omega)
          clear hT ho hB hbl y0 y2 y3
          go_wp2_with (at_builtin; refine wpList_app_zeros8 rfl _ _ 22 3 rfl (w.heap.size + 1) 5 i0 Try.underlying22 Try.underlying3 hi0 hy1 hy2 hy3 (.slice AV bl cv) (body8 n j) (by rw [HBLL.out]; exact hpos) (1024 - bl) _ hk.out rfl rfl OO.out (by rw [HBLL.out]; omega) zr ?_; intro v6 w6 ho6 hg6; have ht6 := grown_below hg6 OO.out zr; have T6 := Lib.hid (TT.out.trans_new (Turn.of_below (S := fun k => w.heap.size + 1 ≤ k) ht6 (fun k h1 h2 => h2)) (fun k h1 h2 => absurd h2 (by omega))); have HO6 := Lib.hid ho6; clear ho6 hg6 ht6)
          go_ret2
          first | refine ⟨_, rfl, fun _ => ?_, fun h => absurd rfl h, T6.out⟩ | refine ⟨_, rfl, ?_, T6.out⟩
          have h1 := own_low8 HO6.out (Nat.le_succ _)
          rw [← HBLL.out, ← HRW.out, ← HPB.out, len_pgb HCC.out] at h1
          exact h1
  · have hne : ((CK : Int) != 0) = true := by simp; omega
    go_wp2_with fail
    all_goals (go_ret2; exact ⟨_, rfl, fun h => absurd h hz, fun _ => rfl, T1.out⟩)
end Go.Proofs.Ytcmghbglnkfbaaa
