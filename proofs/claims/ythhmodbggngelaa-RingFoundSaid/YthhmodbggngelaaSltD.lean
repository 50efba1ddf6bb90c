/- Layer 5: Bytes. -/
import Derived.Test.YthhmodbggngelaaSltC
namespace Go.Proofs.Ythhmodbggngelaa
open Go.RowKit
set_option linter.unusedVariables false
set_option maxRecDepth 100000

theorem put8_own {w : World} {B : Nat} {v : Value} {l : List UInt8} (h : w.ownsRow B 5 1 v l.length (bv l)) (n : Int) (hl : l.length ≤ 140737488354000) :
    Calls Try.prog 57 #[v, .int .i64 n] w fun e w' => ∃ v, e = .returned v ∧ w'.ownsRow w.heap.size 5 1 v (l ++ fld 1 n).length (bv (l ++ fld 1 n)) ∧ Below w.heap.size w w' := by
  obtain ⟨A, cap, rfl, hr, _⟩ := rd_of_own h
  exact put8_any _ A cap l n w hr (Nat.le_refl _) hl
theorem put16_own {w : World} {B : Nat} {v : Value} {l : List UInt8} (h : w.ownsRow B 5 1 v l.length (bv l)) (n : Int) (hl : l.length ≤ 140737488354000) :
    Calls Try.prog 61 #[v, .int .i64 n] w fun e w' => ∃ v, e = .returned v ∧ w'.ownsRow w.heap.size 5 1 v (l ++ fld 2 n).length (bv (l ++ fld 2 n)) ∧ Below w.heap.size w w' := by
  obtain ⟨A, cap, rfl, hr, _⟩ := rd_of_own h
  exact put16_any _ A cap l n w hr (Nat.le_refl _) hl
theorem put32_own {w : World} {B : Nat} {v : Value} {l : List UInt8} (h : w.ownsRow B 5 1 v l.length (bv l)) (n : Int) (hl : l.length ≤ 140737488354000) :
    Calls Try.prog 59 #[v, .int .i64 n] w fun e w' => ∃ v, e = .returned v ∧ w'.ownsRow w.heap.size 5 1 v (l ++ fld 4 n).length (bv (l ++ fld 4 n)) ∧ Below w.heap.size w w' := by
  obtain ⟨A, cap, rfl, hr, _⟩ := rd_of_own h
  exact put32_any _ A cap l n w hr (Nat.le_refl _) hl
theorem put64_own {w : World} {B : Nat} {v : Value} {l : List UInt8} (h : w.ownsRow B 5 1 v l.length (bv l)) (n : Int) (hl : l.length ≤ 140737488354000) :
    Calls Try.prog 60 #[v, .int .i64 n] w fun e w' => ∃ v, e = .returned v ∧ w'.ownsRow w.heap.size 5 1 v (l ++ fld 8 n).length (bv (l ++ fld 8 n)) ∧ Below w.heap.size w w' := by
  obtain ⟨A, cap, rfl, hr, _⟩ := rd_of_own h
  exact put64_any _ A cap l n w hr (Nat.le_refl _) hl
theorem own_low5 {w : World} {B B' t s n : Nat} {v : Value} {xs : List Value} (h : w.ownsRow B t s v n xs) (hb : B' ≤ B) : w.ownsRow B' t s v n xs := by
  obtain ⟨hx, h | ⟨g, c, cur, e, hB, hr⟩⟩ := h
  · exact ⟨hx, .inl h⟩
  · exact ⟨hx, .inr ⟨g, c, cur, e, Nat.le_trans hb hB, hr⟩⟩
/-- One step more of a chain, from block B on. -/
theorem chain_ {B : Nat} {w a b : World} (h : Below B w a) (hB : B ≤ a.heap.size) (k : Below a.heap.size a b) : Below B w b ∧ B ≤ b.heap.size := ⟨bthen h hB k, Nat.le_trans hB k.size⟩
theorem bytes5_bad (s : St) (h : r5 s = false) (w : World) :
    Calls Try.prog 42 #[stv s] w fun e w' => e = .returned (.tuple #[.slice none 0 0, .int .i64 2]) ∧ Below w.heap.size w w' := by
  have HC : Hid (∀ W, Calls Try.prog 41 #[stv s] W fun e w' => e = .returned (.int .i64 2) ∧ w' = W.alloc (sbox s)) := Lib.hid (fun W => by have := check5 s W; rw [h] at this; exact this)
  obtain ⟨e, q, f, z, d⟩ := s
  unfold stv sbox at *
  simp only at HC ⊢
  clear h
  go_enter Try.func42, Try.ntmps42
  go_wp2_with fail
  refine (HC.out _).mono ?_
  rintro e w' ⟨rfl, rfl⟩
  go_wp2_with fail
  go_ret2
  exact ⟨rfl, ((Below.refl _ _).alloc (Nat.le_refl _) _).alloc (by simp) _⟩
set_option maxHeartbeats 2000000 in
theorem bytes5_ok (s : St) (h : r5 s = true) (w : World) :
    Calls Try.prog 42 #[stv s] w fun e w' => ∃ v, e = .returned (.tuple #[v, .int .i64 0]) ∧ w'.ownsRow w.heap.size 5 1 v 128 (bv (put5 s)) ∧ Below w.heap.size w w' := by
  obtain ⟨i0, hi0, hy1, hy2, hy3⟩ := info_parts Try.info5
  have HC : Hid (∀ W, Calls Try.prog 41 #[stv s] W fun e w' => e = .returned (.int .i64 0) ∧ w' = W.alloc (sbox s)) := Lib.hid (fun W => by have := check5 s W; rw [h] at this; exact this)
  have HF := Lib.hid (flags5 s)
  have HR := Lib.hid (r5_yes h)
  have L1 := Lib.hid (len_h1 s)
  have L2 := Lib.hid (len_h2 s)
  have L3 := Lib.hid (len_h3 s)
  have L4 := Lib.hid (len_h4 s)
  have L5 := Lib.hid (len_h5 s)
  have L6 := Lib.hid (len_h6 (r5_yes h).2.2.2.2)
  have L7 := Lib.hid (len_put5 (r5_yes h).2.2.2.2)
  have FL := flg_lt s.f s.z
  have HP1 : Hid (h1 s = [83] ++ fld 1 (flg s.f s.z : Nat)) := Lib.hid rfl
  have HP2 : Hid (h2 s = h1 s ++ fld 4 s.e) := Lib.hid rfl
  have HP3 : Hid (h3 s = h2 s ++ fld 8 s.q) := Lib.hid rfl
  have HP4 : Hid (h4 s = h3 s ++ fld 2 (s.d.size : Nat)) := Lib.hid rfl
  have HP5 : Hid (h5 s = h4 s ++ s.d.data.toList) := Lib.hid rfl
  have HP6 : Hid (h6 s = h5 s ++ List.replicate (108 - s.d.size) 0) := Lib.hid rfl
  have HP7 : Hid (put5 s = h6 s ++ fld 4 (csum (h6 s) : Nat)) := Lib.hid rfl
  obtain ⟨e, q, f, z, d⟩ := s
  unfold stv sbox at *
  simp only at HC HF HR FL HP1 HP2 HP3 HP4 HP5 HP6 HP7 L5 ⊢
  generalize h1 ⟨e, q, f, z, d⟩ = g1 at *
  generalize h2 ⟨e, q, f, z, d⟩ = g2 at *
  generalize h3 ⟨e, q, f, z, d⟩ = g3 at *
  generalize h4 ⟨e, q, f, z, d⟩ = g4 at *
  generalize h5 ⟨e, q, f, z, d⟩ = g5 at *
  generalize h6 ⟨e, q, f, z, d⟩ = g6 at *
  generalize put5 ⟨e, q, f, z, d⟩ = g7 at *
  generalize flg f z = n at *
  have hds : (d.size : Int) ≤ 108 := by have := HR.out.2.2.2.2; omega
  have hn3 : (n : Int) ≤ 3 := by omega
  have hk : Hid ((108 : Int) - (d.size : Int) = ((108 - d.size : Nat) : Int)) := Lib.hid (by omega)
  clear h FL
  go_enter Try.func42, Try.ntmps42
  go_wp2_with fail
  refine (HC.out _).mono ?_
  rintro e w' ⟨rfl, rfl⟩
  have K1 := Lib.hid ((Blk.new w 81 [.int .i64 e, .int .i64 q, .bool f, .bool z, .string d]).alloc (.cells #[.int .i64 e, .int .i64 q, .bool f, .bool z, .string d] 81))
  have B1 := Lib.hid (((Below.refl w.heap.size w).alloc (Nat.le_refl _) (.cells #[.int .i64 e, .int .i64 q, .bool f, .bool z, .string d] 81)).alloc (by simp) (.cells #[.int .i64 e, .int .i64 q, .bool f, .bool z, .string d] 81))
  have Z1 : Hid (w.heap.size < ((w.alloc (.cells #[.int .i64 e, .int .i64 q, .bool f, .bool z, .string d] 81)).alloc (.cells #[.int .i64 e, .int .i64 q, .bool f, .bool z, .string d] 81)).heap.size) := Lib.hid (by simp; omega)
  go_wp2_with fail
  refine (put8_any 0 none 0 [] 83 _ (Rd.nil _ _ _) (Nat.zero_le _) (by simp)).mono ?_
  rintro e2 w2 ⟨v2, rfl, ho, hb⟩
  rw [show ([] : List UInt8) ++ fld 1 83 = [83] from by decide] at ho
  have O2 := Lib.hid ho
  have K2 := Lib.hid (K1.out.below hb K1.out.lt)
  have C2 := Lib.hid (chain_ B1.out (Nat.le_of_lt Z1.out) hb)
  clear ho hb
  have c0 := K2.out.cell 0
  have c1 := K2.out.cell 1
  have c2 := K2.out.cell 2
  have c3 := K2.out.cell 3
  have c4 := K2.out.cell 4
  simp only [List.getElem?_cons_zero, List.getElem?_cons_succ] at c0 c1 c2 c3 c4
  go_wp2_with fail
  refine (HF.out _).mono ?_
  rintro e3 w3 ⟨rfl, rfl⟩
  have C2' := Lib.hid (chain_ C2.out.1 C2.out.2 ((Below.refl w2.heap.size w2).alloc (Nat.le_refl _) (.cells #[.int .i64 e, .int .i64 q, .bool f, .bool z, .string d] 81)))
  clear c0 c1 c2 c3 c4
  go_wp2_with fail
  refine (put8_own (O2.out.alloc _) n (by simp)).mono ?_
  rintro e3 w3 ⟨v3, rfl, ho, hb⟩
  rw [← HP1.out] at ho
  have O3 := Lib.hid ho
  have K3 := Lib.hid ((K2.out.alloc _).below hb (K2.out.alloc _).lt)
  have C3 := Lib.hid (chain_ C2'.out.1 C2'.out.2 hb)
  clear ho hb
  have c0_3 := K3.out.cell 0
  have c1_3 := K3.out.cell 1
  have c4_3 := K3.out.cell 4
  simp only [List.getElem?_cons_zero, List.getElem?_cons_succ] at c0_3 c1_3 c4_3
  go_wp2_with fail
  refine (put32_own O3.out e (by rw [L1.out]; decide)).mono ?_
  rintro e4 w4 ⟨v4, rfl, ho, hb⟩
  rw [← HP2.out] at ho
  have O4 := Lib.hid ho
  have K4 := Lib.hid (K3.out.below hb K3.out.lt)
  have C4 := Lib.hid (chain_ C3.out.1 C3.out.2 hb)
  have S4 := Lib.hid hb.size
  clear ho hb c0_3 c1_3 c4_3
  have c0_4 := K4.out.cell 0
  have c1_4 := K4.out.cell 1
  have c4_4 := K4.out.cell 4
  simp only [List.getElem?_cons_zero, List.getElem?_cons_succ] at c0_4 c1_4 c4_4
  go_wp2_with fail
  refine (put64_own O4.out q (by rw [L2.out]; decide)).mono ?_
  rintro e5 w5 ⟨v5, rfl, ho, hb⟩
  rw [← HP3.out] at ho
  have O5 := Lib.hid ho
  have K5 := Lib.hid (K4.out.below hb K4.out.lt)
  have C5 := Lib.hid (chain_ C4.out.1 C4.out.2 hb)
  have S5 := Lib.hid hb.size
  clear ho hb c0_4 c1_4 c4_4
  have c0_5 := K5.out.cell 0
  have c1_5 := K5.out.cell 1
  have c4_5 := K5.out.cell 4
  simp only [List.getElem?_cons_zero, List.getElem?_cons_succ] at c0_5 c1_5 c4_5
  go_wp2_with fail
  refine (put16_own O5.out (d.size : Nat) (by rw [L3.out]; decide)).mono ?_
  rintro e6 w6 ⟨v6, rfl, ho, hb⟩
  rw [← HP4.out] at ho
  have O6 := Lib.hid ho
  have K6 := Lib.hid (K5.out.below hb K5.out.lt)
  have C6 := Lib.hid (chain_ C5.out.1 C5.out.2 hb)
  have S6 := Lib.hid hb.size
  clear ho hb c0_5 c1_5 c4_5
  have c0_6 := K6.out.cell 0
  have c1_6 := K6.out.cell 1
  have c4_6 := K6.out.cell 4
  simp only [List.getElem?_cons_zero, List.getElem?_cons_succ] at c0_6 c1_6 c4_6
  have O6' := Lib.hid (own_low5 (B' := w.heap.size + 1) O6.out K5.out.lt)
  clear O6
  go_wp2_with (first
    | (at_builtin; refine Lib.wpList_append_own_string _ rfl _ _ 53 9 rfl (w.heap.size + 1) 5 i0 Try.underlying53 Try.underlying9 hi0 hy1 hy2 hy3 _ g4.length _ rfl O6'.out d rfl (by unfold maxLen; rw [L4.out]; have := HR.out.2.2.2.2; omega) (by rw [L4.out]; have := HR.out.2.2.2.2; omega) K6.out.lt ?_
       intro v7 w7 ho hg _
       rw [show g4.length + d.size = g5.length from by rw [L5.out, L4.out], show bv g4 ++ Lib.strCells d = bv g5 from by rw [HP5.out, bv_app]; rfl] at ho
       have O7 := Lib.hid ho
       have b7 := grown_below hg O6'.out K6.out.lt
       have C7 : Hid (Below w.heap.size w w7 ∧ w.heap.size ≤ w7.heap.size) := Lib.hid ⟨C6.out.1.trans (b7.mono (Nat.le_succ _)), Nat.le_trans C6.out.2 b7.size⟩
       have K7 := Lib.hid (K6.out.below b7 (Nat.lt_succ_self _))
       have c4_7 := K7.out.cell 4
       simp only [List.getElem?_cons_zero, List.getElem?_cons_succ] at c4_7
       clear ho hg c0_6 c1_6 c4_6 b7)
    | (at_builtin; refine wpList_app_zeros_ rfl _ _ 53 3 rfl (w.heap.size + 1) 5 i0 Try.underlying53 Try.underlying3 hi0 hy1 hy2 hy3 _ g5 (by rw [L5.out]; omega) (108 - d.size) _ hk.out rfl rfl O7.out (by rw [L5.out]; have := HR.out.2.2.2.2; omega) K7.out.lt ?_
       intro v8 w8 ho hg
       rw [← HP6.out] at ho
       have O8 := Lib.hid ho
       have b8 := grown_below hg O7.out K7.out.lt
       have C8 : Hid (Below w.heap.size w w8 ∧ w.heap.size ≤ w8.heap.size) := Lib.hid ⟨C7.out.1.trans (b8.mono (Nat.le_succ _)), Nat.le_trans C7.out.2 b8.size⟩
       clear ho hg c4_7 b8))
  refine (sum_any _ g6 _ (by rw [L6.out]; decide) (Sl.of_own O8.out)).mono ?_
  rintro e9 w9 ⟨rfl, rfl⟩
  go_wp2_with fail
  refine (put32_own O8.out (csum g6 : Nat) (by rw [L6.out]; decide)).mono ?_
  rintro e9 w9 ⟨v9, rfl, ho, hb⟩
  rw [← HP7.out, L7.out] at ho
  have O9 := Lib.hid ho
  have C9 := Lib.hid (chain_ C8.out.1 C8.out.2 hb)
  clear ho hb
  go_wp2_with fail
  go_ret2
  exact ⟨_, rfl, own_low5 O9.out C8.out.2, C9.out.1⟩
end Go.Proofs.Ythhmodbggngelaa
