/- The walk of ambrylaw05.SlotBack. -/
import Derived.Test.YtpccelebidiekaaSlotWritesW
namespace Go.Proofs.Ytpccelebidiekaa
open Go.RowKit
set_option linter.unusedVariables false
set_option maxRecDepth 100000

set_option maxHeartbeats 4000000 in
theorem slotBack_walk (s : St) (v : Value) (l : List UInt8) (w : World) (_ : (Lit.int .i64 s.e).wf = true) (_ : (Lit.int .i64 s.q).wf = true) (hs : Sl w w.heap.size v l) (hb : l.length ≤ 140737488351232) :
    Calls Try.prog 6 #[stv s, v] w fun e w' => e = .returned (.bool true) ∧ Below w.heap.size w w' := by
  have HS := Lib.hid hs
  obtain ⟨A, cap, rfl, hr0⟩ := hs
  clear hr0
  have HR := Lib.hid (fun v W l (h : Sl W W.heap.size v l) => read5_any v l W h)
  have HC := Lib.hid (check5 s)
  obtain ⟨bl, bx, hb1, hb2, hbc⟩ := bytes_both s
  have HB := Lib.hid hbc
  have z5 := bytes_same5 s.d
  have y5 : (s.d.toList != s.d.toList) = false := by simp
  have z6 : ((⟨l.toArray⟩ : ByteArray).toList == (⟨l.toArray⟩ : ByteArray).toList) = true := str_same ⟨l.toArray⟩
  cases hr : r5 s
  · obtain ⟨rfl, rfl⟩ := hb2 hr
    rw [hr] at HC
    have hC0 : (if false = true then (0 : Int) else 2) = 2 := rfl
    rw [hC0] at HC
    clear hb1 hb2 hbc
    cases hx : read5 l with
    | none =>
      have HX := Lib.hid hx
      clear hx
      unfold stv sbox at *
      go_enter Try.func6, Try.ntmps6
      go_wp2_with fail
      refine (HB.out _).mono ?_
      rintro e1 w1 ⟨A1, c1, rfl, s1, hb1⟩
      have S1 := Lib.hid s1
      have HB1 := Lib.hid (((Below.refl w.heap.size w).alloc (Nat.le_refl _) (sbox s)).trans (hb1.mono (by rw [World.size_alloc]; exact Nat.le_succ _)))
      have hlt : w.heap.size < w1.heap.size := by have := hb1.size; rw [World.size_alloc] at this; omega
      have P1 := Lib.hid (box5_cells (s := s) hb1)
      obtain ⟨p0, p1, p2, p3, p4⟩ := P1.out
      clear s1 hb1
      go_wp2_with fail
      refine (HC.out _).mono ?_
      rintro e2 w2 ⟨rfl, rfl⟩
      have HB2 := Lib.hid (HB1.out.alloc HB1.out.size (sbox s))
      clear p0 p1 p2 p3 p4
      go_wp2_with fail
      refine (HR.out _ _ l ((HS.out.below HB2.out (Nat.le_refl _)).more (HB2.out.size))).mono ?_
      rintro e5 w5 ⟨rfl, hb5⟩
      rw [HX.out]
      unfold rdo
      have HB5 := Lib.hid (bthen HB2.out (HB2.out.size) hb5)
      clear hb5
      go_wp2_with fail
      refine (lives5_any _).mono ?_
      rintro e6 w6 ⟨rfl, hb6⟩
      have HB6 := Lib.hid (bthen (HB5.out.alloc HB5.out.size (sbox ⟨0, 0, false, false, ⟨#[]⟩⟩)) (by have := HB5.out.size; rw [World.size_alloc]; omega) hb6)
      clear hb6
      go_wp2_with fail
      go_ret
      exact ⟨rfl, HB6.out⟩
    | some t =>
      have hre := read_is hx
      have HT : Hid (∀ w, Calls Try.prog 12 #[.agg #[.int .i64 t.e, .int .i64 t.q, .bool t.f, .bool t.z, .string t.d]] w fun r w' => ∃ A c, r = .returned (.tuple #[.slice A l.length c, .int .i64 0]) ∧ Sl w' w'.heap.size (.slice A l.length c) l ∧ Below w.heap.size w w') := Lib.hid (by
        obtain ⟨tl, tx, t1, t2, t3⟩ := bytes_both t
        obtain ⟨rfl, rfl⟩ := t1 hre.1
        rw [hre.2.1] at t3
        exact t3)
      clear hre
      have HX := Lib.hid hx
      clear hx
      unfold stv sbox at *
      go_enter Try.func6, Try.ntmps6
      go_wp2_with fail
      refine (HB.out _).mono ?_
      rintro e1 w1 ⟨A1, c1, rfl, s1, hb1⟩
      have S1 := Lib.hid s1
      have HB1 := Lib.hid (((Below.refl w.heap.size w).alloc (Nat.le_refl _) (sbox s)).trans (hb1.mono (by rw [World.size_alloc]; exact Nat.le_succ _)))
      have hlt : w.heap.size < w1.heap.size := by have := hb1.size; rw [World.size_alloc] at this; omega
      have P1 := Lib.hid (box5_cells (s := s) hb1)
      obtain ⟨p0, p1, p2, p3, p4⟩ := P1.out
      clear s1 hb1
      go_wp2_with fail
      refine (HC.out _).mono ?_
      rintro e2 w2 ⟨rfl, rfl⟩
      have HB2 := Lib.hid (HB1.out.alloc HB1.out.size (sbox s))
      clear p0 p1 p2 p3 p4
      go_wp2_with fail
      refine (HR.out _ _ l ((HS.out.below HB2.out (Nat.le_refl _)).more (HB2.out.size))).mono ?_
      rintro e5 w5 ⟨rfl, hb5⟩
      rw [HX.out]
      unfold rdo stv
      have HB5 := Lib.hid (bthen HB2.out (HB2.out.size) hb5)
      clear hb5
      go_wp2_with fail
      refine (HT.out _).mono ?_
      rintro e6 w6 ⟨A6, c6, rfl, s6, hb6⟩
      have HB6 := Lib.hid (bthen (HB5.out.alloc HB5.out.size (sbox t)) (by have := HB5.out.size; rw [World.size_alloc]; omega) hb6)
      have cv1 := sl_conv s6
      have cv2 := sl_conv (HS.out.below HB6.out (Nat.le_refl _))
      clear s6 hb6
      go_wp2_with fail
      refine (lives5_any _).mono ?_
      rintro e7 w7 ⟨rfl, hb7⟩
      have HB7 := Lib.hid (bthen HB6.out HB6.out.size hb7)
      clear hb7 cv1 cv2
      go_wp2_with fail
      go_ret
      exact ⟨rfl, HB7.out⟩
  · obtain ⟨rfl, rfl⟩ := hb1 hr
    have HRP := Lib.hid (read_put hr)
    have hln := len_put5 (r5_yes hr).2.2.2.2
    have hl0 : ((put5 s).length : Int) = 128 := by rw [hln]; rfl
    clear hln hr
    generalize put5 s = L at *
    clear hb1 hb2 hbc
    cases hx : read5 l with
    | none =>
      have HX := Lib.hid hx
      clear hx
      unfold stv sbox at *
      go_enter Try.func6, Try.ntmps6
      go_wp2_with fail
      refine (HB.out _).mono ?_
      rintro e1 w1 ⟨A1, c1, rfl, s1, hb1⟩
      have S1 := Lib.hid s1
      have HB1 := Lib.hid (((Below.refl w.heap.size w).alloc (Nat.le_refl _) (sbox s)).trans (hb1.mono (by rw [World.size_alloc]; exact Nat.le_succ _)))
      have hlt : w.heap.size < w1.heap.size := by have := hb1.size; rw [World.size_alloc] at this; omega
      have P1 := Lib.hid (box5_cells (s := s) hb1)
      clear s1 hb1
      go_wp2_with fail
      refine (HR.out _ _ L S1.out).mono ?_
      rintro e2 w2 ⟨rfl, hb2⟩
      rw [HRP.out]
      unfold rdo stv
      have HB2 := Lib.hid ((bthen HB1.out HB1.out.size hb2).alloc (Nat.le_trans HB1.out.size hb2.size) (sbox s))
      obtain ⟨p0, p1, p2, p3, p4⟩ := P1.out
      have q0 := ((hb2.alloc hb2.size (sbox s)).cell (p := ⟨w.heap.size, 0, none⟩) hlt).trans p0
      have q1 := ((hb2.alloc hb2.size (sbox s)).cell (p := ⟨w.heap.size, 1, none⟩) hlt).trans p1
      have q2 := ((hb2.alloc hb2.size (sbox s)).cell (p := ⟨w.heap.size, 2, none⟩) hlt).trans p2
      have q3 := ((hb2.alloc hb2.size (sbox s)).cell (p := ⟨w.heap.size, 3, none⟩) hlt).trans p3
      have q4 := ((hb2.alloc hb2.size (sbox s)).cell (p := ⟨w.heap.size, 4, none⟩) hlt).trans p4
      clear p0 p1 p2 p3 p4 hb2
      unfold sbox at q0 q1 q2 q3 q4
      go_wp2_with fail
      refine (HR.out _ _ l ((HS.out.below HB2.out (Nat.le_refl _)).more (HB2.out.size))).mono ?_
      rintro e5 w5 ⟨rfl, hb5⟩
      rw [HX.out]
      unfold rdo
      have HB5 := Lib.hid (bthen HB2.out (HB2.out.size) hb5)
      clear hb5
      go_wp2_with fail
      refine (lives5_any _).mono ?_
      rintro e6 w6 ⟨rfl, hb6⟩
      have HB6 := Lib.hid (bthen (HB5.out.alloc HB5.out.size (sbox ⟨0, 0, false, false, ⟨#[]⟩⟩)) (by have := HB5.out.size; rw [World.size_alloc]; omega) hb6)
      clear hb6
      go_wp2_with fail
      go_ret
      exact ⟨rfl, HB6.out⟩
    | some t =>
      have hre := read_is hx
      have HT : Hid (∀ w, Calls Try.prog 12 #[.agg #[.int .i64 t.e, .int .i64 t.q, .bool t.f, .bool t.z, .string t.d]] w fun r w' => ∃ A c, r = .returned (.tuple #[.slice A l.length c, .int .i64 0]) ∧ Sl w' w'.heap.size (.slice A l.length c) l ∧ Below w.heap.size w w') := Lib.hid (by
        obtain ⟨tl, tx, t1, t2, t3⟩ := bytes_both t
        obtain ⟨rfl, rfl⟩ := t1 hre.1
        rw [hre.2.1] at t3
        exact t3)
      clear hre
      have HX := Lib.hid hx
      clear hx
      unfold stv sbox at *
      go_enter Try.func6, Try.ntmps6
      go_wp2_with fail
      refine (HB.out _).mono ?_
      rintro e1 w1 ⟨A1, c1, rfl, s1, hb1⟩
      have S1 := Lib.hid s1
      have HB1 := Lib.hid (((Below.refl w.heap.size w).alloc (Nat.le_refl _) (sbox s)).trans (hb1.mono (by rw [World.size_alloc]; exact Nat.le_succ _)))
      have hlt : w.heap.size < w1.heap.size := by have := hb1.size; rw [World.size_alloc] at this; omega
      have P1 := Lib.hid (box5_cells (s := s) hb1)
      clear s1 hb1
      go_wp2_with fail
      refine (HR.out _ _ L S1.out).mono ?_
      rintro e2 w2 ⟨rfl, hb2⟩
      rw [HRP.out]
      unfold rdo stv
      have HB2 := Lib.hid ((bthen HB1.out HB1.out.size hb2).alloc (Nat.le_trans HB1.out.size hb2.size) (sbox s))
      obtain ⟨p0, p1, p2, p3, p4⟩ := P1.out
      have q0 := ((hb2.alloc hb2.size (sbox s)).cell (p := ⟨w.heap.size, 0, none⟩) hlt).trans p0
      have q1 := ((hb2.alloc hb2.size (sbox s)).cell (p := ⟨w.heap.size, 1, none⟩) hlt).trans p1
      have q2 := ((hb2.alloc hb2.size (sbox s)).cell (p := ⟨w.heap.size, 2, none⟩) hlt).trans p2
      have q3 := ((hb2.alloc hb2.size (sbox s)).cell (p := ⟨w.heap.size, 3, none⟩) hlt).trans p3
      have q4 := ((hb2.alloc hb2.size (sbox s)).cell (p := ⟨w.heap.size, 4, none⟩) hlt).trans p4
      clear p0 p1 p2 p3 p4 hb2
      unfold sbox at q0 q1 q2 q3 q4
      go_wp2_with fail
      refine (HR.out _ _ l ((HS.out.below HB2.out (Nat.le_refl _)).more (HB2.out.size))).mono ?_
      rintro e5 w5 ⟨rfl, hb5⟩
      rw [HX.out]
      unfold rdo stv
      have HB5 := Lib.hid (bthen HB2.out (HB2.out.size) hb5)
      clear hb5
      go_wp2_with fail
      refine (HT.out _).mono ?_
      rintro e6 w6 ⟨A6, c6, rfl, s6, hb6⟩
      have HB6 := Lib.hid (bthen (HB5.out.alloc HB5.out.size (sbox t)) (by have := HB5.out.size; rw [World.size_alloc]; omega) hb6)
      have cv1 := sl_conv s6
      have cv2 := sl_conv (HS.out.below HB6.out (Nat.le_refl _))
      clear s6 hb6
      go_wp2_with fail
      refine (lives5_any _).mono ?_
      rintro e7 w7 ⟨rfl, hb7⟩
      have HB7 := Lib.hid (bthen HB6.out HB6.out.size hb7)
      clear hb7 cv1 cv2
      go_wp2_with fail
      go_ret
      exact ⟨rfl, HB7.out⟩
end Go.Proofs.Ytpccelebidiekaa
