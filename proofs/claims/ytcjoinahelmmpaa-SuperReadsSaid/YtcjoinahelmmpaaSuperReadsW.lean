/- The walk of ambrylaw11.SuperReads. -/
import Derived.Test.YtcjoinahelmmpaaSuI
namespace Go.Proofs.Ytcjoinahelmmpaa
open Go.RowKit
set_option linter.unusedVariables false
set_option maxRecDepth 100000

theorem rdU_form (o : Option Sup) : ∃ (s : Sup) (x : Int), rdU o = .tuple #[uv s, .int .i64 x] := by
  cases o with
  | none => exact ⟨zU, 4, rfl⟩
  | some s => exact ⟨s, 0, rfl⟩
set_option maxHeartbeats 2000000 in
theorem superReads_walk (v : Value) (l : List UInt8) (w : World) (hs : Sl w w.heap.size v l) (hb : l.length ≤ 140737488351232) :
    Calls Try.prog 4 #[v] w fun e w' => e = .returned (.bool true) ∧ Below w.heap.size w w' := by
  obtain ⟨i0, hi, hz0, hz1, hz2⟩ := info_parts Try.info5
  have HS := Lib.hid hs
  obtain ⟨A, cap, rfl, hr⟩ := hs
  clear hr
  obtain ⟨s, x, hsx⟩ := rdU_form (readU l)
  have HR1 := Lib.hid (fun v W (h : Sl W W.heap.size v l) => readU_any v l W h)
  have HR2 := Lib.hid (fun W => refReadU_any ⟨l.toArray⟩ l rfl W)
  have HL := Lib.hid lives11_any
  rw [hsx] at HR1 HR2
  clear hsx
  obtain ⟨g, r, t, e, lm, m⟩ := s
  unfold uv at HR1 HR2
  simp only at HR1 HR2
  have z1 : (g == g) = true := by simp
  have z2 : (r == r) = true := by simp
  have z3 : (t == t) = true := by simp
  have z4 : (e == e) = true := by simp
  have z5 : (lm == lm) = true := by simp
  have z6 : (m == m) = true := by simp
  have z7 : (x == x) = true := by simp
  go_enter Try.func4, Try.ntmps4
  go_wp2_with (at_builtin; refine wpList_app_bytes _ rfl _ _ 24 rfl w.heap.size w.heap.size 5 i0 Try.underlying24 hi hz0 hz1 hz2 (.slice (some ⟨w.heap.size, 0, none⟩) 0 0) (.slice A l.length cap) [] l rfl rfl (own_empty w w.heap.size 5 (Nat.le_refl _)) (HS.out.below ((Below.refl w.heap.size w).alloc (Nat.le_refl _) _) (Nat.le_refl _)) (by simp; omega) (by simp) ?_; intro v5 w5 ho5 hg5; have hb5 := grown_below hg5 (own_empty w w.heap.size 5 (Nat.le_refl _)) (by simp); have HO := Lib.hid ho5; have HB5 : Hid (Below w.heap.size w w5) := ((Below.refl w.heap.size w).alloc (Nat.le_refl _) _).trans hb5; clear ho5 hg5 hb5)
  refine (HR1.out v5 _ (Sl.of_own HO.out)).mono ?_
  rintro e1 w1 ⟨rfl, ht⟩
  have HB1 := Lib.hid (HB5.out.trans (ht.below HB5.out.size (fun k h => h.elim)))
  have hcv := sl_conv (HS.out.below (HB1.out.alloc HB1.out.size (ubox ⟨g, r, t, e, lm, m⟩)) (Nat.le_refl _))
  unfold ubox at hcv
  simp only at hcv
  have A1 := Lib.hid (Blk.new w1 23 [.int .i64 g, .int .i64 r, .int .i64 t, .int .i64 e, .int .i64 lm, .int .i64 m])
  have HB2 := Lib.hid (HB1.out.alloc HB1.out.size (.cells #[.int .i64 g, .int .i64 r, .int .i64 t, .int .i64 e, .int .i64 lm, .int .i64 m] 23))
  clear ht
  go_wp2_with fail
  refine (HR2.out _).mono ?_
  rintro e2 w2 ⟨rfl, ht⟩
  have A2 := Lib.hid ((A1.out.turn ht (fun h => h)).alloc (.cells #[.int .i64 g, .int .i64 r, .int .i64 t, .int .i64 e, .int .i64 lm, .int .i64 m] 23))
  have HB3 := Lib.hid (HB2.out.trans (ht.below HB2.out.size (fun k h => h.elim)))
  have HB4 := Lib.hid (HB3.out.alloc HB3.out.size (.cells #[.int .i64 g, .int .i64 r, .int .i64 t, .int .i64 e, .int .i64 lm, .int .i64 m] 23))
  obtain ⟨p0, p1, p2, p3, p4, p5⟩ := (blk6 A2.out).1
  clear ht hcv
  go_wp2_with fail
  refine (HL.out _).mono ?_
  rintro e3 w3 ⟨rfl, ht⟩
  have HB5' := Lib.hid (HB4.out.trans (ht.below HB4.out.size (fun k h => h.elim)))
  clear ht
  go_wp2_with fail
  go_ret
  exact ⟨rfl, HB5'.out⟩
end Go.Proofs.Ytcjoinahelmmpaa
