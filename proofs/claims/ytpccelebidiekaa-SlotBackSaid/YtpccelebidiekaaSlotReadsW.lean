/- The walk of ambrylaw05.SlotReads. -/
import Derived.Test.YtpccelebidiekaaSltS
import Derived.Test.YtpccelebidiekaaSltH
import Derived.Test.YtpccelebidiekaaFrame
namespace Go.Proofs.Ytpccelebidiekaa
open Go.RowKit
set_option linter.unusedVariables false
set_option maxRecDepth 100000

theorem rdo_form (o : Option St) : ∃ (s : St) (x : Int), rdo o = .tuple #[stv s, .int .i64 x] := by
  cases o with
  | none => exact ⟨⟨0, 0, false, false, ⟨#[]⟩⟩, 4, rfl⟩
  | some s => exact ⟨s, 0, rfl⟩
theorem box5_cells {w w' : World} {s : St} (hb : Below (w.alloc (sbox s)).heap.size (w.alloc (sbox s)) w') :
    w'.cell? ⟨w.heap.size, 0, none⟩ = some (.int .i64 s.e) ∧ w'.cell? ⟨w.heap.size, 1, none⟩ = some (.int .i64 s.q) ∧ w'.cell? ⟨w.heap.size, 2, none⟩ = some (.bool s.f) ∧ w'.cell? ⟨w.heap.size, 3, none⟩ = some (.bool s.z) ∧ w'.cell? ⟨w.heap.size, 4, none⟩ = some (.string s.d) := by
  have h : Blk (w.alloc (sbox s)) w.heap.size 23 (scells s) := Blk.new w 23 (scells s)
  have h2 := h.below hb (by rw [World.size_alloc]; exact Nat.lt_succ_self _)
  exact ⟨h2.cell 0, h2.cell 1, h2.cell 2, h2.cell 3, h2.cell 4⟩

set_option maxHeartbeats 2000000 in
theorem slotReads_walk (v : Value) (l : List UInt8) (w : World) (hs : Sl w w.heap.size v l) (hb : l.length ≤ 140737488351232) :
    Calls Try.prog 4 #[v] w fun e w' => e = .returned (.bool true) ∧ Below w.heap.size w w' := by
  obtain ⟨i0, hi, hz0, hz1, hz2⟩ := info_parts Try.info5
  have HS := Lib.hid hs
  obtain ⟨A, cap, rfl, hr⟩ := hs
  clear hr
  obtain ⟨s, x, hsx⟩ := rdo_form (read5 l)
  have HR1 := Lib.hid (fun v W (h : Sl W W.heap.size v l) => read5_any v l W h)
  have HR2 := Lib.hid (fun W => refRead5_any ⟨l.toArray⟩ l rfl W)
  rw [hsx] at HR1 HR2
  clear hsx
  unfold stv at HR1 HR2
  have z1 : (s.e == s.e) = true := by simp
  have z2 : (s.q == s.q) = true := by simp
  have z3 : (s.f == s.f) = true := by simp
  have z4 : (s.z == s.z) = true := by simp
  have z5 := bytes_same5 s.d
  have z6 : (x == x) = true := by simp
  go_enter Try.func4, Try.ntmps4
  go_wp2_with (at_builtin; refine wpList_app_bytes _ rfl _ _ 24 rfl w.heap.size w.heap.size 5 i0 Try.underlying24 hi hz0 hz1 hz2 (.slice (some ⟨w.heap.size, 0, none⟩) 0 0) (.slice A l.length cap) [] l rfl rfl (own_empty w w.heap.size 5 (Nat.le_refl _)) (HS.out.below ((Below.refl w.heap.size w).alloc (Nat.le_refl _) _) (Nat.le_refl _)) (by simp; omega) (by simp) ?_; intro v5 w5 ho5 hg5; have hb5 := grown_below hg5 (own_empty w w.heap.size 5 (Nat.le_refl _)) (by simp); have HO := Lib.hid ho5; have HB5 : Hid (Below w.heap.size w w5) := ((Below.refl w.heap.size w).alloc (Nat.le_refl _) _).trans hb5; clear ho5 hg5 hb5)
  refine (HR1.out v5 _ (Sl.of_own HO.out)).mono ?_
  rintro e w1 ⟨rfl, hb1⟩
  have HB1 := Lib.hid (bthen HB5.out HB5.out.size hb1)
  have hcv := sl_conv (HS.out.below (HB1.out.alloc HB1.out.size (sbox s)) (Nat.le_refl _))
  unfold sbox at hcv
  clear hb1
  go_wp2_with fail
  refine (HR2.out _).mono ?_
  rintro e w2 ⟨rfl, hb2⟩
  have HB2 := Lib.hid (bthen (HB1.out.alloc HB1.out.size (sbox s)) (by have := HB1.out.size; rw [World.size_alloc]; omega) hb2)
  have hlt : w1.heap.size < w2.heap.size := by have := hb2.size; rw [World.size_alloc] at this; omega
  obtain ⟨p0, p1, p2, p3, p4⟩ := box5_cells (s := s) hb2
  clear hb2 hcv
  go_wp2_with fail
  refine (lives5_any _).mono ?_
  rintro e w3 ⟨rfl, hb3⟩
  have HB3 := Lib.hid (bthen (HB2.out.alloc HB2.out.size (sbox s)) (by have := HB2.out.size; rw [World.size_alloc]; omega) hb3)
  clear hb3
  go_wp2_with fail
  go_ret
  exact ⟨rfl, HB3.out⟩
end Go.Proofs.Ytpccelebidiekaa
