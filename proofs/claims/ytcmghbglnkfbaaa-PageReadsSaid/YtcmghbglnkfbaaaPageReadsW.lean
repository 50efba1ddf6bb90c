/- The walk of ambrylaw08.PageReads. -/
import Derived.Test.YtcmghbglnkfbaaaPgS6
import Derived.Test.YtcmghbglnkfbaaaFrame
namespace Go.Proofs.Ytcmghbglnkfbaaa
open Go.RowKit
set_option linter.unusedVariables false
set_option maxRecDepth 100000

set_option maxHeartbeats 4000000 in
theorem pageReads_walk (v : Value) (l : List UInt8) (w : World) (hs : Sl w w.heap.size v l) (hb : l.length ≤ 140737488351232) :
    Calls Try.prog 3 #[v] w fun e w' => e = .returned (.bool true) ∧ Below w.heap.size w w' := by
  obtain ⟨i0, hi, hz0, hz1, hz2⟩ := info_parts Try.info5
  have HS := Lib.hid hs
  obtain ⟨A, cap, rfl, hr⟩ := hs
  clear hr
  have hsm := rd8_small l
  have HR1 := Lib.hid (fun v W (h : Sl W W.heap.size v l) => read_any W.heap.size v l W h (Nat.le_refl _))
  have HR2 := Lib.hid (fun W => refRead_any ⟨l.toArray⟩ l rfl W)
  generalize (rd8 l).1 = n at *
  generalize (rd8 l).2 = x at *
  have hf := hsm.1
  have z6 : ((x : Int) == (x : Int)) = true := by simp
  have HSM := Lib.hid (fun A1 c1 A2 c2 A3 c3 B1 d1 B2 d2 B3 d3 W (h : No W A1 c1 A2 c2 A3 c3 n) (g : No W B1 d1 B2 d2 B3 d3 n) => refSame_any n A1 c1 A2 c2 A3 c3 B1 d1 B2 d2 B3 d3 W h g (Nat.le_trans hf.nk (by decide)) (Nat.le_trans hf.nv (by decide)) (Nat.le_trans hf.nd (by decide)))
  have HLV := Lib.hid (fun W => lives8 W)
  clear hf hsm
  obtain ⟨leaf, KL, VL, ZL⟩ := n
  simp only [nv8] at HR1 HR2 HSM
  generalize KL.length = nk at *
  generalize VL.length = nv at *
  generalize ZL.length = nd at *
  go_enter Try.func3, Try.ntmps3
  go_wp2_with (at_builtin; refine wpList_app_bytes _ rfl _ _ 22 rfl w.heap.size w.heap.size 5 i0 Try.underlying22 hi hz0 hz1 hz2 (.slice (some ⟨w.heap.size, 0, none⟩) 0 0) (.slice A l.length cap) [] l rfl rfl (own_empty w w.heap.size 5 (Nat.le_refl _)) (HS.out.below ((Below.refl w.heap.size w).alloc (Nat.le_refl _) _) (Nat.le_refl _)) (by simp; omega) (by simp) ?_; intro v5 w5 ho5 hg5; have hb5 := grown_below hg5 (own_empty w w.heap.size 5 (Nat.le_refl _)) (by simp); have HO := Lib.hid ho5; have HB5 : Hid (Below w.heap.size w w5) := ((Below.refl w.heap.size w).alloc (Nat.le_refl _) _).trans hb5; clear ho5 hg5 hb5)
  refine (HR1.out v5 _ (Sl.of_own HO.out)).mono ?_
  rintro e w1 ⟨A1, c1, A2, c2, A3, c3, rfl, hn, ht⟩
  have HB1 := Lib.hid (bthen HB5.out HB5.out.size (ht.below (Nat.le_refl _) (fun k hk => hk.elim)))
  have BN := Blk.new w1 26 [.bool leaf, .slice A1 nk c1, .slice A2 nv c2, .slice A3 nd c3]
  have HN1 := Lib.hid (hn.turn ((Turn.refl (fun _ => False) w1).alloc (.cells #[.bool leaf, .slice A1 nk c1, .slice A2 nv c2, .slice A3 nd c3] 26)))
  have hcv := sl_conv (HS.out.below (HB1.out.alloc HB1.out.size (.cells #[.bool leaf, .slice A1 nk c1, .slice A2 nv c2, .slice A3 nd c3] 26)) (Nat.le_refl _))
  have HBN := Lib.hid BN
  have hg1 := HB1.out.size
  clear ht hn BN HB5 HO
  go_wp2_with fail
  refine (HR2.out _).mono ?_
  rintro e w2 ⟨B1, d1, B2, d2, B3, d3, rfl, hn, ht⟩
  have hz2 := ht.size
  rw [World.size_alloc] at hz2
  have HB2 := Lib.hid (bthen (HB1.out.alloc HB1.out.size (.cells #[.bool leaf, .slice A1 nk c1, .slice A2 nv c2, .slice A3 nd c3] 26)) (by rw [World.size_alloc]; omega) (ht.below (Nat.le_refl _) (fun k hk => hk.elim)))
  have ta := (Turn.refl (fun _ => False) w2).alloc (.cells #[.bool leaf, .slice B1 nk d1, .slice B2 nv d2, .slice B3 nd d3] 26)
  have HN2 := Lib.hid ((HN1.out.turn ht).turn ta)
  have HM2 := Lib.hid (hn.turn ta)
  have HBN2 := (HBN.out.turn ht (fun h => h)).turn ta (fun h => h)
  have y0 := HBN2.cell 0
  have y1 := HBN2.cell 1
  have y2 := HBN2.cell 2
  have y3 := HBN2.cell 3
  simp only [List.getElem?_cons_zero, List.getElem?_cons_succ] at y0 y1 y2 y3
  have HB3 := Lib.hid (HB2.out.alloc HB2.out.size (.cells #[.bool leaf, .slice B1 nk d1, .slice B2 nv d2, .slice B3 nd d3] 26))
  clear ht hn ta HBN2 hcv
  go_wp2_with fail
  refine (HSM.out _ _ _ _ _ _ _ _ _ _ _ _ _ HN2.out HM2.out).mono ?_
  rintro e w3 ⟨rfl, ht⟩
  have HB4 := Lib.hid (bthen HB3.out HB3.out.size (ht.below (Nat.le_refl _) (fun k hk => hk.elim)))
  clear ht
  go_wp2_with fail
  refine (HLV.out _).mono ?_
  rintro e w4 ⟨rfl, ht⟩
  have HB5 := Lib.hid (bthen HB4.out HB4.out.size (ht.below (Nat.le_refl _) (fun k hk => hk.elim)))
  clear ht
  go_wp2_with fail
  go_ret
  exact ⟨rfl, HB5.out⟩
end Go.Proofs.Ytcmghbglnkfbaaa
