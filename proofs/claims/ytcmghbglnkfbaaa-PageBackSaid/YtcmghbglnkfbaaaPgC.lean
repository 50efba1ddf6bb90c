/- Layer 8: the document's Check, and Same of one node twice. -/
import Derived.Test.YtcmghbglnkfbaaaPgB
namespace Go.Proofs.Ytcmghbglnkfbaaa
open Go.RowKit
set_option linter.unusedVariables false
set_option maxRecDepth 100000

theorem Sr.turn {w w' : World} {A : Option Addr} {L : List ByteArray} (h : Sr w A L) (ht : Turn (fun _ => False) w w') : Sr w' A L := fun hp => by
  obtain ⟨b, o, rfl, hb, hc⟩ := h hp
  exact ⟨b, o, rfl, Nat.lt_of_lt_of_le hb ht.size, fun X hX j s hj => hc X (ht.trans hX) j s hj⟩
theorem Nr.turn {w w' : World} {A : Option Addr} {L : List Int} (h : Nr w A L) (ht : Turn (fun _ => False) w w') : Nr w' A L := fun hp => by
  obtain ⟨b, o, rfl, hb, hc⟩ := h hp
  exact ⟨b, o, rfl, Nat.lt_of_lt_of_le hb ht.size, fun X hX j s hj => hc X (ht.trans hX) j s hj⟩
theorem No.turn {w w' : World} {A1 A2 A3 : Option Addr} {c1 c2 c3 : Nat} {n : Nd} (h : No w A1 c1 A2 c2 A3 c3 n) (ht : Turn (fun _ => False) w w') : No w' A1 c1 A2 c2 A3 c3 n := ⟨h.keys.turn ht, h.vals.turn ht, h.kids.turn ht⟩
noncomputable def chk8 (n : Nd) : Int := if st8 n then (if 1024 < size8 n then 5 else 0) else 2
/-- A node's cells. -/
def nc8 (A1 : Option Addr) (c1 : Nat) (A2 : Option Addr) (c2 : Nat) (A3 : Option Addr) (c3 : Nat) (n : Nd) : List Value := [.bool n.leaf, .slice A1 n.keys.length c1, .slice A2 n.vals.length c2, .slice A3 n.kids.length c3]
theorem refCheck_any (n : Nd) (A1 : Option Addr) (c1 : Nat) (A2 : Option Addr) (c2 : Nat) (A3 : Option Addr) (c3 : Nat) (w : World) (h : No w A1 c1 A2 c2 A3 c3 n) (hf : Few8 n) :
    Calls Try.prog 18 #[nv8 A1 c1 A2 c2 A3 c3 n] w fun e w' => e = .returned (.int .i64 (chk8 n)) ∧ Turn (fun _ => False) w w' := by
  have HST := Lib.hid (fun w (h : No w A1 c1 A2 c2 A3 c3 n) => refStands_any n A1 c1 A2 c2 A3 c3 w h hf)
  have HSZ := Lib.hid (fun w (h : No w A1 c1 A2 c2 A3 c3 n) => refSize_any n A1 c1 A2 c2 A3 c3 w h hf)
  have HN := Lib.hid h
  obtain ⟨ck, hck⟩ : ∃ b, chk8 n = b := ⟨_, rfl⟩
  rw [hck]
  unfold chk8 at hck
  generalize st8 n = b at *
  generalize size8 n = z at *
  have HCK := Lib.hid hck
  clear h hf hck
  unfold nv8 at *
  obtain ⟨leaf, K, V, Z⟩ := n
  simp only at *
  generalize K.length = nk at *
  generalize V.length = nv at *
  generalize Z.length = nd at *
  go_enter Try.func18, Try.ntmps18
  go_wp2_with fail
  refine (HST.out _ (HN.out.turn ((Turn.refl _ w).alloc _))).mono ?_
  rintro e w1 ⟨rfl, ht1⟩
  have T1 := Lib.hid (((Turn.refl (fun _ => False) w).alloc _).trans ht1)
  have hB := (Blk.new w 26 [.bool leaf, .slice A1 nk c1, .slice A2 nv c2, .slice A3 nd c3]).turn ht1 (fun h => h)
  have y0 : w1.cell? ⟨w.heap.size, 0, none⟩ = some (.bool leaf) := hB.cell 0
  have y1 : w1.cell? ⟨w.heap.size, 1, none⟩ = some (.slice A1 nk c1) := hB.cell 1
  have y2 : w1.cell? ⟨w.heap.size, 2, none⟩ = some (.slice A2 nv c2) := hB.cell 2
  have y3 : w1.cell? ⟨w.heap.size, 3, none⟩ = some (.slice A3 nd c3) := hB.cell 3
  clear hB ht1
  cases b
  · have h2 : ck = 2 := by rw [← HCK.out]; rfl
    subst h2
    go_wp2_with fail
    go_ret
    exact ⟨rfl, T1.out⟩
  · go_wp2_with fail
    refine (HSZ.out _ (HN.out.turn T1.out)).mono ?_
    rintro e w2 ⟨rfl, ht2⟩
    have T2 := Lib.hid (T1.out.trans ht2)
    clear ht2
    by_cases hz : 1024 < z
    · have h2 : ck = 5 := by rw [← HCK.out]; simp [hz]
      subst h2
      have hq : (1024 : Int) < (z : Int) := by omega
      go_wp2_with fail
      go_ret
      exact ⟨rfl, T2.out⟩
    · have h2 : ck = 0 := by rw [← HCK.out]; simp [hz]
      subst h2
      have hq : ¬ (1024 : Int) < (z : Int) := by omega
      go_wp2_with fail
      go_ret
      exact ⟨rfl, T2.out⟩
theorem bytes_same8 (s : ByteArray) : (s.toList != s.toList) = false := by simp
set_option maxHeartbeats 1000000 in
theorem refSame_any (n : Nd) (A1 : Option Addr) (c1 : Nat) (A2 : Option Addr) (c2 : Nat) (A3 : Option Addr) (c3 : Nat) (B1 : Option Addr) (d1 : Nat) (B2 : Option Addr) (d2 : Nat) (B3 : Option Addr) (d3 : Nat) (w : World)
    (h : No w A1 c1 A2 c2 A3 c3 n) (g : No w B1 d1 B2 d2 B3 d3 n) (hk : n.keys.length ≤ 100000) (hv : n.vals.length ≤ 100000) (hd : n.kids.length ≤ 100000) :
    Calls Try.prog 7 #[nv8 A1 c1 A2 c2 A3 c3 n, nv8 B1 d1 B2 d2 B3 d3 n] w fun e w' => e = .returned (.bool true) ∧ Turn (fun _ => False) w w' := by
  have h1 := Lib.hid h.keys
  have h2 := Lib.hid h.vals
  have h3 := Lib.hid h.kids
  have g1 := Lib.hid g.keys
  have g2 := Lib.hid g.vals
  have g3 := Lib.hid g.kids
  clear h g
  obtain ⟨leaf, K, V, Z⟩ := n
  simp only [nv8] at *
  obtain ⟨nk, hnk⟩ : ∃ k, K.length = k := ⟨_, rfl⟩
  obtain ⟨nv, hnv⟩ : ∃ k, V.length = k := ⟨_, rfl⟩
  obtain ⟨nd, hnd⟩ : ∃ k, Z.length = k := ⟨_, rfl⟩
  have HNK := Lib.hid hnk
  have HNV := Lib.hid hnv
  have HND := Lib.hid hnd
  rw [hnk] at hk ⊢
  rw [hnv] at hv ⊢
  rw [hnd] at hd ⊢
  clear hnk hnv hnd
  have hl0 : (leaf != leaf) = false := by simp
  have hk0 : ((nk : Int) != (nk : Int)) = false := by simp
  have hv0 : ((nv : Int) != (nv : Int)) = false := by simp
  have hd0 : ((nd : Int) != (nd : Int)) = false := by simp
  go_enter Try.func7, Try.ntmps7
  go_wp2_with fail
  go_loopw [5] (fun vi wr => ∃ (j : Nat), j ≤ nk ∧ vi = .int .i64 j ∧ Blk wr w.heap.size 26 [.bool leaf, .slice A1 nk c1, .slice A2 nv c2, .slice A3 nd c3] ∧ Blk wr (w.heap.size + 1) 26 [.bool leaf, .slice B1 nk d1, .slice B2 nv d2, .slice B3 nd d3] ∧ Turn (fun _ => False) w wr) (fun vi _ => nk - (intOf vi).toNat)
  case atStart => exact ⟨0, Nat.zero_le _, rfl, (Blk.new w 26 _).alloc _, Blk.new_ _ 26 _ (World.size_alloc _ _), ((Turn.refl _ w).alloc _).alloc _⟩
  case round =>
    obtain ⟨j, hj, rfl, hB, hC, hT⟩ := hrel
    have BB := Lib.hid hB
    have CC := Lib.hid hC
    have TT := Lib.hid hT
    have y1 : wr.cell? ⟨w.heap.size, 1, none⟩ = some (.slice A1 nk c1) := hB.cell 1
    have y2 : wr.cell? ⟨w.heap.size, 2, none⟩ = some (.slice A2 nv c2) := hB.cell 2
    have y3 : wr.cell? ⟨w.heap.size, 3, none⟩ = some (.slice A3 nd c3) := hB.cell 3
    have x1 : wr.cell? ⟨w.heap.size + 1, 1, none⟩ = some (.slice B1 nk d1) := hC.cell 1
    have x2 : wr.cell? ⟨w.heap.size + 1, 2, none⟩ = some (.slice B2 nv d2) := hC.cell 2
    have x3 : wr.cell? ⟨w.heap.size + 1, 3, none⟩ = some (.slice B3 nd d3) := hC.cell 3
    by_cases hlt : j < nk
    · obtain ⟨t, ht⟩ : ∃ t, K[j]? = some t := ⟨_, List.getElem?_eq_getElem (by rw [HNK.out]; exact hlt)⟩
      obtain ⟨b1, o1, rfl, hb1, hc1⟩ := h1.out (by rw [HNK.out]; omega)
      obtain ⟨b2, o2, rfl, hb2, hc2⟩ := g1.out (by rw [HNK.out]; omega)
      have y4 : wr.cell? ⟨b1, o1 + j, none⟩ = some (.string t) := hc1 wr hT j t ht
      have x4 : wr.cell? ⟨b2, o2 + j, none⟩ = some (.string t) := hc2 wr hT j t ht
      have hs : (t.toList != t.toList) = false := by simp
      have hi1 : (j : Int) < (nk : Int) := by omega
      have hi2 : (0 : Int) ≤ (j : Int) := by omega
      have z3 := wrap_of ((j : Int) + 1) (by omega) (by omega)
      clear hT hB hC hc1 hc2 ht
      go_wp2_with fail
      refine wp_region_still_lit (by kernel_rfl) (by kernel_rfl) ?_
      change wpStill _ _ (World.drew _) _ _ _
      repeat still_step
      refine wpStill_nil ?_
      change Exit.then _ _ _ _ (World.drew _)
      go_wp2_with fail
      go_roundw
      case rel => exact ⟨j + 1, hlt, by simp, BB.out.drew, CC.out.drew, TT.out.drew⟩
      case measure => simp [intOf]; omega
    · have hi1 : ¬ (j : Int) < (nk : Int) := by omega
      clear hT hB hC
      go_wp2_with fail
      go_loopw [6] (fun vi wr => ∃ (j : Nat), j ≤ nv ∧ vi = .int .i64 j ∧ Blk wr w.heap.size 26 [.bool leaf, .slice A1 nk c1, .slice A2 nv c2, .slice A3 nd c3] ∧ Blk wr (w.heap.size + 1) 26 [.bool leaf, .slice B1 nk d1, .slice B2 nv d2, .slice B3 nd d3] ∧ Turn (fun _ => False) w wr) (fun vi _ => nv - (intOf vi).toNat)
      case atStart => exact ⟨0, Nat.zero_le _, rfl, BB.out, CC.out, TT.out⟩
      case round =>
        clear y1 y2 y3 x1 x2 x3 BB CC TT hi1 hlt hj
        obtain ⟨j, hj, rfl, hB, hC, hT⟩ := hrel
        have BB := Lib.hid hB
        have CC := Lib.hid hC
        have TT := Lib.hid hT
        have y1 : wr.cell? ⟨w.heap.size, 1, none⟩ = some (.slice A1 nk c1) := hB.cell 1
        have y2 : wr.cell? ⟨w.heap.size, 2, none⟩ = some (.slice A2 nv c2) := hB.cell 2
        have y3 : wr.cell? ⟨w.heap.size, 3, none⟩ = some (.slice A3 nd c3) := hB.cell 3
        have x1 : wr.cell? ⟨w.heap.size + 1, 1, none⟩ = some (.slice B1 nk d1) := hC.cell 1
        have x2 : wr.cell? ⟨w.heap.size + 1, 2, none⟩ = some (.slice B2 nv d2) := hC.cell 2
        have x3 : wr.cell? ⟨w.heap.size + 1, 3, none⟩ = some (.slice B3 nd d3) := hC.cell 3
        by_cases hlt : j < nv
        · obtain ⟨t, ht⟩ : ∃ t, V[j]? = some t := ⟨_, List.getElem?_eq_getElem (by rw [HNV.out]; exact hlt)⟩
          obtain ⟨b1, o1, rfl, hb1, hc1⟩ := h2.out (by rw [HNV.out]; omega)
          obtain ⟨b2, o2, rfl, hb2, hc2⟩ := g2.out (by rw [HNV.out]; omega)
          have y4 : wr.cell? ⟨b1, o1 + j, none⟩ = some (.string t) := hc1 wr hT j t ht
          have x4 : wr.cell? ⟨b2, o2 + j, none⟩ = some (.string t) := hc2 wr hT j t ht
          have hs : (t.toList != t.toList) = false := by simp
          have hi1 : (j : Int) < (nv : Int) := by omega
          have hi2 : (0 : Int) ≤ (j : Int) := by omega
          have z3 := wrap_of ((j : Int) + 1) (by omega) (by omega)
          clear hT hB hC hc1 hc2 ht
          go_wp2_with fail
          refine wp_region_still_lit (by kernel_rfl) (by kernel_rfl) ?_
          change wpStill _ _ (World.drew _) _ _ _
          repeat still_step
          refine wpStill_nil ?_
          change Exit.then _ _ _ _ (World.drew _)
          go_wp2_with fail
          go_roundw
          case rel => exact ⟨j + 1, hlt, by simp, BB.out.drew, CC.out.drew, TT.out.drew⟩
          case measure => simp [intOf]; omega
        · have hi1 : ¬ (j : Int) < (nv : Int) := by omega
          clear hT hB hC
          go_wp2_with fail
          go_loopw [7] (fun vi wr => ∃ (j : Nat), j ≤ nd ∧ vi = .int .i64 j ∧ Blk wr w.heap.size 26 [.bool leaf, .slice A1 nk c1, .slice A2 nv c2, .slice A3 nd c3] ∧ Blk wr (w.heap.size + 1) 26 [.bool leaf, .slice B1 nk d1, .slice B2 nv d2, .slice B3 nd d3] ∧ Turn (fun _ => False) w wr) (fun vi _ => nd - (intOf vi).toNat)
          case atStart => exact ⟨0, Nat.zero_le _, rfl, BB.out, CC.out, TT.out⟩
          case round =>
            clear y1 y2 y3 x1 x2 x3 BB CC TT hi1 hlt hj
            obtain ⟨j, hj, rfl, hB, hC, hT⟩ := hrel
            have BB := Lib.hid hB
            have CC := Lib.hid hC
            have TT := Lib.hid hT
            have y1 : wr.cell? ⟨w.heap.size, 1, none⟩ = some (.slice A1 nk c1) := hB.cell 1
            have y2 : wr.cell? ⟨w.heap.size, 2, none⟩ = some (.slice A2 nv c2) := hB.cell 2
            have y3 : wr.cell? ⟨w.heap.size, 3, none⟩ = some (.slice A3 nd c3) := hB.cell 3
            have x1 : wr.cell? ⟨w.heap.size + 1, 1, none⟩ = some (.slice B1 nk d1) := hC.cell 1
            have x2 : wr.cell? ⟨w.heap.size + 1, 2, none⟩ = some (.slice B2 nv d2) := hC.cell 2
            have x3 : wr.cell? ⟨w.heap.size + 1, 3, none⟩ = some (.slice B3 nd d3) := hC.cell 3
            by_cases hlt : j < nd
            · obtain ⟨t, ht⟩ : ∃ t, Z[j]? = some t := ⟨_, List.getElem?_eq_getElem (by rw [HND.out]; exact hlt)⟩
              obtain ⟨b1, o1, rfl, hb1, hc1⟩ := h3.out (by rw [HND.out]; omega)
              obtain ⟨b2, o2, rfl, hb2, hc2⟩ := g3.out (by rw [HND.out]; omega)
              have y4 : wr.cell? ⟨b1, o1 + j, none⟩ = some (.int .i64 t) := hc1 wr hT j t ht
              have x4 : wr.cell? ⟨b2, o2 + j, none⟩ = some (.int .i64 t) := hc2 wr hT j t ht
              have hs : (t != t) = false := by simp
              have hi1 : (j : Int) < (nd : Int) := by omega
              have hi2 : (0 : Int) ≤ (j : Int) := by omega
              have z3 := wrap_of ((j : Int) + 1) (by omega) (by omega)
              clear hT hB hC hc1 hc2 ht
              go_wp2_with fail
              refine wp_region_still_lit (by kernel_rfl) (by kernel_rfl) ?_
              change wpStill _ _ (World.drew _) _ _ _
              repeat still_step
              refine wpStill_nil ?_
              change Exit.then _ _ _ _ (World.drew _)
              go_wp2_with fail
              go_roundw
              case rel => exact ⟨j + 1, hlt, by simp, BB.out.drew, CC.out.drew, TT.out.drew⟩
              case measure => simp [intOf]; omega
            · have hi1 : ¬ (j : Int) < (nd : Int) := by omega
              clear hT hB hC
              go_wp2_with fail
              go_ret
              exact ⟨rfl, TT.out⟩
end Go.Proofs.Ytcmghbglnkfbaaa
