/- The walk of ambrylaw05.SlotElder. -/
import Derived.Test.YtpccelebidiekaaSltU
import Derived.Test.YtpccelebidiekaaFrame
namespace Go.Proofs.Ytpccelebidiekaa
open Go.RowKit
set_option linter.unusedVariables false
set_option maxRecDepth 100000

/-- Whatever Cut answers. -/
theorem cut_any5 (S : ByteArray) (e q : Int) (hq1 : -9223372036854775808 ≤ q) (hq2 : q ≤ 9223372036854775807) (w : World) :
    Calls Try.prog 19 #[.string S, .int .i64 e, .int .i64 q] w fun r w' => ∃ A n c x, r = .returned (.tuple #[.slice A n c, .int .i64 x]) ∧ Below w.heap.size w w' := by
  by_cases h : Cuts S e q
  · exact (cut_yes S e q h w).mono (fun r w' h => by obtain ⟨b, c, h1, _, _, _, h2⟩ := h; exact ⟨_, _, _, _, h1, h2⟩)
  · obtain ⟨x, _, hc⟩ := cut_no S e q hq1 hq2 h
    exact (hc w).mono (fun r w' h => ⟨_, _, _, _, h.1, h.2⟩)
theorem elder_key (e q g : Int) : (e < 1) ∨ (1 ≤ e ∧ q < 0) ∨ (1 ≤ e ∧ 0 ≤ q ∧ 1125899906842624 < q) ∨ (1 ≤ e ∧ 0 ≤ q ∧ q ≤ 1125899906842624 ∧ g < 1) ∨ (1 ≤ e ∧ 0 ≤ q ∧ q ≤ 1125899906842624 ∧ 1 ≤ g ∧ 1000 < g) ∨ (1 ≤ e ∧ 0 ≤ q ∧ q ≤ 1125899906842624 ∧ 1 ≤ g ∧ g ≤ 1000) := by omega
/-- Where the guards let nothing through. -/
theorem elder_out (a b : ByteArray) (e q g : Int) (w : World) (h : (e < 1) ∨ (1 ≤ e ∧ q < 0) ∨ (1 ≤ e ∧ 0 ≤ q ∧ 1125899906842624 < q) ∨ (1 ≤ e ∧ 0 ≤ q ∧ q ≤ 1125899906842624 ∧ g < 1) ∨ (1 ≤ e ∧ 0 ≤ q ∧ q ≤ 1125899906842624 ∧ 1 ≤ g ∧ 1000 < g)) :
    Calls Try.prog 8 #[.string a, .string b, .int .i64 e, .int .i64 q, .int .i64 g] w fun e w' => e = .returned (.bool true) ∧ Below w.heap.size w w' := by
  have HL := Lib.hid lives5_any
  rcases h with h | ⟨h1, h⟩ | ⟨h1, h2, h⟩ | ⟨h1, h2, h3, h⟩ | ⟨h1, h2, h3, h4, h⟩
  all_goals
    go_enter Try.func8, Try.ntmps8
    go_wp2_with fail
    refine (HL.out _).mono ?_
    rintro e1 w1 ⟨rfl, hb⟩
    go_wp2_with fail
    go_ret
    exact ⟨rfl, hb⟩
theorem own_empty5 (w : World) (B : Nat) (hB : B ≤ w.heap.size) : (w.alloc (.cells #[] 23)).ownsRow B 23 5 (.slice (some ⟨w.heap.size, 0, none⟩) 0 0) 0 (([] : List St).flatMap scells) :=
  ⟨rfl, .inr ⟨_, 0, #[], rfl, hB, heap_alloc_new w _, Nat.le_refl _, by simp [maxLen], rfl, rfl⟩⟩
set_option maxHeartbeats 4000000 in
theorem elder_first (a b : ByteArray) (e q g : Int) (w : World) (h1 : 1 ≤ e) (h2 : 0 ≤ q) (h3 : q ≤ 1125899906842624) (h4 : 1 ≤ g) (h5 : g ≤ 1000) (he : e ≤ 9223372036854775807) (hx : ¬ Cuts a e q) :
    Calls Try.prog 8 #[.string a, .string b, .int .i64 e, .int .i64 q, .int .i64 g] w fun e w' => e = .returned (.bool true) ∧ Below w.heap.size w w' := by
  have HL := Lib.hid lives5_any
  obtain ⟨x, hx0, hxc⟩ := cut_no a e q (by omega) (by omega) hx
  have HX := Lib.hid hxc
  clear hxc
  have z1 := wrap_of (e - 1) (by omega) (by omega)
  have z2 := wrap_of (q + g) (by omega) (by omega)
  have HG := Lib.hid (fun S e q hq1 hq2 w => cut_any5 S e q hq1 hq2 w)
  go_enter Try.func8, Try.ntmps8
  go_wp2_with fail
  refine (HX.out _).mono ?_
  rintro e1 w1 ⟨rfl, hb1⟩
  have B1 := Lib.hid (hb1)
  clear hb1
  go_wp2_with fail
  refine (HG.out b _ _ (by omega) (by omega) _).mono ?_
  rintro e2 w2 ⟨A2, n2, c2, x2, rfl, hb2⟩
  have B2 := Lib.hid (bthen B1.out B1.out.size hb2)
  clear hb2
  go_wp2_with fail
  refine (HG.out b _ _ (by omega) (by omega) _).mono ?_
  rintro e3 w3 ⟨A3, n3, c3, x3, rfl, hb3⟩
  have B3 := Lib.hid (bthen B2.out B2.out.size hb3)
  clear hb3
  go_wp2_with fail
  refine (HL.out _).mono ?_
  rintro e9 w9 ⟨rfl, hb9⟩
  have B9 := Lib.hid (bthen B3.out B3.out.size hb9)
  clear hb9
  go_wp2_with fail
  go_ret
  exact ⟨rfl, B9.out⟩
/-! second and on, the first cut made. -/
set_option maxHeartbeats 4000000 in
theorem elder_second (a b : ByteArray) (e q g : Int) (w : World) (h1 : 1 ≤ e) (h2 : 0 ≤ q) (h3 : q ≤ 1125899906842624) (h4 : 1 ≤ g) (h5 : g ≤ 1000) (hx : Cuts a e q) (hy : ¬ Cuts b (e - 1) (q + ((pcs5 a).length : Int))) :
    Calls Try.prog 8 #[.string a, .string b, .int .i64 e, .int .i64 q, .int .i64 g] w fun e w' => e = .returned (.bool true) ∧ Below w.heap.size w w' := by
  have HL := Lib.hid lives5_any
  have hk := pcs_few a hx.1
  have hee := hx.2.2.1
  obtain ⟨x, hx0, hxc⟩ := cut_no b _ _ (by omega) (by omega) hy
  have HX := Lib.hid hxc
  have HA := Lib.hid (cut_yes a e q hx)
  clear hxc hx hy
  have z1 := wrap_of (e - 1) (by omega) (by omega)
  have z2 := wrap_of (q + ((pcs5 a).length : Int)) (by omega) (by omega)
  have z3 := wrap_of (q + ((pcs5 a).length : Int) + g) (by omega) (by omega)
  have HG := Lib.hid (fun S e q hq1 hq2 w => cut_any5 S e q hq1 hq2 w)
  generalize (pcs5 a).length = k at *
  generalize mk5 (raw5 e q (pcs5 a)) = X at *
  go_enter Try.func8, Try.ntmps8
  go_wp2_with fail
  refine (HA.out _).mono ?_
  rintro e1 w1 ⟨b1, c1, rfl, o1, m1, n1, hb1⟩
  have O1 := Lib.hid o1
  have B1 := Lib.hid (hb1)
  have HB1 := Lib.hid hb1
  clear o1 hb1
  go_wp2_with fail
  refine (HX.out _).mono ?_
  rintro e2 w2 ⟨rfl, hb2⟩
  have B2 := Lib.hid (bthen B1.out B1.out.size hb2)
  clear hb2
  go_wp2_with fail
  refine (HG.out b _ _ (by omega) (by omega) _).mono ?_
  rintro e3 w3 ⟨A3, n3, c3, x3, rfl, hb3⟩
  have B3 := Lib.hid (bthen B2.out B2.out.size hb3)
  clear hb3
  go_wp2_with fail
  refine (HL.out _).mono ?_
  rintro e9 w9 ⟨rfl, hb9⟩
  have B9 := Lib.hid (bthen B3.out B3.out.size hb9)
  clear hb9
  go_wp2_with fail
  go_ret
  exact ⟨rfl, B9.out⟩
set_option maxHeartbeats 4000000 in
theorem elder_third (a b : ByteArray) (e q g : Int) (w : World) (h1 : 1 ≤ e) (h2 : 0 ≤ q) (h3 : q ≤ 1125899906842624) (h4 : 1 ≤ g) (h5 : g ≤ 1000) (hx : Cuts a e q) (hy : Cuts b (e - 1) (q + ((pcs5 a).length : Int))) (hz : ¬ Cuts b e (q + ((pcs5 a).length : Int) + g)) :
    Calls Try.prog 8 #[.string a, .string b, .int .i64 e, .int .i64 q, .int .i64 g] w fun e w' => e = .returned (.bool true) ∧ Below w.heap.size w w' := by
  have HL := Lib.hid lives5_any
  have hk := pcs_few a hx.1
  have hee := hx.2.2.1
  obtain ⟨x, hx0, hxc⟩ := cut_no b _ _ (by omega) (by omega) hz
  have HX := Lib.hid hxc
  have HA := Lib.hid (cut_yes a e q hx)
  have HB := Lib.hid (cut_yes b _ _ hy)
  clear hxc hx hy hz
  have z1 := wrap_of (e - 1) (by omega) (by omega)
  have z2 := wrap_of (q + ((pcs5 a).length : Int)) (by omega) (by omega)
  have z3 := wrap_of (q + ((pcs5 a).length : Int) + g) (by omega) (by omega)
  generalize mk5 (raw5 e q (pcs5 a)) = X at *
  generalize mk5 (raw5 (e - 1) (q + ((pcs5 a).length : Int)) (pcs5 b)) = Y at *
  generalize (pcs5 a).length = k at *
  generalize (pcs5 b).length = k2 at *
  go_enter Try.func8, Try.ntmps8
  go_wp2_with fail
  refine (HA.out _).mono ?_
  rintro e1 w1 ⟨b1, c1, rfl, o1, m1, n1, hb1⟩
  have O1 := Lib.hid o1
  have B1 := Lib.hid (hb1)
  have HB1 := Lib.hid hb1
  clear o1 hb1
  go_wp2_with fail
  refine (HB.out _).mono ?_
  rintro e2 w2 ⟨b2, c2, rfl, o2, m2, n2, hb2⟩
  have O2 := Lib.hid o2
  have B2 := Lib.hid (bthen B1.out B1.out.size hb2)
  have HB2 := Lib.hid hb2
  clear o2 hb2
  go_wp2_with fail
  refine (HX.out _).mono ?_
  rintro e3 w3 ⟨rfl, hb3⟩
  have B3 := Lib.hid (bthen B2.out B2.out.size hb3)
  clear hb3
  go_wp2_with fail
  refine (HL.out _).mono ?_
  rintro e9 w9 ⟨rfl, hb9⟩
  have B9 := Lib.hid (bthen B3.out B3.out.size hb9)
  clear hb9
  go_wp2_with fail
  go_ret
  exact ⟨rfl, B9.out⟩
set_option maxHeartbeats 8000000 in
theorem elder_fourth (a b : ByteArray) (e q g : Int) (w : World) (h1 : 1 ≤ e) (h2 : 0 ≤ q) (h3 : q ≤ 1125899906842624) (h4 : 1 ≤ g) (h5 : g ≤ 1000) (hx : Cuts a e q) (hy : Cuts b (e - 1) (q + ((pcs5 a).length : Int))) (hz : Cuts b e (q + ((pcs5 a).length : Int) + g)) :
    Calls Try.prog 8 #[.string a, .string b, .int .i64 e, .int .i64 q, .int .i64 g] w fun e w' => e = .returned (.bool true) ∧ Below w.heap.size w w' := by
  have HL := Lib.hid lives5_any
  have hk := pcs_few a hx.1
  have hee := hx.2.2.1
  obtain ⟨i0, hi0, hy1, hy2, hy3⟩ := info_parts Try.infoSlot
  have hk2 := pcs_few b hy.1
  have HA := Lib.hid (cut_yes a e q hx)
  have HB := Lib.hid (cut_yes b _ _ hy)
  have HC := Lib.hid (cut_yes b _ _ hz)
  have ly : (mk5 (raw5 (e - 1) (q + ((pcs5 a).length : Int)) (pcs5 b))).length = (pcs5 b).length := by rw [len_mk5, len_raw5]
  have lz : (mk5 (raw5 e (q + ((pcs5 a).length : Int) + g) (pcs5 b))).length = (pcs5 b).length := by rw [len_mk5, len_raw5]
  have lx : (mk5 (raw5 e q (pcs5 a))).length = (pcs5 a).length := by rw [len_mk5, len_raw5]
  have hlast : ∃ s, (mk5 (raw5 e q (pcs5 a)))[(mk5 (raw5 e q (pcs5 a))).length - 1]? = some s ∧ s.e = e ∧ s.q = q + (((pcs5 a).length - 1 : Nat) : Int) := by
    have hi : (pcs5 a).length - 1 < (mk5 (raw5 e q (pcs5 a))).length := by rw [lx]; omega
    have hs := SeqRow.cut e q a ⟨h2, by omega⟩ _ _ (List.getElem?_eq_getElem hi)
    exact ⟨_, by rw [lx]; exact List.getElem?_eq_getElem hi, hs.1, hs.2.1⟩
  obtain ⟨sl, hsl, hse, hsq⟩ := hlast
  have hJ1 := join_cut a e q hx (mk5 (raw5 (e - 1) (q + ((pcs5 a).length : Int)) (pcs5 b))) (by rw [ly]; omega) (by
    obtain ⟨s, hs⟩ : ∃ s, (mk5 (raw5 (e - 1) (q + ((pcs5 a).length : Int)) (pcs5 b)))[0]? = some s := ⟨_, List.getElem?_eq_getElem (by rw [ly]; omega)⟩
    have hss := SeqRow.cut (e - 1) (q + ((pcs5 a).length : Int)) b ⟨by omega, by have := hy.2.2.2.2; omega⟩ 0 s hs
    have := adv_cut hsl hs (by rw [lx]; omega) (by
      unfold fol5
      have e1 : decide (s.e = sl.e) = false := decide_eq_false (by omega)
      have e2 : decide (sl.e < s.e) = false := decide_eq_false (by omega)
      rw [e1, e2]; simp)
    rw [lx] at this
    exact this)
  have hJ2 := join_cut a e q hx (mk5 (raw5 e (q + ((pcs5 a).length : Int) + g) (pcs5 b))) (by rw [lz]; omega) (by
    obtain ⟨s, hs⟩ : ∃ s, (mk5 (raw5 e (q + ((pcs5 a).length : Int) + g) (pcs5 b)))[0]? = some s := ⟨_, List.getElem?_eq_getElem (by rw [lz]; omega)⟩
    have hss := SeqRow.cut e (q + ((pcs5 a).length : Int) + g) b ⟨by omega, by have := hz.2.2.2.2; omega⟩ 0 s hs
    have := adv_cut hsl hs (by rw [lx]; omega) (by
      unfold fol5
      have e1 : decide (s.q = wrap64 (sl.q + 1)) = false := decide_eq_false (by unfold wrap64; omega)
      rw [e1]; simp)
    rw [lx] at this
    exact this)
  rw [ly] at hJ1
  rw [lz] at hJ2
  have HJ1 := Lib.hid hJ1
  have HJ2 := Lib.hid hJ2
  have LX := Lib.hid lx
  have LY := Lib.hid ly
  have LZ := Lib.hid lz
  clear hJ1 hJ2 hsl hse hsq hx hy hz lx ly lz sl
  have z5 := str_same a
  have z6 : ((q + ((pcs5 a).length : Int)) == (q + ((pcs5 a).length : Int))) = true := by simp
  have z1 := wrap_of (e - 1) (by omega) (by omega)
  have z2 := wrap_of (q + ((pcs5 a).length : Int)) (by omega) (by omega)
  have z3 := wrap_of (q + ((pcs5 a).length : Int) + g) (by omega) (by omega)
  generalize mk5 (raw5 e q (pcs5 a)) = X at *
  generalize mk5 (raw5 (e - 1) (q + ((pcs5 a).length : Int)) (pcs5 b)) = Y at *
  generalize mk5 (raw5 e (q + ((pcs5 a).length : Int) + g) (pcs5 b)) = Z at *
  generalize (pcs5 a).length = k at *
  generalize (pcs5 b).length = k2 at *
  go_enter Try.func8, Try.ntmps8
  go_wp2_with fail
  refine (HA.out _).mono ?_
  rintro e1 w1 ⟨b1, c1, rfl, o1, m1, n1, hb1⟩
  have O1 := Lib.hid o1
  have B1 := Lib.hid (hb1)
  have HB1 := Lib.hid hb1
  clear o1 hb1
  go_wp2_with fail
  refine (HB.out _).mono ?_
  rintro e2 w2 ⟨b2, c2, rfl, o2, m2, n2, hb2⟩
  have O2 := Lib.hid o2
  have B2 := Lib.hid (bthen B1.out B1.out.size hb2)
  have HB2 := Lib.hid hb2
  clear o2 hb2
  go_wp2_with fail
  refine (HC.out _).mono ?_
  rintro e3 w3 ⟨b3, c3, rfl, o3, m3, n3, hb3⟩
  have O3 := Lib.hid o3
  have B3 := Lib.hid (bthen B2.out B2.out.size hb3)
  have HB3 := Lib.hid hb3
  clear o3 hb3
  have HW1 := Lib.hid (fun X (h : Below w3.heap.size w3 X) => (HB2.out.trans (HB3.out.mono HB2.out.size)).trans (h.mono (Nat.le_trans HB2.out.size HB3.out.size)))
  have HW2 := Lib.hid (fun X (h : Below w3.heap.size w3 X) => HB3.out.trans (h.mono HB3.out.size))
  have HW3 := Lib.hid (fun X (h : Below w3.heap.size w3 X) => h)
  have P4 := Lib.hid (Below.refl w3.heap.size w3)
  go_wp2_with (first
    | (at_builtin; refine wpList_append_own _ rfl _ _ 39 rfl w3.heap.size 23 i0 _ 5 40 Try.underlying39 hi0 hy1 hy2 hy3 rfl (by decide) (.slice (some ⟨w3.heap.size, 0, none⟩) 0 0) 0 _ rfl (own_empty5 w3 w3.heap.size (Nat.le_refl _)) ⟨b1, 0, none⟩ k c1 (X.flatMap scells) rfl (by rw [len_scells, LX.out]) (own_news5 O1.out (HW1.out _ (P4.out.alloc P4.out.size (.cells #[] 23))) m1) (one_scells _) (by unfold maxLen; omega) (by omega) (by first | (rw [World.size_alloc]; omega) | omega) ?_; intro v4 w4 ho4 hg4 hn4; clear hn4; have O4 := Lib.hid ho4; have T4 := Lib.hid (grown_turn5 hg4); clear ho4 hg4; have Q4 := Lib.hid ((P4.out.alloc P4.out.size (.cells #[] 23)).trans (T4.out.below (B := w3.heap.size) (by rw [World.size_alloc]; have := P4.out.size; omega) (fun j hj => Nat.le_trans P4.out.size (World.ownsRow.base5 (own_empty5 w3 w3.heap.size (Nat.le_refl _)) j hj)))); have Z4 : w3.heap.size ≤ w4.heap.size := (by have := T4.out.size; rw [World.size_alloc] at this; omega))
    | (at_builtin; refine wpList_append_own _ rfl _ _ 39 rfl w3.heap.size 23 i0 _ 5 40 Try.underlying39 hi0 hy1 hy2 hy3 rfl (by decide) v4 (0 + k) _ rfl O4.out ⟨b2, 0, none⟩ k2 c2 (Y.flatMap scells) rfl (by rw [len_scells, LY.out]) (own_news5 O2.out (HW2.out _ Q4.out) m2) (one_scells _) (by unfold maxLen; omega) (by omega) (by first | (rw [World.size_alloc]; omega) | omega) ?_; intro v5 w5 ho5 hg5 hn5; clear hn5; have O5 := Lib.hid ho5; have T5 := Lib.hid (grown_turn5 hg5); clear ho5 hg5; have Q5 := Lib.hid (Q4.out.trans (T5.out.below (B := w3.heap.size) (by have := Q4.out.size; omega) (fun j hj => Nat.le_trans P4.out.size (World.ownsRow.base5 O4.out j hj)))); have Z5 : w3.heap.size ≤ w5.heap.size := (by have := T5.out.size; omega)))
  have N5 : 0 + k + k2 = k + k2 := by omega
  have R5 : Hid (w5.ownsRow w3.heap.size 23 5 v5 (k + k2) ((X ++ Y).flatMap scells)) := Lib.hid (by rw [← N5, List.flatMap_append]; exact O5.out)
  obtain ⟨g5, c5, hv5, _, _, l5⟩ := own_form5 R5.out (by omega)
  subst hv5
  refine (HJ1.out _ c5 l5 _ (Row5.own R5.out (by rw [List.length_append, LX.out, LY.out]))).mono ?_
  rintro e6 w6 ⟨bj6, cj6, rfl, mj6, lj6, x6, hb6⟩
  have Q6 := Lib.hid (Q5.out.trans (hb6.mono Q5.out.size))
  have S6 := Lib.hid hb6
  clear hb6
  have P7 := Lib.hid Q6.out
  go_wp2_with (first
    | (at_builtin; refine wpList_append_own _ rfl _ _ 39 rfl w6.heap.size 23 i0 _ 5 40 Try.underlying39 hi0 hy1 hy2 hy3 rfl (by decide) (.slice (some ⟨w6.heap.size, 0, none⟩) 0 0) 0 _ rfl (own_empty5 w6 w6.heap.size (Nat.le_refl _)) ⟨b1, 0, none⟩ k c1 (X.flatMap scells) rfl (by rw [len_scells, LX.out]) (own_news5 O1.out (HW1.out _ (P7.out.alloc P7.out.size (.cells #[] 23))) m1) (one_scells _) (by unfold maxLen; omega) (by omega) (by first | (rw [World.size_alloc]; omega) | omega) ?_; intro v7 w7 ho7 hg7 hn7; clear hn7; have O7 := Lib.hid ho7; have T7 := Lib.hid (grown_turn5 hg7); clear ho7 hg7; have Q7 := Lib.hid ((P7.out.alloc P7.out.size (.cells #[] 23)).trans (T7.out.below (B := w3.heap.size) (by rw [World.size_alloc]; have := P7.out.size; omega) (fun j hj => Nat.le_trans P7.out.size (World.ownsRow.base5 (own_empty5 w6 w6.heap.size (Nat.le_refl _)) j hj)))); have Z7 : w6.heap.size ≤ w7.heap.size := (by have := T7.out.size; rw [World.size_alloc] at this; omega))
    | (at_builtin; refine wpList_append_own _ rfl _ _ 39 rfl w6.heap.size 23 i0 _ 5 40 Try.underlying39 hi0 hy1 hy2 hy3 rfl (by decide) v7 (0 + k) _ rfl O7.out ⟨b3, 0, none⟩ k2 c3 (Z.flatMap scells) rfl (by rw [len_scells, LZ.out]) (own_news5 O3.out (HW3.out _ Q7.out) m3) (one_scells _) (by unfold maxLen; omega) (by omega) (by first | (rw [World.size_alloc]; omega) | omega) ?_; intro v8 w8 ho8 hg8 hn8; clear hn8; have O8 := Lib.hid ho8; have T8 := Lib.hid (grown_turn5 hg8); clear ho8 hg8; have Q8 := Lib.hid (Q7.out.trans (T8.out.below (B := w3.heap.size) (by have := Q7.out.size; omega) (fun j hj => Nat.le_trans P7.out.size (World.ownsRow.base5 O7.out j hj)))); have Z8 : w6.heap.size ≤ w8.heap.size := (by have := T8.out.size; omega)))
  have N8 : 0 + k + k2 = k + k2 := by omega
  have R8 : Hid (w8.ownsRow w6.heap.size 23 5 v8 (k + k2) ((X ++ Z).flatMap scells)) := Lib.hid (by rw [← N8, List.flatMap_append]; exact O8.out)
  obtain ⟨g8, c8, hv8, _, _, l8⟩ := own_form5 R8.out (by omega)
  subst hv8
  refine (HJ2.out _ c8 l8 _ (Row5.own R8.out (by rw [List.length_append, LX.out, LZ.out]))).mono ?_
  rintro e9 w9 ⟨bj9, cj9, rfl, mj9, lj9, x9, hb9⟩
  have Q9 := Lib.hid (Q8.out.trans (hb9.mono Q8.out.size))
  have S9 := Lib.hid hb9
  clear hb9
  have U7 := ((Below.refl w6.heap.size w6).alloc (Nat.le_refl _) (.cells #[] 23)).trans (T7.out.below (B := w6.heap.size) (by rw [World.size_alloc]; omega) (fun j hj => World.ownsRow.base5 (own_empty5 w6 w6.heap.size (Nat.le_refl _)) j hj))
  have U8 := U7.trans (T8.out.below (B := w6.heap.size) Z7 (fun j hj => World.ownsRow.base5 O7.out j hj))
  have U9 := U8.trans (S9.out.mono Z8)
  have y6 := (U9.cell (p := ⟨bj6, 2, none⟩) mj6).trans x6
  have B9 := Lib.hid (B3.out.trans (Q9.out.mono B3.out.size))
  clear U7 U8 U9 x6
  go_wp2_with fail
  refine (HL.out _).mono ?_
  rintro e10 w10 ⟨rfl, hb10⟩
  have B10 := Lib.hid (bthen B9.out B9.out.size hb10)
  clear hb10
  go_wp2_with fail
  go_ret
  exact ⟨rfl, B10.out⟩
theorem slotElder_walk (a b : ByteArray) (e q g : Int) (w : World) (_ : a.size ≤ 140737488351232) (_ : b.size ≤ 140737488351232) (he : (Lit.int .i64 e).wf = true) (_ : (Lit.int .i64 q).wf = true) (_ : (Lit.int .i64 g).wf = true) :
    Calls Try.prog 8 #[.string a, .string b, .int .i64 e, .int .i64 q, .int .i64 g] w fun e w' => e = .returned (.bool true) ∧ Below w.heap.size w w' := by
  rcases elder_key e q g with h | h | h | h | h | ⟨h1, h2, h3, h4, h5⟩
  · exact elder_out a b e q g w (.inl h)
  · exact elder_out a b e q g w (.inr (.inl h))
  · exact elder_out a b e q g w (.inr (.inr (.inl h)))
  · exact elder_out a b e q g w (.inr (.inr (.inr (.inl h))))
  · exact elder_out a b e q g w (.inr (.inr (.inr (.inr h))))
  · by_cases hx : Cuts a e q
    · by_cases hy : Cuts b (e - 1) (q + ((pcs5 a).length : Int))
      · by_cases hz : Cuts b e (q + ((pcs5 a).length : Int) + g)
        · exact elder_fourth a b e q g w h1 h2 h3 h4 h5 hx hy hz
        · exact elder_third a b e q g w h1 h2 h3 h4 h5 hx hy hz
      · exact elder_second a b e q g w h1 h2 h3 h4 h5 hx hy
    · exact elder_first a b e q g w h1 h2 h3 h4 h5 (wf_i64 he).2 hx
end Go.Proofs.Ytpccelebidiekaa
