/- Layer 16: Same of reads; Hit. -/
import Derived.Test.YtjkfgbmlhglnfaaRdJ
import Derived.BigQuiet
namespace Go.Proofs.Ytjkfgbmlhglnfaa
open Go.RowKit Go.Shelf
set_option linter.unusedVariables false
set_option linter.unusedSimpArgs false
set_option maxRecDepth 100000
attribute [local go_sem] Oper.semAt_some

set_option maxHeartbeats 8000000 in
theorem refSame_16 (L : List ByteArray) (S : List Pq2) (A1 : Option Addr) (n1 c1 : Nat) (A2 : Option Addr) (n2 c2 : Nat) (D1 : Option Addr) (m1 d1 : Nat) (D2 : Option Addr) (m2 d2 : Nat) (w : World)
    (hk : Kx w (.slice A1 n1 c1) L) (hs : Px w (.slice A2 n2 c2) S) (hk' : Kx w (.slice D1 m1 d1) L) (hs' : Px w (.slice D2 m2 d2) S) (hb1 : n1 ≤ 1000) (hb2 : n2 ≤ 1000) :
    Calls Try.prog 25 #[.agg #[.slice A1 n1 c1, .slice A2 n2 c2], .agg #[.slice D1 m1 d1, .slice D2 m2 d2]] w fun e w' => e = .returned (.bool true) ∧ Turn (fun _ => False) w w' := by
  have e1 : L.length = n1 := by obtain ⟨_, _, e, _⟩ := id hk; injection e with _ e _; exact e.symm
  have e2 : S.length = n2 := by obtain ⟨_, _, e, _⟩ := id hs; injection e with _ e _; exact e.symm
  have e3 : m1 = n1 := by obtain ⟨_, _, e, _⟩ := id hk'; injection e with _ e _; omega
  have e4 : m2 = n2 := by obtain ⟨_, _, e, _⟩ := id hs'; injection e with _ e _; omega
  subst e3 e4
  have HN1 := Lib.hid e1
  have HN2 := Lib.hid e2
  have HK := Lib.hid hk
  have HS := Lib.hid hs
  have HK' := Lib.hid hk'
  have HS' := Lib.hid hs'
  clear hk hs hk' hs' e1 e2
  obtain ⟨W1, hW1⟩ : ∃ W, w.alloc (.cells #[.slice A1 m1 c1, .slice A2 m2 c2] 46) = W := ⟨_, rfl⟩
  obtain ⟨W2, hW2⟩ : ∃ W, W1.alloc (.cells #[.slice D1 m1 d1, .slice D2 m2 d2] 46) = W := ⟨_, rfl⟩
  have T2 : Hid (Turn (fun _ => False) w W2) := Lib.hid (hW2 ▸ (hW1 ▸ (Turn.refl (fun _ => False) w).alloc _ : Turn (fun _ => False) w W1).alloc _)
  have B1 : Hid (Blk W2 w.heap.size 46 [.slice A1 m1 c1, .slice A2 m2 c2]) := Lib.hid (hW2 ▸ (show Blk W1 w.heap.size 46 [.slice A1 m1 c1, .slice A2 m2 c2] from hW1 ▸ Blk.new _ _ _).alloc _)
  have B2 : Hid (Blk W2 W1.heap.size 46 [.slice D1 m1 d1, .slice D2 m2 d2]) := Lib.hid (hW2 ▸ Blk.new _ _ _)
  obtain ⟨x0, x1⟩ := cells2b16 B1.out
  obtain ⟨y0, y1⟩ := cells2b16 B2.out
  go_enter Try.func25, Try.ntmps25
  go_wp2_with fail
  go_loopw [5] (fun v5 wr => ∃ i : Nat, i ≤ m1 ∧ v5 = .int .i64 i ∧ Turn (fun _ => False) W2 wr) (fun v5 _ => m1 - (intOf v5).toNat)
  case atStart => exact ⟨0, Nat.zero_le _, rfl, Turn.refl _ _⟩
  case round =>
    obtain ⟨i, hi, rfl, ht⟩ := hrel
    obtain ⟨wx, rfl⟩ : ∃ W, W = wr := ⟨_, rfl⟩
    have TT := Lib.hid ht
    clear ht x0 x1 y0 y1
    obtain ⟨x0, x1⟩ := cells2b16 (B1.out.turn TT.out (fun h => h))
    obtain ⟨y0, y1⟩ := cells2b16 (B2.out.turn TT.out (fun h => h))
    by_cases hlt : i < m1
    · have hl1 : (i : Int) < (m1 : Int) := by omega
      have hl0 : (0 : Int) ≤ (i : Int) := by omega
      have hq := wrap_of ((i : Int) + 1) (by omega) (by omega)
      obtain ⟨x, hx⟩ : ∃ x, L[i]? = some x := ⟨_, List.getElem?_eq_getElem (by rw [HN1.out]; exact hlt)⟩
      obtain ⟨b1, o1, rfl, hc1⟩ := HK.out.cells (by rw [HN1.out]; omega)
      obtain ⟨b2, o2, rfl, hc2⟩ := HK'.out.cells (by rw [HN1.out]; omega)
      have c0 := hc1 wx (T2.out.trans TT.out) i x hx
      have d0 := hc2 wx (T2.out.trans TT.out) i x hx
      have hss := str_same x
      clear hx hc1 hc2
      go_wp2_with fail
      go_quiet (fail)
      go_wp2_with fail
      go_roundw
      case rel => exact ⟨i + 1, by omega, by simp [hq], by first | exact TT.out.drewN _ | exact TT.out⟩
      case measure => simp [intOf, hq]; omega
    · obtain rfl : m1 = i := by omega
      have hnl : ¬ (m1 : Int) < (m1 : Int) := by omega
      go_wp2_with fail
      go_loopw [6] (fun v5 wr => ∃ i : Nat, i ≤ m2 ∧ v5 = .int .i64 i ∧ Turn (fun _ => False) W2 wr) (fun v5 _ => m2 - (intOf v5).toNat)
      case atStart => exact ⟨0, Nat.zero_le _, rfl, TT.out⟩
      case round =>
        obtain ⟨i, hi, rfl, ht⟩ := hrel
        obtain ⟨wy, rfl⟩ : ∃ W, W = wr := ⟨_, rfl⟩
        have TY := Lib.hid ht
        clear ht x0 x1 y0 y1
        obtain ⟨x0, x1⟩ := cells2b16 (B1.out.turn TY.out (fun h => h))
        obtain ⟨y0, y1⟩ := cells2b16 (B2.out.turn TY.out (fun h => h))
        by_cases hlt : i < m2
        · have hl1 : (i : Int) < (m2 : Int) := by omega
          have hl0 : (0 : Int) ≤ (i : Int) := by omega
          have hq := wrap_of ((i : Int) + 1) (by omega) (by omega)
          obtain ⟨x, hx⟩ : ∃ x, S[i]? = some x := ⟨_, List.getElem?_eq_getElem (by rw [HN2.out]; exact hlt)⟩
          obtain ⟨b1, o1, rfl, hc1⟩ := HS.out.cells (by rw [HN2.out]; omega)
          obtain ⟨b2, o2, rfl, hc2⟩ := HS'.out.cells (by rw [HN2.out]; omega)
          obtain ⟨c0, c1x⟩ := hc1 wy (T2.out.trans TY.out) i x hx
          obtain ⟨d0, d1x⟩ := hc2 wy (T2.out.trans TY.out) i x hx
          obtain ⟨xk, xv⟩ := x
          simp only at c0 c1x d0 d1x
          have hss := str_same xk
          have hsv := str_same xv
          clear hx hc1 hc2
          go_wp2_with fail
          go_quiet (fail)
          go_wp2_with fail
          first
            | (refine ⟨⟨i + 1, by omega, by go_num, by first | exact TY.out.drewN _ | exact TY.out⟩, ?_⟩
               simp [intOf]
               omega)
            | (go_roundw
               case rel => exact ⟨i + 1, by omega, by simp [hq], by first | exact TY.out.drewN _ | exact TY.out⟩
               case measure => simp [intOf, hq]; omega)
        · obtain rfl : m2 = i := by omega
          have hnl2 : ¬ (m2 : Int) < (m2 : Int) := by omega
          go_wp2_with fail
          go_ret
          exact ⟨rfl, T2.out.trans TY.out⟩
/-- Whether a change is covered. -/
noncomputable def hit16 (K : List ByteArray) (S : List Pq2) (C : List Cg) : Bool := C.any (fun c => rgb16 K S && cov16 K S c.k)
set_option maxHeartbeats 8000000 in
theorem hit1_16 (K : List ByteArray) (S : List Pq2) (f : Value) (fb : Nat) (c : Cg) (w : World) (hf : Clo16 w f K S) (hb : Blk w fb 111 [f]) :
    Calls Try.prog 71 #[.agg #[.string c.k, .string c.v, .bool c.d], .pointer (some ⟨fb, 0, none⟩)] w fun e w' => e = .returned (.bool (rgb16 K S && cov16 K S c.k)) ∧ Turn (fun _ => False) w w' := by
  obtain ⟨ck, cv, cd⟩ := c
  simp only
  have hlt := hb.lt
  obtain ⟨g, cs, rfl, hg, hcall⟩ := hf.call
  have HC := Lib.hid hcall
  have T1 := Lib.hid ((Turn.refl (fun _ => False) w).alloc (.cells #[.string ck, .string cv, .bool cd] 79))
  have f0 := (hb.alloc (.cells #[.string ck, .string cv, .bool cd] 79)).cell 0
  clear hcall hf hb
  rcases hg with rfl | rfl
  · go_enter Try.func71, Try.ntmps71
    go_wp2_with (go_at_call 112; refine (HC.out ck _ T1.out).mono ?_; rintro e w3 ⟨rfl, ht3⟩; have T3 := Lib.hid (T1.out.trans ht3); clear ht3)
    go_ret
    exact ⟨rfl, T3.out⟩
  · go_enter Try.func71, Try.ntmps71
    go_wp2_with (go_at_call 113; refine (HC.out ck _ T1.out).mono ?_; rintro e w3 ⟨rfl, ht3⟩; have T3 := Lib.hid (T1.out.trans ht3); clear ht3)
    go_ret
    exact ⟨rfl, T3.out⟩
set_option maxHeartbeats 8000000 in
theorem idxC_16 (K : List ByteArray) (S : List Pq2) (f : Value) (fb : Nat) (C : List Cg) (u : Value) (w : World) (h : Cx w u C) (hf : Clo16 w f K S) (hb : Blk w fb 111 [f]) :
    Calls Try.prog 115 #[u, .func (.func 71) #[] #[.pointer (some ⟨fb, 0, none⟩)]] w fun e w' => ∃ i : Int, e = .returned (.int .i64 i) ∧ decide (0 ≤ i) = hit16 K S C ∧ Turn (fun _ => False) w w' := by
  obtain ⟨A, c, rfl, hl, hr⟩ := h
  obtain ⟨n, hn⟩ : ∃ n, C.length = n := ⟨_, rfl⟩
  have HN := Lib.hid hn
  have HR := Lib.hid hr
  have HFF := Lib.hid (fun y W (hW : Turn (fun _ => False) w W) => hit1_16 K S f fb y W (hf.still hW) (hb.turn hW (fun h => h)))
  rw [hn] at hl ⊢
  clear hn hr hf hb
  go_enter Try.func115, Try.ntmps115
  go_wp2_with fail
  go_loopw [5, 8] (fun _ v8 wr => ∃ i : Nat, i ≤ n ∧ v8 = .int .i64 i ∧ Hid (∀ (j : Nat) (y : Cg), j < i → C[j]? = some y → (rgb16 K S && cov16 K S y.k) = false) ∧ Turn (fun _ => False) w wr) (fun _ v8 _ => n - (intOf v8).toNat)
  case atStart => exact ⟨0, Nat.zero_le _, rfl, Lib.hid (fun j y hj => by omega), Turn.refl _ _⟩
  case round =>
    obtain ⟨i, hi, rfl, HNO, ht⟩ := hrel
    obtain ⟨wx, rfl⟩ : ∃ W, W = wr := ⟨_, rfl⟩
    have TT := Lib.hid ht
    by_cases hlt : i < n
    · have hl1 : (i : Int) < (n : Int) := by omega
      have hl0 : (0 : Int) ≤ (i : Int) := by omega
      have hq := wrap_of ((i : Int) + 1) (by omega) (by omega)
      obtain ⟨y, hy⟩ : ∃ y, C[i]? = some y := ⟨_, List.getElem?_eq_getElem (by rw [HN.out]; exact hlt)⟩
      have HY := Lib.hid hy
      obtain ⟨b, o, rfl, hb, hc⟩ := HR.out.chg (by rw [HN.out]; omega)
      obtain ⟨c0, c1, c2⟩ := hc wx ht i y hy
      have HF := Lib.hid (fun W hW => HFF.out y W hW)
      obtain ⟨yk, yv, yd⟩ := y
      simp only at c0 c1 c2 HF
      clear hy hb hc ht
      cases hbg : (rgb16 K S && cov16 K S yk) with
      | true =>
        rw [hbg] at HF
        have HBG : Hid (hit16 K S C = true) := Lib.hid (List.any_eq_true.2 ⟨_, List.mem_of_getElem? HY.out, hbg⟩)
        clear hbg
        go_wp2_with (go_at_call 71; refine (HF.out _ TT.out).mono ?_; rintro e w2 ⟨rfl, ht2⟩; have T2 := Lib.hid (TT.out.trans ht2); clear ht2)
        go_ret
        exact ⟨_, rfl, by rw [HBG.out]; simp, T2.out⟩
      | false =>
        rw [hbg] at HF
        have HN2 : Hid (∀ (j : Nat) (y : Cg), j < i + 1 → C[j]? = some y → (rgb16 K S && cov16 K S y.k) = false) := Lib.hid (fun j z hj hz => by
          by_cases h : j < i
          · exact HNO.out j z h hz
          · obtain rfl : j = i := by omega
            rw [HY.out] at hz
            cases hz
            exact hbg)
        clear hbg
        go_wp2_with (go_at_call 71; refine (HF.out _ TT.out).mono ?_; rintro e w2 ⟨rfl, ht2⟩; have T2 := Lib.hid (TT.out.trans ht2); clear ht2)
        go_roundw
        case rel => exact ⟨i + 1, by omega, by simp [hq], HN2, T2.out⟩
        case measure => simp [intOf, hq]; omega
    · obtain rfl : i = n := by omega
      have HE : Hid (hit16 K S C = false) := Lib.hid (any_none_ (fun j y hj hy => HNO.out j y (by rw [← HN.out]; exact hj) hy))
      go_wp2_with fail
      go_ret
      exact ⟨_, rfl, by rw [HE.out]; simp, TT.out⟩
set_option maxHeartbeats 4000000 in
theorem hit_16 (K : List ByteArray) (S : List Pq2) (C : List Cg) (u : Value) (A1 : Option Addr) (n1 c1 : Nat) (A2 : Option Addr) (n2 c2 : Nat) (w : World) (hk : Kx w (.slice A1 n1 c1) K) (hs : Px w (.slice A2 n2 c2) S) (hc : Cx w u C) :
    Calls Try.prog 28 #[.agg #[.slice A1 n1 c1, .slice A2 n2 c2], u] w fun e w' => e = .returned (.bool (hit16 K S C)) ∧ Turn (fun _ => False) w w' := by
  have HC := Lib.hid (fun W (hW : Turn (fun _ => False) w W) => covering_16 K S A1 n1 c1 A2 n2 c2 W (hk.still hW) (hs.still hW))
  have HCX := Lib.hid hc
  obtain ⟨A, c, rfl, _⟩ := id hc
  obtain ⟨n, hn⟩ : ∃ n, C.length = n := ⟨_, rfl⟩
  rw [hn] at HCX ⊢
  clear hk hs hc hn
  go_enter Try.func28, Try.ntmps28
  go_wp2_with fail
  refine (HC.out _ ((Turn.refl _ _).alloc _)).mono ?_
  rintro e w2 ⟨f, rfl, hcl, ht2⟩
  have T2 := Lib.hid (((Turn.refl (fun _ => False) w).alloc (.cells #[.slice A1 n1 c1, .slice A2 n2 c2] 46)).trans ht2)
  have HCL := Lib.hid hcl
  obtain ⟨g, cs, rfl, _, _⟩ := hcl.call
  have HI := Lib.hid (idxC_16 K S _ w2.heap.size C _ (w2.alloc (.cells #[.func (.func g) #[] cs] 111)) (HCX.out.still (T2.out.alloc _)) (HCL.out.still ((Turn.refl _ _).alloc _)) (Blk.new _ _ _))
  have HCF : Hid (Calls Try.prog 70 #[.slice A n c, .func (.func 71) #[] #[.pointer (some ⟨w2.heap.size, 0, none⟩)]] (w2.alloc (.cells #[.func (.func g) #[] cs] 111)) (fun e w' => e = .returned (.bool (hit16 K S C)) ∧ Turn (fun _ => False) (w2.alloc (.cells #[.func (.func g) #[] cs] 111)) w')) := Lib.hid (by
    go_enter Try.func70, Try.ntmps70
    go_wp2_with (go_at_call 115; refine HI.out.mono ?_; rintro e w3 ⟨i, rfl, hib, ht3⟩; have T3 := Lib.hid ht3; have HIB := Lib.hid hib; clear ht3 hib)
    go_ret
    exact ⟨by rw [← HIB.out]; rfl, T3.out⟩)
  clear hcl ht2
  go_wp2_with (go_at_call 70; refine HCF.out.mono ?_; rintro e w3 ⟨rfl, ht3⟩; have T3 := Lib.hid ((T2.out.alloc (.cells #[.func (.func g) #[] cs] 111)).trans ht3); clear ht3)
  go_ret
  exact ⟨rfl, T3.out⟩
end Go.Proofs.Ytjkfgbmlhglnfaa
