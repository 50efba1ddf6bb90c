/- The walk of ambrylaw13.ChainTurns. (mkVcW.py) -/
import Derived.Test.YtpoodhlhdehgaaaVcL
namespace Go.Proofs.Ytpoodhlhdehgaaa
open Go.RowKit
set_option linter.unusedVariables false
set_option linter.unusedSimpArgs false
set_option maxRecDepth 100000

theorem add_len (L : List Vn) (x : Vn) : (add13 L x).1.length ≤ L.length + 1 := by
  unfold add13
  split
  · split
    · split
      · simp
      · split <;> simp
    · simp
  · simp
set_option maxHeartbeats 4000000 in
theorem chainTurns_walk (v : Value) (L : List Vn) (x : Vn) (t : Int) (W : World) (h : Vr W v L) (hw : ∀ y ∈ L, (Lit.int .i64 y.t).wf = true) (hcv : Cv v) (h1 : (Lit.int .i64 x.t).wf = true) (h2 : (Lit.int .i64 t).wf = true) :
    Calls Try.prog 4 #[v, vg x, .int .i64 t] W fun e w' => e = .returned (.bool true) ∧ Below W.heap.size W w' := by
  have TW : Hid (Turn (fun _ => False) W (W.alloc (vbox x))) := Lib.hid ((Turn.refl _ _).alloc _)
  have BX : Hid (Blk (W.alloc (vbox x)) W.heap.size 31 (vc x)) := Lib.hid (Blk.new _ _ _)
  have HBX : Hid (∀ X, Turn (fun _ => False) (W.alloc (vbox x)) X → X.cell? ⟨W.heap.size, 0, none⟩ = some (.int .i64 x.t) ∧ X.cell? ⟨W.heap.size, 1, none⟩ = some (.string x.s) ∧ X.cell? ⟨W.heap.size, 2, none⟩ = some (.bool x.d)) := Lib.hid (fun X hX => by
    have hB := BX.out.turn hX (fun h => h)
    exact ⟨hB.cell 0, hB.cell 1, hB.cell 2⟩)
  have HL : Hid (∀ X, Turn (fun _ => False) (W.alloc (vbox x)) X → Calls Try.prog 8 #[] X fun e w' => e = .returned (.bool true) ∧ Turn (fun _ => False) X w') := Lib.hid (fun X _ => lives13 X)
  have T0 := Lib.hid (Turn.refl (fun _ => False) (W.alloc (vbox x)))
  have HV1 := Lib.hid (h.still TW.out)
  clear h1 h2
  by_cases hn : L.length ≤ 1000
  · have hal := add_len L x
    have hvl : (vac13 L t).length ≤ 1000 := by
      unfold vac13; split
      · exact Nat.le_trans (vacf_sub L t).length_le hn
      · simp
    have hrl : (rew13 L t).length ≤ 1000 := by
      unfold rew13; split
      · exact Nat.le_trans (List.length_filter_le _ _) hn
      · simp
    obtain ⟨AD, hAD⟩ : ∃ M, add13 L x = M := ⟨_, rfl⟩
    obtain ⟨MV, hMV⟩ : ∃ M, vac13 L t = M := ⟨_, rfl⟩
    obtain ⟨MR, hMR⟩ : ∃ M, rew13 L t = M := ⟨_, rfl⟩
    rw [hAD] at hal
    rw [hMV] at hvl
    rw [hMR] at hrl
    have HOW := Lib.hid (fun X (hX : Turn (fun _ => False) (W.alloc (vbox x)) X) => own13 L v X (HV1.out.still hX) (by omega))
    have HAM : Hid (∀ u X, Vr X u L → Calls Try.prog 16 #[u, vg x] X fun e w' => ∃ v', e = .returned (.tuple #[v', .int .i64 AD.2]) ∧ Vr w' v' AD.1 ∧ Turn (fun _ => False) X w') := Lib.hid (fun u X hu => (add_13 L u x X hu (by omega)).mono fun e w' ⟨v', h1, h2, h3⟩ => ⟨v', by rw [h1, hAD], by rw [hAD] at h2; exact h2.vr (by omega), h3⟩)
    have HRA : Hid (∀ X, Turn (fun _ => False) (W.alloc (vbox x)) X → Calls Try.prog 17 #[v, vg x] X fun e w' => ∃ v', e = .returned (.tuple #[v', .int .i64 AD.2]) ∧ Vr w' v' AD.1 ∧ Turn (fun _ => False) X w') := Lib.hid (fun X hX => (refAdd13 L v x X (HV1.out.still hX) (by omega)).mono fun e w' ⟨v', h1, h2, h3⟩ => ⟨v', by rw [h1, hAD], by rw [hAD] at h2; exact h2.vr (by omega), h3⟩)
    have HVM : Hid (∀ u X, Vr X u L → Cv u → Calls Try.prog 18 #[u, .int .i64 t] X fun e w' => ∃ v', e = .returned v' ∧ Vr w' v' MV ∧ Turn (fun _ => False) X w') := Lib.hid (fun u X hu hc => (vacuum13 L u t X hu hc (by omega)).mono fun e w' ⟨v', h1, h2, _, h4⟩ => ⟨v', h1, by rw [hMV] at h2; exact h2, h4⟩)
    have HRM : Hid (∀ u X, Vr X u L → Cv u → Calls Try.prog 19 #[u, .int .i64 t] X fun e w' => ∃ v', e = .returned v' ∧ Vr w' v' MR ∧ Turn (fun _ => False) X w') := Lib.hid (fun u X hu hc => (rewind13 L u t X hu hc (by omega)).mono fun e w' ⟨v', h1, h2, _, h4⟩ => ⟨v', h1, by rw [hMR] at h2; exact h2, h4⟩)
    have HRV : Hid (∀ X, Turn (fun _ => False) (W.alloc (vbox x)) X → Calls Try.prog 21 #[v, .int .i64 t] X fun e w' => ∃ v', e = .returned v' ∧ Vr w' v' MV ∧ Turn (fun _ => False) X w') := Lib.hid (fun X hX => (refVacuum13 L v t X (HV1.out.still hX) (by omega)).mono fun e w' ⟨v', h1, h2, h3⟩ => ⟨v', h1, by rw [hMV] at h2; exact h2.vr (by omega), h3⟩)
    have HRR : Hid (∀ X, Turn (fun _ => False) (W.alloc (vbox x)) X → Calls Try.prog 22 #[v, .int .i64 t] X fun e w' => ∃ v', e = .returned v' ∧ Vr w' v' MR ∧ Turn (fun _ => False) X w') := Lib.hid (fun X hX => (refRewind13 L v t X (HV1.out.still hX) (by omega)).mono fun e w' ⟨v', h1, h2, h3⟩ => ⟨v', h1, by rw [hMR] at h2; exact h2.vr (by omega), h3⟩)
    have HSA := Lib.hid (fun u u2 X (hu : Vr X u AD.1) (hu2 : Vr X u2 AD.1) => refSame13 AD.1 u u2 X hu hu2)
    have HSV := Lib.hid (fun u u2 X (hu : Vr X u MV) (hu2 : Vr X u2 MV) => refSame13 MV u u2 X hu hu2)
    have HSR := Lib.hid (fun u u2 X (hu : Vr X u MR) (hu2 : Vr X u2 MR) => refSame13 MR u u2 X hu hu2)
    have HSL : Hid (∀ u X, Vr X u L → Turn (fun _ => False) (W.alloc (vbox x)) X → Calls Try.prog 20 #[u, v] X fun e w' => e = .returned (.bool true) ∧ Turn (fun _ => False) X w') := Lib.hid (fun u X hu hX => refSame13 L u v X hu (HV1.out.still hX))
    have HOV : Hid (∀ B X (g c : Nat), Vo B X (.slice (some ⟨g, 0, none⟩) (L.length + 1) c) (L ++ [⟨99, ⟨#[]⟩, false⟩]) → True) := Lib.hid (fun _ _ _ _ _ => trivial)
    obtain ⟨A, c, rfl⟩ := h.len
    obtain ⟨n, hln⟩ : ∃ n, L.length = n := ⟨_, rfl⟩
    clear HOV
    have HOV : Hid (∀ B X (g c : Nat), Vo B X (.slice (some ⟨g, 0, none⟩) (n + 1) c) (L ++ [⟨99, ⟨#[]⟩, false⟩]) → Vr X (.slice (some ⟨g, 0, none⟩) n c) L ∧ Cv (.slice (some ⟨g, 0, none⟩) n c)) := Lib.hid (fun B X g c hO => by
      have hc := hO.cv _ _ _ rfl
      obtain ⟨A', c', e, hl2, hr⟩ := hO.vr (by simp; omega)
      injection e with e1 e2 e3
      refine ⟨⟨some ⟨g, 0, none⟩, c, by rw [hln], by omega, fun hp => ?_⟩, fun A n c e => by injection e with _ e2 e3; omega⟩
      obtain ⟨b, o, e4, hb, hcc⟩ := hr (by simp)
      exact ⟨b, o, by rw [e1]; exact e4, hb, fun j y hj => hcc j y (by rw [List.getElem?_append_left (by rcases Nat.lt_or_ge j L.length with h1 | h1; exact h1; rw [List.getElem?_eq_none h1] at hj; cases hj)]; exact hj)⟩)
    have HOC : Hid (∀ B (g c : Nat) X, Vo B X (.slice (some ⟨g, 0, none⟩) (n + 1) c) (L ++ [⟨99, ⟨#[]⟩, false⟩]) → X.cell? ⟨g, n * 3, none⟩ = some (.int .i64 99) ∧ X.cell? ⟨g, n * 3 + 1, none⟩ = some (.string ⟨#[]⟩) ∧ X.cell? ⟨g, n * 3 + 2, none⟩ = some (.bool false)) := Lib.hid (fun B g c X hO => by
      obtain ⟨A', c', e, hl2, hr⟩ := hO.vr (by simp; omega)
      injection e with e1 e2 e3
      obtain ⟨b, o, e4, hb, hcc⟩ := hr (by simp)
      rw [← e1] at e4
      injection e4 with e4
      injection e4 with e5 e6
      subst e5 e6
      have h9 := hcc n ⟨99, ⟨#[]⟩, false⟩ (by rw [List.getElem?_append_right (by omega), hln]; simp)
      simpa using h9)
    rw [hln] at hn HOW HRA HRV HRR HSL ⊢
    have hn1 : ¬ (1000 : Int) < (n : Int) := by omega
    have hq := wrap_of ((n : Int) + 1) (by omega) (by omega)
    clear h hw hcv HV1 hal hvl hrl hAD hMV hMR hln
    obtain ⟨MA, K⟩ := AD
    obtain ⟨xt, xs, xd⟩ := x
    unfold vg vbox at *
    simp only at HBX HAM HRA HSA ⊢
    have e1 : (K == K) = true := by simp
    go_enter Try.func4, Try.ntmps4
    go_wp2_with fail
    refine (HOW.out _ T0.out).mono ?_
    rintro e w1 ⟨g, c1, rfl, ho, ht⟩
    have T1 := Lib.hid (T0.out.trans ht)
    have O1 := Lib.hid ho
    have hcc := ho.cv _ _ _ rfl
    have K1 := Lib.hid (Turn.refl (fun _ => False) w1)
    clear ho
    obtain ⟨V1, C1⟩ := HOV.out _ _ _ _ O1.out
    have V1 := Lib.hid V1
    have C1 := Lib.hid C1
    have HAD := Lib.hid (fun X (hX : Turn (fun _ => False) w1 X) => HAM.out _ X (V1.out.still hX))
    have HVA := Lib.hid (fun X (hX : Turn (fun _ => False) w1 X) => HVM.out _ X (V1.out.still hX) C1.out)
    have HRE := Lib.hid (fun X (hX : Turn (fun _ => False) w1 X) => HRM.out _ X (V1.out.still hX) C1.out)
    have HSX := Lib.hid (fun X (hX : Turn (fun _ => False) w1 X) => HSL.out _ X (V1.out.still hX))
    have HCE := Lib.hid (fun X (hX : Turn (fun _ => False) w1 X) => HOC.out _ _ _ X (O1.out.still hX))
    obtain ⟨x0, x1, x2⟩ := HBX.out _ T1.out
    clear ht
    go_wp2_with fail
    refine (HAD.out _ K1.out).mono ?_
    rintro e w2 ⟨v2, rfl, hv, ht⟩
    have T2 := Lib.hid (T1.out.trans ht)
    have K2 := Lib.hid (K1.out.trans ht)
    have U2 := Lib.hid ht
    obtain ⟨A2, c2, e2⟩ := hv.len
    subst e2
    have V2 := Lib.hid hv
    clear hv
    clear x0 x1 x2 ht
    obtain ⟨x0, x1, x2⟩ := HBX.out _ T2.out
    go_wp2_with fail
    refine (HRA.out _ T2.out).mono ?_
    rintro e w3 ⟨v3, rfl, hv, ht⟩
    have T3 := Lib.hid (T2.out.trans ht)
    have K3 := Lib.hid (K2.out.trans ht)
    have U3 := Lib.hid ht
    obtain ⟨A3, c3, e3⟩ := hv.len
    subst e3
    have V3 := Lib.hid hv
    clear hv
    clear x0 x1 x2 ht
    obtain ⟨x0, x1, x2⟩ := HBX.out _ T3.out
    go_wp2_with fail
    refine (HVA.out _ K3.out).mono ?_
    rintro e w4 ⟨v4, rfl, hv, ht⟩
    have T4 := Lib.hid (T3.out.trans ht)
    have K4 := Lib.hid (K3.out.trans ht)
    have U4 := Lib.hid ht
    obtain ⟨A4, c4, e4⟩ := hv.len
    subst e4
    have V4 := Lib.hid hv
    clear hv
    clear x0 x1 x2 ht
    obtain ⟨x0, x1, x2⟩ := HBX.out _ T4.out
    go_wp2_with fail
    refine (HRE.out _ K4.out).mono ?_
    rintro e w5 ⟨v5, rfl, hv, ht⟩
    have T5 := Lib.hid (T4.out.trans ht)
    have K5 := Lib.hid (K4.out.trans ht)
    have U5 := Lib.hid ht
    obtain ⟨A5, c5, e5⟩ := hv.len
    subst e5
    have V5 := Lib.hid hv
    clear hv
    clear x0 x1 x2 ht
    obtain ⟨x0, x1, x2⟩ := HBX.out _ T5.out
    go_wp2_with fail
    refine (HSA.out _ _ _ (V2.out.still ((U3.out.trans U4.out).trans U5.out)) (V3.out.still (U4.out.trans U5.out))).mono ?_
    rintro e w6 ⟨rfl, ht⟩
    have T6 := Lib.hid (T5.out.trans ht)
    have K6 := Lib.hid (K5.out.trans ht)
    have U6 := Lib.hid ht
    clear x0 x1 x2 ht
    obtain ⟨x0, x1, x2⟩ := HBX.out _ T6.out
    go_wp2_with fail
    refine (HRV.out _ T6.out).mono ?_
    rintro e w7 ⟨v7, rfl, hv, ht⟩
    have T7 := Lib.hid (T6.out.trans ht)
    have K7 := Lib.hid (K6.out.trans ht)
    have U7 := Lib.hid ht
    obtain ⟨A7, c7, e7⟩ := hv.len
    subst e7
    have V7 := Lib.hid hv
    clear hv
    clear x0 x1 x2 ht
    obtain ⟨x0, x1, x2⟩ := HBX.out _ T7.out
    go_wp2_with fail
    refine (HSV.out _ _ _ (V4.out.still ((U5.out.trans U6.out).trans U7.out)) V7.out).mono ?_
    rintro e w8 ⟨rfl, ht⟩
    have T8 := Lib.hid (T7.out.trans ht)
    have K8 := Lib.hid (K7.out.trans ht)
    have U8 := Lib.hid ht
    clear x0 x1 x2 ht
    obtain ⟨x0, x1, x2⟩ := HBX.out _ T8.out
    go_wp2_with fail
    refine (HRR.out _ T8.out).mono ?_
    rintro e w9 ⟨v9, rfl, hv, ht⟩
    have T9 := Lib.hid (T8.out.trans ht)
    have K9 := Lib.hid (K8.out.trans ht)
    have U9 := Lib.hid ht
    obtain ⟨A9, c9, e9⟩ := hv.len
    subst e9
    have V9 := Lib.hid hv
    clear hv
    clear x0 x1 x2 ht
    obtain ⟨x0, x1, x2⟩ := HBX.out _ T9.out
    go_wp2_with fail
    refine (HSR.out _ _ _ (V5.out.still (((U6.out.trans U7.out).trans U8.out).trans U9.out)) V9.out).mono ?_
    rintro e w10 ⟨rfl, ht⟩
    have T10 := Lib.hid (T9.out.trans ht)
    have K10 := Lib.hid (K9.out.trans ht)
    have U10 := Lib.hid ht
    clear x0 x1 x2 ht
    obtain ⟨x0, x1, x2⟩ := HBX.out _ T10.out
    go_wp2_with fail
    refine (HSX.out _ K10.out T10.out).mono ?_
    rintro e w11 ⟨rfl, ht⟩
    have T11 := Lib.hid (T10.out.trans ht)
    have K11 := Lib.hid (K10.out.trans ht)
    have U11 := Lib.hid ht
    obtain ⟨z0, z1, z2⟩ := HCE.out _ K11.out
    clear x0 x1 x2 ht
    obtain ⟨x0, x1, x2⟩ := HBX.out _ T11.out
    go_wp2_with fail
    refine (HL.out _ T11.out).mono ?_
    rintro e w12 ⟨rfl, ht⟩
    have T12 := Lib.hid (T11.out.trans ht)
    clear x0 x1 x2
    obtain ⟨x0, x1, x2⟩ := HBX.out _ T12.out
    clear ht
    go_wp2_with fail
    go_ret
    exact ⟨rfl, (TW.out.trans T12.out).below (Nat.le_refl _) (fun _ h => h.elim)⟩
  · obtain ⟨A, c, rfl⟩ := h.len
    have h1 : (1000 : Int) < (L.length : Int) := by omega
    clear h hw hcv HV1
    generalize L.length = n at *
    obtain ⟨xt, xs, xd⟩ := x
    unfold vg vbox at *
    simp only at HBX ⊢
    go_enter Try.func4, Try.ntmps4
    go_wp2_with fail
    refine (HL.out _ T0.out).mono ?_
    rintro e w1 ⟨rfl, ht⟩
    have T1 := Lib.hid (T0.out.trans ht)
    obtain ⟨x0, x1, x2⟩ := HBX.out _ T1.out
    clear ht
    go_wp2_with fail
    go_ret
    exact ⟨rfl, (TW.out.trans T1.out).below (Nat.le_refl _) (fun _ h => h.elim)⟩
end Go.Proofs.Ytpoodhlhdehgaaa
