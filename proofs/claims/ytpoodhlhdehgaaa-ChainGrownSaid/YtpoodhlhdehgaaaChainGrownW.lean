/- The walk of ambrylaw13.ChainGrown. (mkVcW.py) -/
import Derived.Test.YtpoodhlhdehgaaaVcL
namespace Go.Proofs.Ytpoodhlhdehgaaa
open Go.RowKit
set_option linter.unusedVariables false
set_option linter.unusedSimpArgs false
set_option maxRecDepth 100000

theorem add_cases (L : List Vn) (x : Vn) : (∃ k, k ≠ 0 ∧ add13 L x = ([], k)) ∨ (add13 L x = (x :: L, 0) ∧ Dn (x :: L) ∧ chn L = true) := by
  unfold add13
  cases hch : chn L with
  | false => exact .inl ⟨4, by decide, by simp⟩
  | true =>
    rw [if_pos rfl]
    cases hrt : rt x with
    | false => exact .inl ⟨2, by decide, by simp⟩
    | true =>
      rw [if_pos rfl]
      cases L with
      | nil => exact .inr ⟨rfl, (chn_iff _).1 ((chn_cons x []).2 ⟨hrt, fun y h => by simp at h, hch⟩), rfl⟩
      | cons y L =>
        by_cases hle : x.t ≤ y.t
        · exact .inl ⟨18, by decide, by simp [hle]⟩
        · exact .inr ⟨by simp [hle], (chn_iff _).1 ((chn_cons x _).2 ⟨hrt, fun z h => by simp at h; subst h; omega, hch⟩), rfl⟩
set_option maxHeartbeats 4000000 in
theorem chainGrown_walk (v : Value) (L : List Vn) (x : Vn) (t : Int) (W : World) (h : Vr W v L) (hw : ∀ y ∈ L, (Lit.int .i64 y.t).wf = true) (hcv : Cv v) (h1 : (Lit.int .i64 x.t).wf = true) (h2 : (Lit.int .i64 t).wf = true) :
    Calls Try.prog 6 #[v, vg x, .int .i64 t] W fun e w' => e = .returned (.bool true) ∧ Below W.heap.size W w' := by
  have TW : Hid (Turn (fun _ => False) W (W.alloc (vbox x))) := Lib.hid ((Turn.refl _ _).alloc _)
  have BX : Hid (Blk (W.alloc (vbox x)) W.heap.size 31 (vc x)) := Lib.hid (Blk.new _ _ _)
  have HBX : Hid (∀ X, Turn (fun _ => False) (W.alloc (vbox x)) X → X.cell? ⟨W.heap.size, 0, none⟩ = some (.int .i64 x.t) ∧ X.cell? ⟨W.heap.size, 1, none⟩ = some (.string x.s) ∧ X.cell? ⟨W.heap.size, 2, none⟩ = some (.bool x.d)) := Lib.hid (fun X hX => by
    have hB := BX.out.turn hX (fun h => h)
    exact ⟨hB.cell 0, hB.cell 1, hB.cell 2⟩)
  have HL : Hid (∀ X, Turn (fun _ => False) (W.alloc (vbox x)) X → Calls Try.prog 8 #[] X fun e w' => e = .returned (.bool true) ∧ Turn (fun _ => False) X w') := Lib.hid (fun X _ => lives13 X)
  have T0 := Lib.hid (Turn.refl (fun _ => False) (W.alloc (vbox x)))
  have HV1 := Lib.hid (h.still TW.out)
  clear h1 h2
  by_cases hn : L.length ≤ 1000
  · have HAD0 := Lib.hid (fun X (hX : Turn (fun _ => False) (W.alloc (vbox x)) X) => (add_13 L v x X (HV1.out.still hX) (by omega)))
    obtain ⟨A, c, rfl⟩ := h.len
    obtain ⟨n, hln⟩ : ∃ n, L.length = n := ⟨_, rfl⟩
    clear h hw hcv
    have hn1 : ¬ (1000 : Int) < (L.length : Int) := by omega
    rcases add_cases L x with ⟨k, hk, hadd⟩ | ⟨hadd, hD, hch⟩
    · have HAD : Hid (∀ X, Turn (fun _ => False) (W.alloc (vbox x)) X → Calls Try.prog 16 #[.slice A L.length c, vg x] X fun e w' => ∃ v', e = .returned (.tuple #[v', .int .i64 k]) ∧ Vr w' v' [] ∧ Turn (fun _ => False) X w') := Lib.hid (fun X hX => (HAD0.out X hX).mono fun e w' ⟨v', h1, h2, h3⟩ => ⟨v', by rw [h1, hadd], by rw [hadd] at h2; exact h2.vr (by simp), h3⟩)
      have k1 : ¬ k = 0 := hk
      have k2 : (k != 0) = true := by simpa using hk
      obtain ⟨xt, xs, xd⟩ := x
      unfold vg vbox at *
      simp only at HAD HBX ⊢
      clear hadd HAD0 HV1 hk hln
      generalize L.length = n at *
      go_enter Try.func6, Try.ntmps6
      go_wp2_with fail
      refine (HAD.out _ T0.out).mono ?_
      rintro e w1 ⟨v1, rfl, hv, ht⟩
      have T1 := Lib.hid (T0.out.trans ht)
      have V1 := Lib.hid hv
      obtain ⟨A1, c1, e1⟩ := hv.len
      rw [List.length_nil] at e1
      subst e1
      clear hv
      obtain ⟨x0, x1, x2⟩ := HBX.out _ T1.out
      clear ht
      go_wp2_with fail
      refine (HL.out _ T1.out).mono ?_
      rintro e w2 ⟨rfl, ht⟩
      have T2 := Lib.hid (T1.out.trans ht)
      clear x0 x1 x2
      obtain ⟨x0, x1, x2⟩ := HBX.out _ T2.out
      clear ht
      go_wp2_with fail
      go_ret
      exact ⟨rfl, (TW.out.trans T2.out).below (Nat.le_refl _) (fun _ h => h.elim)⟩
    · have HAD : Hid (∀ X, Turn (fun _ => False) (W.alloc (vbox x)) X → Calls Try.prog 16 #[.slice A L.length c, vg x] X fun e w' => ∃ v', e = .returned (.tuple #[v', .int .i64 0]) ∧ Vr w' v' (x :: L) ∧ Cv v' ∧ Turn (fun _ => False) X w') := Lib.hid (fun X hX => (HAD0.out X hX).mono fun e w' ⟨v', h1, h2, h3⟩ => ⟨v', by rw [h1, hadd], by rw [hadd] at h2; exact h2.vr (by simp; omega), h2.cv, h3⟩)
      have HA := Lib.hid (fun X (hX : Turn (fun _ => False) (W.alloc (vbox x)) X) => at_13 L _ t X (HV1.out.still hX) (by omega))
      have HSL := Lib.hid (fun X u (hX : Turn (fun _ => False) (W.alloc (vbox x)) X) (hu : Vr X u L) => refSame13 L u _ X hu (HV1.out.still hX))
      have hLD : Dn L := (chn_iff L).1 hch
      have hrx := hD.1 x (by simp)
      have hc1 := (chn_iff _).2 hD
      have hx1 : 1 ≤ x.t ∧ x.t ≤ 1152921504606846976 := by rcases key_rt x with ⟨_, h⟩ | ⟨_, _, h⟩ | ⟨_, _, h⟩ | ⟨h, _⟩ | ⟨h, _⟩ | ⟨h, _⟩ <;> first | exact h | (rw [hrx] at h; cases h)
      have hwr := wrap_of (x.t - 1) (by omega) (by omega)
      have hat : (x.t ≤ t → at13 (x :: L) t = (x.s, !x.d)) ∧ (¬ x.t ≤ t → at13 (x :: L) t = at13 L t) := by
        rw [at13_of hD, at13_of hLD, fnd_cons]
        exact ⟨fun h => if_pos h, fun h => if_neg h⟩
      have hrw := rew_grown hD
      have hs1 : snc (x :: L) (x.t - 1) = true := by rw [snc_cons _ hc1]; simp; omega
      have hs2 : snc (x :: L) x.t = false := by rw [snc_cons _ hc1]; simp
      have hml : (x :: L).length ≤ 1001 := by simp; omega
      obtain ⟨M, hM⟩ : ∃ M, x :: L = M := ⟨_, rfl⟩
      rw [hM] at HAD hat hrw hs1 hs2 hml
      have HAM := Lib.hid (fun u X (hu : Vr X u M) => at_13 M u t X hu (by omega))
      have HRM : Hid (∀ u X, Vr X u M → Cv u → Calls Try.prog 19 #[u, .int .i64 (x.t - 1)] X fun e w' => ∃ v', e = .returned v' ∧ Vr w' v' L ∧ Turn (fun _ => False) X w') := Lib.hid (fun u X hu hc => (rewind13 M u (x.t - 1) X hu hc (by omega)).mono fun e w' ⟨v', h1, h2, _, h4⟩ => ⟨v', h1, by rw [hrw] at h2; exact h2, h4⟩)
      have HSM : Hid (∀ u X, Vr X u M → Calls Try.prog 13 #[u, .int .i64 (x.t - 1)] X fun e w' => e = .returned (.bool true) ∧ Turn (fun _ => False) X w') := Lib.hid (fun u X hu => by have := since13 M u (x.t - 1) X hu (by omega); rw [hs1] at this; exact this)
      have HZM : Hid (∀ u X, Vr X u M → Calls Try.prog 13 #[u, .int .i64 x.t] X fun e w' => e = .returned (.bool false) ∧ Turn (fun _ => False) X w') := Lib.hid (fun u X hu => by have := since13 M u x.t X hu (by omega); rw [hs2] at this; exact this)
      have HAT := Lib.hid hat
      obtain ⟨m, hm⟩ : ∃ m, M.length = m := ⟨_, rfl⟩
      have HML := Lib.hid hm
      obtain ⟨xt, xs, xd⟩ := x
      unfold vg vbox at *
      simp only at HAD HBX HRM HSM HZM HAT hwr ⊢
      rw [hln] at hn hn1 HAD HA HSL ⊢
      clear hadd HAD0 HV1 hD hLD hch hrx hc1 hx1 hat hrw hs1 hs2 hml hM hm hln
      by_cases hge : xt ≤ t
      · rw [HAT.out.1 hge] at HAM
        clear HAT
        have e1 : (xs.toList == xs.toList) = true := by simp
        have e3 : ((!xd) == xd) = false := by cases xd <;> rfl
        go_enter Try.func6, Try.ntmps6
        go_wp2_with fail
        refine (HAD.out _ T0.out).mono ?_
        rintro e w1 ⟨v1, rfl, hv, hcv1, ht⟩
        have T1 := Lib.hid (T0.out.trans ht)
        have V1 := Lib.hid hv
        have C1 := Lib.hid hcv1
        obtain ⟨A1, c1, e1⟩ := hv.len
        rw [HML.out] at e1
        subst e1
        have HA1 := Lib.hid (fun X (hX : Turn (fun _ => False) w1 X) => HAM.out _ X (V1.out.still hX))
        have HR1 := Lib.hid (fun X (hX : Turn (fun _ => False) w1 X) => HRM.out _ X (V1.out.still hX) C1.out)
        have HS1 := Lib.hid (fun X (hX : Turn (fun _ => False) w1 X) => HSM.out _ X (V1.out.still hX))
        have HZ1 := Lib.hid (fun X (hX : Turn (fun _ => False) w1 X) => HZM.out _ X (V1.out.still hX))
        have K1 := Lib.hid (Turn.refl (fun _ => False) w1)
        clear hv hcv1
        obtain ⟨x0, x1, x2⟩ := HBX.out _ T1.out
        clear ht
        go_wp2_with fail
        refine (HA1.out _ K1.out).mono ?_
        rintro e w2 ⟨rfl, ht⟩
        have T2 := Lib.hid (T1.out.trans ht)
        have K2 := Lib.hid (K1.out.trans ht)
        clear x0 x1 x2
        obtain ⟨x0, x1, x2⟩ := HBX.out _ T2.out
        clear ht
        go_wp2_with fail
        refine (HR1.out _ K2.out).mono ?_
        rintro e w3 ⟨v9, rfl, hv9, ht⟩
        have T3 := Lib.hid (T2.out.trans ht)
        have K3 := Lib.hid (K2.out.trans ht)
        have V9 := Lib.hid hv9
        obtain ⟨A9, c9, e9⟩ := hv9.len
        subst e9
        clear hv9
        clear x0 x1 x2
        obtain ⟨x0, x1, x2⟩ := HBX.out _ T3.out
        clear ht
        go_wp2_with fail
        refine (HSL.out _ _ T3.out V9.out).mono ?_
        rintro e w4 ⟨rfl, ht⟩
        have T4 := Lib.hid (T3.out.trans ht)
        have K4 := Lib.hid (K3.out.trans ht)
        clear x0 x1 x2
        obtain ⟨x0, x1, x2⟩ := HBX.out _ T4.out
        clear ht
        go_wp2_with fail
        refine (HS1.out _ K4.out).mono ?_
        rintro e w5 ⟨rfl, ht⟩
        have T5 := Lib.hid (T4.out.trans ht)
        have K5 := Lib.hid (K4.out.trans ht)
        clear x0 x1 x2
        obtain ⟨x0, x1, x2⟩ := HBX.out _ T5.out
        clear ht
        go_wp2_with fail
        refine (HZ1.out _ K5.out).mono ?_
        rintro e w6 ⟨rfl, ht⟩
        have T6 := Lib.hid (T5.out.trans ht)
        have K6 := Lib.hid (K5.out.trans ht)
        clear x0 x1 x2
        obtain ⟨x0, x1, x2⟩ := HBX.out _ T6.out
        clear ht
        go_wp2_with fail
        refine (HL.out _ T6.out).mono ?_
        rintro e w7 ⟨rfl, ht⟩
        have T7 := Lib.hid (T6.out.trans ht)
        clear x0 x1 x2
        obtain ⟨x0, x1, x2⟩ := HBX.out _ T7.out
        clear ht
        go_wp2_with fail
        go_ret
        exact ⟨rfl, (TW.out.trans T7.out).below (Nat.le_refl _) (fun _ h => h.elim)⟩
      · rw [HAT.out.2 hge] at HAM
        clear HAT
        generalize (at13 L t).1 = S1 at *
        generalize (at13 L t).2 = B1 at *
        have e1 : (S1.toList == S1.toList) = true := by simp
        have e2 : (B1 == B1) = true := by simp
        go_enter Try.func6, Try.ntmps6
        go_wp2_with fail
        refine (HAD.out _ T0.out).mono ?_
        rintro e w1 ⟨v1, rfl, hv, hcv1, ht⟩
        have T1 := Lib.hid (T0.out.trans ht)
        have V1 := Lib.hid hv
        have C1 := Lib.hid hcv1
        obtain ⟨A1, c1, e1⟩ := hv.len
        rw [HML.out] at e1
        subst e1
        have HA1 := Lib.hid (fun X (hX : Turn (fun _ => False) w1 X) => HAM.out _ X (V1.out.still hX))
        have HR1 := Lib.hid (fun X (hX : Turn (fun _ => False) w1 X) => HRM.out _ X (V1.out.still hX) C1.out)
        have HS1 := Lib.hid (fun X (hX : Turn (fun _ => False) w1 X) => HSM.out _ X (V1.out.still hX))
        have HZ1 := Lib.hid (fun X (hX : Turn (fun _ => False) w1 X) => HZM.out _ X (V1.out.still hX))
        have K1 := Lib.hid (Turn.refl (fun _ => False) w1)
        clear hv hcv1
        obtain ⟨x0, x1, x2⟩ := HBX.out _ T1.out
        clear ht
        go_wp2_with fail
        refine (HA1.out _ K1.out).mono ?_
        rintro e w2 ⟨rfl, ht⟩
        have T2 := Lib.hid (T1.out.trans ht)
        have K2 := Lib.hid (K1.out.trans ht)
        clear x0 x1 x2
        obtain ⟨x0, x1, x2⟩ := HBX.out _ T2.out
        clear ht
        go_wp2_with fail
        refine (HA.out _ T2.out).mono ?_
        rintro e w3 ⟨rfl, ht⟩
        have T3 := Lib.hid (T2.out.trans ht)
        clear x0 x1 x2
        have K3 := Lib.hid (K2.out.trans ht)
        obtain ⟨x0, x1, x2⟩ := HBX.out _ T3.out
        clear ht
        go_wp2_with fail
        refine (HR1.out _ K3.out).mono ?_
        rintro e w4 ⟨v9, rfl, hv9, ht⟩
        have T4 := Lib.hid (T3.out.trans ht)
        have K4 := Lib.hid (K3.out.trans ht)
        have V9 := Lib.hid hv9
        obtain ⟨A9, c9, e9⟩ := hv9.len
        subst e9
        clear hv9
        clear x0 x1 x2
        obtain ⟨x0, x1, x2⟩ := HBX.out _ T4.out
        clear ht
        go_wp2_with fail
        refine (HSL.out _ _ T4.out V9.out).mono ?_
        rintro e w5 ⟨rfl, ht⟩
        have T5 := Lib.hid (T4.out.trans ht)
        have K5 := Lib.hid (K4.out.trans ht)
        clear x0 x1 x2
        obtain ⟨x0, x1, x2⟩ := HBX.out _ T5.out
        clear ht
        go_wp2_with fail
        refine (HS1.out _ K5.out).mono ?_
        rintro e w6 ⟨rfl, ht⟩
        have T6 := Lib.hid (T5.out.trans ht)
        have K6 := Lib.hid (K5.out.trans ht)
        clear x0 x1 x2
        obtain ⟨x0, x1, x2⟩ := HBX.out _ T6.out
        clear ht
        go_wp2_with fail
        refine (HZ1.out _ K6.out).mono ?_
        rintro e w7 ⟨rfl, ht⟩
        have T7 := Lib.hid (T6.out.trans ht)
        have K7 := Lib.hid (K6.out.trans ht)
        clear x0 x1 x2
        obtain ⟨x0, x1, x2⟩ := HBX.out _ T7.out
        clear ht
        go_wp2_with fail
        refine (HL.out _ T7.out).mono ?_
        rintro e w8 ⟨rfl, ht⟩
        have T8 := Lib.hid (T7.out.trans ht)
        clear x0 x1 x2
        obtain ⟨x0, x1, x2⟩ := HBX.out _ T8.out
        clear ht
        go_wp2_with fail
        go_ret
        exact ⟨rfl, (TW.out.trans T8.out).below (Nat.le_refl _) (fun _ h => h.elim)⟩
  · obtain ⟨A, c, rfl⟩ := h.len
    have h1 : (1000 : Int) < (L.length : Int) := by omega
    clear h hw hcv HV1
    generalize L.length = n at *
    obtain ⟨xt, xs, xd⟩ := x
    unfold vg vbox at *
    simp only at HBX ⊢
    go_enter Try.func6, Try.ntmps6
    go_wp2_with fail
    refine (HL.out _ T0.out).mono ?_
    rintro e w1 ⟨rfl, ht⟩
    have T1 := Lib.hid (T0.out.trans ht)
    obtain ⟨x0, x1, x2⟩ := HBX.out _ T1.out
    clear ht
    go_wp2_with fail
    go_ret
    exact ⟨rfl, (TW.out.trans T1.out).below (Nat.le_refl _) (fun _ h => h.elim)⟩
end Go.Proofs.Ytpoodhlhdehgaaa
