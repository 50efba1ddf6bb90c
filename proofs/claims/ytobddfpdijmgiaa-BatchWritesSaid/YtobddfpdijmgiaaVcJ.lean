/- Layer 13: the program's At, Since, Vacuum, Rewind. -/
import Derived.Test.YtobddfpdijmgiaaVcI
namespace Go.Proofs.Ytobddfpdijmgiaa
open Go.RowKit
set_option linter.unusedVariables false
set_option linter.unusedSimpArgs false
set_option maxRecDepth 100000

theorem plc_before {L : List Vn} {t : Int} {j : Nat} {y : Vn} (hj : j < plc L t) (h : L[j]? = some y) : decide (y.t ≤ t) = false := by
  have hl := plc_le L t
  have := List.not_of_lt_findIdx (p := fun x : Vn => decide (x.t ≤ t)) (xs := L) hj
  rw [List.getElem?_eq_getElem (by omega)] at h
  cases h
  simpa using this
theorem plc_at {L : List Vn} {t : Int} {y : Vn} (h : L[plc L t]? = some y) : y.t ≤ t := by
  have hl : plc L t < L.length := by
    rcases Nat.lt_or_ge (plc L t) L.length with h1 | h1
    · exact h1
    · rw [List.getElem?_eq_none h1] at h; cases h
  have := List.findIdx_getElem (p := fun x : Vn => decide (x.t ≤ t)) (xs := L) (w := hl)
  rw [List.getElem?_eq_getElem hl] at h
  cases h
  unfold plc
  simpa using this
theorem fnd_at {L : List Vn} {t : Int} {y : Vn} (h : L[plc L t]? = some y) : fnd L t = (y.s, !y.d) := by
  unfold fnd
  rw [find_at (fun j z hj hz => plc_before hj hz) h (by simpa using plc_at h)]
theorem fnd_none {L : List Vn} {t : Int} (h : plc L t = L.length) : fnd L t = (ByteArray.empty, false) := by
  unfold fnd
  rw [find_none_ (fun j z hz => plc_before (by
    rw [h]
    rcases Nat.lt_or_ge j L.length with h1 | h1
    · exact h1
    · rw [List.getElem?_eq_none h1] at hz; cases hz) hz)]
theorem snc_plc {L : List Vn} (t : Int) (h : chn L = true) : snc L t = decide (0 < plc L t) := by
  cases L with
  | nil => rw [snc_nil]; rfl
  | cons x L =>
    rw [snc_cons t h]
    unfold plc
    rw [List.findIdx_cons]
    by_cases hx : x.t ≤ t
    · simp [hx] <;> omega
    · simp [hx] <;> omega
theorem vacf_some {L : List Vn} {m : Int} {y : Vn} (h : L[plc L m]? = some y) : vacf L m = L.take (plc L m + (if y.d then 0 else 1)) := by
  rw [vacf_at (fun j z hj hz => by have := plc_before hj hz; simpa using this) h (plc_at h)]
  cases hd : y.d
  · simp only [Bool.false_eq_true, if_false]
    rw [take_next h]
  · simp
theorem vacf_none {L : List Vn} {m : Int} (h : plc L m = L.length) : vacf L m = L.take (plc L m) := by
  rw [vacf_all (fun j z hz => by
    have := plc_before (t := m) (by
      rw [h]
      rcases Nat.lt_or_ge j L.length with h1 | h1
      · exact h1
      · rw [List.getElem?_eq_none h1] at hz; cases hz) hz
    simpa using this), h, List.take_length]
theorem rew_plc {L : List Vn} (t : Int) (h : Dn L) : L.filter (fun x => decide (x.t ≤ t)) = L.drop (plc L t) := by
  have e : L = L.take (plc L t) ++ L.drop (plc L t) := (List.take_append_drop _ _).symm
  have h1 : (L.take (plc L t)).filter (fun x => decide (x.t ≤ t)) = [] := by
    rw [List.filter_eq_nil_iff]
    intro x hx
    obtain ⟨j, hj, rfl⟩ := List.mem_iff_getElem.1 hx
    rw [List.length_take] at hj
    have := plc_before (L := L) (t := t) (j := j) (y := L[j]'(by omega)) (by omega) (List.getElem?_eq_getElem (by omega))
    rw [List.getElem_take]
    simpa using this
  have h2 : (L.drop (plc L t)).filter (fun x => decide (x.t ≤ t)) = L.drop (plc L t) := by
    rw [List.filter_eq_self]
    intro x hx
    obtain ⟨j, hj, rfl⟩ := List.mem_iff_getElem.1 hx
    rw [List.length_drop] at hj
    have hp : plc L t < L.length := by omega
    have h3 := dn_mono h (a := plc L t) (b := plc L t + j) (by omega) (by omega) t (by rw [kt_at (List.getElem?_eq_getElem hp)]; simpa using plc_at (List.getElem?_eq_getElem hp))
    rw [kt_at (List.getElem?_eq_getElem (by omega))] at h3
    rw [List.getElem_drop]
    exact h3
  conv => lhs; rw [e]
  rw [List.filter_append, h1, h2, List.nil_append]
theorem at_13 (L : List Vn) (v : Value) (t : Int) (w : World) (h : Vr w v L) (hb : L.length ≤ 1000000000) :
    Calls Try.prog 65 #[v, .int .i64 t] w fun e w' => e = .returned (.tuple #[.string (at13 L t).1, .bool (at13 L t).2]) ∧ Turn (fun _ => False) w w' := by
  have HK := Lib.hid (check13 L v w h)
  have HP0 := Lib.hid (fun W (hT : Turn (fun _ => False) w W) (hc : chn L = true) => place13 L v t W (h.still hT) hc hb)
  have hpl := plc_le L t
  have HFN := Lib.hid (fun (hh : plc L t = L.length) => fnd_none (t := t) hh)
  have HFS := Lib.hid (fun y (hh : L[plc L t]? = some y) => fnd_at (t := t) hh)
  obtain ⟨A, c, rfl, hl, hr⟩ := h
  obtain ⟨n, hn⟩ : ∃ n, L.length = n := ⟨_, rfl⟩
  have HN := Lib.hid hn
  have HRW := Lib.hid hr
  rw [hn] at hl HK HP0 HRW hpl HFN ⊢
  clear hn hr
  unfold at13
  cases hch : chn L with
  | false =>
    rw [hch] at HK
    clear hch hpl
    go_enter Try.func65, Try.ntmps65
    go_wp2_with (go_at_call 103; refine HK.out.mono ?_; rintro e w' ⟨rfl, ht⟩)
    go_ret2
    exact ⟨rfl, ht⟩
  | true =>
    rw [hch] at HK
    have HP := Lib.hid (fun W hT => HP0.out W hT hch)
    have HGN : Hid (∀ x ∈ L, x.d = true → x.s = ByteArray.empty) := Lib.hid (fun x hx hd => rt_gone (((chn_iff L).1 hch).1 x hx) hd)
    clear hch HP0
    rw [if_pos rfl]
    obtain ⟨R, hR⟩ : ∃ R, fnd L t = R := ⟨_, rfl⟩
    have HRR := Lib.hid hR
    rw [hR]
    clear hR
    obtain ⟨p, hp⟩ : ∃ p, plc L t = p := ⟨_, rfl⟩
    rw [hp] at hpl HP HFN HFS
    clear hp
    by_cases hlt : p < n
    · obtain ⟨x, hx⟩ : ∃ x, L[p]? = some x := ⟨_, List.getElem?_eq_getElem (by rw [HN.out]; exact hlt)⟩
      have HF : Hid (R = (x.s, !x.d)) := Lib.hid (by rw [← HRR.out]; exact HFS.out x hx)
      obtain ⟨b, o, rfl, hb1, hc⟩ := HRW.out (by omega)
      obtain ⟨c0, c1, c2⟩ := hc p x hx
      have HC : Hid (∀ X, Turn (fun _ => False) w X → X.cell? ⟨b, o + p * 3 + 1, none⟩ = some (.string x.s) ∧ X.cell? ⟨b, o + p * 3 + 2, none⟩ = some (.bool x.d)) := Lib.hid (fun X hX => by
        have hk : ∀ j, X.cell? ⟨b, j, none⟩ = w.cell? ⟨b, j, none⟩ := fun j => World.cell?_of_block (w := w) (a := ⟨b, j, none⟩) (hX.block b hb1 (fun h => h))
        rw [hk, hk]; exact ⟨c1, c2⟩)
      have hp1 : (p : Int) < (n : Int) := by omega
      have hp0 : (0 : Int) ≤ (p : Int) := by omega
      have hne : ((p : Int) == (n : Int)) = false := by simp; omega
      have HG := Lib.hid (HGN.out x (List.mem_of_getElem? hx))
      obtain ⟨xt, xs, xd⟩ := x
      simp only at HC HF HG
      clear hx hc c0 c1 c2 hb1
      cases xd
      all_goals
        go_enter Try.func65, Try.ntmps65
        go_wp2_with (first | (go_at_call 103; refine HK.out.mono ?_; rintro e w1 ⟨rfl, ht⟩; have T1 := Lib.hid ht; clear ht) | (go_at_call 116; refine (HP.out _ T1.out).mono ?_; rintro e w2 ⟨rfl, ht⟩; have T2 := Lib.hid (T1.out.trans ht); obtain ⟨z1, z2⟩ := HC.out _ T2.out; clear ht))
        go_ret2
        first | exact ⟨by rw [HF.out]; rfl, T2.out⟩ | exact ⟨by rw [HF.out, HG.out (by first | rfl | trivial)]; rfl, T2.out⟩
    · obtain rfl : p = n := by omega
      have HF : Hid (R = (ByteArray.empty, false)) := Lib.hid (by rw [← HRR.out]; exact HFN.out rfl)
      go_enter Try.func65, Try.ntmps65
      go_wp2_with (first | (go_at_call 103; refine HK.out.mono ?_; rintro e w1 ⟨rfl, ht⟩; have T1 := Lib.hid ht; clear ht) | (go_at_call 116; refine (HP.out _ T1.out).mono ?_; rintro e w2 ⟨rfl, ht⟩; have T2 := Lib.hid (T1.out.trans ht); clear ht))
      go_ret2
      exact ⟨by rw [HF.out]; rfl, T2.out⟩
theorem since13 (L : List Vn) (v : Value) (t : Int) (w : World) (h : Vr w v L) (hb : L.length ≤ 1000000000) :
    Calls Try.prog 101 #[v, .int .i64 t] w fun e w' => e = .returned (.bool (snc L t)) ∧ Turn (fun _ => False) w w' := by
  have HK := Lib.hid (check13 L v w h)
  have HP0 := Lib.hid (fun W (hT : Turn (fun _ => False) w W) (hc : chn L = true) => place13 L v t W (h.still hT) hc hb)
  clear h
  cases hch : chn L with
  | false =>
    rw [hch] at HK
    rw [snc_false t hch]
    clear hch
    go_enter Try.func101, Try.ntmps101
    go_wp2_with (go_at_call 103; refine HK.out.mono ?_; rintro e w' ⟨rfl, ht⟩)
    go_ret
    exact ⟨rfl, ht⟩
  | true =>
    rw [hch] at HK
    have HP := Lib.hid (fun W hT => HP0.out W hT hch)
    rw [snc_plc t hch]
    clear hch HP0
    generalize plc L t = p at *
    go_enter Try.func101, Try.ntmps101
    go_wp2_with (first | (go_at_call 103; refine HK.out.mono ?_; rintro e w1 ⟨rfl, ht⟩; have T1 := Lib.hid ht; clear ht) | (go_at_call 116; refine (HP.out _ T1.out).mono ?_; rintro e w2 ⟨rfl, ht⟩; have T2 := Lib.hid (T1.out.trans ht); clear ht))
    go_ret
    exact ⟨by first | rfl | (simp; done) | (congr 2; simp), T2.out⟩
theorem vacuum13n (L : List Vn) (v : Value) (t : Int) (w : World) (h : Vr w v L) (hcv : Cv v) (hb : L.length ≤ 1000000000) :
    Calls Try.prog 102 #[v, .int .i64 t] w fun e w' => ∃ v', e = .returned v' ∧ Vr w' v' (vac13 L t) ∧ Cw w.heap.size v' ∧ Turn (fun _ => False) w w' := by
  have HK := Lib.hid (check13 L v w h)
  have HP0 := Lib.hid (fun W (hT : Turn (fun _ => False) w W) (hc : chn L = true) => place13 L v t W (h.still hT) hc hb)
  have HCT := Lib.hid (fun W (hT : Turn (fun _ => False) w W) (k : Nat) (hk : k ≤ L.length) => cut13n L v 0 k W (h.still hT) hcv (Nat.zero_le _) hk hb)
  have hpl := plc_le L t
  have HFN := Lib.hid (fun (hh : plc L t = L.length) => vacf_none (m := t) hh)
  have HFS := Lib.hid (fun y (hh : L[plc L t]? = some y) => vacf_some (m := t) hh)
  obtain ⟨A, c, rfl, hl, hr⟩ := h
  obtain ⟨n, hn⟩ : ∃ n, L.length = n := ⟨_, rfl⟩
  have HN := Lib.hid hn
  have HRW := Lib.hid hr
  rw [hn] at hl HK HP0 HRW hpl HFN HCT hb ⊢
  clear hn hr hcv
  unfold vac13
  cases hch : chn L with
  | false =>
    rw [hch] at HK
    clear hch hpl
    rw [if_neg (by decide)]
    go_enter Try.func102, Try.ntmps102
    go_wp2_with (go_at_call 103; refine HK.out.mono ?_; rintro e w' ⟨rfl, ht⟩)
    go_ret
    exact ⟨_, rfl, ⟨none, 0, rfl, by simp, fun h => by simp at h⟩, fun A n c e => by (injection e with e1 e2 e3; exact ⟨by omega, fun h => by omega⟩), ht⟩
  | true =>
    rw [hch] at HK
    have HP := Lib.hid (fun W hT => HP0.out W hT hch)
    clear hch HP0
    rw [if_pos rfl]
    obtain ⟨R, hR⟩ : ∃ R, vacf L t = R := ⟨_, rfl⟩
    have HRR := Lib.hid hR
    rw [hR]
    clear hR
    obtain ⟨p, hp⟩ : ∃ p, plc L t = p := ⟨_, rfl⟩
    rw [hp] at hpl HP HFN HFS
    clear hp
    by_cases hlt : p < n
    · obtain ⟨x, hx⟩ : ∃ x, L[p]? = some x := ⟨_, List.getElem?_eq_getElem (by rw [HN.out]; exact hlt)⟩
      have HF : Hid (R = L.take (p + (if x.d then 0 else 1))) := Lib.hid (by rw [← HRR.out]; exact HFS.out x hx)
      obtain ⟨b, o, rfl, hb1, hc⟩ := HRW.out (by omega)
      obtain ⟨c0, c1, c2⟩ := hc p x hx
      have HC : Hid (∀ X, Turn (fun _ => False) w X → X.cell? ⟨b, o + p * 3 + 2, none⟩ = some (.bool x.d)) := Lib.hid (fun X hX => by
        have hk : ∀ j, X.cell? ⟨b, j, none⟩ = w.cell? ⟨b, j, none⟩ := fun j => World.cell?_of_block (w := w) (a := ⟨b, j, none⟩) (hX.block b hb1 (fun h => h))
        rw [hk]; exact c2)
      have hp1 : (p : Int) < (n : Int) := by omega
      have hp0 : (0 : Int) ≤ (p : Int) := by omega
      have hdl : decide (p < n) = true := by simpa using hlt
      have hq := wrap_of ((p : Int) + 1) (by omega) (by omega)
      obtain ⟨xt, xs, xd⟩ := x
      simp only at HC HF
      clear hx hc c0 c1 c2 hb1
      cases xd
      · simp only [Bool.false_eq_true, if_false] at HF
        have HCN := Lib.hid (fun W hT => HCT.out W hT (p + 1) (by omega))
        clear HCT
        obtain ⟨q, hq1⟩ : ∃ q : Nat, p + 1 = q := ⟨_, rfl⟩
        have hq2 : (p : Int) + 1 = (q : Int) := by omega
        rw [hq1] at HF HCN
        rw [hq2] at hq
        have HQ2 := Lib.hid hq2
        clear hq1 hq2
        go_enter Try.func102, Try.ntmps102
        go_wp2_with (first | (go_at_call 103; refine HK.out.mono ?_; rintro e w1 ⟨rfl, ht⟩; have T1 := Lib.hid ht; clear ht) | (go_at_call 116; refine (HP.out _ T1.out).mono ?_; rintro e w2 ⟨rfl, ht⟩; have T2 := Lib.hid (T1.out.trans ht); have z2 := HC.out _ T2.out; clear ht) | (go_at_call 137; (try rw [HQ2.out]); (try rw [hq]); refine (HCN.out _ T2.out).mono ?_; rintro e w3 ⟨v3, rfl, hv3, hc3, ht⟩; have V3 := Lib.hid hv3; have C3 := Lib.hid hc3; have T3 := Lib.hid (T2.out.trans ht); clear ht hv3 hc3))
        go_ret
        exact ⟨_, rfl, by rw [HF.out]; exact V3.out, fun A n c e => ⟨(C3.out A n c e).1, fun h a e2 => Nat.le_trans T2.out.size ((C3.out A n c e).2 h a e2)⟩, T3.out⟩
      · simp only [if_true, Nat.add_zero] at HF
        have HCN := Lib.hid (fun W hT => HCT.out W hT p (by omega))
        clear HCT
        go_enter Try.func102, Try.ntmps102
        go_wp2_with (first | (go_at_call 103; refine HK.out.mono ?_; rintro e w1 ⟨rfl, ht⟩; have T1 := Lib.hid ht; clear ht) | (go_at_call 116; refine (HP.out _ T1.out).mono ?_; rintro e w2 ⟨rfl, ht⟩; have T2 := Lib.hid (T1.out.trans ht); have z2 := HC.out _ T2.out; clear ht) | (go_at_call 137; refine (HCN.out _ T2.out).mono ?_; rintro e w3 ⟨v3, rfl, hv3, hc3, ht⟩; have V3 := Lib.hid hv3; have C3 := Lib.hid hc3; have T3 := Lib.hid (T2.out.trans ht); clear ht hv3 hc3))
        go_ret
        exact ⟨_, rfl, by rw [HF.out]; exact V3.out, fun A n c e => ⟨(C3.out A n c e).1, fun h a e2 => Nat.le_trans T2.out.size ((C3.out A n c e).2 h a e2)⟩, T3.out⟩
    · obtain rfl : p = n := by omega
      have HF : Hid (R = L.take p) := Lib.hid (by rw [← HRR.out]; exact HFN.out rfl)
      have HCN := Lib.hid (fun W hT => HCT.out W hT p (by omega))
      clear HCT
      have hdl : decide (p < p) = false := by simp
      go_enter Try.func102, Try.ntmps102
      go_wp2_with (first | (go_at_call 103; refine HK.out.mono ?_; rintro e w1 ⟨rfl, ht⟩; have T1 := Lib.hid ht; clear ht) | (go_at_call 116; refine (HP.out _ T1.out).mono ?_; rintro e w2 ⟨rfl, ht⟩; have T2 := Lib.hid (T1.out.trans ht); clear ht) | (go_at_call 137; refine (HCN.out _ T2.out).mono ?_; rintro e w3 ⟨v3, rfl, hv3, hc3, ht⟩; have V3 := Lib.hid hv3; have C3 := Lib.hid hc3; have T3 := Lib.hid (T2.out.trans ht); clear ht hv3 hc3))
      go_ret
      exact ⟨_, rfl, by rw [HF.out]; exact V3.out, fun A n c e => ⟨(C3.out A n c e).1, fun h a e2 => Nat.le_trans T2.out.size ((C3.out A n c e).2 h a e2)⟩, T3.out⟩
theorem vacuum13 (L : List Vn) (v : Value) (t : Int) (w : World) (h : Vr w v L) (hcv : Cv v) (hb : L.length ≤ 1000000000) :
    Calls Try.prog 102 #[v, .int .i64 t] w fun e w' => ∃ v', e = .returned v' ∧ Vr w' v' (vac13 L t) ∧ Cv v' ∧ Turn (fun _ => False) w w' :=
  (vacuum13n L v t w h hcv hb).mono fun e w' ⟨v', h1, h2, h3, h4⟩ => ⟨v', h1, h2, h3.cv, h4⟩
end Go.Proofs.Ytobddfpdijmgiaa
