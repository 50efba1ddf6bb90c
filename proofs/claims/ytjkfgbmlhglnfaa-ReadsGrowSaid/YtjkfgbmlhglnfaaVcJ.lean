/- Layer 13: the program's At, Since, Vacuum, Rewind. -/
import Derived.Test.YtjkfgbmlhglnfaaVcI
namespace Go.Proofs.Ytjkfgbmlhglnfaa
open Go.RowKit
set_option linter.unusedVariables false
set_option linter.unusedSimpArgs false
set_option maxRecDepth 100000

theorem plc_before {L : List Vn} {t : Int} {j : Nat} {y : Vn} (hj : j < plc L t) (h : L[j]? = some y) : decide (y.t ≤ t) = false := by
  have hl := plc_le L t
  have := List.not_of_lt_findIdx (p := fun x : Vn => decide (x.t ≤ t)) (xs := L) hj
  rw [List.getElem?_eq_getElem (by omega)] at h
  cases h
  simpa using this
theorem plc_at {L : List Vn} {t : Int} {y : Vn} (h : L[plc L t]? = some y) : y.t ≤ t := by
  have hl : plc L t < L.length := by
    rcases Nat.lt_or_ge (plc L t) L.length with h1 | h1
    · exact h1
    · rw [List.getElem?_eq_none h1] at h; cases h
  have := List.findIdx_getElem (p := fun x : Vn => decide (x.t ≤ t)) (xs := L) (w := hl)
  rw [List.getElem?_eq_getElem hl] at h
  cases h
  unfold plc
  simpa using this
theorem fnd_at {L : List Vn} {t : Int} {y : Vn} (h : L[plc L t]? = some y) : fnd L t = (y.s, !y.d) := by
  unfold fnd
  rw [find_at (fun j z hj hz => plc_before hj hz) h (by simpa using plc_at h)]
theorem fnd_none {L : List Vn} {t : Int} (h : plc L t = L.length) : fnd L t = (ByteArray.empty, false) := by
  unfold fnd
  rw [find_none_ (fun j z hz => plc_before (by
    rw [h]
    rcases Nat.lt_or_ge j L.length with h1 | h1
    · exact h1
    · rw [List.getElem?_eq_none h1] at hz; cases hz) hz)]
theorem snc_plc {L : List Vn} (t : Int) (h : chn L = true) : snc L t = decide (0 < plc L t) := by
  cases L with
  | nil => rw [snc_nil]; rfl
  | cons x L =>
    rw [snc_cons t h]
    unfold plc
    rw [List.findIdx_cons]
    by_cases hx : x.t ≤ t
    · simp [hx] <;> omega
    · simp [hx] <;> omega
theorem vacf_some {L : List Vn} {m : Int} {y : Vn} (h : L[plc L m]? = some y) : vacf L m = L.take (plc L m + (if y.d then 0 else 1)) := by
  rw [vacf_at (fun j z hj hz => by have := plc_before hj hz; simpa using this) h (plc_at h)]
  cases hd : y.d
  · simp only [Bool.false_eq_true, if_false]
    rw [take_next h]
  · simp
theorem vacf_none {L : List Vn} {m : Int} (h : plc L m = L.length) : vacf L m = L.take (plc L m) := by
  rw [vacf_all (fun j z hz => by
    have := plc_before (t := m) (by
      rw [h]
      rcases Nat.lt_or_ge j L.length with h1 | h1
      · exact h1
      · rw [List.getElem?_eq_none h1] at hz; cases hz) hz
    simpa using this), h, List.take_length]
theorem rew_plc {L : List Vn} (t : Int) (h : Dn L) : L.filter (fun x => decide (x.t ≤ t)) = L.drop (plc L t) := by
  have e : L = L.take (plc L t) ++ L.drop (plc L t) := (List.take_append_drop _ _).symm
  have h1 : (L.take (plc L t)).filter (fun x => decide (x.t ≤ t)) = [] := by
    rw [List.filter_eq_nil_iff]
    intro x hx
    obtain ⟨j, hj, rfl⟩ := List.mem_iff_getElem.1 hx
    rw [List.length_take] at hj
    have := plc_before (L := L) (t := t) (j := j) (y := L[j]'(by omega)) (by omega) (List.getElem?_eq_getElem (by omega))
    rw [List.getElem_take]
    simpa using this
  have h2 : (L.drop (plc L t)).filter (fun x => decide (x.t ≤ t)) = L.drop (plc L t) := by
    rw [List.filter_eq_self]
    intro x hx
    obtain ⟨j, hj, rfl⟩ := List.mem_iff_getElem.1 hx
    rw [List.length_drop] at hj
    have hp : plc L t < L.length := by omega
    have h3 := dn_mono h (a := plc L t) (b := plc L t + j) (by omega) (by omega) t (by rw [kt_at (List.getElem?_eq_getElem hp)]; simpa using plc_at (List.getElem?_eq_getElem hp))
    rw [kt_at (List.getElem?_eq_getElem (by omega))] at h3
    rw [List.getElem_drop]
    exact h3
  conv => lhs; rw [e]
  rw [List.filter_append, h1, h2, List.nil_append]
theorem since13 (L : List Vn) (v : Value) (t : Int) (w : World) (h : Vr w v L) (hb : L.length ≤ 1000000000000000) :
    Calls Try.prog 117 #[v, .int .i64 t] w fun e w' => e = .returned (.bool (snc L t)) ∧ Turn (fun _ => False) w w' := by
  have HK := Lib.hid (check13 L v w h)
  have HP0 := Lib.hid (fun W (hT : Turn (fun _ => False) w W) (hc : chn L = true) => place13 L v t W (h.still hT) hc hb)
  clear h
  cases hch : chn L with
  | false =>
    rw [hch] at HK
    rw [snc_false t hch]
    clear hch
    go_enter Try.func117, Try.ntmps117
    go_wp2_with (go_at_call 90; refine HK.out.mono ?_; rintro e w' ⟨rfl, ht⟩)
    go_ret
    exact ⟨rfl, ht⟩
  | true =>
    rw [hch] at HK
    have HP := Lib.hid (fun W hT => HP0.out W hT hch)
    rw [snc_plc t hch]
    clear hch HP0
    generalize plc L t = p at *
    go_enter Try.func117, Try.ntmps117
    go_wp2_with (first | (go_at_call 90; refine HK.out.mono ?_; rintro e w1 ⟨rfl, ht⟩; have T1 := Lib.hid ht; clear ht) | (go_at_call 147; refine (HP.out _ T1.out).mono ?_; rintro e w2 ⟨rfl, ht⟩; have T2 := Lib.hid (T1.out.trans ht); clear ht))
    go_ret
    exact ⟨by first | rfl | (simp; done) | (congr 2; simp), T2.out⟩
end Go.Proofs.Ytjkfgbmlhglnfaa
