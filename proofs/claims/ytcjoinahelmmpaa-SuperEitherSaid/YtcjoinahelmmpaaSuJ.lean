/- Layer 11: the elder super, or the new one, plain. -/
import Derived.Test.YtcjoinahelmmpaaSuI
namespace Go.Proofs.Ytcjoinahelmmpaa
open Go.RowKit
set_option linter.unusedVariables false
set_option linter.unusedSimpArgs false

/-- A disk on which nothing is pending, with a fuse. -/
def dskF (K : List (List UInt8)) (F : Int) : Dsk := ⟨K, [], F, false⟩
/-- What the first two sectors tell. -/
def Two (K : List (List UInt8)) : Option Sup → Prop
  | none => readU (K.getD 0 []) = none ∧ readU (K.getD 1 []) = none
  | some s => (s.g % 2 = 0 ∧ readU (K.getD 0 []) = some s ∧ ∀ y, readU (K.getD 1 []) = some y → y.g < s.g) ∨ (s.g % 2 = 1 ∧ readU (K.getD 1 []) = some s ∧ ∀ y, readU (K.getD 0 []) = some y → y.g < s.g)
/-- What Find tells then. -/
def fdo : Option Sup → Fd
  | none => ⟨zU, 0, 4⟩
  | some s => ⟨s, s.g % 2, 0⟩
theorem find_F (K : List (List UInt8)) (F : Int) (hK : 2 ≤ K.length) : (dskF K F).find = ((⟨zU, 0, 4⟩ : Fd).upd 0 (readU (K.getD 0 []))).upd 1 (readU (K.getD 1 [])) := by
  unfold Dsk.find
  rw [if_neg (by simp [dskF]), if_neg (by simp [dskF]; omega)]
  rfl
theorem find_two {K : List (List UInt8)} {o : Option Sup} (h : Two K o) (F : Int) (hK : 2 ≤ K.length) : (dskF K F).find = fdo o := by
  rw [find_F K F hK]
  cases o with
  | none => rw [h.1, h.2]; rfl
  | some s =>
    rcases h with ⟨h1, h2, h3⟩ | ⟨h1, h2, h3⟩
    · rw [h2]
      have e1 : (⟨zU, 0, 4⟩ : Fd).upd 0 (some s) = ⟨s, 0, 0⟩ := by unfold Fd.upd; simp
      rw [e1]
      cases hy : readU (K.getD 1 []) with
      | none => unfold fdo Fd.upd; simp [h1]
      | some y =>
        have := h3 y hy
        unfold fdo Fd.upd
        simp only
        rw [if_neg (by simp; omega), h1]
    · rw [h2]
      cases hy : readU (K.getD 0 []) with
      | none => unfold fdo Fd.upd; simp [h1]
      | some y =>
        have := h3 y hy
        have e1 : (⟨zU, 0, 4⟩ : Fd).upd 0 (some y) = ⟨y, 0, 0⟩ := by unfold Fd.upd; simp
        rw [e1]
        unfold fdo Fd.upd
        simp only
        rw [if_pos (.inr this), h1]
        rfl
/-- The Gen of the next one. -/
def gnx : Option Sup → Int
  | none => 0
  | some s => s.g + 1
theorem getD_set {K : List (List UInt8)} {i j : Nat} (x : List UInt8) (hi : i < K.length) : (K.set i x).getD j [] = if i = j then x else K.getD j [] := by
  rw [List.getD_eq_getElem?_getD, List.getElem?_set]
  split
  · rename_i h; subst h; simp [hi]
  · rw [List.getD_eq_getElem?_getD]
theorem two_set {K : List (List UInt8)} {o : Option Sup} (h : Two K o) (hK : 2 ≤ K.length) (s : Sup) (hr : rU s = true) (hg : s.g = gnx o) (i : Nat) (hi : (i : Int) = s.g % 2) : Two (K.set i (putU s)) (some s) := by
  have hi2 : i < 2 := by omega
  have hp := readU_put hr
  unfold Two
  rw [getD_set _ (by omega), getD_set _ (by omega)]
  by_cases h0 : i = 0
  · subst h0
    rw [if_pos rfl, if_neg (by decide)]
    refine .inl ⟨by omega, hp, fun y hy => ?_⟩
    cases o with
    | none => rw [h.2] at hy; cases hy
    | some s0 =>
      simp only [gnx] at hg
      rcases h with ⟨h1, h2, h3⟩ | ⟨h1, h2, h3⟩
      · exact absurd h1 (by omega)
      · rw [h2] at hy; cases hy; omega
  · have h1 : i = 1 := by omega
    subst h1
    rw [if_neg (by decide), if_pos rfl]
    refine .inr ⟨by omega, hp, fun y hy => ?_⟩
    cases o with
    | none => rw [h.1] at hy; cases hy
    | some s0 =>
      simp only [gnx] at hg
      rcases h with ⟨h1, h2, h3⟩ | ⟨h1, h2, h3⟩
      · rw [h2] at hy; cases hy; omega
      · exact absurd h1 (by omega)
theorem two_fresh (n : Nat) : Two (List.replicate n zeros) none ∨ n < 2 := by
  by_cases h : n < 2
  · exact .inr h
  · refine .inl ⟨?_, ?_⟩
    · rw [List.getD_eq_getElem?_getD, List.getElem?_replicate, if_pos (by omega)]; exact rd_zeros
    · rw [List.getD_eq_getElem?_getD, List.getElem?_replicate, if_pos (by omega)]; exact rd_zeros
theorem nxt_fdo {o : Option Sup} (h : ∀ s, o = some s → rU s = true ∧ s.g < 1152921504606846976) : nxt (fdo o) = (gnx o, 0) := by
  cases o with
  | none => rfl
  | some s =>
    have := h s rfl
    unfold nxt fdo gnx
    simp only
    rw [if_neg (by decide), if_pos trivial, if_neg (by omega)]
/-- Save, and a crash behind it: the elder one, or the new one. -/
theorem save_either {K : List (List UInt8)} {o : Option Sup} (h : Two K o) (hK : 2 ≤ K.length) (ho : ∀ s, o = some s → rU s = true ∧ s.g < 1152921504606846976) (s : Sup) (hr : rU s = true) (hg : gnx o ≤ 1152921504606846976) (F : Int) (hF : -1 ≤ F) (zs : List Int) :
    ∃ (D : Dsk) (K' : List (List UInt8)) (o' : Option Sup) (sv : Sup) (e : Int), (dskF K F).save s = (D, sv, e) ∧ D.pend.length ≤ 1 ∧ D.crashed zs = dskF K' (-1) ∧ K'.length = K.length ∧ Two K' o' ∧
      ((e = 0 ∧ sv = s.gen (gnx o) ∧ o' = some (s.gen (gnx o))) ∨ (e = 20 ∧ sv = zU ∧ (o' = o ∨ o' = some (s.gen (gnx o))))) := by
  have hfd := find_two h F hK
  have hnx := nxt_fdo ho
  have hg0 : 0 ≤ gnx o := by
    cases o with
    | none => simp [gnx]
    | some s0 => have := rU_yes (ho s0 rfl).1; simp only [gnx]; omega
  obtain ⟨G, hG⟩ : ∃ G, gnx o = G := ⟨_, rfl⟩
  rw [hG] at hnx hg hg0 ⊢
  have hr' : rU (s.gen G) = true := by
    have := rU_yes hr
    exact decide_eq_true ⟨hg0, hg, this.2.2⟩
  obtain ⟨i, hi⟩ : ∃ i : Nat, (i : Int) = G % 2 := ⟨(G % 2).toNat, by omega⟩
  have hi2 : i < 2 := by omega
  have h2 := two_set h hK (s.gen G) hr' hG.symm i hi
  have hsv : (dskF K F).save s = if ((dskF K F).wf i (putU (s.gen G))).2 = 0 then (((dskF K F).wf i (putU (s.gen G))).1, s.gen G, 0) else (((dskF K F).wf i (putU (s.gen G))).1, zU, ((dskF K F).wf i (putU (s.gen G))).2) := by
    unfold Dsk.save
    rw [hfd, hnx]
    simp only
    rw [if_pos trivial, if_pos hr', hi]
  have hlen : (putU (s.gen G)).length = 128 := len_putU _
  by_cases h0 : F = 0
  · subst h0
    have hw : (dskF K 0).write i (putU (s.gen G)) = (⟨K, [], 0, true⟩, 20) := by
      unfold Dsk.write
      rw [if_neg (by simp [dskF]), if_neg (by simp [dskF]; omega), if_neg (by omega), if_pos (by simp [dskF])]
      simp [Dsk.burnt, dskF]
    have hwf : (dskF K 0).wf i (putU (s.gen G)) = (⟨K, [], 0, true⟩, 20) := by unfold Dsk.wf; rw [hw]; rfl
    rw [hwf] at hsv
    refine ⟨_, K, o, zU, 20, hsv, by simp, ?_, rfl, h, .inr ⟨rfl, rfl, .inl rfl⟩⟩
    simp [Dsk.crashed, Dsk.keepAll, Dsk.lost, dskF, sel]
  · have hw : (dskF K F).write i (putU (s.gen G)) = (⟨K, [(i, putU (s.gen G))], if 0 < F then F - 1 else F, false⟩, 0) := by
      unfold Dsk.write
      rw [if_neg (by simp [dskF]), if_neg (by simp [dskF]; omega), if_neg (by omega), if_neg (by simp [dskF]; exact h0)]
      unfold Dsk.wrote Dsk.burnt
      rw [if_neg (by simp [dskF]; exact h0), full_put, Int.toNat_natCast]
      by_cases h1 : 0 < F
      · rw [if_pos (by simp [dskF]; exact h1), if_pos h1]; rfl
      · rw [if_neg (by simp [dskF]; omega), if_neg h1]; rfl
    by_cases h1 : F = 1
    · subst h1
      have hwf : (dskF K 1).wf i (putU (s.gen G)) = (⟨K, [(i, putU (s.gen G))], 0, true⟩, 20) := by
        unfold Dsk.wf
        rw [hw]
        simp only [if_true]
        unfold Dsk.flush Dsk.burnt
        simp
      rw [hwf] at hsv
      by_cases hz : isIn zs 0 = true
      · refine ⟨_, K.set i (putU (s.gen G)), some (s.gen G), zU, 20, hsv, by simp, ?_, by simp, h2, .inr ⟨rfl, rfl, .inr rfl⟩⟩
        simp [Dsk.crashed, Dsk.keepAll, Dsk.keepW, Dsk.lost, dskF, sel, hz]
      · have hz' : isIn zs 0 = false := by simpa using hz
        refine ⟨_, K, o, zU, 20, hsv, by simp, ?_, rfl, h, .inr ⟨rfl, rfl, .inl rfl⟩⟩
        simp [Dsk.crashed, Dsk.keepAll, Dsk.lost, dskF, sel, hz']
    · obtain ⟨F1, hF1⟩ : ∃ F1, (if 0 < F then F - 1 else F) = F1 := ⟨_, rfl⟩
      have hF0 : ¬ F1 = 0 := by rw [← hF1]; split <;> omega
      rw [hF1] at hw
      have hwf : (dskF K F).wf i (putU (s.gen G)) = (⟨K.set i (putU (s.gen G)), [], if 0 < F1 then F1 - 1 else F1, false⟩, 0) := by
        unfold Dsk.wf
        rw [hw]
        simp only [if_true]
        unfold Dsk.flush
        rw [if_neg (by simp), if_neg hF0]
        unfold Dsk.flushed Dsk.burnt
        rw [if_neg hF0]
        by_cases h3 : 0 < F1
        · rw [if_pos h3, if_pos h3]; simp [Dsk.keepAll, Dsk.keepW, Dsk.lost]
        · rw [if_neg h3, if_neg h3]; simp [Dsk.keepAll, Dsk.keepW, Dsk.lost]
      rw [hwf] at hsv
      refine ⟨_, K.set i (putU (s.gen G)), some (s.gen G), s.gen G, 0, hsv, by simp, ?_, by simp, h2, .inl ⟨rfl, rfl, rfl⟩⟩
      simp [Dsk.crashed, Dsk.keepAll, Dsk.lost, dskF, sel]
end Go.Proofs.Ytcjoinahelmmpaa
