/- Layer 9: a page is written, sector by sector. -/
import Derived.Test.YtmedljnbcpdoeaaDoorPrE
import Derived.Test.YtmedljnbcpdoeaaDoorBlkM
import Derived.Deep.RegionHeld3
import Derived.Deep.CutRange
import Derived.Deep.DeepCutAuto
namespace Go.Proofs.YtmedljnbcpdoeaaDoor
open Go.RowKit
set_option linter.unusedVariables false
set_option linter.unusedSimpArgs false
set_option maxRecDepth 100000

/-- Bytes that a slice holds, apart from a set of blocks. -/
structure Ba (S : Nat → Prop) (w : World) (A : Option Addr) (c : Nat) (l : List UInt8) : Prop where
  le : l.length ≤ c
  mx : c ≤ maxLen
  nil : A = none → c = 0
  at_ : ∀ ad, A = some ad → 0 < l.length → ad.block < w.heap.size ∧ ¬ S ad.block ∧ ∀ j u, l[j]? = some u → w.cell? (ad.add j) = some (u8v u)
theorem Ba.by_ {S : Nat → Prop} {w : World} {A : Option Addr} {c : Nat} {l : List UInt8} (h : Ba S w A c l) : By S w (.slice A l.length c) l := by
  refine ⟨A, c, rfl, fun hp => ?_⟩
  cases A with
  | none => have := h.nil rfl; have := h.le; omega
  | some ad => exact ⟨ad, rfl, h.at_ ad rfl hp⟩
theorem Ba.take {S : Nat → Prop} {w : World} {A : Option Addr} {c : Nat} {l : List UInt8} (h : Ba S w A c l) (q : Nat) : Ba S w A c (l.take q) := by
  refine ⟨by rw [List.length_take]; have := h.le; omega, h.mx, h.nil, fun ad e hp => ?_⟩
  have hp2 : 0 < l.length := by rw [List.length_take] at hp; omega
  obtain ⟨h1, h2, h3⟩ := h.at_ ad e hp2
  refine ⟨h1, h2, fun j u hj => h3 j u ?_⟩
  rcases Nat.lt_or_ge j q with h4 | h4
  · rw [List.getElem?_take_of_lt h4] at hj; exact hj
  · rw [List.getElem?_take_eq_none h4] at hj; cases hj
theorem add_add9 (ad : Addr) (q j : Nat) : (ad.add q).add j = ad.add (q + j) := by
  unfold Addr.add
  by_cases h1 : q = 0 <;> by_cases h2 : j = 0 <;> simp [h1, h2, Nat.add_assoc]
theorem add_block9 (ad : Addr) (q : Nat) : (ad.add q).block = ad.block := by
  unfold Addr.add
  split <;> rfl
theorem Ba.drop {S : Nat → Prop} {w : World} {ad : Addr} {c : Nat} {l : List UInt8} (h : Ba S w (some ad) c l) (q : Nat) (hq : q ≤ l.length) (A2 : Option Addr) (hA : (c = q ∧ A2 = some ad) ∨ A2 = some (ad.add q)) : Ba S w A2 (c - q) (l.drop q) := by
  have hle := h.le
  refine ⟨by rw [List.length_drop]; omega, by have := h.mx; omega, fun e => by rcases hA with ⟨_, hA⟩ | hA <;> (rw [hA] at e; cases e), fun ad2 e hp => ?_⟩
  rw [List.length_drop] at hp
  have hA2 : ad2 = ad.add q := by
    rcases hA with ⟨hc, hA⟩ | hA
    · omega
    · rw [hA] at e; injection e with e; exact e.symm
  subst hA2
  obtain ⟨h1, h2, h3⟩ := h.at_ ad rfl (by omega)
  have hb : (ad.add q).block = ad.block := add_block9 ad q
  rw [hb]
  refine ⟨h1, h2, fun j u hj => ?_⟩
  rw [add_add9]
  exact h3 (q + j) u (by rw [List.getElem?_drop] at hj; exact hj)
theorem Ba.turn {S S' : Nat → Prop} {w w' : World} {A : Option Addr} {c : Nat} {l : List UInt8} (h : Ba S w A c l) (ht : Turn S w w') (hs : ∀ k, S' k → S k ∨ w.heap.size ≤ k) : Ba S' w' A c l := by
  refine ⟨h.le, h.mx, h.nil, fun ad e hp => ?_⟩
  obtain ⟨h1, h2, h3⟩ := h.at_ ad e hp
  have hbl : ∀ j, (ad.add j).block = ad.block := fun j => add_block9 ad j
  refine ⟨Nat.lt_of_lt_of_le h1 ht.size, fun hk => by rcases hs _ hk with h4 | h4; exact h2 h4; omega, fun j u hj => ?_⟩
  exact (World.cell?_of_block (w := w) (a := ad.add j) (by rw [hbl]; exact ht.block _ h1 h2)).trans (h3 j u hj)
/-- So many sectors are written in a row, up to the first error. -/
def putk : Nat → Dsk → Int → List UInt8 → Dsk × Int
  | 0, D, _, _ => (D, 0)
  | n + 1, D, s, b => if (D.write s (b.take 128)).2 = 0 then putk n (D.write s (b.take 128)).1 (s + 1) (b.drop 128) else D.write s (b.take 128)
theorem take_min9 (l : List UInt8) (n : Nat) (h : n = min l.length 128) : l.take n = l.take 128 ∧ l.drop n = l.drop 128 := by
  rcases Nat.le_total l.length 128 with h1 | h1
  · rw [Nat.min_eq_left h1] at h
    subst h
    exact ⟨by rw [List.take_length, List.take_of_length_le h1], by rw [List.drop_length, List.drop_eq_nil_of_le h1]⟩
  · rw [Nat.min_eq_right h1] at h
    subst h
    exact ⟨rfl, rfl⟩
variable {w w' : World} {p pd pa ga gr fr : Nat} {st : List Nat} {l : List Bool} {S : Nat → Prop}
theorem Pm.drew_ (h : Pm w p pd pa ga gr fr st l) : Pm w.drew p pd pa ga gr fr st l := h.still ((Turn.refl (fun _ => False) w).drew)
theorem Pm.cell0 (h : Pm w p pd pa ga gr fr st l) : w.cell? ⟨p, 0, none⟩ = some (.pointer (some ⟨pd, 0, none⟩)) := h.bx.cell 0
theorem cell_turn9 {w w' : World} {q : Nat} {v : Value} {S : Nat → Prop} (h : w.cell? ⟨q, 0, none⟩ = some v) (ht : Turn S w w') (hq : ¬ S q) : w'.cell? ⟨q, 0, none⟩ = some v := (World.cell?_of_block (w := w) (a := ⟨q, 0, none⟩) (ht.block q (cell_lt h) hq)).trans h
set_option maxHeartbeats 2000000 in
theorem put9_any (h : Pm w p pd pa ga gr fr st l) {SD : Nat → Prop} {D : Dsk} (hD : Dq SD w pd D) (hap : ∀ k, SD k → k ≠ p ∧ k ≠ pa ∧ k ≠ ga ∧ k ≠ gr ∧ k ≠ 0) (hfr : fr ≤ 1000000) (i : Nat) (hi : i ≤ 20000) {A : Option Addr} {c : Nat} {bl : List UInt8} (hB : Ba SD w A c bl) (hpn : D.pend.length + 8 < 1000000000) :
    Calls Tryd.prog 39 #[.pointer (some ⟨p, 0, none⟩), .int .i64 i, .slice A bl.length c] w fun r w' => r = .returned (.int .i64 (putk 8 D ((fr + 8 * i : Nat) : Int) bl).2) ∧ ∃ S', Dq S' w' pd (putk 8 D ((fr + 8 * i : Nat) : Int) bl).1 ∧ Stp SD w S' w' := by
  have HAP := Lib.hid hap
  have HD := Lib.hid hD
  have HP := Lib.hid h
  have HB := Lib.hid hB
  have hpl := h.bx.lt
  have HSE : Hid (∀ W, Pm W p pd pa ga gr fr st l → Calls Tryd.prog 51 #[.pointer (some ⟨p, 0, none⟩), .int .i64 i] W fun r w' => ∃ v, r = .returned v ∧ (v = .int .i64 ((fr + 8 * i : Nat) : Int) ∧ w' = W)) := Lib.hid (fun W hW => (sector9 hW i hi hfr).mono fun e w' h => ⟨_, h.1, rfl, h.2⟩)
  obtain ⟨s, hs⟩ : ∃ s, fr + 8 * i = s := ⟨_, rfl⟩
  have hsl : s ≤ 1200000 := by omega
  rw [hs] at HSE ⊢
  obtain ⟨R, hR⟩ : ∃ R, putk 8 D (s : Int) bl = R := ⟨_, rfl⟩
  have HR := Lib.hid hR
  have HPN := Lib.hid hpn
  rw [hR]
  have S0 := Lib.hid (Stp.refl SD w)
  clear h hD hap hB hs hR hpn
  go_enter Tryd.func39, Tryd.ntmps39
  go_wp2_with fail
  go_loopw [2, 7, 8, 9, 10] (fun v2 v7 v8 v9 v10 wr => ∃ (k c2 : Nat) (A2 : Option Addr) (l2 : List UInt8) (Dk : Dsk) (Sk : Nat → Prop), k ≤ 8 ∧ v10 = .int .i64 k ∧ v2 = .slice A2 l2.length c2 ∧ Dq Sk wr pd Dk ∧ Stp SD w Sk wr ∧ Ba Sk wr A2 c2 l2 ∧ Hid (putk (8 - k) Dk ((s : Int) + k) l2 = R) ∧ Hid (Dk.pend.length ≤ D.pend.length + k)) (fun _ _ _ _ v10 _ => 8 - (intOf v10).toNat)
  case atStart => exact ⟨0, c, A, bl, D, SD, Nat.zero_le _, rfl, rfl, HD.out, S0.out, HB.out, Lib.hid (by have := HR.out; simpa using this), Lib.hid (Nat.le_refl _)⟩
  case round =>
    obtain ⟨k, c2, A2, l2, Dk, Sk, hk, rfl, rfl, hDk, hSk, hBk, HRk, HPk⟩ := hrel
    have DD := Lib.hid hDk
    have SS := Lib.hid hSk
    have BB := Lib.hid hBk
    have hcm := hBk.mx
    have hle := hBk.le
    unfold maxLen at hcm
    have hnil := Lib.hid hBk.nil
    clear hDk hSk hBk
    have PR : Hid (Pm wr p pd pa ga gr fr st l) := Lib.hid (HP.out.turn SS.out.1 (fun h => (HAP.out _ h).1 rfl) (fun h => (HAP.out _ h).2.1 rfl) (fun h => (HAP.out _ h).2.2.1 rfl) (fun h => (HAP.out _ h).2.2.2.1 rfl) (fun h => (HAP.out _ h).2.2.2.2 rfl))
    have HAK : Hid (∀ q, Sk q → q ≠ p) := Lib.hid (fun q hq => by rcases SS.out.2 q hq with h | h; exact (HAP.out _ h).1; omega)
    by_cases hlt : k < 8
    · have hl1 : (k : Int) < 8 := by omega
      have hq := wrap_of ((k : Int) + 1) (by omega) (by omega)
      have hq2 := wrap_of ((s : Int) + (k : Int)) (by omega) (by omega)
      obtain ⟨nn, hnn⟩ : ∃ n, n = min l2.length 128 := ⟨_, rfl⟩
      have HNN := Lib.hid hnn
      have hn1 : nn ≤ l2.length := by omega
      have hn2 : nn ≤ 128 := by omega
      have hmin : (if (128 : Int) < (l2.length : Int) then (128 : Int) else (l2.length : Int)) = (nn : Int) := by split <;> omega
      clear hnn
      obtain ⟨htk, hdr⟩ := take_min9 l2 nn HNN.out
      have HTK := Lib.hid htk
      have HDR := Lib.hid hdr
      clear htk hdr
      have z0 : (0 : Int) ≤ (nn : Int) := by omega
      have z1 : (nn : Int) ≤ (c2 : Int) := by omega
      have z2 : (nn : Int) ≤ (l2.length : Int) := by omega
      have hlen : (l2.take nn).length = nn := by rw [List.length_take]; omega
      have HW : Hid (∀ W, Dq Sk W pd Dk → By Sk W (.slice A2 nn c2) (l2.take nn) → Calls Tryd.prog 62 #[.pointer (some ⟨pd, 0, none⟩), .int .i64 ((s : Int) + k), .slice A2 nn c2] W fun e w' => ∃ v, e = .returned v ∧ (v = .int .i64 (Dk.write ((s : Int) + k) (l2.take 128)).2 ∧ ∃ S', Dq S' w' pd (Dk.write ((s : Int) + k) (l2.take 128)).1 ∧ Stp Sk W S' w')) := Lib.hid (fun W hW hBy => by
        have := write_dq hW ((s : Int) + k) (.slice A2 nn c2) (l2.take nn) hBy (by have := HPk.out; have := HPN.out; omega)
        rw [HTK.out] at this
        exact this.mono fun e w' h => ⟨_, h.1, rfl, h.2⟩)
      have BT : Hid (By Sk wr (.slice A2 nn c2) (l2.take nn)) := Lib.hid (by have := (BB.out.take nn).by_; rw [hlen] at this; exact this)
      have HL := Lib.hid hlen
      clear hlen
      have hz : Hid (l2.length - nn = (l2.drop 128).length) := Lib.hid (by rw [← HDR.out, List.length_drop])
      obtain ⟨L2, hL2⟩ : ∃ L, l2.length = L := ⟨_, rfl⟩
      have HL2 := Lib.hid hL2
      rw [hL2] at hn1 hle hmin z2 hz ⊢
      clear hL2
      cases A2 with
      | none =>
        go_upto_region 5 with fail
        refine wp_region_noPanic ?_
        refine wp_region_held_drew (S := fun X => X.cell? ⟨p, 0, none⟩ = some (.pointer (some ⟨pd, 0, none⟩))) (by kernel_rfl) PR.out.drew_.cell0 (fun hHeld => ?_)
        refine wpAnyH_take (i := 0) (v := ?_) rfl (by kernel_rfl) (by kernel_rfl) (by kernel_rfl) (fun _ _ _ h => h) (Or.inl ⟨by rfl, ?_⟩) (by assumption) ?_
        rotate_left 1
        · intro w' hSw
          go_simp
          all_goals first | with_reducible rfl | (rw [if_neg (by omega)]; done) | (rw [if_pos (by omega)]; done) | (rw [if_neg (by omega)]; with_reducible rfl) | (rw [if_pos (by omega)]; with_reducible rfl)
        try simp only [List.getElem_toArray, List.getElem_cons_zero, Act.put, List.setIfInBounds_toArray, List.set_cons_zero, List.set_cons_succ]
        refine wpAnyH_take (i := 1) (v := ?_) rfl (by kernel_rfl) (by kernel_rfl) (by kernel_rfl) (fun _ _ _ h => h) (Or.inl ⟨by rfl, ?_⟩) (by assumption) ?_
        rotate_left 1
        · intro w' hSw
          go_simp
          all_goals first | with_reducible rfl | (rw [if_neg (by omega)]; done) | (rw [if_pos (by omega)]; done) | (rw [if_neg (by omega)]; with_reducible rfl) | (rw [if_pos (by omega)]; with_reducible rfl)
        try simp only [List.getElem_toArray, List.getElem_cons_zero, List.getElem_cons_succ, Act.put, List.setIfInBounds_toArray, List.set_cons_zero, List.set_cons_succ]
        refine wpAnyH_take (i := 2) (v := ?_) rfl (by kernel_rfl) (by kernel_rfl) (by kernel_rfl) (fun _ _ _ h => h) (Or.inl ⟨by rfl, ?_⟩) (by assumption) ?_
        rotate_left 1
        · intro w' hSw
          go_simp
          all_goals first | with_reducible rfl | (rw [if_neg (by omega)]; done) | (rw [if_pos (by omega)]; done) | (rw [if_neg (by omega)]; with_reducible rfl) | (rw [if_pos (by omega)]; with_reducible rfl)
        try simp only [List.getElem_toArray, List.getElem_cons_zero, List.getElem_cons_succ, Act.put, List.setIfInBounds_toArray, List.set_cons_zero, List.set_cons_succ]
        refine wpAnyH_take (i := 3) (v := ?_) rfl (by kernel_rfl) (by kernel_rfl) (by kernel_rfl) (fun _ _ _ h => h) (Or.inl ⟨by rfl, ?_⟩) (by assumption) ?_
        rotate_left 1
        · intro w' hSw
          obtain p0 := hSw
          go_simp
          all_goals first | with_reducible rfl | (rw [if_neg (by omega)]; done) | (rw [if_pos (by omega)]; done) | (rw [if_neg (by omega)]; with_reducible rfl) | (rw [if_pos (by omega)]; with_reducible rfl)
        try simp only [List.getElem_toArray, List.getElem_cons_zero, List.getElem_cons_succ, Act.put, List.setIfInBounds_toArray, List.set_cons_zero, List.set_cons_succ]
        refine wpAnyH_take (i := 4) (v := ?_) rfl (by kernel_rfl) (by kernel_rfl) (by kernel_rfl) (fun _ _ _ h => h) (Or.inl ⟨by rfl, ?_⟩) (by assumption) ?_
        rotate_left 1
        · intro w' hSw
          go_simp
          all_goals first | with_reducible rfl | (rw [if_neg (by omega)]; done) | (rw [if_pos (by omega)]; done) | (rw [if_neg (by omega)]; with_reducible rfl) | (rw [if_pos (by omega)]; with_reducible rfl)
        try simp only [List.getElem_toArray, List.getElem_cons_zero, List.getElem_cons_succ, Act.put, List.setIfInBounds_toArray, List.set_cons_zero, List.set_cons_succ]
        refine wpAnyH_take (i := 5) (v := ?_) rfl (by kernel_rfl) (by kernel_rfl) (by kernel_rfl) (fun _ _ _ h => h) (Or.inl ⟨by rfl, ?_⟩) (by assumption) ?_
        rotate_left 1
        · intro w' hSw
          go_simp
          all_goals first | with_reducible rfl | (rw [if_neg (by omega)]; done) | (rw [if_pos (by omega)]; done) | (rw [if_neg (by omega)]; with_reducible rfl) | (rw [if_pos (by omega)]; with_reducible rfl)
        try simp only [List.getElem_toArray, List.getElem_cons_zero, List.getElem_cons_succ, Act.put, List.setIfInBounds_toArray, List.set_cons_zero, List.set_cons_succ]
        refine wpAnyH_take (i := 7) (v := ?_) rfl (by kernel_rfl) (by kernel_rfl) (by kernel_rfl) (fun _ _ _ h => h) (Or.inl ⟨by rfl, ?_⟩) (by assumption) ?_
        rotate_left 1
        · intro w' hSw
          go_simp
          all_goals first | with_reducible rfl | (rw [if_neg (by omega)]; done) | (rw [if_pos (by omega)]; done) | (rw [if_neg (by omega)]; with_reducible rfl) | (rw [if_pos (by omega)]; with_reducible rfl)
        try simp only [List.getElem_toArray, List.getElem_cons_zero, List.getElem_cons_succ, Act.put, List.setIfInBounds_toArray, List.set_cons_zero, List.set_cons_succ]
        refine wpAnyH_take (i := 9) (v := ?_) rfl (by kernel_rfl) (by kernel_rfl) (by kernel_rfl) (fun _ _ _ h => h) (Or.inl ⟨by rfl, ?_⟩) (by assumption) ?_
        rotate_left 1
        · intro w' hSw
          go_simp
          all_goals first | with_reducible rfl | (rw [if_neg (by omega)]; done) | (rw [if_pos (by omega)]; done) | (rw [if_neg (by omega)]; with_reducible rfl) | (rw [if_pos (by omega)]; with_reducible rfl)
        try simp only [List.getElem_toArray, List.getElem_cons_zero, List.getElem_cons_succ, Act.put, List.setIfInBounds_toArray, List.set_cons_zero, List.set_cons_succ]
        refine wpAnyH_take (i := 10) (v := ?_) rfl (by kernel_rfl) (by kernel_rfl) (by kernel_rfl) (fun _ _ _ h => h) (Or.inl ⟨by rfl, ?_⟩) (by assumption) ?_
        rotate_left 1
        · intro w' hSw
          go_simp
          all_goals first | with_reducible rfl | (rw [if_neg (by omega)]; done) | (rw [if_pos (by omega)]; done) | (rw [if_neg (by omega)]; with_reducible rfl) | (rw [if_pos (by omega)]; with_reducible rfl)
        try simp only [List.getElem_toArray, List.getElem_cons_zero, List.getElem_cons_succ, Act.put, List.setIfInBounds_toArray, List.set_cons_zero, List.set_cons_succ]
        refine wpAnyH_take (i := 11) (v := ?_) rfl (by kernel_rfl) (by kernel_rfl) (by kernel_rfl) (fun _ _ _ h => h) (Or.inl ⟨by rfl, ?_⟩) (by assumption) ?_
        rotate_left 1
        · intro w' hSw
          go_simp
          all_goals first | with_reducible rfl | (rw [if_neg (by omega)]; done) | (rw [if_pos (by omega)]; done) | (rw [if_neg (by omega)]; with_reducible rfl) | (rw [if_pos (by omega)]; with_reducible rfl)
        try simp only [List.getElem_toArray, List.getElem_cons_zero, List.getElem_cons_succ, Act.put, List.setIfInBounds_toArray, List.set_cons_zero, List.set_cons_succ]
        refine wpAnyH_ready (rs := [6]) (by kernel_rfl) (by simp) ?_
        refine AllReadyH.cons rfl (fun K hK => ?_) AllReadyH.nil
        refine step_call rfl 51 Tryd.f51 _ _ rfl Tryd.func51 (by kernel_rfl) (by kernel_rfl) _ _ (HSE.out _ PR.out.drew_) (by go_simp) ?_
        rintro u1 w5 ⟨rfl, rfl⟩
        refine hK.out _ _ (PR.out.drew_.cell0) (fun hHeld => ?_)
        clear hK K
        try simp only [List.getElem_toArray, List.getElem_cons_zero, List.getElem_cons_succ, Act.put, List.setIfInBounds_toArray, List.set_cons_zero, List.set_cons_succ]
        refine wpAnyH_take (i := 8) (v := ?_) rfl (by kernel_rfl) (by kernel_rfl) (by kernel_rfl) (fun _ _ _ h => h) (Or.inl ⟨by rfl, ?_⟩) (by assumption) ?_
        rotate_left 1
        · intro w' hSw
          go_simp
          all_goals first | with_reducible rfl | (rw [if_neg (by omega)]; done) | (rw [if_pos (by omega)]; done) | (rw [if_neg (by omega)]; with_reducible rfl) | (rw [if_pos (by omega)]; with_reducible rfl)
        try simp only [List.getElem_toArray, List.getElem_cons_zero, List.getElem_cons_succ, Act.put, List.setIfInBounds_toArray, List.set_cons_zero, List.set_cons_succ]
        refine wpAnyH_ready (rs := [12]) (by kernel_rfl) (by simp) ?_
        refine AllReadyH.cons rfl (fun K hK => ?_) AllReadyH.nil
        refine step_call rfl 62 Tryd.f62 _ _ rfl Tryd.func62 (by kernel_rfl) (by kernel_rfl) _ _ (HW.out _ (DD.out.still ((Turn.refl (fun _ => False) wr).drew)) (BT.out.turn ((Turn.refl (fun _ => False) wr).drew) (fun _ h => h.elim))) (by go_simp) ?_
        rintro u2 w6 ⟨rfl, S6, hD6, hS6⟩
        have D6 := Lib.hid hD6
        have T6 := Lib.hid hS6
        refine hK.out _ _ (cell_turn9 PR.out.drew_.cell0 hS6.1 (fun h => HAK.out _ h rfl)) (fun hHeld => ?_)
        clear hD6 hS6
        clear hK K
        try simp only [List.getElem_toArray, List.getElem_cons_zero, List.getElem_cons_succ, Act.put, List.setIfInBounds_toArray, List.set_cons_zero, List.set_cons_succ]
        refine wpAnyH_take (i := 13) (v := ?_) rfl (by kernel_rfl) (by kernel_rfl) (by kernel_rfl) (fun _ _ _ h => h) (Or.inl ⟨by rfl, ?_⟩) (by assumption) ?_
        rotate_left 1
        · intro w' hSw
          go_simp
          all_goals first | with_reducible rfl | (rw [if_neg (by omega)]; done) | (rw [if_pos (by omega)]; done) | (rw [if_neg (by omega)]; with_reducible rfl) | (rw [if_pos (by omega)]; with_reducible rfl)
        try simp only [List.getElem_toArray, List.getElem_cons_zero, List.getElem_cons_succ, Act.put, List.setIfInBounds_toArray, List.set_cons_zero, List.set_cons_succ]
        refine wpAnyH_done (by kernel_rfl) ?_ _
        refine NoPanic.normal ?_
        have DW := Lib.hid (show (Dk.write ((s : Int) + k) (l2.take 128)).1.pend.length ≤ D.pend.length + (k + 1) by have := (write_len Dk ((s : Int) + k) (l2.take 128)).2; have := HPk.out; omega)
        have S6b := Lib.hid (SS.out.trans (show Stp Sk wr S6 w6 from ⟨(((Turn.refl Sk wr).drew)).trans T6.out.1, fun q hq => T6.out.2 q hq⟩))
        have B6 := Lib.hid (BB.out.turn ((((Turn.refl Sk wr).drew)).trans T6.out.1) (fun q hq => T6.out.2 q hq))
        have HK1 : Hid (8 - k = (8 - (k + 1)) + 1) := Lib.hid (by omega)
        by_cases he : (Dk.write ((s : Int) + k) (l2.take 128)).2 = 0
        · have HRn : Hid (putk (8 - (k + 1)) (Dk.write ((s : Int) + k) (l2.take 128)).1 ((s : Int) + ((k + 1 : Nat) : Int)) (l2.drop 128) = R) := Lib.hid (by
            have := HRk.out
            rw [HK1.out, putk, if_pos he] at this
            rw [show (s : Int) + ((k + 1 : Nat) : Int) = (s : Int) + k + 1 by omega]
            exact this)
          rw [he]
          clear he
          go_wp2_with fail
          all_goals go_roundw
          case rel => exact ⟨k + 1, 0, none, [], _, S6, by omega, by simp [hq], by have := hnil.out rfl; simp; omega, D6.out, S6b.out, ⟨Nat.zero_le _, Nat.zero_le _, fun _ => rfl, fun _ e => by cases e⟩, by have h5 : l2.drop 128 = [] := List.eq_nil_of_length_eq_zero (by rw [← hz.out]; have := hnil.out rfl; omega); rw [← h5]; exact HRn, DW⟩
          case measure => simp [intOf, hq]; omega
        · have HRe : Hid (R = Dk.write ((s : Int) + k) (l2.take 128)) := Lib.hid (by
            have := HRk.out
            rw [HK1.out, putk, if_neg he] at this
            exact this.symm)
          have hne : ((Dk.write ((s : Int) + k) (l2.take 128)).2 == 0) = false := by simpa using he
          generalize Dk.write ((s : Int) + k) (l2.take 128) = E at *
          clear he
          go_wp2_with fail
          go_ret
          exact ⟨by rw [HRe.out]; rfl, S6, by rw [HRe.out]; exact D6.out, S6b.out⟩
      | some ad =>
        go_upto_region 5 with fail
        refine wp_region_noPanic ?_
        refine wp_region_held_drew (S := fun X => X.cell? ⟨p, 0, none⟩ = some (.pointer (some ⟨pd, 0, none⟩))) (by kernel_rfl) PR.out.drew_.cell0 (fun hHeld => ?_)
        refine wpAnyH_take (i := 0) (v := ?_) rfl (by kernel_rfl) (by kernel_rfl) (by kernel_rfl) (fun _ _ _ h => h) (Or.inl ⟨by rfl, ?_⟩) (by assumption) ?_
        rotate_left 1
        · intro w' hSw
          go_simp
          all_goals first | with_reducible rfl | (rw [if_neg (by omega)]; done) | (rw [if_pos (by omega)]; done) | (rw [if_neg (by omega)]; with_reducible rfl) | (rw [if_pos (by omega)]; with_reducible rfl)
        try simp only [List.getElem_toArray, List.getElem_cons_zero, Act.put, List.setIfInBounds_toArray, List.set_cons_zero, List.set_cons_succ]
        refine wpAnyH_take (i := 1) (v := ?_) rfl (by kernel_rfl) (by kernel_rfl) (by kernel_rfl) (fun _ _ _ h => h) (Or.inl ⟨by rfl, ?_⟩) (by assumption) ?_
        rotate_left 1
        · intro w' hSw
          go_simp
          all_goals first | with_reducible rfl | (rw [if_neg (by omega)]; done) | (rw [if_pos (by omega)]; done) | (rw [if_neg (by omega)]; with_reducible rfl) | (rw [if_pos (by omega)]; with_reducible rfl)
        try simp only [List.getElem_toArray, List.getElem_cons_zero, List.getElem_cons_succ, Act.put, List.setIfInBounds_toArray, List.set_cons_zero, List.set_cons_succ]
        refine wpAnyH_take (i := 2) (v := ?_) rfl (by kernel_rfl) (by kernel_rfl) (by kernel_rfl) (fun _ _ _ h => h) (Or.inl ⟨by rfl, ?_⟩) (by assumption) ?_
        rotate_left 1
        · intro w' hSw
          go_simp
          all_goals first | with_reducible rfl | (rw [if_neg (by omega)]; done) | (rw [if_pos (by omega)]; done) | (rw [if_neg (by omega)]; with_reducible rfl) | (rw [if_pos (by omega)]; with_reducible rfl)
        try simp only [List.getElem_toArray, List.getElem_cons_zero, List.getElem_cons_succ, Act.put, List.setIfInBounds_toArray, List.set_cons_zero, List.set_cons_succ]
        refine wpAnyH_take (i := 3) (v := ?_) rfl (by kernel_rfl) (by kernel_rfl) (by kernel_rfl) (fun _ _ _ h => h) (Or.inl ⟨by rfl, ?_⟩) (by assumption) ?_
        rotate_left 1
        · intro w' hSw
          obtain p0 := hSw
          go_simp
          all_goals first | with_reducible rfl | (rw [if_neg (by omega)]; done) | (rw [if_pos (by omega)]; done) | (rw [if_neg (by omega)]; with_reducible rfl) | (rw [if_pos (by omega)]; with_reducible rfl)
        try simp only [List.getElem_toArray, List.getElem_cons_zero, List.getElem_cons_succ, Act.put, List.setIfInBounds_toArray, List.set_cons_zero, List.set_cons_succ]
        refine wpAnyH_take (i := 4) (v := ?_) rfl (by kernel_rfl) (by kernel_rfl) (by kernel_rfl) (fun _ _ _ h => h) (Or.inl ⟨by rfl, ?_⟩) (by assumption) ?_
        rotate_left 1
        · intro w' hSw
          go_simp
          all_goals first | with_reducible rfl | (rw [if_neg (by omega)]; done) | (rw [if_pos (by omega)]; done) | (rw [if_neg (by omega)]; with_reducible rfl) | (rw [if_pos (by omega)]; with_reducible rfl)
        try simp only [List.getElem_toArray, List.getElem_cons_zero, List.getElem_cons_succ, Act.put, List.setIfInBounds_toArray, List.set_cons_zero, List.set_cons_succ]
        refine wpAnyH_take (i := 5) (v := ?_) rfl (by kernel_rfl) (by kernel_rfl) (by kernel_rfl) (fun _ _ _ h => h) (Or.inl ⟨by rfl, ?_⟩) (by assumption) ?_
        rotate_left 1
        · intro w' hSw
          go_simp
          all_goals first | with_reducible rfl | (rw [if_neg (by omega)]; done) | (rw [if_pos (by omega)]; done) | (rw [if_neg (by omega)]; with_reducible rfl) | (rw [if_pos (by omega)]; with_reducible rfl)
        try simp only [List.getElem_toArray, List.getElem_cons_zero, List.getElem_cons_succ, Act.put, List.setIfInBounds_toArray, List.set_cons_zero, List.set_cons_succ]
        refine wpAnyH_take (i := 7) (v := ?_) rfl (by kernel_rfl) (by kernel_rfl) (by kernel_rfl) (fun _ _ _ h => h) (Or.inl ⟨by rfl, ?_⟩) (by assumption) ?_
        rotate_left 1
        · intro w' hSw
          go_simp
          all_goals first | with_reducible rfl | (rw [if_neg (by omega)]; done) | (rw [if_pos (by omega)]; done) | (rw [if_neg (by omega)]; with_reducible rfl) | (rw [if_pos (by omega)]; with_reducible rfl)
        try simp only [List.getElem_toArray, List.getElem_cons_zero, List.getElem_cons_succ, Act.put, List.setIfInBounds_toArray, List.set_cons_zero, List.set_cons_succ]
        refine wpAnyH_take (i := 9) (v := ?_) rfl (by kernel_rfl) (by kernel_rfl) (by kernel_rfl) (fun _ _ _ h => h) (Or.inl ⟨by rfl, ?_⟩) (by assumption) ?_
        rotate_left 1
        · intro w' hSw
          go_simp
          all_goals first | with_reducible rfl | (rw [if_neg (by omega)]; done) | (rw [if_pos (by omega)]; done) | (rw [if_neg (by omega)]; with_reducible rfl) | (rw [if_pos (by omega)]; with_reducible rfl)
        try simp only [List.getElem_toArray, List.getElem_cons_zero, List.getElem_cons_succ, Act.put, List.setIfInBounds_toArray, List.set_cons_zero, List.set_cons_succ]
        refine wpAnyH_take (i := 10) (v := ?_) rfl (by kernel_rfl) (by kernel_rfl) (by kernel_rfl) (fun _ _ _ h => h) (Or.inl ⟨by rfl, ?_⟩) (by assumption) ?_
        rotate_left 1
        · intro w' hSw
          go_simp
          all_goals first | with_reducible rfl | (rw [if_neg (by omega)]; done) | (rw [if_pos (by omega)]; done) | (rw [if_neg (by omega)]; with_reducible rfl) | (rw [if_pos (by omega)]; with_reducible rfl)
        try simp only [List.getElem_toArray, List.getElem_cons_zero, List.getElem_cons_succ, Act.put, List.setIfInBounds_toArray, List.set_cons_zero, List.set_cons_succ]
        refine wpAnyH_take (i := 11) (v := ?_) rfl (by kernel_rfl) (by kernel_rfl) (by kernel_rfl) (fun _ _ _ h => h) (Or.inl ⟨by rfl, ?_⟩) (by assumption) ?_
        rotate_left 1
        · intro w' hSw
          go_simp
          all_goals first | with_reducible rfl | (rw [if_neg (by omega)]; done) | (rw [if_pos (by omega)]; done) | (rw [if_neg (by omega)]; with_reducible rfl) | (rw [if_pos (by omega)]; with_reducible rfl)
        try simp only [List.getElem_toArray, List.getElem_cons_zero, List.getElem_cons_succ, Act.put, List.setIfInBounds_toArray, List.set_cons_zero, List.set_cons_succ]
        refine wpAnyH_ready (rs := [6]) (by kernel_rfl) (by simp) ?_
        refine AllReadyH.cons rfl (fun K hK => ?_) AllReadyH.nil
        refine step_call rfl 51 Tryd.f51 _ _ rfl Tryd.func51 (by kernel_rfl) (by kernel_rfl) _ _ (HSE.out _ PR.out.drew_) (by go_simp) ?_
        rintro u1 w5 ⟨rfl, rfl⟩
        refine hK.out _ _ (PR.out.drew_.cell0) (fun hHeld => ?_)
        clear hK K
        try simp only [List.getElem_toArray, List.getElem_cons_zero, List.getElem_cons_succ, Act.put, List.setIfInBounds_toArray, List.set_cons_zero, List.set_cons_succ]
        refine wpAnyH_take (i := 8) (v := ?_) rfl (by kernel_rfl) (by kernel_rfl) (by kernel_rfl) (fun _ _ _ h => h) (Or.inl ⟨by rfl, ?_⟩) (by assumption) ?_
        rotate_left 1
        · intro w' hSw
          go_simp
          all_goals first | with_reducible rfl | (rw [if_neg (by omega)]; done) | (rw [if_pos (by omega)]; done) | (rw [if_neg (by omega)]; with_reducible rfl) | (rw [if_pos (by omega)]; with_reducible rfl)
        try simp only [List.getElem_toArray, List.getElem_cons_zero, List.getElem_cons_succ, Act.put, List.setIfInBounds_toArray, List.set_cons_zero, List.set_cons_succ]
        refine wpAnyH_ready (rs := [12]) (by kernel_rfl) (by simp) ?_
        refine AllReadyH.cons rfl (fun K hK => ?_) AllReadyH.nil
        refine step_call rfl 62 Tryd.f62 _ _ rfl Tryd.func62 (by kernel_rfl) (by kernel_rfl) _ _ (HW.out _ (DD.out.still ((Turn.refl (fun _ => False) wr).drew)) (BT.out.turn ((Turn.refl (fun _ => False) wr).drew) (fun _ h => h.elim))) (by go_simp) ?_
        rintro u2 w6 ⟨rfl, S6, hD6, hS6⟩
        have D6 := Lib.hid hD6
        have T6 := Lib.hid hS6
        refine hK.out _ _ (cell_turn9 PR.out.drew_.cell0 hS6.1 (fun h => HAK.out _ h rfl)) (fun hHeld => ?_)
        clear hD6 hS6
        clear hK K
        try simp only [List.getElem_toArray, List.getElem_cons_zero, List.getElem_cons_succ, Act.put, List.setIfInBounds_toArray, List.set_cons_zero, List.set_cons_succ]
        refine wpAnyH_take (i := 13) (v := ?_) rfl (by kernel_rfl) (by kernel_rfl) (by kernel_rfl) (fun _ _ _ h => h) (Or.inl ⟨by rfl, ?_⟩) (by assumption) ?_
        rotate_left 1
        · intro w' hSw
          go_simp
          all_goals first | with_reducible rfl | (rw [if_neg (by omega)]; done) | (rw [if_pos (by omega)]; done) | (rw [if_neg (by omega)]; with_reducible rfl) | (rw [if_pos (by omega)]; with_reducible rfl)
        try simp only [List.getElem_toArray, List.getElem_cons_zero, List.getElem_cons_succ, Act.put, List.setIfInBounds_toArray, List.set_cons_zero, List.set_cons_succ]
        refine wpAnyH_done (by kernel_rfl) ?_ _
        refine NoPanic.normal ?_
        have DW := Lib.hid (show (Dk.write ((s : Int) + k) (l2.take 128)).1.pend.length ≤ D.pend.length + (k + 1) by have := (write_len Dk ((s : Int) + k) (l2.take 128)).2; have := HPk.out; omega)
        have S6b := Lib.hid (SS.out.trans (show Stp Sk wr S6 w6 from ⟨(((Turn.refl Sk wr).drew)).trans T6.out.1, fun q hq => T6.out.2 q hq⟩))
        have B6 := Lib.hid (BB.out.turn ((((Turn.refl Sk wr).drew)).trans T6.out.1) (fun q hq => T6.out.2 q hq))
        have HK1 : Hid (8 - k = (8 - (k + 1)) + 1) := Lib.hid (by omega)
        by_cases he : (Dk.write ((s : Int) + k) (l2.take 128)).2 = 0
        · have HRn : Hid (putk (8 - (k + 1)) (Dk.write ((s : Int) + k) (l2.take 128)).1 ((s : Int) + ((k + 1 : Nat) : Int)) (l2.drop 128) = R) := Lib.hid (by
            have := HRk.out
            rw [HK1.out, putk, if_pos he] at this
            rw [show (s : Int) + ((k + 1 : Nat) : Int) = (s : Int) + k + 1 by omega]
            exact this)
          rw [he]
          clear he
          go_wp2_with fail
          all_goals go_roundw
          case rel => exact ⟨k + 1, c2 - nn, _, l2.drop 128, _, S6, by omega, by simp [hq], by rw [← hz.out], D6.out, S6b.out, by rw [← HDR.out]; exact B6.out.drop nn (by rw [HL2.out]; exact hn1) _ (by first | exact .inr rfl | (split <;> rename_i hcc <;> first | exact .inl ⟨hcc, rfl⟩ | exact .inr rfl) | exact .inl ⟨by omega, rfl⟩), HRn, DW⟩
          case measure => simp [intOf, hq]; omega
        · have HRe : Hid (R = Dk.write ((s : Int) + k) (l2.take 128)) := Lib.hid (by
            have := HRk.out
            rw [HK1.out, putk, if_neg he] at this
            exact this.symm)
          have hne : ((Dk.write ((s : Int) + k) (l2.take 128)).2 == 0) = false := by simpa using he
          generalize Dk.write ((s : Int) + k) (l2.take 128) = E at *
          clear he
          go_wp2_with fail
          go_ret
          exact ⟨by rw [HRe.out]; rfl, S6, by rw [HRe.out]; exact D6.out, S6b.out⟩
    · obtain rfl : k = 8 := by omega
      have HRz : Hid (R = (Dk, 0)) := Lib.hid (by have := HRk.out; simpa [putk] using this.symm)
      go_wp2_with fail
      go_ret
      exact ⟨by rw [HRz.out]; rfl, Sk, by rw [HRz.out]; exact DD.out, SS.out⟩
end Go.Proofs.YtmedljnbcpdoeaaDoor
