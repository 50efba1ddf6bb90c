/- Layer 9: a pager over its disk; Write, Rewrite. -/
import Derived.Test.YtmedljnbcpdoeaaDoorPrF
namespace Go.Proofs.YtmedljnbcpdoeaaDoor
open Go.RowKit
set_option linter.unusedVariables false
set_option linter.unusedSimpArgs false
set_option maxRecDepth 100000

theorem rw7_pos (t : List Bool) : ∀ (i r : Nat), 0 < r → r ≤ i → ∃ c rest, rw7 i r (t ++ [false]) = (i - r, c) :: rest ∧ 0 < c := by
  induction t with
  | nil => intro i r h1 h2; exact ⟨r, _, by rw [List.nil_append, rw7, if_pos h1]; rfl, h1⟩
  | cons b t ih =>
    intro i r h1 h2
    cases b with
    | true =>
      obtain ⟨c, rest, e, hc⟩ := ih (i + 1) (r + 1) (by omega) (by omega)
      exact ⟨c, rest, by rw [List.cons_append, rw7, e, show i + 1 - (r + 1) = i - r by omega], hc⟩
    | false => exact ⟨r, _, by rw [List.cons_append, rw7, if_pos h1]; rfl, h1⟩
theorem rw7_none9 (t : List Bool) : ∀ (i : Nat), (∀ j, j < t.length → t.getD j false = false) → rw7 i 0 (t ++ [false]) = [] := by
  induction t with
  | nil => intro i h; rw [List.nil_append, rw7, if_neg (by decide)]; rfl
  | cons b t ih =>
    intro i h
    have h0 := h 0 (by simp)
    simp only [List.getD_cons_zero] at h0
    subst h0
    rw [List.cons_append, rw7, if_neg (by decide), List.nil_append]
    exact ih (i + 1) (fun j hj => by have := h (j + 1) (by simp; omega); simpa using this)
theorem rw7_some9 (t : List Bool) : ∀ (i j : Nat), j < t.length → t.getD j false = true → (∀ q, q < j → t.getD q false = false) → ∃ c rest, rw7 i 0 (t ++ [false]) = (i + j, c) :: rest ∧ 0 < c := by
  induction t with
  | nil => intro i j h; cases h
  | cons b t ih =>
    intro i j hj ht hq
    cases b with
    | true =>
      have hj0 : j = 0 := by
        rcases Nat.eq_zero_or_pos j with h | h
        · exact h
        · have := hq 0 h; simp at this
      subst hj0
      obtain ⟨c, rest, e, hc⟩ := rw7_pos t (i + 1) 1 (by decide) (by omega)
      exact ⟨c, rest, by rw [List.cons_append, rw7, e]; rfl, hc⟩
    | false =>
      rcases Nat.eq_zero_or_pos j with h | h
      · subst h; simp at ht
      · obtain ⟨q, rfl⟩ : ∃ q, j = q + 1 := ⟨j - 1, by omega⟩
        obtain ⟨c, rest, e, hc⟩ := ih (i + 1) q (by simpa using hj) (by simpa using ht) (fun x hx => by have := hq (x + 1) (by omega); simpa using this)
        exact ⟨c, rest, by rw [List.cons_append, rw7, if_neg (by decide), List.nil_append, e, show i + 1 + q = i + (q + 1) by omega], hc⟩
theorem fst9_some {st : List Nat} {i : Nat} (h : fst9 st = some i) : i < st.length ∧ st.getD i 0 = 0 ∧ ∀ j, j < i → st.getD j 0 ≠ 0 := by
  unfold fst9 at h
  rw [List.find?_range_eq_some] at h
  refine ⟨by have := h.2.1; simpa using this, by simpa using h.1, fun j hj => by have := h.2.2 j hj; simpa using this⟩
theorem fst9_none {st : List Nat} (h : fst9 st = none) : ∀ j, j < st.length → st.getD j 0 ≠ 0 := by
  unfold fst9 at h
  rw [List.find?_range_eq_none] at h
  exact fun j hj => by have := h j hj; simpa using this
theorem tak9_some {st : List Nat} {i : Nat} (h : fst9 st = some i) : tak7 (bits9 st) 1 = ((bits9 st).set i false, (i : Int), 0) := by
  obtain ⟨h1, h2, h3⟩ := fst9_some h
  have hl := len_bits9 st
  have hb : (bits9 st).getD i false = true := by rw [bits9_at st i h1, h2]; rfl
  obtain ⟨c, rest, e, hc⟩ := rw7_some9 (bits9 st) 0 i (by omega) hb (fun q hq => by rw [bits9_at st q (by omega)]; exact beq_eq_false_iff_ne.2 (h3 q hq))
  rw [Nat.zero_add] at e
  have hf : (rows7 (bits9 st)).find? (fun x => decide ((1 : Int) ≤ (x.2 : Int))) = some (i, c) := by
    unfold rows7
    rw [e, List.find?_cons_of_pos]
    simp; omega
  unfold tak7
  rw [if_neg (by decide), hf]
  have : flip (bits9 st) i (1 : Int).toNat = (bits9 st).set i false := by
    show flip (bits9 st) i 1 = _
    rw [flip, flip, Nat.add_zero, hb]; rfl
  show (flip (bits9 st) i (1 : Int).toNat, (i : Int), (0 : Int)) = _
  rw [this]
theorem tak9_none {st : List Nat} (h : fst9 st = none) : tak7 (bits9 st) 1 = (bits9 st, 0, 10) := by
  have h1 := fst9_none h
  have hl := len_bits9 st
  have e := rw7_none9 (bits9 st) 0 (fun j hj => by rw [bits9_at st j (by omega)]; exact beq_eq_false_iff_ne.2 (h1 j (by omega)))
  unfold tak7
  rw [if_neg (by decide)]
  unfold rows7
  rw [e]
  rfl
def Pown (p pa ga gr : Nat) (SD : Nat → Prop) (k : Nat) : Prop := k = p ∨ k = pa ∨ k = ga ∨ k = gr ∨ SD k
/-- A pager, from fr on, of the pages st, over the disk D; all that is theirs lies in S. -/
def Pq (S : Nat → Prop) (w : World) (p pd fr : Nat) (st : List Nat) (D : Dsk) : Prop :=
  ∃ pa ga gr SD, Pm w p pd pa ga gr fr st (bits9 st) ∧ Dq SD w pd D ∧ (∀ k, SD k → k ≠ p ∧ k ≠ pa ∧ k ≠ ga ∧ k ≠ gr ∧ k ≠ 0) ∧ S = Pown p pa ga gr SD ∧ fr + 8 * st.length ≤ D.kept.length
theorem Pq.mk {w w' : World} {p pd pa ga gr fr : Nat} {st' : List Nat} {SD SD' : Nat → Prop} {D' : Dsk} (hP : Pm w' p pd pa ga gr fr st' (bits9 st')) (hD : Dq SD' w' pd D') (hap : ∀ k, SD k → k ≠ p ∧ k ≠ pa ∧ k ≠ ga ∧ k ≠ gr ∧ k ≠ 0) (hlt : p < w.heap.size ∧ pa < w.heap.size ∧ ga < w.heap.size ∧ gr < w.heap.size)
    (hs : ∀ k, SD' k → SD k ∨ w.heap.size ≤ k) (ht : Turn (Pown p pa ga gr SD) w w') (hr : fr + 8 * st'.length ≤ D'.kept.length) : ∃ S', Pq S' w' p pd fr st' D' ∧ Stp (Pown p pa ga gr SD) w S' w' := by
  refine ⟨Pown p pa ga gr SD', ⟨pa, ga, gr, SD', hP, hD, fun k hk => ?_, rfl, hr⟩, ht, fun k hk => ?_⟩
  · rcases hs k hk with h | h
    · exact hap k h
    · omega
  · rcases hk with h | h | h | h | h
    · exact .inl (.inl h)
    · exact .inl (.inr (.inl h))
    · exact .inl (.inr (.inr (.inl h)))
    · exact .inl (.inr (.inr (.inr (.inl h))))
    · rcases hs k h with h | h
      · exact .inl (.inr (.inr (.inr (.inr h))))
      · exact .inr h
theorem putk_len : ∀ (n : Nat) (D : Dsk) (s : Int) (b : List UInt8), (putk n D s b).1.kept.length = D.kept.length ∧ (putk n D s b).1.pend.length ≤ D.pend.length + n
  | 0, D, s, b => ⟨rfl, Nat.le_refl _⟩
  | n + 1, D, s, b => by
    have h := write_len D s (b.take 128)
    rw [putk]
    split
    · have h2 := putk_len n (D.write s (b.take 128)).1 (s + 1) (b.drop 128)
      omega
    · omega
def wr9 (fr : Nat) (st : List Nat) (D : Dsk) (b : List UInt8) : List Nat × Dsk × Nat × Int :=
  if 1024 < b.length then (st, D, 0, 5) else
  match fst9 st with
  | none => (st, D, 0, 10)
  | some i => if (putk 8 D ((fr + 8 * i : Nat) : Int) b).2 = 0 then (st.set i 2, (putk 8 D ((fr + 8 * i : Nat) : Int) b).1, i, 0) else (st, (putk 8 D ((fr + 8 * i : Nat) : Int) b).1, 0, (putk 8 D ((fr + 8 * i : Nat) : Int) b).2)
theorem Pm.take {w w' : World} {p pd pa ga gr fr : Nat} {st : List Nat} {l l' : List Bool} (h : Pm w p pd pa ga gr fr st l) (hal : Al w' pa ga l') (ht : Turn (· = ga) w w') (hl : l'.length = l.length) : Pm w' p pd pa ga gr fr st l' :=
  ⟨h.bx.turn ht h.d3, h.row.turn ht h.d5, hal, by rw [hl]; exact h.len, h.d1, h.d2, h.d3, h.d4, h.d5, h.p0, h.g0⟩
set_option maxHeartbeats 2000000 in
theorem write9_any {S : Nat → Prop} {w : World} {p pd fr : Nat} {st : List Nat} {D : Dsk} (h : Pq S w p pd fr st D) {A : Option Addr} {c : Nat} {bl : List UInt8} (hB : bl.length ≤ 1024 → Ba S w A c bl) (hpn : D.pend.length + 8 < 1000000000) :
    Calls Tryd.prog 27 #[.pointer (some ⟨p, 0, none⟩), .slice A bl.length c] w fun r w' => r = .returned (.tuple #[.int .i64 ((wr9 fr st D bl).2.2.1 : Nat), .int .i64 (wr9 fr st D bl).2.2.2]) ∧ ∃ S', Pq S' w' p pd fr (wr9 fr st D bl).1 (wr9 fr st D bl).2.1 ∧ Stp S w S' w' := by
  obtain ⟨pa, ga, gr, SD, hP, hD, hap, rfl, hroom⟩ := h
  have HM := Lib.hid (made9 hP)
  have HAP := Lib.hid hap
  have hpl := hP.bx.lt
  have hgl := hP.row.lt
  have hal := hP.al.ltp
  have hbl := hP.al.ltg
  have HP := Lib.hid hP
  have HD := Lib.hid hD
  have hkm : D.kept.length ≤ 16384 := hD.1.most
  have hst := hP.le
  by_cases hlen : 1024 < bl.length
  · have hw : Hid (wr9 fr st D bl = (st, D, 0, 5)) := Lib.hid (by unfold wr9; rw [if_pos hlen])
    have HQ : Hid (∃ S', Pq S' w p pd fr st D ∧ Stp (Pown p pa ga gr SD) w S' w) := Lib.hid ⟨_, ⟨pa, ga, gr, SD, hP, hD, hap, rfl, hroom⟩, Stp.refl _ _⟩
    rw [hw.out]
    have hl1 : (1024 : Int) < (bl.length : Int) := by omega
    clear hP hD hap hB hlen hw
    generalize bl.length = L at *
    go_enter Tryd.func27, Tryd.ntmps27
    go_wp2_with fail
    refine HM.out.mono ?_
    rintro e w1 ⟨rfl, rfl⟩
    go_wp2_with fail
    exact bodyPost_ret (v := .tuple #[.int .i64 0, .int .i64 5]) (by simp [results, Tryd.results27, go_sem]) rfl ⟨rfl, HQ.out⟩
  · have hl1 : ¬ (1024 : Int) < (bl.length : Int) := by omega
    have HTK := Lib.hid (take7 hP.al 1 (by decide))
    have c2 := hP.bx.cell 2
    simp only [List.getElem?_cons_succ, List.getElem?_cons_zero] at c2
    have HB := Lib.hid (hB (by omega))
    cases hf : fst9 st with
    | none =>
      have hw : Hid (wr9 fr st D bl = (st, D, 0, 10)) := Lib.hid (by unfold wr9; rw [if_neg hlen, hf])
      rw [tak9_none hf] at HTK
      rw [hw.out]
      clear hB hlen hw hf hP hD hap
      generalize bl.length = L at *
      go_enter Tryd.func27, Tryd.ntmps27
      go_wp2_with fail
      refine HM.out.mono ?_
      rintro e w1 ⟨rfl, rfl⟩
      go_wp2_with fail
      refine HTK.out.mono ?_
      rintro e w2 ⟨rfl, hal2, ht2⟩
      have P2 := HP.out.take hal2 ht2 rfl
      have HQ := Lib.hid (Pq.mk (SD := SD) P2 (HD.out.turn ht2 (fun k hk e => (HAP.out k hk).2.2.1 e)) HAP.out ⟨hpl, hal, hbl, hgl⟩ (fun k hk => .inl hk) (ht2.mono (fun k _ hk => .inr (.inr (.inl hk)))) hroom)
      clear hal2 ht2 P2
      go_wp2_with fail
      exact bodyPost_ret (v := .tuple #[.int .i64 0, .int .i64 10]) (by simp [results, Tryd.results27, go_sem]) rfl ⟨rfl, HQ.out⟩
    | some i =>
      obtain ⟨hi1, hi2, _⟩ := fst9_some hf
      rw [tak9_some hf] at HTK
      have hbi : (bits9 st).getD i false = true := by rw [bits9_at st i hi1, hi2]; rfl
      have hbl2 : i < (bits9 st).length := by rw [len_bits9]; exact hi1
      have hwr : Hid (wr9 fr st D bl = if (putk 8 D ((fr + 8 * i : Nat) : Int) bl).2 = 0 then (st.set i 2, (putk 8 D ((fr + 8 * i : Nat) : Int) bl).1, i, 0) else (st, (putk 8 D ((fr + 8 * i : Nat) : Int) bl).1, 0, (putk 8 D ((fr + 8 * i : Nat) : Int) bl).2)) := Lib.hid (by unfold wr9; rw [if_neg hlen, hf])
      have hkl := Lib.hid (putk_len 8 D ((fr + 8 * i : Nat) : Int) bl)
      have HI := Lib.hid hi1
      have E0 : Hid (st.set i 0 = st) := Lib.hid (by
        apply list_ext9 (by simp)
        intro j hj
        rw [List.length_set] at hj
        rw [getD_set9 _ _ _ _ hi1]
        by_cases e : j = i
        · subst e; rw [if_pos rfl, hi2]
        · rw [if_neg e])
      have E1 : Hid ((giv7 ((bits9 st).set i false) i 1).1 = bits9 st) := Lib.hid (by
        rw [giv7_one _ _ (by rw [List.length_set]; exact hbl2)]
        rw [show ((bits9 st).set i false).getD i false = false by rw [getD_set _ _ _ _ hbl2, if_pos rfl]]
        rw [if_neg (by decide), List.set_set]
        apply List.ext_getElem?
        intro k
        rw [List.getElem?_set]
        split
        · rename_i e
          subst e
          rw [List.getD_eq_getElem?_getD, List.getElem?_eq_getElem hbl2] at hbi
          rw [List.getElem?_eq_getElem hbl2]
          simp at hbi
          rw [hbi]
        · rfl)
      have E2 : Hid ((bits9 st).set i false = bits9 (st.set i 2)) := Lib.hid (by rw [bits9_set]; rfl)
      have HPUT := Lib.hid (fun (W : World) (hW : Pm W p pd pa ga gr fr st ((bits9 st).set i false)) (hDW : Dq SD W pd D) (hBW : Ba SD W A c bl) => put9_any hW hDW HAP.out (by omega) i (by omega) hBW hpn)
      have HS0 := Lib.hid (fun (W : World) (hW : Pm W p pd pa ga gr fr st ((bits9 st).set i false)) => set9_any hW i 0 HI.out)
      have HS2 := Lib.hid (fun (W : World) (hW : Pm W p pd pa ga gr fr st ((bits9 st).set i false)) => set9_any hW i 2 HI.out)
      rw [show ((0 : Nat) : Int) = 0 from rfl] at HS0
      rw [show ((2 : Nat) : Int) = 2 from rfl] at HS2
      obtain ⟨R, hR⟩ : ∃ R, putk 8 D ((fr + 8 * i : Nat) : Int) bl = R := ⟨_, rfl⟩
      rw [hR] at hwr hkl HPUT
      clear hB hlen hf hP hD hap hR hbi hbl2 hi2
      generalize bl.length = L at *
      go_enter Tryd.func27, Tryd.ntmps27
      go_wp2_with fail
      refine HM.out.mono ?_
      rintro e w1 ⟨rfl, rfl⟩
      go_wp2_with fail
      refine HTK.out.mono ?_
      rintro e w2 ⟨rfl, hal2, ht2⟩
      have P2 := Lib.hid (HP.out.take hal2 ht2 (by rw [List.length_set]))
      have D2 := Lib.hid (HD.out.turn ht2 (fun k hk e => (HAP.out k hk).2.2.1 e))
      have B2 : Hid (Ba SD w2 A c bl) := Lib.hid (HB.out.turn (ht2.mono (fun k _ hk => .inr (.inr (.inl hk)))) (fun k hk => .inl (.inr (.inr (.inr (.inr hk))))))
      have T2 := Lib.hid (ht2.mono (T := Pown p pa ga gr SD) (fun k _ hk => .inr (.inr (.inl hk))))
      have hz2 := ht2.size
      clear hal2 ht2
      go_wp2_with fail
      refine (HPUT.out _ P2.out D2.out B2.out).mono ?_
      rintro e w3 ⟨rfl, S3, hD3, hS3⟩
      have P3 := Lib.hid (P2.out.turn hS3.1 (fun h => (HAP.out _ h).1 rfl) (fun h => (HAP.out _ h).2.1 rfl) (fun h => (HAP.out _ h).2.2.1 rfl) (fun h => (HAP.out _ h).2.2.2.1 rfl) (fun h => (HAP.out _ h).2.2.2.2 rfl))
      have T3 := Lib.hid (T2.out.trans (hS3.1.mono (T := Pown p pa ga gr SD) (fun k _ hk => .inr (.inr (.inr (.inr hk))))))
      have D3 := Lib.hid hD3
      have HS3 : Hid (∀ k, S3 k → SD k ∨ w1.heap.size ≤ k) := Lib.hid (fun k hk => by rcases hS3.2 k hk with h | h; exact .inl h; exact .inr (by omega))
      have hz3 := hS3.1.size
      have HA3 : Hid (∀ k, S3 k → k ≠ gr ∧ k ≠ ga) := Lib.hid (fun k hk => by rcases HS3.out k hk with h | h; exact ⟨(HAP.out k h).2.2.2.1, (HAP.out k h).2.2.1⟩; exact ⟨by omega, by omega⟩)
      clear hD3 hS3
      by_cases he : R.2 = 0
      · have HE := Lib.hid he
        have he2 : (R.2 == 0) = true := by simpa using he
        clear he
        go_wp2_with fail
        refine (HS2.out _ P3.out).mono ?_
        rintro e w4 ⟨rfl, hP4, ht4⟩
        rw [if_neg (by decide), E2.out] at hP4
        have HQ := Lib.hid (Pq.mk (SD := SD) (w := w1) hP4 (D3.out.turn ht4 (fun k hk h => by rcases h with h | h; exact (HA3.out k hk).1 h; exact (HA3.out k hk).2 h)) HAP.out ⟨hpl, hal, hbl, hgl⟩ HS3.out (T3.out.trans (ht4.mono (fun k _ hk => by rcases hk with h | h; exact .inr (.inr (.inr (.inl h))); exact .inr (.inr (.inl h))))) (by rw [List.length_set, hkl.out.1]; exact hroom))
        clear hP4 ht4
        go_wp2_with fail
        exact bodyPost_ret (v := .tuple #[.int .i64 i, .int .i64 0]) (by simp [results, Tryd.results27, go_sem]) rfl ⟨by rw [hwr.out, if_pos HE.out], by rw [hwr.out, if_pos HE.out]; exact HQ.out⟩
      · have HE := Lib.hid he
        have he2 : (R.2 == 0) = false := by simpa using he
        clear he
        go_wp2_with fail
        refine (HS0.out _ P3.out).mono ?_
        rintro e w4 ⟨rfl, hP4, ht4⟩
        first | rw [if_pos rfl] at hP4 | simp only [if_true] at hP4
        rw [E1.out, E0.out] at hP4
        have HQ := Lib.hid (Pq.mk (SD := SD) (w := w1) hP4 (D3.out.turn ht4 (fun k hk h => by rcases h with h | h; exact (HA3.out k hk).1 h; exact (HA3.out k hk).2 h)) HAP.out ⟨hpl, hal, hbl, hgl⟩ HS3.out (T3.out.trans (ht4.mono (fun k _ hk => by rcases hk with h | h; exact .inr (.inr (.inr (.inl h))); exact .inr (.inr (.inl h))))) (by rw [hkl.out.1]; exact hroom))
        clear hP4 ht4
        go_wp2_with fail
        exact bodyPost_ret (v := .tuple #[.int .i64 0, .int .i64 R.2]) (by simp [results, Tryd.results27, go_sem]) rfl ⟨by rw [hwr.out, if_neg HE.out]; rfl, by rw [hwr.out, if_neg HE.out]; exact HQ.out⟩
end Go.Proofs.YtmedljnbcpdoeaaDoor
