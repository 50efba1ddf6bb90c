/- Layer 14: the chapter's example, plainly. -/
import Derived.Test.YtobddfpdijmgiaaSpAd
import Derived.Test.YtobddfpdijmgiaaSpAh
namespace Go.Proofs.Ytobddfpdijmgiaa
open Go.RowKit
set_option linter.unusedVariables false
set_option linter.unusedSimpArgs false

abbrev kA : ByteArray := ⟨#[97]⟩
abbrev kB : ByteArray := ⟨#[98]⟩
abbrev kX : ByteArray := ⟨#[120]⟩
abbrev kY : ByteArray := ⟨#[121]⟩
theorem lt_ab : lt14 kA kB = true := by decide
theorem lt_ba : lt14 kB kA = false := by decide
theorem ne_ab : (kA.toList == kB.toList) = false := lt14_neq lt_ab
theorem ne_ba : (kB.toList == kA.toList) = false := by rw [beq_eq_false_iff_ne]; exact fun e => lt14_ne lt_ab e.symm
abbrev C1 : List Cg := [⟨kA, kX, false⟩, ⟨kB, kY, false⟩]
abbrev C2 : List Cg := [⟨kA, ByteArray.empty, true⟩]
abbrev I1 : List Itm := [⟨kA, [⟨1, kX, false⟩]⟩, ⟨kB, [⟨1, kY, false⟩]⟩]
abbrev I2 : List Itm := [⟨kA, [⟨3, ByteArray.empty, true⟩, ⟨1, kX, false⟩]⟩, ⟨kB, [⟨1, kY, false⟩]⟩]
abbrev I3 : List Itm := [⟨kB, [⟨1, kY, false⟩]⟩]
theorem ok1_e : ok1 ⟨kA, ByteArray.empty, true⟩ = true := by
  unfold ok1
  rw [ByteArray.toList_eq]
  decide
theorem mch1 : mch C1 = true := (mch_iff _).2 ⟨fun x hx => by
  simp at hx
  rcases hx with rfl | rfl <;> decide, by
  unfold nod
  simp [lt14_ne lt_ab]⟩
theorem mch2 : mch C2 = true := (mch_iff _).2 ⟨fun x hx => by
  simp at hx
  subst hx
  exact ok1_e, by
  unfold nod
  simp⟩
theorem wf0 : Wf [] 0 := ⟨List.Pairwise.nil, fun x hx => by cases hx⟩
theorem apl1 : aplR [] 1 C1 = I1 := by
  have h1 : add13 [] ⟨1, kX, false⟩ = ([⟨1, kX, false⟩], 0) := by rfl
  have h2 : add13 [] ⟨1, kY, false⟩ = ([⟨1, kY, false⟩], 0) := by rfl
  unfold aplR
  simp only [List.foldl_cons, List.foldl_nil]
  have hf : ∀ k, fndI [] k = [] := fun k => rfl
  rw [hf, hf, h1, h2]
  simp only [insR, lt_ab, if_true]
theorem wf1 : Wf I1 1 := by rw [← apl1]; exact (aplR_wf wf0 (by decide) (by decide) (by decide) _ C1 rfl ((mch_iff _).1 mch1).1).1
theorem apl2 : aplR I1 3 C2 = I2 := by
  have hf : fndI I1 kA = [⟨1, kX, false⟩] := by
    unfold fndI
    rw [List.find?_cons_of_pos (by simp)]
  have h1 : add13 [⟨1, kX, false⟩] ⟨3, ByteArray.empty, true⟩ = ([⟨3, ByteArray.empty, true⟩, ⟨1, kX, false⟩], 0) := by rfl
  unfold aplR
  simp only [List.foldl_cons, List.foldl_nil]
  rw [hf, h1]
  simp only [insR, lt14_self, Bool.false_eq_true, if_false, beq_self_eq_true, if_true]
theorem wf2 : Wf I2 3 := by rw [← apl2]; exact (aplR_wf wf1 (by decide) (by decide) (by decide) _ C2 rfl ((mch_iff _).1 mch2).1).1
theorem vcm3 : vcm I2 3 = I3 := by rfl
theorem map2 {M : List (Itm × Value)} {a b : Itm} (h : M.map (fun p : Itm × Value => p.1) = [a, b]) : ∃ u v, M = [(a, u), (b, v)] := by
  match M, h with
  | [(a', u), (b', v)], h => simp at h; exact ⟨u, v, by rw [h.1, h.2]⟩
theorem map1 {M : List (Itm × Value)} {a : Itm} (h : M.map (fun p : Itm × Value => p.1) = [a]) : ∃ u, M = [(a, u)] := by
  match M, h with
  | [(a', u)], h => simp at h; exact ⟨u, by rw [h]⟩
theorem fnd_a (u v : Value) : fndk [((⟨kA, [⟨3, ByteArray.empty, true⟩, ⟨1, kX, false⟩]⟩ : Itm), u), (⟨kB, [⟨1, kY, false⟩]⟩, v)] kA = [⟨3, ByteArray.empty, true⟩, ⟨1, kX, false⟩] := by
  unfold fndk
  rw [List.find?_cons_of_pos (by simp)]
theorem get_a2 {M : List (Itm × Value)} (h : M.map (fun p : Itm × Value => p.1) = I2) : get14 M 3 0 kA 2 = (kX, 0) := by
  obtain ⟨u, v, rfl⟩ := map2 h
  unfold get14
  rw [fnd_a]
  rfl
theorem get_a3 {M : List (Itm × Value)} (h : M.map (fun p : Itm × Value => p.1) = I2) : get14 M 3 0 kA 3 = (ByteArray.empty, 7) := by
  obtain ⟨u, v, rfl⟩ := map2 h
  unfold get14
  rw [fnd_a]
  rfl
theorem scan_3 {M : List (Itm × Value)} (h : M.map (fun p : Itm × Value => p.1) = I2) : scl M ByteArray.empty ByteArray.empty 3 (-1) = [⟨kB, kY⟩] := by
  obtain ⟨u, v, rfl⟩ := map2 h
  have hw : ∀ k, win k ByteArray.empty ByteArray.empty = true := fun k => by
    unfold win
    have h1 : lt14 k ByteArray.empty = false := bl_nil_right _
    rw [h1, ByteArray.toList_eq]
    rfl
  unfold scl
  simp only [List.foldl_cons, List.foldl_nil, scs, hw]
  rfl
theorem since_ab {M : List (Itm × Value)} (h : M.map (fun p : Itm × Value => p.1) = I2) : snc14 M kA kB 1 = true := by
  obtain ⟨u, v, rfl⟩ := map2 h
  have hw : win kA kA kB = true := by
    unfold win
    rw [lt14_self, lt_ab]
    simp
  unfold snc14
  rw [List.any_cons, hw]
  have : snc [⟨3, ByteArray.empty, true⟩, ⟨1, kX, false⟩] 1 = true := by decide
  rw [this]
  rfl
end Go.Proofs.Ytobddfpdijmgiaa
/- Layer 14: the statements' lives. -/
namespace Go.Proofs.Ytobddfpdijmgiaa
open Go.RowKit Go.Shelf
set_option linter.unusedVariables false
set_option linter.unusedSimpArgs false
set_option maxRecDepth 100000

theorem bm_of {N : Nat} {M : List (Itm × Value)} {I : List Itm} (h : M.map (fun p : Itm × Value => p.1) = I) (hI : I.length ≤ N ∧ ∀ x ∈ I, x.vs.length ≤ N ∧ x.k.size ≤ 128) : Bm N M := by
  refine ⟨by rw [← List.length_map (f := fun p : Itm × Value => p.1), h]; exact hI.1, fun p hp => hI.2 p.1 (by rw [← h]; exact List.mem_map.2 ⟨p, hp, rfl⟩)⟩
theorem cx_new (w : World) (L : List Cg) (n : Nat) (cs : List Value) (hn : L.length = n) (hc : L.flatMap cc = cs) (hl : n ≤ 9223372036854775807) : Cx (w.alloc (.cells cs.toArray 95)) (.slice (some ⟨w.heap.size, 0, none⟩) n n) L := by
  subst hn hc
  exact ⟨_, _, rfl, hl, (Blk.new w 95 _).rc⟩
theorem bI1 (N : Nat) (h : 2 ≤ N) : I1.length ≤ N ∧ ∀ x ∈ I1, x.vs.length ≤ N ∧ x.k.size ≤ 128 := by
  refine ⟨by simpa using h, fun x hx => ?_⟩
  simp at hx
  rcases hx with rfl | rfl <;> exact ⟨by simp; omega, by decide⟩
theorem bI2 (N : Nat) (h : 2 ≤ N) : I2.length ≤ N ∧ ∀ x ∈ I2, x.vs.length ≤ N ∧ x.k.size ≤ 128 := by
  refine ⟨by simpa using h, fun x hx => ?_⟩
  simp at hx
  rcases hx with rfl | rfl <;> exact ⟨by simp; omega, by decide⟩
theorem bI3 (N : Nat) (h : 2 ≤ N) : I3.length ≤ N ∧ ∀ x ∈ I3, x.vs.length ≤ N ∧ x.k.size ≤ 128 := by
  refine ⟨by simp; omega, fun x hx => ?_⟩
  simp at hx
  subst hx
  exact ⟨by simp; omega, by decide⟩
theorem own_tn14 {w w' : World} {base e size n : Nat} {v : Value} {xs : List Value} {S : Nat → Prop} (h : w.ownsRow base e size v n xs) (ht : Turn S w w') (hne : ∀ k, v.ownBlock = some k → ¬ S k) : w'.ownsRow base e size v n xs := by
  obtain ⟨hl, ⟨e, h0⟩ | ⟨b, cap, cur, e, hB, hh, hrest⟩⟩ := h
  · exact ⟨hl, .inl ⟨e, h0⟩⟩
  · exact ⟨hl, .inr ⟨b, cap, cur, e, hB, (ht.block b (Array.getElem?_eq_some_iff.1 hh).1 (hne b (by rw [e]; rfl))).trans hh, hrest⟩⟩
set_option maxHeartbeats 8000000 in
theorem lives_14 (w : World) : Calls Try.prog 14 #[] w fun e w' => e = .returned (.bool true) ∧ Turn (fun _ => False) w w' := by
  go_enter Try.func14, Try.ntmps14
  go_wp2_with fail
  refine (new_14 w).mono ?_
  rintro e W1 ⟨q, vk, g, rfl, hs, hf, ht⟩
  have S1 := Lib.hid hs
  have F1 := Lib.hid hf
  have T1 := Lib.hid ht
  clear hs hf ht
  go_wp2_with fail
  refine (apply_14 C1 _ 1 (S1.out.still ((Turn.refl _ _).alloc _)) (cx_new W1 C1 2 _ rfl rfl (by decide)) (fun _ b hb hsw => by cases hb; exact Nat.lt_irrefl _ (S1.out.below _ hsw)) (bm_nil _) (by decide) wf0 (by decide) (by decide) (by decide) mch1).mono ?_
  rintro e W2 ⟨rfl, vk2, M2, hs, hm, hf, ht⟩
  have S2 := Lib.hid hs
  have M2E : Hid (M2.map (fun p : Itm × Value => p.1) = I1) := Lib.hid (hm.trans apl1)
  have F2 := Lib.hid hf
  have T2 := Lib.hid ht
  clear hs hf ht hm
  go_wp2_with fail
  refine (apply_14 C2 _ 3 (S2.out.still ((Turn.refl _ _).alloc _)) (cx_new W2 C2 1 _ rfl rfl (by decide)) (fun _ b hb hsw => by cases hb; exact Nat.lt_irrefl _ (S2.out.below _ hsw)) (bm_of M2E.out (bI1 _ (by decide))) (by decide) (M2E.out ▸ wf1) (by decide) (by decide) (by decide) mch2).mono ?_
  rintro e W3 ⟨rfl, vk3, M3, hs, hm, hf, ht⟩
  have S3 := Lib.hid hs
  have M3E : Hid (M3.map (fun p : Itm × Value => p.1) = I2) := Lib.hid (by rw [hm, M2E.out]; exact apl2)
  have F3 := Lib.hid hf
  have T3 := Lib.hid ht
  have B3 := Lib.hid (bm_of M3E.out (bI2 100000 (by decide)))
  have HT3 : Hid (Turn (fun _ => False) w W3) := Lib.hid (by
    have h1 := T1.out.size
    have h2 : Turn (fun _ => False) w W2 := T1.out.trans_new (((Turn.refl _ _).alloc _).trans_new T2.out (fun k hk h => h) : Turn (Sw q vk g) W1 W2) (fun k hk h => by have := F1.out k h; omega)
    refine h2.trans_new (((Turn.refl _ _).alloc _).trans_new T3.out (fun k hk h => h) : Turn (Sw q vk2 g) W2 W3) (fun k hk h => ?_)
    rcases F2.out k h with h3 | h3
    · have := F1.out k h3; omega
    · have : (W1.alloc (.cells (C1.flatMap cc).toArray 95)).heap.size = W1.heap.size + 1 := World.size_alloc _ _
      omega)
  clear hs hf ht hm
  go_wp2_with fail
  refine ((get_14 kA 2 S3.out (fun p hp => (B3.out.2 p hp).1) (by decide)).mono (fun e w' h => (show e = .returned (.tuple #[.string kX, .int .i64 0]) ∧ Turn (fun _ => False) W3 w' from by rw [get_a2 M3E.out] at h; exact h))).mono ?_
  rintro e W4 ⟨rfl, ht⟩
  have T4 := Lib.hid ht
  have S4 := Lib.hid (S3.out.still ht)
  clear ht
  go_wp2_with fail
  refine ((get_14 kA 3 S4.out (fun p hp => (B3.out.2 p hp).1) (by decide)).mono (fun e w' h => (show e = .returned (.tuple #[.string ByteArray.empty, .int .i64 7]) ∧ Turn (fun _ => False) W4 w' from by rw [get_a3 M3E.out] at h; exact h))).mono ?_
  rintro e W5 ⟨rfl, ht⟩
  have T5 := Lib.hid (T4.out.trans ht)
  have S5 := Lib.hid (S4.out.still ht)
  clear ht
  go_wp2_with fail
  refine ((scan_14 ByteArray.empty ByteArray.empty 3 (-1) S5.out B3.out (by decide) (by decide) (by decide)).mono (fun e w' h => (show ∃ v, e = .returned (.tuple #[v, .int .i64 0]) ∧ Po W5.heap.size w' v [⟨kB, kY⟩] ∧ Turn (fun _ => False) W5 w' from by rw [scan_3 M3E.out] at h; exact h))).mono ?_
  rintro e W6 ⟨v6, rfl, hp6, ht⟩
  have T6 := Lib.hid (T5.out.trans ht)
  have S6 := Lib.hid (S5.out.still ht)
  have P6 := Lib.hid hp6
  clear ht hp6
  go_wp2_with fail
  refine ((since_14 kA kB 1 S6.out B3.out).mono (fun e w' h => (show e = .returned (.bool true) ∧ Turn (fun _ => False) W6 w' from by rw [since_ab M3E.out] at h; exact h))).mono ?_
  rintro e W7 ⟨rfl, ht⟩
  have T7 := Lib.hid (T6.out.trans ht)
  have S7 := Lib.hid (S6.out.still ht)
  have P7 := Lib.hid (P6.out.still ht)
  clear ht
  go_wp2_with fail
  refine (vacuum_14 3 S7.out B3.out (by decide)).mono ?_
  rintro e W8 ⟨rfl, vk8, M8, hs, hm, hf, ht⟩
  have S8 := Lib.hid hs
  have M8E : Hid (M8.map (fun p : Itm × Value => p.1) = I3) := Lib.hid (by rw [hm, M3E.out]; exact vcm3)
  have F8 := Lib.hid hf
  have T8 := Lib.hid ht
  have B8 := Lib.hid (bm_of M8E.out (bI3 100000 (by decide)))
  have hF3 : Hid (∀ k, Sw q vk3 g k → w.heap.size ≤ k) := Lib.hid (fun k hk => by
    have h1 := T1.out.size
    have h2 := T2.out.size
    have h9 : (W1.alloc (.cells (C1.flatMap cc).toArray 95)).heap.size = W1.heap.size + 1 := World.size_alloc _ _
    have h10 : (W2.alloc (.cells (C2.flatMap cc).toArray 95)).heap.size = W2.heap.size + 1 := World.size_alloc _ _
    rcases F3.out k hk with h3 | h3
    · rcases F2.out k h3 with h4 | h4
      · have := F1.out k h4; omega
      · omega
    · omega)
  have HT8 : Hid (Turn (fun _ => False) w W8) := Lib.hid ((HT3.out.trans T7.out).trans_new T8.out (fun k hk h => by have := hF3.out k h; omega))
  have P8 : Hid (Po W5.heap.size W8 v6 [⟨kB, kY⟩]) := Lib.hid (own_tn14 P7.out T8.out (fun k hk hs => by
    have h1 := own_ge14 P7.out k hk
    have h2 := S3.out.below k hs
    have h3 := T4.out.size
    have h4 := T5.out.size
    omega))
  clear hs hf ht hm
  go_wp2_with fail
  refine ((get_14 kA 2 S8.out (fun p hp => (B8.out.2 p hp).1) (by decide)).mono (fun e w' h => (show e = .returned (.tuple #[.string ByteArray.empty, .int .i64 12]) ∧ Turn (fun _ => False) W8 w' from h))).mono ?_
  rintro e W9 ⟨rfl, ht⟩
  have T9 := Lib.hid ht
  have S9 := Lib.hid (S8.out.still ht)
  clear ht
  go_wp2_with fail
  refine (items_14 S9.out B8.out).mono ?_
  rintro e W10 ⟨v10, Ms, rfl, hio, hmm, _, ht⟩
  have T10 := Lib.hid (T9.out.trans ht)
  have I10 := Lib.hid hio
  have ME10 : Hid (Ms.map (fun p : Itm × Value => p.1) = I3) := Lib.hid (hmm.trans M8E.out)
  clear ht hio hmm
  obtain ⟨u10, rfl⟩ := map1 ME10.out
  obtain ⟨A10, c10, rfl⟩ := own_slice_ I10.out.1
  obtain ⟨A6, c6, rfl⟩ := own_slice_ P8.out
  have P10 : Hid (Px W10 (.slice A6 1 c6) [⟨kB, kY⟩]) := Lib.hid ((P8.out.px (by decide)).still T10.out)
  have HSM : Hid (∀ X, Turn (fun _ => False) W10 X → ∀ v2, Px X v2 [⟨kB, kY⟩] → Calls Try.prog 25 #[.slice A6 1 c6, v2] X fun e w' => e = .returned (.bool true) ∧ Turn (fun _ => False) X w') := Lib.hid (fun X hX v2 h2 => refSame10 _ _ _ X (P10.out.still hX) h2)
  obtain ⟨b10, o10, e10, hb10, hc10⟩ := (rc_own I10.out.1).item (Nat.zero_lt_one)
  subst e10
  have HC10 : Hid (∀ X, Turn (fun _ => False) W10 X → X.cell? ⟨b10, o10, none⟩ = some (.string kB)) := Lib.hid (fun X hX => by have := (hc10 X hX 0 _ rfl).1; simpa using this)
  clear hc10
  go_wp2_with fail
  refine (HSM.out _ ((Turn.refl _ _).alloc _) _ (⟨_, _, rfl, by decide, (Blk.new W10 61 [.string kB, .string kY]).rc⟩)).mono ?_
  rintro e W11 ⟨rfl, ht⟩
  have T11 := Lib.hid (((Turn.refl _ _).alloc _).trans ht)
  have z11 := HC10.out W11 T11.out
  clear ht
  go_wp2_with fail
  go_ret
  exact ⟨rfl, (HT8.out.trans T10.out).trans T11.out⟩
end Go.Proofs.Ytobddfpdijmgiaa
