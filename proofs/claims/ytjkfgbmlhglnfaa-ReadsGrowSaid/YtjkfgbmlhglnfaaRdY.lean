/- Layer 16: reads in memory of their own (the statement's own). -/
import Derived.Test.YtjkfgbmlhglnfaaRdW
namespace Go.Proofs.Ytjkfgbmlhglnfaa
open Go.RowKit Go.Shelf
set_option linter.unusedVariables false
set_option linter.unusedSimpArgs false
set_option maxRecDepth 100000
attribute [local go_sem] Oper.semAt_some

abbrev q16 : ByteArray := ⟨#[63]⟩
abbrev e16 : ByteArray := ⟨#[]⟩
theorem own_empty16 (w : World) (t s B : Nat) (hB : B ≤ w.heap.size) : World.ownsRow (w.alloc (.cells #[] t)) B t s (.slice (some ⟨w.heap.size, 0, none⟩) 0 0) 0 [] := by
  refine ⟨by simp, .inr ⟨w.heap.size, 0, #[], rfl, hB, ?_, Nat.le_refl _, by simp, by simp, by simp⟩⟩
  first | exact Array.getElem?_push_size | (simp only [World.alloc, Array.getElem?_push_size]; done) | (unfold World.alloc; exact Array.getElem?_push_size)
/-- What own leaves: texts and spans with one more behind. -/
structure Ow16 (w X : World) (L : List ByteArray) (S : List Pq2) (D1 : Option Addr) (n1 d1 : Nat) (D2 : Option Addr) (n2 d2 : Nat) : Prop where
  k : Kx X (.slice D1 (n1 + 1) d1) (L ++ [q16])
  s : Px X (.slice D2 (n2 + 1) d2) (S ++ [⟨q16, e16⟩])
  c1 : n1 + 1 ≤ d1
  c2 : n2 + 1 ≤ d2
  t : Turn (fun _ => False) w X
set_option maxHeartbeats 8000000 in
theorem own_16 (L : List ByteArray) (S : List Pq2) (A1 : Option Addr) (n1 c1 : Nat) (A2 : Option Addr) (n2 c2 : Nat) (w : World) (hk : Kx w (.slice A1 n1 c1) L) (hs : Px w (.slice A2 n2 c2) S) (h1 : n1 ≤ 100) (h2 : n2 ≤ 100) :
    Calls Try.prog 18 #[.agg #[.slice A1 n1 c1, .slice A2 n2 c2]] w fun e w' => ∃ D1 d1 D2 d2, e = .returned (.agg #[.slice D1 n1 d1, .slice D2 n2 d2]) ∧ Ow16 w w' L S D1 n1 d1 D2 n2 d2 := by
  have HN1 : Hid (L.length = n1) := Lib.hid (by obtain ⟨_, _, e, _⟩ := id hk; injection e with _ e _; exact e.symm)
  have HN2 : Hid (S.length = n2) := Lib.hid (by obtain ⟨_, _, e, _⟩ := id hs; injection e with _ e _; exact e.symm)
  have HRK : Hid (Rc w A1 (L.map Value.string)) := Lib.hid (by obtain ⟨_, _, e, _, h⟩ := id hk; injection e with e _ _; rw [e]; exact h)
  have HRS : Hid (Rc w A2 (S.flatMap pc2)) := Lib.hid (by obtain ⟨_, _, e, _, h⟩ := id hs; injection e with e _ _; rw [e]; exact h)
  obtain ⟨W1, hW1⟩ : ∃ W, w.alloc (.cells #[.slice A1 n1 c1, .slice A2 n2 c2] 46) = W := ⟨_, rfl⟩
  obtain ⟨W2, hW2⟩ : ∃ W, W1.alloc (.cells #[.slice none 0 0, .slice none 0 0] 46) = W := ⟨_, rfl⟩
  have hz1 : W1.heap.size = w.heap.size + 1 := by rw [← hW1]; simp
  have T2 : Hid (Turn (fun _ => False) w W2) := Lib.hid (hW2 ▸ (hW1 ▸ (Turn.refl (fun _ => False) w).alloc _ : Turn (fun _ => False) w W1).alloc _)
  have B2 : Hid (Blk W2 w.heap.size 46 [.slice A1 n1 c1, .slice A2 n2 c2]) := Lib.hid (hW2 ▸ (show Blk W1 w.heap.size 46 [.slice A1 n1 c1, .slice A2 n2 c2] from hW1 ▸ Blk.new _ _ _).alloc _)
  have G2 : Hid (Blk W2 (w.heap.size + 1) 46 [.slice none 0 0, .slice none 0 0]) := Lib.hid (hz1 ▸ (hW2 ▸ Blk.new _ _ _))
  have hz2 : w.heap.size + 2 ≤ W2.heap.size := G2.out.lt
  have hx2 : w.heap.size < W2.heap.size := B2.out.lt
  obtain ⟨x0, x1⟩ := cells2b16 B2.out
  clear hk hs
  have HE2 := Lib.hid (own_empty16 W2 9 1 (w.heap.size + 2) hz2)
  go_enter Try.func18, Try.ntmps18
  go_upto_region 2 with (first
    | (at_builtin; refine wpList_app_rc rfl _ _ 43 rfl (w.heap.size + 2) 9 _ 1 16 Try.underlying43 info_str16 rfl (by decide) (.slice A3 n1 c3) n1 (L.map Value.string) rfl (own_still_ O3.out ((Turn.refl _ _).alloc (.cells #[.string q16] 9))) (some ⟨w3.heap.size, 0, none⟩) 1 1 [.string q16] rfl rfl (Blk.new w3 9 [.string q16]).rc (fun u hu => by simp at hu; subst hu; rfl) (by unfold maxLen; omega) (by omega) (by simp; omega) ?_; intro A4 c4 w4 ho ht hv; have H4 := Lib.hid (own_ge9 (O3.out)); have O4 := Lib.hid ho; have T4 : Hid (Turn (fun _ => False) w w4) := Lib.hid ((T3.out.alloc (.cells #[.string q16] 9)).trans_new ht (fun j hj e => by have := (H4.out j e).1; omega)); have B4 := Lib.hid ((B3.out.alloc (.cells #[.string q16] 9)).turn ht (fun e => by have := (H4.out _ e).1; omega)); have G4 := Lib.hid ((G3.out.alloc (.cells #[.string q16] 9)).turn ht (fun e => by have := (H4.out _ e).1; omega)); have hz4 : w.heap.size + 2 ≤ w4.heap.size := G4.out.lt; have hx4 : w.heap.size < w4.heap.size := B4.out.lt; obtain ⟨x0, x1⟩ := cells2b16 B4.out; clear ho ht hv; have HC4 := Lib.hid (own_cap16 O4.out); have R4 := Lib.hid O4.out)
    | (at_builtin; refine wpList_app_rc rfl _ _ 43 rfl (w.heap.size + 2) 9 _ 1 16 Try.underlying43 info_str16 rfl (by decide) (.slice (some ⟨W2.heap.size, 0, none⟩) 0 0) 0 [] rfl HE2.out A1 n1 c1 (L.map Value.string) rfl (by rw [List.length_map, HN1.out, Nat.mul_one]) (HRK.out.still (T2.out.alloc _)) (fun u hu => by obtain ⟨k, _, rfl⟩ := List.mem_map.1 hu; rfl) (by unfold maxLen; omega) (by omega) (by simp; omega) ?_; intro A3 c3 w3 ho ht hv; rw [Nat.zero_add] at ho ⊢; rw [List.nil_append] at ho; have H3 := Lib.hid (own_ge9 (HE2.out)); have O3 := Lib.hid ho; have T3 : Hid (Turn (fun _ => False) w w3) := Lib.hid ((T2.out.alloc (.cells #[] 9)).trans_new ht (fun j hj e => by have := (H3.out j e).1; omega)); have B3 := Lib.hid ((B2.out.alloc (.cells #[] 9)).turn ht (fun e => by have := (H3.out _ e).1; omega)); have G3 := Lib.hid ((G2.out.alloc (.cells #[] 9)).turn ht (fun e => by have := (H3.out _ e).1; omega)); have hz3 : w.heap.size + 2 ≤ w3.heap.size := G3.out.lt; have hx3 : w.heap.size < w3.heap.size := B3.out.lt; obtain ⟨x0, x1⟩ := cells2b16 B3.out; clear ho ht hv))
  have HE4 := Lib.hid (own_empty16 w4 59 2 w4.heap.size (Nat.le_refl _))
  go_upto_region 3 with (first
    | (at_builtin; refine wpList_app_rc rfl _ _ 44 rfl w4.heap.size 59 _ 2 32 Try.underlying44 info_sp16 rfl (by decide) (.slice A5 n2 c5) n2 (S.flatMap pc2) rfl (own_still_ O5.out ((Turn.refl _ _).alloc (.cells #[.string q16, .string e16] 59))) (some ⟨w5.heap.size, 0, none⟩) 1 1 [.string q16, .string e16] rfl rfl (Blk.new w5 59 [.string q16, .string e16]).rc (fun u hu => by simp at hu; rcases hu with rfl | rfl <;> rfl) (by unfold maxLen; omega) (by omega) (by simp; omega) ?_; intro A6 c6 w6 ho ht hv; have H6 := Lib.hid (own_ge9 (O5.out)); have O6 := Lib.hid ho; have T6 : Hid (Turn (fun _ => False) w w6) := Lib.hid ((T5.out.alloc (.cells #[.string q16, .string e16] 59)).trans_new ht (fun j hj e => by have := (H6.out j e).1; omega)); have B6 := Lib.hid ((B5.out.alloc (.cells #[.string q16, .string e16] 59)).turn ht (fun e => by have := (H6.out _ e).1; omega)); have G6 := Lib.hid ((G5.out.alloc (.cells #[.string q16, .string e16] 59)).turn ht (fun e => by have := (H6.out _ e).1; omega)); have hz6 : w.heap.size + 2 ≤ w6.heap.size := G6.out.lt; have hx6 : w.heap.size < w6.heap.size := B6.out.lt; obtain ⟨x0, x1⟩ := cells2b16 B6.out; have R6 := Lib.hid (own_tn16 (own_still_ R5.out ((Turn.refl (fun _ => False) _).alloc (.cells #[.string q16, .string e16] 59))) ht (fun j hj e => by have := (H6.out j e).1; have := HQ.out j hj; omega)); have HC6 := Lib.hid (own_cap16 O6.out); clear ho ht hv)
    | (at_builtin; refine wpList_app_rc rfl _ _ 44 rfl w4.heap.size 59 _ 2 32 Try.underlying44 info_sp16 rfl (by decide) (.slice (some ⟨w4.heap.size, 0, none⟩) 0 0) 0 [] rfl HE4.out A2 n2 c2 (S.flatMap pc2) rfl (by rw [flat_len pc2_len, HN2.out]) (HRS.out.still (T4.out.alloc _)) (pc2_one _) (by unfold maxLen; omega) (by omega) (by simp) ?_; intro A5 c5 w5 ho ht hv; rw [Nat.zero_add] at ho ⊢; rw [List.nil_append] at ho; have HQ : Hid (∀ j, (Value.slice A4 (n1 + 1) c4).ownBlock = some j → j < w4.heap.size) := Lib.hid (fun j hj => (own_ge9 R4.out j hj).2); have H5 := Lib.hid (own_ge9 (HE4.out)); have O5 := Lib.hid ho; have T5 : Hid (Turn (fun _ => False) w w5) := Lib.hid ((T4.out.alloc (.cells #[] 59)).trans_new ht (fun j hj e => by have := (H5.out j e).1; omega)); have B5 := Lib.hid ((B4.out.alloc (.cells #[] 59)).turn ht (fun e => by have := (H5.out _ e).1; omega)); have G5 := Lib.hid ((G4.out.alloc (.cells #[] 59)).turn ht (fun e => by have := (H5.out _ e).1; omega)); have hz5 : w.heap.size + 2 ≤ w5.heap.size := G5.out.lt; have hx5 : w.heap.size < w5.heap.size := B5.out.lt; obtain ⟨x0, x1⟩ := cells2b16 B5.out; have R5 := Lib.hid (own_tn16 (own_still_ R4.out ((Turn.refl (fun _ => False) _).alloc (.cells #[] 59))) ht (fun j hj e => by have := (H5.out j e).1; have := HQ.out j hj; omega)); have hz54 : w4.heap.size + 1 ≤ w5.heap.size := (by have := ht.size; simp at this; exact this); clear ho ht hv))
  have hc4 : n1 + 1 ≤ c4 := HC4.out
  have hc6 : n2 + 1 ≤ c6 := HC6.out
  clear x0 x1
  have VY : Hid (Turn (fun k => k = w.heap.size + 1) w6 w6.drew) := Lib.hid (Turn.refl _ _).drew
  refine wp_region_noPanic ?_
  refine wp_region_held_drew (S := (fun X => Turn (fun k => k = w.heap.size + 1) w6 X)) (by kernel_rfl) (Turn.refl _ _).drew (fun hHeld => ?_)
  clear hHeld
  refine wpAnyH_take (i := 0) (v := ?_) rfl (by kernel_rfl) (by kernel_rfl) (by kernel_rfl) (fun _ _ _ h => h) (Or.inl ⟨by rfl, ?_⟩) (by assumption) ?_
  rotate_left 1
  · intro w' hSw
    go_simp
    all_goals first | with_reducible rfl | (rw [if_neg (by omega)]; done) | (rw [if_pos (by omega)]; done)
  try simp only [List.getElem_toArray, List.getElem_cons_zero, List.getElem_cons_succ, Act.put, List.setIfInBounds_toArray, List.set_cons_zero, List.set_cons_succ]
  refine wpAnyH_take (i := 1) (v := ?_) rfl (by kernel_rfl) (by kernel_rfl) (by kernel_rfl) (fun _ _ _ h => h) (Or.inl ⟨by rfl, ?_⟩) (by assumption) ?_
  rotate_left 1
  · intro w' hSw
    go_simp
    all_goals first | with_reducible rfl | (rw [if_neg (by omega)]; done) | (rw [if_pos (by omega)]; done)
  try simp only [List.getElem_toArray, List.getElem_cons_zero, List.getElem_cons_succ, Act.put, List.setIfInBounds_toArray, List.set_cons_zero, List.set_cons_succ]
  refine wpAnyH_take (i := 2) (v := ?_) rfl (by kernel_rfl) (by kernel_rfl) (by kernel_rfl) (fun _ _ _ h => h) (Or.inl ⟨by rfl, ?_⟩) (by assumption) ?_
  rotate_left 1
  · intro w' hSw
    obtain ⟨x0, x1⟩ := cells2b16 (B6.out.turn hSw (fun h => by omega))
    go_simp
    all_goals first | with_reducible rfl | (rw [if_neg (by omega)]; done) | (rw [if_pos (by omega)]; done)
  try simp only [List.getElem_toArray, List.getElem_cons_zero, List.getElem_cons_succ, Act.put, List.setIfInBounds_toArray, List.set_cons_zero, List.set_cons_succ]
  refine wpAnyH_take (i := 3) (v := ?_) rfl (by kernel_rfl) (by kernel_rfl) (by kernel_rfl) (fun _ _ _ h => h) (Or.inl ⟨by rfl, ?_⟩) (by assumption) ?_
  rotate_left 1
  · intro w' hSw
    go_simp
    all_goals first | with_reducible rfl | (rw [if_neg (by omega)]; done) | (rw [if_pos (by omega)]; done)
  try simp only [List.getElem_toArray, List.getElem_cons_zero, List.getElem_cons_succ, Act.put, List.setIfInBounds_toArray, List.set_cons_zero, List.set_cons_succ]
  refine wpAnyH_take (i := 4) (v := ?_) rfl (by kernel_rfl) (by kernel_rfl) (by kernel_rfl) (fun _ _ _ h => h) (Or.inl ⟨by rfl, ?_⟩) (by assumption) ?_
  rotate_left 1
  · intro w' hSw
    go_simp
    all_goals first | with_reducible rfl | (rw [if_neg (by omega)]; done) | (rw [if_pos (by omega)]; done)
  try simp only [List.getElem_toArray, List.getElem_cons_zero, List.getElem_cons_succ, Act.put, List.setIfInBounds_toArray, List.set_cons_zero, List.set_cons_succ]
  refine wpAnyH_take (i := 5) (v := ?_) rfl (by kernel_rfl) (by kernel_rfl) (by kernel_rfl) (fun _ _ _ h => h) (Or.inl ⟨by rfl, ?_⟩) (by assumption) ?_
  rotate_left 1
  · intro w' hSw
    go_simp
    all_goals first | with_reducible rfl | (rw [if_neg (by omega)]; done) | (rw [if_pos (by omega)]; done)
  try simp only [List.getElem_toArray, List.getElem_cons_zero, List.getElem_cons_succ, Act.put, List.setIfInBounds_toArray, List.set_cons_zero, List.set_cons_succ]
  refine wpAnyH_take (i := 6) (v := ?_) rfl (by kernel_rfl) (by kernel_rfl) (by kernel_rfl) (fun _ _ _ h => h) (Or.inl ⟨by rfl, ?_⟩) (by assumption) ?_
  rotate_left 1
  · intro w' hSw
    go_simp
    all_goals first | with_reducible rfl | (rw [if_neg (by omega)]; done) | (rw [if_pos (by omega)]; done)
  try simp only [List.getElem_toArray, List.getElem_cons_zero, List.getElem_cons_succ, Act.put, List.setIfInBounds_toArray, List.set_cons_zero, List.set_cons_succ]
  refine wpAnyH_take (i := 7) (v := ?_) rfl (by kernel_rfl) (by kernel_rfl) (by kernel_rfl) (fun _ _ _ h => h) (Or.inl ⟨by rfl, ?_⟩) (by assumption) ?_
  rotate_left 1
  · intro w' hSw
    obtain ⟨x0, x1⟩ := cells2b16 (B6.out.turn hSw (fun h => by omega))
    go_simp
    all_goals first | with_reducible rfl | (rw [if_neg (by omega)]; done) | (rw [if_pos (by omega)]; done)
  try simp only [List.getElem_toArray, List.getElem_cons_zero, List.getElem_cons_succ, Act.put, List.setIfInBounds_toArray, List.set_cons_zero, List.set_cons_succ]
  refine wpAnyH_take (i := 8) (v := ?_) rfl (by kernel_rfl) (by kernel_rfl) (by kernel_rfl) (fun _ _ _ h => h) (Or.inl ⟨by rfl, ?_⟩) (by assumption) ?_
  rotate_left 1
  · intro w' hSw
    go_simp
    all_goals first | with_reducible rfl | (rw [if_neg (by omega)]; done) | (rw [if_pos (by omega)]; done)
  try simp only [List.getElem_toArray, List.getElem_cons_zero, List.getElem_cons_succ, Act.put, List.setIfInBounds_toArray, List.set_cons_zero, List.set_cons_succ]
  refine wpAnyH_take (i := 9) (v := ?_) rfl (by kernel_rfl) (by kernel_rfl) (by kernel_rfl) (fun _ _ _ h => h) (Or.inl ⟨by rfl, ?_⟩) (by assumption) ?_
  rotate_left 1
  · intro w' hSw
    go_simp
    all_goals first | with_reducible rfl | (rw [if_neg (by omega)]; done) | (rw [if_pos (by omega)]; done)
  try simp only [List.getElem_toArray, List.getElem_cons_zero, List.getElem_cons_succ, Act.put, List.setIfInBounds_toArray, List.set_cons_zero, List.set_cons_succ]
  refine wpAnyH_take (i := 10) (v := ?_) rfl (by kernel_rfl) (by kernel_rfl) (by kernel_rfl) (fun _ _ _ h => h) (Or.inl ⟨by rfl, ?_⟩) (by assumption) ?_
  rotate_left 1
  · intro w' hSw
    go_simp
    all_goals first | with_reducible rfl | (rw [if_neg (by omega)]; done) | (rw [if_pos (by omega)]; done)
  try simp only [List.getElem_toArray, List.getElem_cons_zero, List.getElem_cons_succ, Act.put, List.setIfInBounds_toArray, List.set_cons_zero, List.set_cons_succ]
  refine wpAnyH_ready (rs := [11]) (by kernel_rfl) (by simp) ?_
  refine AllReadyH.cons rfl (fun K hK => ?_) AllReadyH.nil
  obtain ⟨r0, r1⟩ := cells2b16 G6.out
  obtain ⟨f0, f1⟩ := free2_16 G6.out
  obtain ⟨hbz, htz⟩ := put2_16 G6.out (.slice A4 n1 c4) (.slice A6 n2 c6)
  have QZ := Lib.hid hbz
  have TZ := Lib.hid htz
  clear hbz htz
  go_simp
  refine hK.out _ _ TZ.out.drew (fun hHeld => ?_)
  clear hHeld hK K
  try simp only [List.getElem_toArray, List.getElem_cons_zero, List.getElem_cons_succ, Act.put, List.setIfInBounds_toArray, List.set_cons_zero, List.set_cons_succ]
  refine wpAnyH_done (by kernel_rfl) ?_ _
  refine NoPanic.normal ?_
  go_wp2_with fail
  obtain ⟨e0, e1⟩ := cells2b16 QZ.out
  refine bodyPost_ret (v := .agg #[.slice A4 n1 c4, .slice A6 n2 c6]) (by simp [results, Try.results18, go_sem, e0, e1]) rfl ⟨A4, c4, A6, c6, rfl, ?_⟩
  have hk6 : Kx w6 (.slice A4 (n1 + 1) c4) (L ++ [q16]) := ⟨A4, c4, by rw [List.length_append, HN1.out]; rfl, by rw [List.length_append, HN1.out]; simp; omega, by rw [List.map_append]; exact rc_own R6.out⟩
  have hs6 : Px w6 (.slice A6 (n2 + 1) c6) (S ++ [⟨q16, e16⟩]) := ⟨A6, c6, by rw [List.length_append, HN2.out]; rfl, by rw [List.length_append, HN2.out]; simp; omega, by rw [List.flatMap_append]; exact rc_own O6.out⟩
  exact ⟨Kx.off16 hk6 G6.out two_slices16 TZ.out.drew, Px.off16c hs6 G6.out two_slices16 TZ.out.drew, HC4.out, HC6.out, T6.out.trans_new TZ.out.drew (fun k hk e => by omega)⟩
end Go.Proofs.Ytjkfgbmlhglnfaa
