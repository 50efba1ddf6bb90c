/- Layer 8: the document's Put. -/
import Derived.Test.YtpnnbfojdccfhaaPgWc
import Derived.Test.YtpnnbfojdccfhaaPpA
namespace Go.Proofs.Ytpnnbfojdccfhaa
open Go.RowKit
set_option linter.unusedVariables false
set_option maxRecDepth 100000

theorem pos8_split {key : ByteArray} : ∀ (T D : List ByteArray), (∀ s ∈ T, ltS s key) → (∀ s ∈ D, ltS key s) → pos8 true key (T ++ D) = T.length
  | [], [], _, _ => rfl
  | [], s :: D, _, h => by
    have hg : goes8 true key s = false := by
      cases hg : goes8 true key s with
      | false => rfl
      | true => exact absurd ((goes_leaf key s).1 hg) (ltS_asym (h s (by simp)))
    show pos8 true key (s :: D) = 0
    rw [pos8, hg]; rfl
  | s :: T, D, h, h2 => by
    have ih := pos8_split T D (fun x hx => h x (by simp [hx])) h2
    rw [List.cons_append, pos8, (goes_leaf key s).2 (h s (by simp)), if_pos rfl, ih, List.length_cons]
theorem drop_stands {n : Nd} {key : ByteArray} (hs : Stands8 n) (hl : n.leaf = true) (hq : (find8 n key).2 = true) : Stands8 (drop8 n (find8 n key).1) := by
  obtain ⟨h1, h2, h3, h4, h5⟩ := (stands_leaf2 hl).1 hs
  have hp := drop_pw (key := key) hs hl
  obtain ⟨a1, a2, a3, a4⟩ := around (key := key) hs hl
  rw [hq] at hp a2 a4
  have hc : ∀ L : List ByteArray, chg8 L (find8 n key).1 1 [] = L.take (find8 n key).1 ++ L.drop ((find8 n key).1 + 1) := fun L => by unfold chg8; rw [List.append_nil]
  refine (stands_leaf2 rfl).2 ⟨fun s hm => ?_, ?_, fun s hm => ?_, ?_, rfl⟩
  · rcases mem_chg.1 hm with h | h | h
    · exact h1 s (List.mem_of_mem_take h)
    · cases h
    · exact h1 s (List.mem_of_mem_drop h)
  · show (chg8 _ _ _ _).Pairwise ltS
    rw [hc]; exact hp
  · rcases mem_chg.1 hm with h | h | h
    · exact h3 s (List.mem_of_mem_take h)
    · cases h
    · exact h3 s (List.mem_of_mem_drop h)
  · show (chg8 _ _ _ _).length = (chg8 _ _ _ _).length
    rw [len_chg (show _ + 1 ≤ _ from a2), len_chg (show _ + 1 ≤ _ by rw [h4]; exact a2), h4]
theorem drop_find {n : Nd} {key : ByteArray} (hs : Stands8 n) (hl : n.leaf = true) (hq : (find8 n key).2 = true) : (find8 (drop8 n (find8 n key).1) key).1 = (find8 n key).1 := by
  obtain ⟨a1, a2, a3, a4⟩ := around (key := key) hs hl
  rw [hq] at a2 a4
  have hd := drop_stands hs hl hq
  generalize (find8 n key).1 = P at *
  unfold find8
  rw [st8_yes hd, if_pos rfl]
  show pos8 true key (chg8 n.keys P 1 []) = P
  have := pos8_split (key := key) (n.keys.take P) (n.keys.drop (P + 1)) a3 a4
  unfold chg8
  rw [List.append_nil, this, List.length_take]; omega
theorem chg_twice {L : List ByteArray} {P : Nat} {s : ByteArray} (h : P + 1 ≤ L.length) : chg8 (chg8 L P 1 []) P 0 [s] = chg8 L P 1 [s] := by
  unfold chg8
  have e1 : (L.take P ++ [] ++ L.drop (P + 1)).take P = L.take P := by rw [List.append_nil, List.take_append_of_le_length (by rw [List.length_take]; omega), List.take_take, Nat.min_self]
  have e2 : (L.take P ++ [] ++ L.drop (P + 1)).drop P = L.drop (P + 1) := by
    rw [List.append_nil, List.drop_append_of_le_length (by rw [List.length_take]; omega), List.drop_take, Nat.sub_self, List.take_zero, List.nil_append]
  rw [e1, show P + 0 = P from rfl, e2]
theorem put_drop8 {n : Nd} {key val : ByteArray} (hs : Stands8 n) (hl : n.leaf = true) (hq : (find8 n key).2 = true) : put8 (drop8 n (find8 n key).1) (find8 n key).1 0 key val = put8 n (find8 n key).1 1 key val := by
  obtain ⟨a1, a2, a3, a4⟩ := around (key := key) hs hl
  rw [hq] at a2
  have h4 := ((stands_leaf2 hl).1 hs).2.2.2.1
  unfold put8 drop8
  simp only
  rw [chg_twice (show _ + 1 ≤ _ from a2), chg_twice (show _ + 1 ≤ _ by rw [h4]; exact a2)]
set_option maxHeartbeats 2000000 in
theorem refPut_no (n : Nd) (key val : ByteArray) (hkz : key.size ≤ 140737488351232) (hvz : val.size ≤ 140737488351232) (A1 : Option Addr) (c1 : Nat) (A2 : Option Addr) (c2 : Nat) (A3 : Option Addr) (c3 : Nat) (w : World) (h : No w A1 c1 A2 c2 A3 c3 n) (hf : Few8 n) (hk : pok8 n key val = false) :
    Calls Try.prog 17 #[nv8 A1 c1 A2 c2 A3 c3 n, .string key, .string val] w fun e w' => e = .returned (.tuple #[.agg #[.bool false, .slice none 0 0, .slice none 0 0, .slice none 0 0], .int .i64 2]) ∧ Turn (fun _ => False) w w' := by
  have HS := Lib.hid (fun W (ht : Turn (fun _ => False) w W) => refStands_any n A1 c1 A2 c2 A3 c3 W (h.turn ht) hf)
  unfold pok8 at hk
  generalize st8 n = ST at *
  have T0 := Lib.hid (((Turn.refl (fun _ => False) w).alloc (.cells #[.bool n.leaf, .slice A1 n.keys.length c1, .slice A2 n.vals.length c2, .slice A3 n.kids.length c3] 26)).alloc (.cells #[.bool false, .slice none 0 0, .slice none 0 0, .slice none 0 0] 26))
  have B0 := Lib.hid (box_two w [.bool n.leaf, .slice A1 n.keys.length c1, .slice A2 n.vals.length c2, .slice A3 n.kids.length c3] [.bool false, .slice none 0 0, .slice none 0 0, .slice none 0 0]).1
  have R0 := Lib.hid (box_two w [.bool n.leaf, .slice A1 n.keys.length c1, .slice A2 n.vals.length c2, .slice A3 n.kids.length c3] [.bool false, .slice none 0 0, .slice none 0 0, .slice none 0 0]).2
  clear h hf
  obtain ⟨leaf, K, V, Z⟩ := n
  simp only [nv8] at *
  generalize K.length = nk at *
  generalize V.length = nv at *
  generalize Z.length = nd at *
  have hb : Hid ((ST = false) ∨ (ST = true ∧ leaf = false) ∨ (ST = true ∧ leaf = true ∧ decide ((128 : Int) < (key.size : Int)) = true) ∨ (ST = true ∧ leaf = true ∧ decide ((128 : Int) < (key.size : Int)) = false ∧ decide ((200 : Int) < (val.size : Int)) = true)) := Lib.hid (by
    cases ST
    · exact .inl rfl
    · cases leaf
      · exact .inr (.inl ⟨rfl, rfl⟩)
      · simp only [Bool.true_and] at hk
        by_cases h1 : key.size ≤ 128
        · by_cases h2 : val.size ≤ 200
          · rw [decide_eq_true h1, decide_eq_true h2] at hk; cases hk
          · exact .inr (.inr (.inr ⟨rfl, rfl, decide_eq_false (by omega), decide_eq_true (by omega)⟩))
        · exact .inr (.inr (.inl ⟨rfl, rfl, decide_eq_true (by omega)⟩)))
  clear hk
  go_enter Try.func17, Try.ntmps17
  go_wp2_with fail
  refine (HS.out _ T0.out).mono ?_
  rintro e w1 ⟨rfl, ht1⟩
  have T1 := Lib.hid (T0.out.trans ht1)
  have B1 := Lib.hid (B0.out.turn ht1 (fun h => h))
  have R1 := Lib.hid (R0.out.turn ht1 (fun h => h))
  clear ht1 T0 R0 B0
  have y0 : w1.cell? ⟨w.heap.size, 0, none⟩ = some (.bool leaf) := B1.out.cell 0
  have r0 := R1.out.cell 0
  have r1 := R1.out.cell 1
  have r2 := R1.out.cell 2
  have r3 := R1.out.cell 3
  have g0 := R1.out.free 0
  have g1 := R1.out.free 1
  have g2 := R1.out.free 2
  have g3 := R1.out.free 3
  simp only [List.getElem?_cons_zero, List.getElem?_cons_succ] at r0 r1 r2 r3
  rcases hb.out with rfl | ⟨rfl, rfl⟩ | ⟨rfl, rfl, hd1⟩ | ⟨rfl, rfl, hd1, hd2⟩
  all_goals clear hb
  all_goals go_wp2_with fail
  all_goals obtain ⟨hf, htf⟩ := put4 R1.out (.bool false) (.slice none 0 0) (.slice none 0 0) (.slice none 0 0)
  all_goals have htt := T1.out.trans_new htf (fun k hk e => by omega)
  all_goals have e0 := hf.cell 0
  all_goals have e1 := hf.cell 1
  all_goals have e2 := hf.cell 2
  all_goals have e3 := hf.cell 3
  all_goals simp only [List.getElem?_cons_zero, List.getElem?_cons_succ] at e0 e1 e2 e3
  all_goals clear r0 r1 r2 r3 g0 g1 g2 g3 hf
  all_goals generalize (((((w1.setCell ⟨w.heap.size + 1, 0, none⟩ (.bool false)).setCell ⟨w.heap.size + 1, 1, none⟩ (.slice none 0 0)).setCell ⟨w.heap.size + 1, 2, none⟩ (.slice none 0 0)).setCell ⟨w.heap.size + 1, 3, none⟩ (.slice none 0 0))) = WF at *
  all_goals exact bodyPost_ret (v := .tuple #[.agg #[.bool false, .slice none 0 0, .slice none 0 0, .slice none 0 0], .int .i64 2]) (by simp [results, Try.results17, go_sem, e0, e1, e2, e3]) rfl ⟨rfl, htt⟩
set_option maxHeartbeats 8000000 in
theorem refPut_new (n : Nd) (key val : ByteArray) (hkey : key.size ≤ 140737488351232) (A1 : Option Addr) (c1 : Nat) (A2 : Option Addr) (c2 : Nat) (A3 : Option Addr) (c3 : Nat) (w : World) (h : No w A1 c1 A2 c2 A3 c3 n) (hc1 : Cp A1 n.keys.length c1) (hc2 : Cp A2 n.vals.length c2) (hf : Few8 n) (hk : pok8 n key val = true) (hq : (find8 n key).2 = false) :
    Calls Try.prog 17 #[nv8 A1 c1 A2 c2 A3 c3 n, .string key, .string val] w fun e w' => ∃ v, e = .returned (.tuple #[v, .int .i64 0]) ∧ NoO w' v (put8 n (find8 n key).1 (gone8 (find8 n key).2) key val) ∧ Turn (fun _ => False) w w' := by
  have HS := Lib.hid (fun W (ht : Turn (fun _ => False) w W) => refStands_any n A1 c1 A2 c2 A3 c3 W (h.turn ht) hf)
  unfold pok8 at hk
  simp only [Bool.and_eq_true, decide_eq_true_eq] at hk
  obtain ⟨hst, hlf, hkz, hvz⟩ := hk
  have hst2 := st8_of hst
  have hvl := ((stands_leaf2 hlf).1 hst2).2.2.2.1
  have f1 := hf.nk
  obtain ⟨a1, a2, _, _⟩ := around (key := key) hst2 hlf
  have HDR := Lib.hid (fun W (ht : Turn (fun _ => False) w W) => refDrop_no n key hkey A1 c1 A2 c2 A3 c3 W (h.turn ht) hf hq)
  have HF := Lib.hid (fun W (ht : Turn (fun _ => False) w W) => refFind_any n key hkey A1 c1 A2 c2 A3 c3 W (h.turn ht) hf)
  rw [hq] at HF a2 ⊢
  generalize (find8 n key).1 = P at *
  have HWK := Lib.hid (fun W (ht : Turn (fun _ => False) w W) => with_any n.keys A1 c1 P key W (h.keys.turn ht) hc1 a1 (by omega))
  have HWV := Lib.hid (fun W (ht : Turn (fun _ => False) w W) => with_any n.vals A2 c2 P val W (h.vals.turn ht) hc2 (by omega) (by omega))
  have HD : Hid (put8 n P (gone8 false) key val = ⟨true, chg8 n.keys P 0 [key], chg8 n.vals P 0 [val], []⟩) := Lib.hid rfl
  have HLK : Hid ((chg8 n.keys P 0 [key]).length = n.keys.length + 1) := Lib.hid (by rw [len_chg (by omega)]; simp)
  have HLV : Hid ((chg8 n.vals P 0 [val]).length = n.vals.length + 1) := Lib.hid (by rw [len_chg (by omega)]; simp)
  rw [hst] at HS
  generalize put8 n P (gone8 false) key val = DN at *
  generalize chg8 n.keys P 0 [key] = KS at *
  generalize chg8 n.vals P 0 [val] = VS at *
  have T0 := Lib.hid (((Turn.refl (fun _ => False) w).alloc (.cells #[.bool true, .slice A1 n.keys.length c1, .slice A2 n.vals.length c2, .slice A3 n.kids.length c3] 26)).alloc (.cells #[.bool false, .slice none 0 0, .slice none 0 0, .slice none 0 0] 26))
  have B0 := Lib.hid (box_two w [.bool true, .slice A1 n.keys.length c1, .slice A2 n.vals.length c2, .slice A3 n.kids.length c3] [.bool false, .slice none 0 0, .slice none 0 0, .slice none 0 0]).1
  have R0 := Lib.hid (box_two w [.bool true, .slice A1 n.keys.length c1, .slice A2 n.vals.length c2, .slice A3 n.kids.length c3] [.bool false, .slice none 0 0, .slice none 0 0, .slice none 0 0]).2
  clear h hf hst hst2 hvl a1 a2 f1 hc1 hc2
  simp only [nv8] at *
  rw [hlf] at HS HDR HF ⊢
  generalize n.keys.length = nk at *
  generalize n.vals.length = nv at *
  generalize n.kids.length = nd at *
  have hk1 : ¬ (128 : Int) < (key.size : Int) := by omega
  have hv1 : ¬ (200 : Int) < (val.size : Int) := by omega
  go_enter Try.func17, Try.ntmps17
  go_wp2_with fail
  refine (HS.out _ T0.out).mono ?_
  rintro e w1 ⟨rfl, ht1⟩
  have T1 := Lib.hid (T0.out.trans ht1)
  have B1 := Lib.hid (B0.out.turn ht1 (fun h => h))
  have R1 := Lib.hid (R0.out.turn ht1 (fun h => h))
  clear ht1 T0 B0 R0
  have y0 : (w1).cell? ⟨w.heap.size, 0, none⟩ = some (.bool true) := B1.out.cell 0
  have y1 : (w1).cell? ⟨w.heap.size, 1, none⟩ = some (.slice A1 nk c1) := B1.out.cell 1
  have y2 : (w1).cell? ⟨w.heap.size, 2, none⟩ = some (.slice A2 nv c2) := B1.out.cell 2
  have y3 : (w1).cell? ⟨w.heap.size, 3, none⟩ = some (.slice A3 nd c3) := B1.out.cell 3
  go_wp2_with fail
  refine (HDR.out _ T1.out).mono ?_
  rintro e w2 ⟨rfl, ht2⟩
  have NB2 := Lib.hid ((Turn.refl (fun _ => False) w2).alloc (.cells #[.bool false, .slice none 0 0, .slice none 0 0, .slice none 0 0] 26))
  have T2 := Lib.hid ((T1.out.trans ht2).trans NB2.out)
  have B2 := Lib.hid ((B1.out.turn ht2 (fun h => h)).turn NB2.out (fun h => h))
  have R2 := Lib.hid ((R1.out.turn ht2 (fun h => h)).turn NB2.out (fun h => h))
  clear ht2 y0 y1 y2 y3 T1 B1 R1 NB2
  have y0 : (w2.alloc (.cells #[.bool false, .slice none 0 0, .slice none 0 0, .slice none 0 0] 26)).cell? ⟨w.heap.size, 0, none⟩ = some (.bool true) := B2.out.cell 0
  have y1 : (w2.alloc (.cells #[.bool false, .slice none 0 0, .slice none 0 0, .slice none 0 0] 26)).cell? ⟨w.heap.size, 1, none⟩ = some (.slice A1 nk c1) := B2.out.cell 1
  have y2 : (w2.alloc (.cells #[.bool false, .slice none 0 0, .slice none 0 0, .slice none 0 0] 26)).cell? ⟨w.heap.size, 2, none⟩ = some (.slice A2 nv c2) := B2.out.cell 2
  have y3 : (w2.alloc (.cells #[.bool false, .slice none 0 0, .slice none 0 0, .slice none 0 0] 26)).cell? ⟨w.heap.size, 3, none⟩ = some (.slice A3 nd c3) := B2.out.cell 3
  go_wp2_with fail
  refine (HF.out _ T2.out).mono ?_
  rintro e w5 ⟨rfl, ht5⟩
  have T5 := Lib.hid (T2.out.trans ht5)
  have B5 := Lib.hid (B2.out.turn ht5 (fun h => h))
  have R5 := Lib.hid (R2.out.turn ht5 (fun h => h))
  have HWK5 := Lib.hid (fun W (ht : Turn (fun _ => False) w5 W) => HWK.out W (T5.out.trans ht))
  have HWV5 := Lib.hid (fun W (ht : Turn (fun _ => False) w5 W) => HWV.out W (T5.out.trans ht))
  have hgz : w.heap.size + 1 < w5.heap.size := R5.out.lt
  clear ht5 y0 y1 y2 y3 T2 B2 R2
  go_wp2_with fail
  refine wp_region_noPanic ?_
  refine wp_region_held_drew (S := fun X => Turn (fun k => k = w.heap.size + 1) w5 X) (by kernel_rfl) ((Turn.refl (fun k => k = w.heap.size + 1) w5).drew) (fun hHeld => ?_)
  refine wpAnyH_named (fun X0 hX0 => ?_)
  clear hHeld
  have T0 : Hid (Turn (fun _ => False) w5 X0) := Lib.hid (by rw [hX0]; exact (Turn.refl (fun _ => False) w5).drew)
  have hH0 := T0.out.mono (T := (fun k => k = w.heap.size + 1)) (fun _ _ h => h.elim)
  clear hX0
  have B0_6 := Lib.hid ((R5.out).turn T0.out (fun h => h))
  refine wpAnyH_take (i := 0) (v := ?_) rfl (by kernel_rfl) (by kernel_rfl) (by kernel_rfl) (fun _ _ _ h => h) (Or.inl ⟨by rfl, ?_⟩) (by assumption) ?_
  rotate_left 1
  · intro w' hSw
    go_simp
    all_goals first | with_reducible rfl | (rw [if_neg (by omega)]; done) | (rw [if_pos (by omega)]; done) | (rw [if_neg (by omega)]; with_reducible rfl) | (rw [if_pos (by omega)]; with_reducible rfl)
  try simp only [List.getElem_toArray, List.getElem_cons_zero, List.getElem_cons_succ, Act.put, List.setIfInBounds_toArray, List.set_cons_zero, List.set_cons_succ]
  refine wpAnyH_take (i := 1) (v := ?_) rfl (by kernel_rfl) (by kernel_rfl) (by kernel_rfl) (fun _ _ _ h => h) (Or.inl ⟨by rfl, ?_⟩) (by assumption) ?_
  rotate_left 1
  · intro w' hSw
    have x1 : w'.cell? ⟨w.heap.size, 1, none⟩ = some (.slice A1 nk c1) := (B5.out.turn hSw (by omega)).cell 1
    go_simp
    all_goals first | with_reducible rfl | (rw [if_neg (by omega)]; done) | (rw [if_pos (by omega)]; done) | (rw [if_neg (by omega)]; with_reducible rfl) | (rw [if_pos (by omega)]; with_reducible rfl)
  try simp only [List.getElem_toArray, List.getElem_cons_zero, List.getElem_cons_succ, Act.put, List.setIfInBounds_toArray, List.set_cons_zero, List.set_cons_succ]
  refine wpAnyH_take (i := 2) (v := ?_) rfl (by kernel_rfl) (by kernel_rfl) (by kernel_rfl) (fun _ _ _ h => h) (Or.inl ⟨by rfl, ?_⟩) (by assumption) ?_
  rotate_left 1
  · intro w' hSw
    go_simp
    all_goals first | with_reducible rfl | (rw [if_neg (by omega)]; done) | (rw [if_pos (by omega)]; done) | (rw [if_neg (by omega)]; with_reducible rfl) | (rw [if_pos (by omega)]; with_reducible rfl)
  try simp only [List.getElem_toArray, List.getElem_cons_zero, List.getElem_cons_succ, Act.put, List.setIfInBounds_toArray, List.set_cons_zero, List.set_cons_succ]
  refine wpAnyH_take (i := 3) (v := ?_) rfl (by kernel_rfl) (by kernel_rfl) (by kernel_rfl) (fun _ _ _ h => h) (Or.inl ⟨by rfl, ?_⟩) (by assumption) ?_
  rotate_left 1
  · intro w' hSw
    go_simp
    all_goals first | with_reducible rfl | (rw [if_neg (by omega)]; done) | (rw [if_pos (by omega)]; done) | (rw [if_neg (by omega)]; with_reducible rfl) | (rw [if_pos (by omega)]; with_reducible rfl)
  try simp only [List.getElem_toArray, List.getElem_cons_zero, List.getElem_cons_succ, Act.put, List.setIfInBounds_toArray, List.set_cons_zero, List.set_cons_succ]
  refine wpAnyH_take (i := 5) (v := ?_) rfl (by kernel_rfl) (by kernel_rfl) (by kernel_rfl) (fun _ _ _ h => h) (Or.inl ⟨by rfl, ?_⟩) (by assumption) ?_
  rotate_left 1
  · intro w' hSw
    go_simp
    all_goals first | with_reducible rfl | (rw [if_neg (by omega)]; done) | (rw [if_pos (by omega)]; done) | (rw [if_neg (by omega)]; with_reducible rfl) | (rw [if_pos (by omega)]; with_reducible rfl)
  try simp only [List.getElem_toArray, List.getElem_cons_zero, List.getElem_cons_succ, Act.put, List.setIfInBounds_toArray, List.set_cons_zero, List.set_cons_succ]
  refine wpAnyH_take (i := 6) (v := ?_) rfl (by kernel_rfl) (by kernel_rfl) (by kernel_rfl) (fun _ _ _ h => h) (Or.inl ⟨by rfl, ?_⟩) (by assumption) ?_
  rotate_left 1
  · intro w' hSw
    have x2 : w'.cell? ⟨w.heap.size, 2, none⟩ = some (.slice A2 nv c2) := (B5.out.turn hSw (by omega)).cell 2
    go_simp
    all_goals first | with_reducible rfl | (rw [if_neg (by omega)]; done) | (rw [if_pos (by omega)]; done) | (rw [if_neg (by omega)]; with_reducible rfl) | (rw [if_pos (by omega)]; with_reducible rfl)
  try simp only [List.getElem_toArray, List.getElem_cons_zero, List.getElem_cons_succ, Act.put, List.setIfInBounds_toArray, List.set_cons_zero, List.set_cons_succ]
  refine wpAnyH_take (i := 7) (v := ?_) rfl (by kernel_rfl) (by kernel_rfl) (by kernel_rfl) (fun _ _ _ h => h) (Or.inl ⟨by rfl, ?_⟩) (by assumption) ?_
  rotate_left 1
  · intro w' hSw
    go_simp
    all_goals first | with_reducible rfl | (rw [if_neg (by omega)]; done) | (rw [if_pos (by omega)]; done) | (rw [if_neg (by omega)]; with_reducible rfl) | (rw [if_pos (by omega)]; with_reducible rfl)
  try simp only [List.getElem_toArray, List.getElem_cons_zero, List.getElem_cons_succ, Act.put, List.setIfInBounds_toArray, List.set_cons_zero, List.set_cons_succ]
  refine wpAnyH_take (i := 8) (v := ?_) rfl (by kernel_rfl) (by kernel_rfl) (by kernel_rfl) (fun _ _ _ h => h) (Or.inl ⟨by rfl, ?_⟩) (by assumption) ?_
  rotate_left 1
  · intro w' hSw
    go_simp
    all_goals first | with_reducible rfl | (rw [if_neg (by omega)]; done) | (rw [if_pos (by omega)]; done) | (rw [if_neg (by omega)]; with_reducible rfl) | (rw [if_pos (by omega)]; with_reducible rfl)
  try simp only [List.getElem_toArray, List.getElem_cons_zero, List.getElem_cons_succ, Act.put, List.setIfInBounds_toArray, List.set_cons_zero, List.set_cons_succ]
  refine wpAnyH_ready (rs := [4]) (by kernel_rfl) (by simp) ?_
  refine AllReadyH.cons rfl (fun K hK => ?_) AllReadyH.nil
  refine step_call rfl 40 Try.f40 _ _ rfl Try.func40 (by kernel_rfl) (by kernel_rfl) _ _ (HWK5.out _ T0.out) (by go_simp) ?_
  rintro v1 X1 ⟨g_1, c_1, rfl, hr, hg, hc, ht⟩
  have T1 := Lib.hid (T0.out.trans ht)
  have hH1 := T1.out.mono (T := (fun k => k = w.heap.size + 1)) (fun _ _ h => h.elim)
  have hz1 := ht.size
  have hy1 := T0.out.size
  have B1_6 := Lib.hid (B0_6.out.turn ht (fun h => h))
  have hm1_6 := B0_6.out.lt
  have R1_49 := Lib.hid hr
  have P1_49 := Lib.hid hc
  clear T0 hH0 B0_6 hr hc ht
  refine hK.out _ _ hH1 (fun hHeld => ?_)
  clear hK K hHeld
  try simp only [List.getElem_toArray, List.getElem_cons_zero, List.getElem_cons_succ, Act.put, List.setIfInBounds_toArray, List.set_cons_zero, List.set_cons_succ]
  refine wpAnyH_ready (rs := [9]) (by kernel_rfl) (by simp) ?_
  refine AllReadyH.cons rfl (fun K hK => ?_) AllReadyH.nil
  refine step_call rfl 40 Try.f40 _ _ rfl Try.func40 (by kernel_rfl) (by kernel_rfl) _ _ (HWV5.out _ T1.out) (by go_simp) ?_
  rintro v2 X2 ⟨g_2, c_2, rfl, hr, hg, hc, ht⟩
  have T2 := Lib.hid (T1.out.trans ht)
  have hH2 := T2.out.mono (T := (fun k => k = w.heap.size + 1)) (fun _ _ h => h.elim)
  have hz2 := ht.size
  have hy2 := T1.out.size
  have R2_49 := Lib.hid (R1_49.out.turn ht (fun h => h))
  have B2_6 := Lib.hid (B1_6.out.turn ht (fun h => h))
  have hl2_49 := R1_49.out.lt
  have hm2_6 := B1_6.out.lt
  have R2_54 := Lib.hid hr
  have P2_54 := Lib.hid hc
  clear T1 hH1 R1_49 B1_6 hr hc ht
  refine hK.out _ _ hH2 (fun hHeld => ?_)
  clear hK K hHeld
  try simp only [List.getElem_toArray, List.getElem_cons_zero, List.getElem_cons_succ, Act.put, List.setIfInBounds_toArray, List.set_cons_zero, List.set_cons_succ]
  refine wpAnyH_take (i := 10) (v := ?_) rfl (by kernel_rfl) (by kernel_rfl) (by kernel_rfl) (fun _ _ _ h => h) (Or.inl ⟨by rfl, ?_⟩) (by assumption) ?_
  rotate_left 1
  · intro w' hSw
    go_simp
    all_goals first | with_reducible rfl | (rw [if_neg (by omega)]; done) | (rw [if_pos (by omega)]; done) | (rw [if_neg (by omega)]; with_reducible rfl) | (rw [if_pos (by omega)]; with_reducible rfl)
  try simp only [List.getElem_toArray, List.getElem_cons_zero, List.getElem_cons_succ, Act.put, List.setIfInBounds_toArray, List.set_cons_zero, List.set_cons_succ]
  refine wpAnyH_ready (rs := [11]) (by kernel_rfl) (by simp) ?_
  refine AllReadyH.cons rfl (fun K hK => ?_) AllReadyH.nil
  have r0 := B2_6.out.cell 0
  have f0 := B2_6.out.free 0
  have r1 := B2_6.out.cell 1
  have f1 := B2_6.out.free 1
  have r2 := B2_6.out.cell 2
  have f2 := B2_6.out.free 2
  have r3 := B2_6.out.cell 3
  have f3 := B2_6.out.free 3
  simp only [List.getElem?_cons_zero, List.getElem?_cons_succ] at r0 r1 r2 r3
  obtain ⟨hb, hs⟩ := put4 B2_6.out (.bool true) (.slice (some ⟨g_1, 0, none⟩) (nk + 1) c_1) (.slice (some ⟨g_2, 0, none⟩) (nv + 1) c_2) (.slice none 0 0)
  have hx := T2.out.size
  have hS := (T2.out.mono (T := (fun k => k = w.heap.size + 1)) (fun _ _ h => h.elim)).trans_new (S := (fun k => k = w.heap.size + 1)) hs (fun k hk e => by omega)
  go_simp
  refine hK.out _ _ hS (fun hHeld => ?_)
  clear hK K
  try simp only [List.getElem_toArray, List.getElem_cons_zero, List.getElem_cons_succ, Act.put, List.setIfInBounds_toArray, List.set_cons_zero, List.set_cons_succ]
  refine wpAnyH_named (fun X3 e => ?_)
  clear hHeld
  have T3 := Lib.hid (e ▸ hS)
  have hH3 := T3.out
  have B3_6 := Lib.hid (e ▸ hb)
  rw [← e] at hs
  have R3_49 := Lib.hid (R2_49.out.turn hs (by omega))
  have R3_54 := Lib.hid (R2_54.out.turn hs (by omega))
  clear T2 hH2 R2_49 R2_54 B2_6 r0 f0 r1 f1 r2 f2 r3 f3 hS hb hs e
  refine wpAnyH_take (i := 12) (v := ?_) rfl (by kernel_rfl) (by kernel_rfl) (by kernel_rfl) (fun _ _ _ h => h) (Or.inl ⟨by rfl, ?_⟩) (by assumption) ?_
  rotate_left 1
  · intro w' hSw
    go_simp
    all_goals first | with_reducible rfl | (rw [if_neg (by omega)]; done) | (rw [if_pos (by omega)]; done) | (rw [if_neg (by omega)]; with_reducible rfl) | (rw [if_pos (by omega)]; with_reducible rfl)
  try simp only [List.getElem_toArray, List.getElem_cons_zero, List.getElem_cons_succ, Act.put, List.setIfInBounds_toArray, List.set_cons_zero, List.set_cons_succ]
  refine wpAnyH_done (by kernel_rfl) ?_ _
  refine NoPanic.normal ?_
  go_wp2_with fail
  have e0 := B3_6.out.cell 0
  have e1 := B3_6.out.cell 1
  have e2 := B3_6.out.cell 2
  have e3 := B3_6.out.cell 3
  simp only [List.getElem?_cons_zero, List.getElem?_cons_succ] at e0 e1 e2 e3
  have hsr1 := R3_49.out.sr
  have hsr2 := R3_54.out.sr
  have htt := T5.out.trans_new T3.out (fun k hk e => by omega)
  exact bodyPost_ret (v := .tuple #[.agg #[.bool true, (.slice (some ⟨g_1, 0, none⟩) (nk + 1) c_1), (.slice (some ⟨g_2, 0, none⟩) (nv + 1) c_2), .slice none 0 0], .int .i64 0]) (by simp [results, Try.results17, go_sem, e0, e1, e2, e3]) rfl ⟨_, rfl, ⟨some ⟨g_1, 0, none⟩, c_1, some ⟨g_2, 0, none⟩, c_2, none, 0, by rw [HD.out]; simp only [nv8]; rw [HLK.out, HLV.out]; rfl, by rw [HD.out]; exact ⟨hsr1, hsr2, nr_nil _ _⟩, by rw [HD.out]; show Cp _ KS.length _ ∧ Cp _ VS.length _ ∧ Cp none 0 0; rw [HLK.out, HLV.out]; exact ⟨P1_49.out, P2_54.out, ⟨Nat.le_refl _, by unfold maxLen; decide, fun _ => rfl⟩⟩⟩, htt⟩
set_option maxHeartbeats 8000000 in
theorem refPut_old (n : Nd) (key val : ByteArray) (hkey : key.size ≤ 140737488351232) (A1 : Option Addr) (c1 : Nat) (A2 : Option Addr) (c2 : Nat) (A3 : Option Addr) (c3 : Nat) (w : World) (h : No w A1 c1 A2 c2 A3 c3 n) (hc1 : Cp A1 n.keys.length c1) (hc2 : Cp A2 n.vals.length c2) (hf : Few8 n) (hk : pok8 n key val = true) (hq : (find8 n key).2 = true) :
    Calls Try.prog 17 #[nv8 A1 c1 A2 c2 A3 c3 n, .string key, .string val] w fun e w' => ∃ v, e = .returned (.tuple #[v, .int .i64 0]) ∧ NoO w' v (put8 n (find8 n key).1 (gone8 (find8 n key).2) key val) ∧ Turn (fun _ => False) w w' := by
  have HS := Lib.hid (fun W (ht : Turn (fun _ => False) w W) => refStands_any n A1 c1 A2 c2 A3 c3 W (h.turn ht) hf)
  unfold pok8 at hk
  simp only [Bool.and_eq_true, decide_eq_true_eq] at hk
  obtain ⟨hst, hlf, hkz, hvz⟩ := hk
  have hst2 := st8_of hst
  have hvl := ((stands_leaf2 hlf).1 hst2).2.2.2.1
  have f1 := hf.nk
  obtain ⟨a1, a2, _, _⟩ := around (key := key) hst2 hlf
  have HDR := Lib.hid (fun W (ht : Turn (fun _ => False) w W) => refDrop_yes n key hkey A1 c1 A2 c2 A3 c3 W (h.turn ht) hc1 hc2 hf hq)
  have hds := drop_stands hst2 hlf hq
  have hdf := drop_find hst2 hlf hq
  have hpd := put_drop8 (val := val) hst2 hlf hq
  have hfd := few_drop hf (find8 n key).1
  have HF := Lib.hid (fun W B1 d1 B2 d2 B3 d3 (h : No W B1 d1 B2 d2 B3 d3 (drop8 n (find8 n key).1)) => refFind_any (drop8 n (find8 n key).1) key hkey B1 d1 B2 d2 B3 d3 W h hfd)
  rw [hdf] at HF
  rw [hq] at a2 ⊢
  rw [show gone8 true = 1 from rfl, ← hpd]
  have hml : (drop8 n (find8 n key).1).keys.length = n.keys.length - 1 ∧ (drop8 n (find8 n key).1).vals.length = n.keys.length - 1 := by
    constructor
    · show (chg8 _ _ _ _).length = _; rw [len_chg (show _ + 1 ≤ _ from a2)]; simp
    · show (chg8 _ _ _ _).length = _; rw [len_chg (show _ + 1 ≤ _ by rw [hvl]; exact a2), hvl]; simp
  have hfb : ∃ b, (find8 (drop8 n (find8 n key).1) key).2 = b := ⟨_, rfl⟩
  obtain ⟨FB, hFB⟩ := hfb
  rw [hFB] at HF
  have hdl : (drop8 n (find8 n key).1).leaf = true := rfl
  generalize (find8 n key).1 = P at *
  generalize hMN : drop8 n P = MN at *
  have a3 : P ≤ MN.keys.length := by have : P + 1 ≤ n.keys.length := a2; omega
  have HWK := Lib.hid (fun W B1 d1 (hb : Sr W B1 MN.keys) (hc : Cp B1 MN.keys.length d1) => with_any MN.keys B1 d1 P key W hb hc a3 (by omega))
  have HWV := Lib.hid (fun W B1 d1 (hb : Sr W B1 MN.vals) (hc : Cp B1 MN.vals.length d1) => with_any MN.vals B1 d1 P val W hb hc (by omega) (by omega))
  have HD : Hid (put8 MN P 0 key val = ⟨true, chg8 MN.keys P 0 [key], chg8 MN.vals P 0 [val], []⟩) := Lib.hid rfl
  have HLK : Hid ((chg8 MN.keys P 0 [key]).length = MN.keys.length + 1) := Lib.hid (by rw [len_chg (by omega)]; simp)
  have HLV : Hid ((chg8 MN.vals P 0 [val]).length = MN.vals.length + 1) := Lib.hid (by rw [len_chg (by omega)]; simp)
  rw [hst] at HS
  generalize put8 MN P 0 key val = DN at *
  generalize chg8 MN.keys P 0 [key] = KS at *
  generalize chg8 MN.vals P 0 [val] = VS at *
  have T0 := Lib.hid (((Turn.refl (fun _ => False) w).alloc (.cells #[.bool true, .slice A1 n.keys.length c1, .slice A2 n.vals.length c2, .slice A3 n.kids.length c3] 26)).alloc (.cells #[.bool false, .slice none 0 0, .slice none 0 0, .slice none 0 0] 26))
  have B0 := Lib.hid (box_two w [.bool true, .slice A1 n.keys.length c1, .slice A2 n.vals.length c2, .slice A3 n.kids.length c3] [.bool false, .slice none 0 0, .slice none 0 0, .slice none 0 0]).1
  have R0 := Lib.hid (box_two w [.bool true, .slice A1 n.keys.length c1, .slice A2 n.vals.length c2, .slice A3 n.kids.length c3] [.bool false, .slice none 0 0, .slice none 0 0, .slice none 0 0]).2
  clear h hf hst hst2 hvl a1 a2 a3 f1 hc1 hc2 hds hdf hpd hfd hml hFB hMN hq
  simp only [nv8] at *
  rw [hlf] at HS HDR ⊢
  rw [hdl] at HF
  generalize n.keys.length = nk at *
  generalize n.vals.length = nv at *
  generalize n.kids.length = nd at *
  generalize hmk : MN.keys.length = mk at *
  generalize hmv : MN.vals.length = mv at *
  generalize hmd : MN.kids.length = md at *
  have hk1 : ¬ (128 : Int) < (key.size : Int) := by omega
  have hv1 : ¬ (200 : Int) < (val.size : Int) := by omega
  go_enter Try.func17, Try.ntmps17
  go_wp2_with fail
  refine (HS.out _ T0.out).mono ?_
  rintro e w1 ⟨rfl, ht1⟩
  have T1 := Lib.hid (T0.out.trans ht1)
  have B1 := Lib.hid (B0.out.turn ht1 (fun h => h))
  have R1 := Lib.hid (R0.out.turn ht1 (fun h => h))
  clear ht1 T0 B0 R0
  have y0 : (w1).cell? ⟨w.heap.size, 0, none⟩ = some (.bool true) := B1.out.cell 0
  have y1 : (w1).cell? ⟨w.heap.size, 1, none⟩ = some (.slice A1 nk c1) := B1.out.cell 1
  have y2 : (w1).cell? ⟨w.heap.size, 2, none⟩ = some (.slice A2 nv c2) := B1.out.cell 2
  have y3 : (w1).cell? ⟨w.heap.size, 3, none⟩ = some (.slice A3 nd c3) := B1.out.cell 3
  go_wp2_with fail
  refine (HDR.out _ T1.out).mono ?_
  rintro e w2 ⟨vD, rfl, hnoD, ht2⟩
  obtain ⟨G1, h1, G2, h2, G3, h3, rfl, hnd2, kd1, kd2, _⟩ := hnoD
  simp only [nv8]
  rw [hdl, hmk, hmv, hmd]
  rw [hmk] at kd1
  rw [hmv] at kd2
  have b2 := B1.out.turn ht2 (fun h => h)
  have r2 := R1.out.turn ht2 (fun h => h)
  have hs1 := T1.out.size
  have hl1 := B1.out.lt
  obtain ⟨hb', ht'⟩ := put4 b2 (.bool true) (.slice G1 mk h1) (.slice G2 mv h2) (.slice G3 md h3)
  have T2 := Lib.hid (((T1.out.trans ht2).trans_new ht' (fun k hk e => by omega)).alloc (.cells #[(.bool true), (.slice G1 mk h1), (.slice G2 mv h2), (.slice G3 md h3)] 26))
  have B2 := Lib.hid (hb'.alloc (.cells #[(.bool true), (.slice G1 mk h1), (.slice G2 mv h2), (.slice G3 md h3)] 26))
  have R2 := Lib.hid ((r2.turn ht' (fun e => by omega)).alloc (.cells #[(.bool true), (.slice G1 mk h1), (.slice G2 mv h2), (.slice G3 md h3)] 26))
  have ND2 := Lib.hid (hnd2 _ ((ht'.mono (T := fun k => k < w1.heap.size) (fun k hk e => by omega)).alloc (.cells #[(.bool true), (.slice G1 mk h1), (.slice G2 mv h2), (.slice G3 md h3)] 26)))
  have KD := Lib.hid (And.intro kd1 kd2)
  have y0 := b2.cell 0
  have y1 := b2.cell 1
  have y2 := b2.cell 2
  have y3 := b2.cell 3
  have g0 := b2.free 0
  have g1 := b2.free 1
  have g2 := b2.free 2
  have g3 := b2.free 3
  simp only [List.getElem?_cons_zero, List.getElem?_cons_succ] at y0 y1 y2 y3
  have hwl := b2.lt
  generalize hWS : ((((w2.setCell ⟨w.heap.size, 0, none⟩ (.bool true)).setCell ⟨w.heap.size, 1, none⟩ (.slice G1 mk h1)).setCell ⟨w.heap.size, 2, none⟩ (.slice G2 mv h2)).setCell ⟨w.heap.size, 3, none⟩ (.slice G3 md h3)) = WS at *
  have HWS := Lib.hid hWS
  clear hWS
  clear ht2 T1 B1 R1 hnd2 kd1 kd2 b2 r2 hb' ht'
  go_wp2_with fail
  rw [HWS.out]
  refine (HF.out _ G1 h1 G2 h2 G3 h3 ND2.out).mono ?_
  rintro e w5 ⟨rfl, ht5⟩
  have T5 := Lib.hid (T2.out.trans ht5)
  have B5 := Lib.hid (B2.out.turn ht5 (fun h => h))
  have R5 := Lib.hid (R2.out.turn ht5 (fun h => h))
  have N5 := Lib.hid (ND2.out.turn ht5)
  have HWK5 := Lib.hid (fun W (ht : Turn (fun _ => False) w5 W) => HWK.out W G1 h1 (N5.out.keys.turn ht) KD.out.1)
  have HWV5 := Lib.hid (fun W (ht : Turn (fun _ => False) w5 W) => HWV.out W G2 h2 (N5.out.vals.turn ht) KD.out.2)
  have hgz : w.heap.size + 1 < w5.heap.size := R5.out.lt
  clear ht5 y0 y1 y2 y3 g0 g1 g2 g3 T2 B2 R2 ND2
  go_wp2_with fail
  refine wp_region_noPanic ?_
  refine wp_region_held_drew (S := fun X => Turn (fun k => k = w.heap.size + 1) w5 X) (by kernel_rfl) ((Turn.refl (fun k => k = w.heap.size + 1) w5).drew) (fun hHeld => ?_)
  refine wpAnyH_named (fun X0 hX0 => ?_)
  clear hHeld
  have T0 : Hid (Turn (fun _ => False) w5 X0) := Lib.hid (by rw [hX0]; exact (Turn.refl (fun _ => False) w5).drew)
  have hH0 := T0.out.mono (T := (fun k => k = w.heap.size + 1)) (fun _ _ h => h.elim)
  clear hX0
  have B0_6 := Lib.hid ((R5.out).turn T0.out (fun h => h))
  refine wpAnyH_take (i := 0) (v := ?_) rfl (by kernel_rfl) (by kernel_rfl) (by kernel_rfl) (fun _ _ _ h => h) (Or.inl ⟨by rfl, ?_⟩) (by assumption) ?_
  rotate_left 1
  · intro w' hSw
    go_simp
    all_goals first | with_reducible rfl | (rw [if_neg (by omega)]; done) | (rw [if_pos (by omega)]; done) | (rw [if_neg (by omega)]; with_reducible rfl) | (rw [if_pos (by omega)]; with_reducible rfl)
  try simp only [List.getElem_toArray, List.getElem_cons_zero, List.getElem_cons_succ, Act.put, List.setIfInBounds_toArray, List.set_cons_zero, List.set_cons_succ]
  refine wpAnyH_take (i := 1) (v := ?_) rfl (by kernel_rfl) (by kernel_rfl) (by kernel_rfl) (fun _ _ _ h => h) (Or.inl ⟨by rfl, ?_⟩) (by assumption) ?_
  rotate_left 1
  · intro w' hSw
    have x1 : w'.cell? ⟨w.heap.size, 1, none⟩ = some (.slice G1 mk h1) := (B5.out.turn hSw (by omega)).cell 1
    go_simp
    all_goals first | with_reducible rfl | (rw [if_neg (by omega)]; done) | (rw [if_pos (by omega)]; done) | (rw [if_neg (by omega)]; with_reducible rfl) | (rw [if_pos (by omega)]; with_reducible rfl)
  try simp only [List.getElem_toArray, List.getElem_cons_zero, List.getElem_cons_succ, Act.put, List.setIfInBounds_toArray, List.set_cons_zero, List.set_cons_succ]
  refine wpAnyH_take (i := 2) (v := ?_) rfl (by kernel_rfl) (by kernel_rfl) (by kernel_rfl) (fun _ _ _ h => h) (Or.inl ⟨by rfl, ?_⟩) (by assumption) ?_
  rotate_left 1
  · intro w' hSw
    go_simp
    all_goals first | with_reducible rfl | (rw [if_neg (by omega)]; done) | (rw [if_pos (by omega)]; done) | (rw [if_neg (by omega)]; with_reducible rfl) | (rw [if_pos (by omega)]; with_reducible rfl)
  try simp only [List.getElem_toArray, List.getElem_cons_zero, List.getElem_cons_succ, Act.put, List.setIfInBounds_toArray, List.set_cons_zero, List.set_cons_succ]
  refine wpAnyH_take (i := 3) (v := ?_) rfl (by kernel_rfl) (by kernel_rfl) (by kernel_rfl) (fun _ _ _ h => h) (Or.inl ⟨by rfl, ?_⟩) (by assumption) ?_
  rotate_left 1
  · intro w' hSw
    go_simp
    all_goals first | with_reducible rfl | (rw [if_neg (by omega)]; done) | (rw [if_pos (by omega)]; done) | (rw [if_neg (by omega)]; with_reducible rfl) | (rw [if_pos (by omega)]; with_reducible rfl)
  try simp only [List.getElem_toArray, List.getElem_cons_zero, List.getElem_cons_succ, Act.put, List.setIfInBounds_toArray, List.set_cons_zero, List.set_cons_succ]
  refine wpAnyH_take (i := 5) (v := ?_) rfl (by kernel_rfl) (by kernel_rfl) (by kernel_rfl) (fun _ _ _ h => h) (Or.inl ⟨by rfl, ?_⟩) (by assumption) ?_
  rotate_left 1
  · intro w' hSw
    go_simp
    all_goals first | with_reducible rfl | (rw [if_neg (by omega)]; done) | (rw [if_pos (by omega)]; done) | (rw [if_neg (by omega)]; with_reducible rfl) | (rw [if_pos (by omega)]; with_reducible rfl)
  try simp only [List.getElem_toArray, List.getElem_cons_zero, List.getElem_cons_succ, Act.put, List.setIfInBounds_toArray, List.set_cons_zero, List.set_cons_succ]
  refine wpAnyH_take (i := 6) (v := ?_) rfl (by kernel_rfl) (by kernel_rfl) (by kernel_rfl) (fun _ _ _ h => h) (Or.inl ⟨by rfl, ?_⟩) (by assumption) ?_
  rotate_left 1
  · intro w' hSw
    have x2 : w'.cell? ⟨w.heap.size, 2, none⟩ = some (.slice G2 mv h2) := (B5.out.turn hSw (by omega)).cell 2
    go_simp
    all_goals first | with_reducible rfl | (rw [if_neg (by omega)]; done) | (rw [if_pos (by omega)]; done) | (rw [if_neg (by omega)]; with_reducible rfl) | (rw [if_pos (by omega)]; with_reducible rfl)
  try simp only [List.getElem_toArray, List.getElem_cons_zero, List.getElem_cons_succ, Act.put, List.setIfInBounds_toArray, List.set_cons_zero, List.set_cons_succ]
  refine wpAnyH_take (i := 7) (v := ?_) rfl (by kernel_rfl) (by kernel_rfl) (by kernel_rfl) (fun _ _ _ h => h) (Or.inl ⟨by rfl, ?_⟩) (by assumption) ?_
  rotate_left 1
  · intro w' hSw
    go_simp
    all_goals first | with_reducible rfl | (rw [if_neg (by omega)]; done) | (rw [if_pos (by omega)]; done) | (rw [if_neg (by omega)]; with_reducible rfl) | (rw [if_pos (by omega)]; with_reducible rfl)
  try simp only [List.getElem_toArray, List.getElem_cons_zero, List.getElem_cons_succ, Act.put, List.setIfInBounds_toArray, List.set_cons_zero, List.set_cons_succ]
  refine wpAnyH_take (i := 8) (v := ?_) rfl (by kernel_rfl) (by kernel_rfl) (by kernel_rfl) (fun _ _ _ h => h) (Or.inl ⟨by rfl, ?_⟩) (by assumption) ?_
  rotate_left 1
  · intro w' hSw
    go_simp
    all_goals first | with_reducible rfl | (rw [if_neg (by omega)]; done) | (rw [if_pos (by omega)]; done) | (rw [if_neg (by omega)]; with_reducible rfl) | (rw [if_pos (by omega)]; with_reducible rfl)
  try simp only [List.getElem_toArray, List.getElem_cons_zero, List.getElem_cons_succ, Act.put, List.setIfInBounds_toArray, List.set_cons_zero, List.set_cons_succ]
  refine wpAnyH_ready (rs := [4]) (by kernel_rfl) (by simp) ?_
  refine AllReadyH.cons rfl (fun K hK => ?_) AllReadyH.nil
  refine step_call rfl 40 Try.f40 _ _ rfl Try.func40 (by kernel_rfl) (by kernel_rfl) _ _ (HWK5.out _ T0.out) (by go_simp) ?_
  rintro v1 X1 ⟨g_1, c_1, rfl, hr, hg, hc, ht⟩
  have T1 := Lib.hid (T0.out.trans ht)
  have hH1 := T1.out.mono (T := (fun k => k = w.heap.size + 1)) (fun _ _ h => h.elim)
  have hz1 := ht.size
  have hy1 := T0.out.size
  have B1_6 := Lib.hid (B0_6.out.turn ht (fun h => h))
  have hm1_6 := B0_6.out.lt
  have R1_49 := Lib.hid hr
  have P1_49 := Lib.hid hc
  clear T0 hH0 B0_6 hr hc ht
  refine hK.out _ _ hH1 (fun hHeld => ?_)
  clear hK K hHeld
  try simp only [List.getElem_toArray, List.getElem_cons_zero, List.getElem_cons_succ, Act.put, List.setIfInBounds_toArray, List.set_cons_zero, List.set_cons_succ]
  refine wpAnyH_ready (rs := [9]) (by kernel_rfl) (by simp) ?_
  refine AllReadyH.cons rfl (fun K hK => ?_) AllReadyH.nil
  refine step_call rfl 40 Try.f40 _ _ rfl Try.func40 (by kernel_rfl) (by kernel_rfl) _ _ (HWV5.out _ T1.out) (by go_simp) ?_
  rintro v2 X2 ⟨g_2, c_2, rfl, hr, hg, hc, ht⟩
  have T2 := Lib.hid (T1.out.trans ht)
  have hH2 := T2.out.mono (T := (fun k => k = w.heap.size + 1)) (fun _ _ h => h.elim)
  have hz2 := ht.size
  have hy2 := T1.out.size
  have R2_49 := Lib.hid (R1_49.out.turn ht (fun h => h))
  have B2_6 := Lib.hid (B1_6.out.turn ht (fun h => h))
  have hl2_49 := R1_49.out.lt
  have hm2_6 := B1_6.out.lt
  have R2_54 := Lib.hid hr
  have P2_54 := Lib.hid hc
  clear T1 hH1 R1_49 B1_6 hr hc ht
  refine hK.out _ _ hH2 (fun hHeld => ?_)
  clear hK K hHeld
  try simp only [List.getElem_toArray, List.getElem_cons_zero, List.getElem_cons_succ, Act.put, List.setIfInBounds_toArray, List.set_cons_zero, List.set_cons_succ]
  refine wpAnyH_take (i := 10) (v := ?_) rfl (by kernel_rfl) (by kernel_rfl) (by kernel_rfl) (fun _ _ _ h => h) (Or.inl ⟨by rfl, ?_⟩) (by assumption) ?_
  rotate_left 1
  · intro w' hSw
    go_simp
    all_goals first | with_reducible rfl | (rw [if_neg (by omega)]; done) | (rw [if_pos (by omega)]; done) | (rw [if_neg (by omega)]; with_reducible rfl) | (rw [if_pos (by omega)]; with_reducible rfl)
  try simp only [List.getElem_toArray, List.getElem_cons_zero, List.getElem_cons_succ, Act.put, List.setIfInBounds_toArray, List.set_cons_zero, List.set_cons_succ]
  refine wpAnyH_ready (rs := [11]) (by kernel_rfl) (by simp) ?_
  refine AllReadyH.cons rfl (fun K hK => ?_) AllReadyH.nil
  have r0 := B2_6.out.cell 0
  have f0 := B2_6.out.free 0
  have r1 := B2_6.out.cell 1
  have f1 := B2_6.out.free 1
  have r2 := B2_6.out.cell 2
  have f2 := B2_6.out.free 2
  have r3 := B2_6.out.cell 3
  have f3 := B2_6.out.free 3
  simp only [List.getElem?_cons_zero, List.getElem?_cons_succ] at r0 r1 r2 r3
  obtain ⟨hb, hs⟩ := put4 B2_6.out (.bool true) (.slice (some ⟨g_1, 0, none⟩) (mk + 1) c_1) (.slice (some ⟨g_2, 0, none⟩) (mv + 1) c_2) (.slice none 0 0)
  have hx := T2.out.size
  have hS := (T2.out.mono (T := (fun k => k = w.heap.size + 1)) (fun _ _ h => h.elim)).trans_new (S := (fun k => k = w.heap.size + 1)) hs (fun k hk e => by omega)
  go_simp
  refine hK.out _ _ hS (fun hHeld => ?_)
  clear hK K
  try simp only [List.getElem_toArray, List.getElem_cons_zero, List.getElem_cons_succ, Act.put, List.setIfInBounds_toArray, List.set_cons_zero, List.set_cons_succ]
  refine wpAnyH_named (fun X3 e => ?_)
  clear hHeld
  have T3 := Lib.hid (e ▸ hS)
  have hH3 := T3.out
  have B3_6 := Lib.hid (e ▸ hb)
  rw [← e] at hs
  have R3_49 := Lib.hid (R2_49.out.turn hs (by omega))
  have R3_54 := Lib.hid (R2_54.out.turn hs (by omega))
  clear T2 hH2 R2_49 R2_54 B2_6 r0 f0 r1 f1 r2 f2 r3 f3 hS hb hs e
  refine wpAnyH_take (i := 12) (v := ?_) rfl (by kernel_rfl) (by kernel_rfl) (by kernel_rfl) (fun _ _ _ h => h) (Or.inl ⟨by rfl, ?_⟩) (by assumption) ?_
  rotate_left 1
  · intro w' hSw
    go_simp
    all_goals first | with_reducible rfl | (rw [if_neg (by omega)]; done) | (rw [if_pos (by omega)]; done) | (rw [if_neg (by omega)]; with_reducible rfl) | (rw [if_pos (by omega)]; with_reducible rfl)
  try simp only [List.getElem_toArray, List.getElem_cons_zero, List.getElem_cons_succ, Act.put, List.setIfInBounds_toArray, List.set_cons_zero, List.set_cons_succ]
  refine wpAnyH_done (by kernel_rfl) ?_ _
  refine NoPanic.normal ?_
  go_wp2_with fail
  have e0 := B3_6.out.cell 0
  have e1 := B3_6.out.cell 1
  have e2 := B3_6.out.cell 2
  have e3 := B3_6.out.cell 3
  simp only [List.getElem?_cons_zero, List.getElem?_cons_succ] at e0 e1 e2 e3
  have hsr1 := R3_49.out.sr
  have hsr2 := R3_54.out.sr
  have htt := T5.out.trans_new T3.out (fun k hk e => by omega)
  exact bodyPost_ret (v := .tuple #[.agg #[.bool true, (.slice (some ⟨g_1, 0, none⟩) (mk + 1) c_1), (.slice (some ⟨g_2, 0, none⟩) (mv + 1) c_2), .slice none 0 0], .int .i64 0]) (by simp [results, Try.results17, go_sem, e0, e1, e2, e3]) rfl ⟨_, rfl, ⟨some ⟨g_1, 0, none⟩, c_1, some ⟨g_2, 0, none⟩, c_2, none, 0, by rw [HD.out]; simp only [nv8]; rw [HLK.out, HLV.out]; rfl, by rw [HD.out]; exact ⟨hsr1, hsr2, nr_nil _ _⟩, by rw [HD.out]; show Cp _ KS.length _ ∧ Cp _ VS.length _ ∧ Cp none 0 0; rw [HLK.out, HLV.out]; exact ⟨P1_49.out, P2_54.out, ⟨Nat.le_refl _, by unfold maxLen; decide, fun _ => rfl⟩⟩⟩, htt⟩
end Go.Proofs.Ytpnnbfojdccfhaa
