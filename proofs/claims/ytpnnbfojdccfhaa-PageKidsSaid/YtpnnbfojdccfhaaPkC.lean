/- The walk of ambrylaw08.PageKids: the node is made. -/
import Derived.Test.YtpnnbfojdccfhaaPkF
namespace Go.Proofs.Ytpnnbfojdccfhaa
open Go.RowKit
set_option linter.unusedVariables false
set_option linter.unusedSimpArgs false
set_option maxRecDepth 100000

open List renaming getElem_toArray → e1, getElem_cons_zero → e2, getElem_cons_succ → e3, setIfInBounds_toArray → e4, set_cons_zero → e5, set_cons_succ → e6
set_option maxHeartbeats 64000000 in
theorem pageKids_t (n : Nd) (key : ByteArray) (kid : Int) (w : World) (A1 : Option Addr) (c1 : Nat) (A2 : Option Addr) (c2 : Nat) (A3 : Option Addr) (c3 : Nat) (hfw : few8 n = true) (hlf : n.leaf = false) (hno : No w A1 c1 A2 c2 A3 c3 n) (hc1 : Cp A1 n.keys.length c1) (hc3 : Cp A3 n.kids.length c3) (hf : Few8 n) (hs : Stands8 n) (hc : check8 n = 0) (hk0 : 0 ≤ kid) (hk1k : kid < 16384) (hkz : key.size ≤ 128) :
    Calls Try.prog 8 #[nv8 A1 c1 A2 c2 A3 c3 n, .string key, .int .i64 kid] w fun e w' => e = .returned (.bool true) ∧ Below w.heap.size w w' := by
  have HFW := Lib.hid (fun W => few_any n A1 c1 A2 c2 A3 c3 W)
  rw [hfw] at HFW
  have HLV := Lib.hid (fun W => lives8 W)
  have T0 := Lib.hid ((Turn.refl (fun _ => False) w).alloc (.cells #[.bool n.leaf, .slice A1 n.keys.length c1, .slice A2 n.vals.length c2, .slice A3 n.kids.length c3] 26))
  have B0_n := Lib.hid (Blk.new w 26 [.bool n.leaf, .slice A1 n.keys.length c1, .slice A2 n.vals.length c2, .slice A3 n.kids.length c3])
  have HCK := Lib.hid (fun W (ht : Turn (fun _ => False) w W) => check_any n A1 c1 A2 c2 A3 c3 W (hno.turn ht) hf)
  rw [hc] at HCK
  have HF := Lib.hid (fun W (ht : Turn (fun _ => False) w W) => find_any n key A1 c1 A2 c2 A3 c3 W (hno.turn ht) hf)
  have hfk : (find8 n key).2 = false := by unfold find8 at8; split <;> simp [hlf]
  rw [hfk] at HF
  have hpos : (find8 n key).1 ≤ n.keys.length := by unfold find8; rw [st8_yes hs, if_pos rfl]; exact pos8_le _ _ _
  have hst := hs.2
  rw [hlf] at hst
  have hdl : n.kids.length = n.keys.length + 1 := hst.2.2
  have f1 := hf.nk
  have hk500 : n.keys.length ≤ 500 := by unfold few8 at hfw; simp at hfw; omega
  obtain ⟨i, hi⟩ : ∃ i, (find8 n key).1 = i := ⟨_, rfl⟩
  rw [hi] at HF hpos
  have HI := Lib.hid hi
  clear hi hfk hst
  obtain ⟨a3, rfl⟩ : ∃ a, A3 = some a := by obtain ⟨b, o, e, _⟩ := hno.kids (by omega); exact ⟨_, e⟩
  obtain ⟨q, hq⟩ : ∃ q, i + 1 = q := ⟨_, rfl⟩
  have hk1 := hno.keys.take i
  have hk2 := hno.keys.drop hc1.le i
  have hd1 := hno.kids.take q
  have hd2 := hno.kids.drop hc3.le q
  have pk1 := hc1.take (q := i) (by omega)
  have pk2 := hc1.drop (q := i) (by omega)
  have pd1 := hc3.take (q := q) (by omega)
  have pd2 := hc3.drop (q := q) (by omega)
  have l1 := hc1.le
  have l3 := hc3.le
  have m1 := hc1.cm
  have m3 := hc3.cm
  have HNIL := Lib.hid hc1.nil
  unfold maxLen at m1 m3
  obtain ⟨MK, hMK⟩ : ∃ m, mk8 n i key kid = m := ⟨_, rfl⟩
  have HMKK : Hid ([] ++ n.keys.take i ++ [key] ++ n.keys.drop i = MK.keys) := Lib.hid (by rw [← hMK, List.nil_append]; rfl)
  have HMKZ : Hid ([] ++ n.kids.take q ++ [kid] ++ n.kids.drop q = MK.kids) := Lib.hid (by rw [← hMK, List.nil_append, ← hq]; rfl)
  have HMK := Lib.hid hMK
  clear hMK
  have HM68 : Hid ((n.keys.take i).length = i) := Lib.hid (by simp; omega)
  have HM76 : Hid ((n.keys.drop i).length = n.keys.length - i) := Lib.hid (by simp)
  have HM83 : Hid ((n.kids.take q).length = q) := Lib.hid (by simp; omega)
  have HM92 : Hid ((n.kids.drop q).length = n.kids.length - q) := Lib.hid (by simp)
  obtain ⟨L69, hL69⟩ : ∃ L, [] ++ n.keys.take i = L := ⟨_, rfl⟩
  obtain ⟨L72, hL72⟩ : ∃ L, L69 ++ [key] = L := ⟨_, rfl⟩
  obtain ⟨L84, hL84⟩ : ∃ L, [] ++ n.kids.take q = L := ⟨_, rfl⟩
  obtain ⟨L87, hL87⟩ : ∃ L, L84 ++ [kid] = L := ⟨_, rfl⟩
  have hL77 : L72 ++ n.keys.drop i = MK.keys := by rw [← hL72, ← hL69]; exact HMKK.out
  have hL93 : L87 ++ n.kids.drop q = MK.kids := by rw [← hL87, ← hL84]; exact HMKZ.out
  have hn69 : L69.length = i := by rw [← hL69]; simp; omega
  have hn72 : L72.length = i + 1 := by rw [← hL72]; simp [hn69]
  have hn77 : MK.keys.length = n.keys.length + 1 := by rw [← hL77]; simp [hn72]; omega
  have hn84 : L84.length = q := by rw [← hL84]; simp; omega
  have hn87 : L87.length = q + 1 := by rw [← hL87]; simp [hn84]
  have hn93 : MK.kids.length = n.kids.length + 1 := by rw [← hL93]; simp [hn87]; omega
  have HE69 := Lib.hid hL69
  have HN69 := Lib.hid hn69
  have HG69 := Lib.hid (show L69.length ≤ 100000 by omega)
  have HE72 := Lib.hid hL72
  have HN72 := Lib.hid hn72
  have HG72 := Lib.hid (show L72.length ≤ 100000 by omega)
  have HE77 := Lib.hid hL77
  have HN77 := Lib.hid hn77
  have HG77 := Lib.hid (show MK.keys.length ≤ 100000 by omega)
  have HE84 := Lib.hid hL84
  have HN84 := Lib.hid hn84
  have HG84 := Lib.hid (show L84.length ≤ 100000 by omega)
  have HE87 := Lib.hid hL87
  have HN87 := Lib.hid hn87
  have HG87 := Lib.hid (show L87.length ≤ 100000 by omega)
  have HE93 := Lib.hid hL93
  have HN93 := Lib.hid hn93
  have HG93 := Lib.hid (show MK.kids.length ≤ 100000 by omega)
  clear hL69 hL72 hL77 hL84 hL87 hL93 hn69 hn72 hn77 hn84 hn87 hn93
  have HFEW := Lib.hid hf
  have HSZ : Hid (size8 n ≤ 1024) := Lib.hid (by
    unfold check8 at hc
    rw [st8_yes hs, if_pos rfl] at hc
    by_cases h : size8 n ≤ 1024
    · exact h
    · rw [if_neg h] at hc; cases hc)
  have HHN := Lib.hid hno
  have HSS := Lib.hid hs
  simp only [nv8] at *
  rw [hlf] at HFW T0 B0_n HCK HF ⊢
  generalize hnk : n.keys.length = nk at *
  generalize n.vals.length = nv at *
  generalize hnd : n.kids.length = nd at *
  have g1 : decide (kid < 0) = false := decide_eq_false (by omega)
  have g2 : decide ((16384 : Int) ≤ kid) = false := decide_eq_false (by omega)
  have g3 : ¬ (128 : Int) < (key.size : Int) := by omega
  have z1 : (0 : Int) ≤ (i : Int) := by omega
  have z2 : (i : Int) ≤ (nk : Int) := by omega
  have z3 : (nk : Int) ≤ (c1 : Int) := by omega
  have z3b : (i : Int) ≤ (c1 : Int) := by omega
  have z3c : (q : Int) ≤ (c3 : Int) := by omega
  have z4 : (i : Int) + 1 = (q : Int) := by omega
  have z5 : (q : Int) ≤ (nd : Int) := by omega
  have z6 : (nd : Int) ≤ (c3 : Int) := by omega
  have z7 := wrap_of (q : Int) (by omega) (by omega)
  have z8 : ¬ (nk : Int) < (i : Int) := by omega
  have z9 : ¬ (nd : Int) ≤ (i : Int) := by omega
  have HDL := Lib.hid hdl
  have HQ := Lib.hid hq
  have HNK := Lib.hid hnk
  have HND := Lib.hid hnd
  clear hno hf hc hdl hq hs hnk hnd
  go_enter Try.func8, Try.ntmps8
  go_wp2_with fail
  refine (HFW.out _).mono ?_
  rintro e w1 ⟨rfl, ht⟩
  have T1 := Lib.hid (T0.out.trans ht)
  have B1_n := Lib.hid (B0_n.out.turn ht (fun h => h))
  clear ht  T0 B0_n 
  have yn0 : (w1).cell? ⟨w.heap.size, 0, none⟩ = some (.bool false) := B1_n.out.cell 0
  have yn1 : (w1).cell? ⟨w.heap.size, 1, none⟩ = some (.slice A1 nk c1) := B1_n.out.cell 1
  have yn2 : (w1).cell? ⟨w.heap.size, 2, none⟩ = some (.slice A2 nv c2) := B1_n.out.cell 2
  have yn3 : (w1).cell? ⟨w.heap.size, 3, none⟩ = some (.slice (some a3) nd c3) := B1_n.out.cell 3
  go_wp2_with fail
  refine (HCK.out _ T1.out).mono ?_
  rintro e w2 ⟨rfl, ht⟩
  have T2 := Lib.hid (T1.out.trans ht)
  have B2_n := Lib.hid (B1_n.out.turn ht (fun h => h))
  clear ht  T1 B1_n yn0 yn1 yn2 yn3 
  have yn0 : (w2).cell? ⟨w.heap.size, 0, none⟩ = some (.bool false) := B2_n.out.cell 0
  have yn1 : (w2).cell? ⟨w.heap.size, 1, none⟩ = some (.slice A1 nk c1) := B2_n.out.cell 1
  have yn2 : (w2).cell? ⟨w.heap.size, 2, none⟩ = some (.slice A2 nv c2) := B2_n.out.cell 2
  have yn3 : (w2).cell? ⟨w.heap.size, 3, none⟩ = some (.slice (some a3) nd c3) := B2_n.out.cell 3
  go_wp2_with fail
  refine (HF.out _ T2.out).mono ?_
  rintro e w3 ⟨rfl, ht⟩
  have T3 := Lib.hid (T2.out.trans ht)
  have B3_n := Lib.hid (B2_n.out.turn ht (fun h => h))
  clear ht  T2 B2_n yn0 yn1 yn2 yn3 
  have yn0 : (w3).cell? ⟨w.heap.size, 0, none⟩ = some (.bool false) := B3_n.out.cell 0
  have yn1 : (w3).cell? ⟨w.heap.size, 1, none⟩ = some (.slice A1 nk c1) := B3_n.out.cell 1
  have yn2 : (w3).cell? ⟨w.heap.size, 2, none⟩ = some (.slice A2 nv c2) := B3_n.out.cell 2
  have yn3 : (w3).cell? ⟨w.heap.size, 3, none⟩ = some (.slice (some a3) nd c3) := B3_n.out.cell 3
  have HK1 := Lib.hid (hk1.turn T3.out)
  have HK2 := Lib.hid (hk2.turn T3.out)
  have HD1 := Lib.hid (hd1.turn T3.out)
  have HD2 := Lib.hid (hd2.turn T3.out)
  have PK1 := Lib.hid pk1
  have PK2 := Lib.hid pk2
  have PD1 := Lib.hid pd1
  have PD2 := Lib.hid pd2
  clear hk1 hk2 hd1 hd2 pk1 pk2 pd1 pd2
  go_wp2_with fail
  go_cut [9] (fun a9 wx => ∃ (Y gA gB cA cB : Nat), a9 = .pointer (some ⟨Y, 0, none⟩) ∧ Blk wx Y 26 [.bool false, .slice (some ⟨gA, 0, none⟩) (nk + 1) cA, .slice none 0 0, .slice (some ⟨gB, 0, none⟩) (nd + 1) cB] ∧ Ro wx 9 (.slice (some ⟨gA, 0, none⟩) (nk + 1) cA) (MK.keys.map Value.string) gA ∧ Ro wx 3 (.slice (some ⟨gB, 0, none⟩) (nd + 1) cB) (MK.kids.map (Value.int .i64)) gB ∧ Cp (some ⟨gA, 0, none⟩) (nk + 1) cA ∧ Cp (some ⟨gB, 0, none⟩) (nd + 1) cB ∧ Turn (fun _ => False) w3 wx)
  case first =>
    refine wp_region_noPanic ?_
    refine wp_region_held_drew (S := fun X => Turn (fun _ => False) w3 X) (by kernel_rfl) ((Turn.refl (fun _ => False) w3).drew) (fun hHeld => ?_)
    refine wpAnyH_named (fun X0 hX0 => ?_)
    clear hHeld
    have T0 : HT w3 X0 := ⟨by rw [hX0]; exact (Turn.refl (fun _ => False) w3).drew⟩
    have hH0 : Turn (fun _ => False) w3 X0 := T0.out
    clear hX0
    refine wpAnyH_take (i := 1) (v := ?_) rfl (by kernel_rfl) (by kernel_rfl) (by kernel_rfl) (fun _ _ _ h => h) (Or.inl ⟨by rfl, ?_⟩) (by assumption) ?_
    rotate_left 1
    · intro w' hSw
      go_simp
      all_goals first | with_reducible rfl | (rw [if_neg (by omega)]; done) | (rw [if_pos (by omega)]; done) | (rw [if_neg (by omega)]; with_reducible rfl) | (rw [if_pos (by omega)]; with_reducible rfl)
    try simp only [e1, e2, e3, Act.put, e4, e5, e6]
    refine wpAnyH_take (i := 2) (v := ?_) rfl (by kernel_rfl) (by kernel_rfl) (by kernel_rfl) (fun _ _ _ h => h) (Or.inl ⟨by rfl, ?_⟩) (by assumption) ?_
    rotate_left 1
    · intro w' hSw
      have x1 : w'.cell? ⟨w.heap.size, 1, none⟩ = some (.slice A1 nk c1) := (B3_n.out.turn hSw (fun h => h)).cell 1
      go_simp
      all_goals first | with_reducible rfl | (rw [if_neg (by omega)]; done) | (rw [if_pos (by omega)]; done) | (rw [if_neg (by omega)]; with_reducible rfl) | (rw [if_pos (by omega)]; with_reducible rfl)
    try simp only [e1, e2, e3, Act.put, e4, e5, e6]
    refine wpAnyH_take (i := 3) (v := ?_) rfl (by kernel_rfl) (by kernel_rfl) (by kernel_rfl) (fun _ _ _ h => h) (Or.inl ⟨by rfl, ?_⟩) (by assumption) ?_
    rotate_left 1
    · intro w' hSw
      go_simp
      all_goals first | with_reducible rfl | (rw [if_neg (by omega)]; done) | (rw [if_pos (by omega)]; done) | (rw [if_neg (by omega)]; with_reducible rfl) | (rw [if_pos (by omega)]; with_reducible rfl)
    try simp only [e1, e2, e3, Act.put, e4, e5, e6]
    refine wpAnyH_take (i := 4) (v := (.slice A1 i c1)) rfl (by kernel_rfl) (by kernel_rfl) (by kernel_rfl) (fun _ _ _ h => h) (Or.inl ⟨by rfl, ?_⟩) (by assumption) ?_
    · intro w' hSw
      cases A1 with
      | none =>
        obtain rfl : c1 = 0 := HNIL.out rfl
        obtain rfl : nk = 0 := by omega
        obtain rfl : i = 0 := by omega
        go_simp
        all_goals first | with_reducible rfl | rfl | (rw [if_neg (by omega)]; done) | (rw [if_pos (by omega)]; done) | (rw [if_neg (by omega)]; rfl) | (rw [if_pos (by omega)]; rfl)
      | some ad =>
        go_simp
        all_goals first | with_reducible rfl | rfl | (rw [if_neg (by omega)]; done) | (rw [if_pos (by omega)]; done) | (rw [if_neg (by omega)]; rfl) | (rw [if_pos (by omega)]; rfl)
    try simp only [e1, e2, e3, Act.put, e4, e5, e6]
    refine wpAnyH_take (i := 6) (v := ?_) rfl (by kernel_rfl) (by kernel_rfl) (by kernel_rfl) (fun _ _ _ h => h) (Or.inl ⟨by rfl, ?_⟩) (by assumption) ?_
    rotate_left 1
    · intro w' hSw
      go_simp
      all_goals first | with_reducible rfl | (rw [if_neg (by omega)]; done) | (rw [if_pos (by omega)]; done) | (rw [if_neg (by omega)]; with_reducible rfl) | (rw [if_pos (by omega)]; with_reducible rfl)
    try simp only [e1, e2, e3, Act.put, e4, e5, e6]
    refine wpAnyH_take (i := 9) (v := ?_) rfl (by kernel_rfl) (by kernel_rfl) (by kernel_rfl) (fun _ _ _ h => h) (Or.inl ⟨by rfl, ?_⟩) (by assumption) ?_
    rotate_left 1
    · intro w' hSw
      go_simp
      all_goals first | with_reducible rfl | (rw [if_neg (by omega)]; done) | (rw [if_pos (by omega)]; done) | (rw [if_neg (by omega)]; with_reducible rfl) | (rw [if_pos (by omega)]; with_reducible rfl)
    try simp only [e1, e2, e3, Act.put, e4, e5, e6]
    refine wpAnyH_take (i := 10) (v := ?_) rfl (by kernel_rfl) (by kernel_rfl) (by kernel_rfl) (fun _ _ _ h => h) (Or.inl ⟨by rfl, ?_⟩) (by assumption) ?_
    rotate_left 1
    · intro w' hSw
      have x1 : w'.cell? ⟨w.heap.size, 1, none⟩ = some (.slice A1 nk c1) := (B3_n.out.turn hSw (fun h => h)).cell 1
      go_simp
      all_goals first | with_reducible rfl | (rw [if_neg (by omega)]; done) | (rw [if_pos (by omega)]; done) | (rw [if_neg (by omega)]; with_reducible rfl) | (rw [if_pos (by omega)]; with_reducible rfl)
    try simp only [e1, e2, e3, Act.put, e4, e5, e6]
    refine wpAnyH_take (i := 11) (v := ?_) rfl (by kernel_rfl) (by kernel_rfl) (by kernel_rfl) (fun _ _ _ h => h) (Or.inl ⟨by rfl, ?_⟩) (by assumption) ?_
    rotate_left 1
    · intro w' hSw
      go_simp
      all_goals first | with_reducible rfl | (rw [if_neg (by omega)]; done) | (rw [if_pos (by omega)]; done) | (rw [if_neg (by omega)]; with_reducible rfl) | (rw [if_pos (by omega)]; with_reducible rfl)
    try simp only [e1, e2, e3, Act.put, e4, e5, e6]
    refine wpAnyH_take (i := 12) (v := (.slice (off8 A1 c1 i) (nk - i) (c1 - i))) rfl (by kernel_rfl) (by kernel_rfl) (by kernel_rfl) (fun _ _ _ h => h) (Or.inl ⟨by rfl, ?_⟩) (by assumption) ?_
    · intro w' hSw
      cases A1 with
      | none =>
        obtain rfl : c1 = 0 := HNIL.out rfl
        obtain rfl : nk = 0 := by omega
        obtain rfl : i = 0 := by omega
        go_simp
        all_goals first | with_reducible rfl | rfl | (rw [if_neg (by omega)]; done) | (rw [if_pos (by omega)]; done) | (rw [if_neg (by omega)]; rfl) | (rw [if_pos (by omega)]; rfl)
      | some ad =>
        unfold off8
        simp only
        go_simp
        all_goals first | with_reducible rfl | rfl | (rw [if_neg (by omega)]; done) | (rw [if_pos (by omega)]; done) | (rw [if_neg (by omega)]; rfl) | (rw [if_pos (by omega)]; rfl)
    try simp only [e1, e2, e3, Act.put, e4, e5, e6]
    refine wpAnyH_take (i := 15) (v := ?_) rfl (by kernel_rfl) (by kernel_rfl) (by kernel_rfl) (fun _ _ _ h => h) (Or.inl ⟨by rfl, ?_⟩) (by assumption) ?_
    rotate_left 1
    · intro w' hSw
      go_simp
      all_goals first | with_reducible rfl | (rw [if_neg (by omega)]; done) | (rw [if_pos (by omega)]; done) | (rw [if_neg (by omega)]; with_reducible rfl) | (rw [if_pos (by omega)]; with_reducible rfl)
    try simp only [e1, e2, e3, Act.put, e4, e5, e6]
    refine wpAnyH_take (i := 16) (v := ?_) rfl (by kernel_rfl) (by kernel_rfl) (by kernel_rfl) (fun _ _ _ h => h) (Or.inl ⟨by rfl, ?_⟩) (by assumption) ?_
    rotate_left 1
    · intro w' hSw
      have x3 : w'.cell? ⟨w.heap.size, 3, none⟩ = some (.slice (some a3) nd c3) := (B3_n.out.turn hSw (fun h => h)).cell 3
      go_simp
      all_goals first | with_reducible rfl | (rw [if_neg (by omega)]; done) | (rw [if_pos (by omega)]; done) | (rw [if_neg (by omega)]; with_reducible rfl) | (rw [if_pos (by omega)]; with_reducible rfl)
    try simp only [e1, e2, e3, Act.put, e4, e5, e6]
    refine wpAnyH_take (i := 17) (v := ?_) rfl (by kernel_rfl) (by kernel_rfl) (by kernel_rfl) (fun _ _ _ h => h) (Or.inl ⟨by rfl, ?_⟩) (by assumption) ?_
    rotate_left 1
    · intro w' hSw
      go_simp
      all_goals first | with_reducible rfl | (rw [if_neg (by omega)]; done) | (rw [if_pos (by omega)]; done) | (rw [if_neg (by omega)]; with_reducible rfl) | (rw [if_pos (by omega)]; with_reducible rfl)
    try simp only [e1, e2, e3, Act.put, e4, e5, e6]
    refine wpAnyH_take (i := 18) (v := ?_) rfl (by kernel_rfl) (by kernel_rfl) (by kernel_rfl) (fun _ _ _ h => h) (Or.inl ⟨by rfl, ?_⟩) (by assumption) ?_
    rotate_left 1
    · intro w' hSw
      go_simp
      all_goals first | with_reducible rfl | (rw [if_neg (by omega)]; done) | (rw [if_pos (by omega)]; done) | (rw [if_neg (by omega)]; with_reducible rfl) | (rw [if_pos (by omega)]; with_reducible rfl)
    try simp only [e1, e2, e3, Act.put, e4, e5, e6]
    refine wpAnyH_take (i := 19) (v := ?_) rfl (by kernel_rfl) (by kernel_rfl) (by kernel_rfl) (fun _ _ _ h => h) (Or.inl ⟨by rfl, ?_⟩) (by assumption) ?_
    rotate_left 1
    · intro w' hSw
      go_simp
      all_goals first | with_reducible rfl | (rw [if_neg (by omega)]; done) | (rw [if_pos (by omega)]; done) | (rw [if_neg (by omega)]; with_reducible rfl) | (rw [if_pos (by omega)]; with_reducible rfl)
    try simp only [e1, e2, e3, Act.put, e4, e5, e6]
    refine wpAnyH_take (i := 21) (v := ?_) rfl (by kernel_rfl) (by kernel_rfl) (by kernel_rfl) (fun _ _ _ h => h) (Or.inl ⟨by rfl, ?_⟩) (by assumption) ?_
    rotate_left 1
    · intro w' hSw
      go_simp
      all_goals first | with_reducible rfl | (rw [if_neg (by omega)]; done) | (rw [if_pos (by omega)]; done) | (rw [if_neg (by omega)]; with_reducible rfl) | (rw [if_pos (by omega)]; with_reducible rfl)
    try simp only [e1, e2, e3, Act.put, e4, e5, e6]
    refine wpAnyH_take (i := 24) (v := ?_) rfl (by kernel_rfl) (by kernel_rfl) (by kernel_rfl) (fun _ _ _ h => h) (Or.inl ⟨by rfl, ?_⟩) (by assumption) ?_
    rotate_left 1
    · intro w' hSw
      go_simp
      all_goals first | with_reducible rfl | (rw [if_neg (by omega)]; done) | (rw [if_pos (by omega)]; done) | (rw [if_neg (by omega)]; with_reducible rfl) | (rw [if_pos (by omega)]; with_reducible rfl)
    try simp only [e1, e2, e3, Act.put, e4, e5, e6]
    refine wpAnyH_take (i := 25) (v := ?_) rfl (by kernel_rfl) (by kernel_rfl) (by kernel_rfl) (fun _ _ _ h => h) (Or.inl ⟨by rfl, ?_⟩) (by assumption) ?_
    rotate_left 1
    · intro w' hSw
      have x3 : w'.cell? ⟨w.heap.size, 3, none⟩ = some (.slice (some a3) nd c3) := (B3_n.out.turn hSw (fun h => h)).cell 3
      go_simp
      all_goals first | with_reducible rfl | (rw [if_neg (by omega)]; done) | (rw [if_pos (by omega)]; done) | (rw [if_neg (by omega)]; with_reducible rfl) | (rw [if_pos (by omega)]; with_reducible rfl)
    try simp only [e1, e2, e3, Act.put, e4, e5, e6]
    refine wpAnyH_take (i := 26) (v := ?_) rfl (by kernel_rfl) (by kernel_rfl) (by kernel_rfl) (fun _ _ _ h => h) (Or.inl ⟨by rfl, ?_⟩) (by assumption) ?_
    rotate_left 1
    · intro w' hSw
      go_simp
      all_goals first | with_reducible rfl | (rw [if_neg (by omega)]; done) | (rw [if_pos (by omega)]; done) | (rw [if_neg (by omega)]; with_reducible rfl) | (rw [if_pos (by omega)]; with_reducible rfl)
    try simp only [e1, e2, e3, Act.put, e4, e5, e6]
    refine wpAnyH_take (i := 27) (v := ?_) rfl (by kernel_rfl) (by kernel_rfl) (by kernel_rfl) (fun _ _ _ h => h) (Or.inl ⟨by rfl, ?_⟩) (by assumption) ?_
    rotate_left 1
    · intro w' hSw
      go_simp
      all_goals first | with_reducible rfl | (rw [if_neg (by omega)]; done) | (rw [if_pos (by omega)]; done) | (rw [if_neg (by omega)]; with_reducible rfl) | (rw [if_pos (by omega)]; with_reducible rfl)
    try simp only [e1, e2, e3, Act.put, e4, e5, e6]
    refine wpAnyH_take (i := 28) (v := (.slice (off8 (some a3) c3 q) (nd - q) (c3 - q))) rfl (by kernel_rfl) (by kernel_rfl) (by kernel_rfl) (fun _ _ _ h => h) (Or.inl ⟨by rfl, ?_⟩) (by assumption) ?_
    · intro w' hSw
      unfold off8
      simp only
      go_simp
      all_goals first | with_reducible rfl | rfl | (rw [if_neg (by omega)]; done) | (rw [if_pos (by omega)]; done) | (rw [if_neg (by omega)]; rfl) | (rw [if_pos (by omega)]; rfl)
    try simp only [e1, e2, e3, Act.put, e4, e5, e6]
    refine wpAnyH_open (fun ST A0 hST0 hA0 => ?_)
    have hST := Lib.hid hST0
    clear hST0
    have st_2047 : ∀ (X : World) (u64 : Value) (u69 : Value) (u71 : Value) (u72 : Value) (u78 : Value) (u84 : Value) (u86 : Value) (u87 : Value) (g77 : Nat) (c77 : Nat) (g93 : Nat) (c93 : Nat) (g9 : Nat) (T : HT w3 X) (R77 : HS w3 X MK.keys (nk + 1) g77 c77) (R93 : HJ w3 X MK.kids (nd + 1) g93 c93) (B9 : HB w3 X 26 g9 nil4) (d77_93 : ¬ g77 = g93) (d77_9 : ¬ g77 = g9) (d93_9 : ¬ g93 = g9), ST 1 #[true, true, true, true, true, true, true, true, true, true, true, true, true, true, true, true, true, true, true, true, true, true, true, true, true, true, true, true, true, true, true, true, false] ((((((((((((A0.put (some 64) u64).put (some 69) u69).put (some 71) u71).put (some 72) u72).put (some 77) (.slice (some ⟨g77, 0, none⟩) (nk + 1) c77)).put (some 78) u78).put (some 84) u84).put (some 86) u86).put (some 87) u87).put (some 93) (.slice (some ⟨g93, 0, none⟩) (nd + 1) c93)).put (some 9) (.pointer (some ⟨g9, 0, none⟩))).put (some 94) (.agg #[.bool false, .slice (some ⟨g77, 0, none⟩) (nk + 1) c77, .slice none 0 0, .slice (some ⟨g93, 0, none⟩) (nd + 1) c93])) X := by
     intro X u64 u69 u71 u72 u78 u84 u86 u87 g77 c77 g93 c93 g9 T R77 R93 B9 d77_93 d77_9 d93_9
     have hH : Turn (fun _ => False) w3 X := T.out
     refine (hST.out _ _ _ _).2 ?_
     simp only [hA0, Act.put, e4, e5, e6]
     refine wpAnyH_ready (rs := [32]) (by kernel_rfl) (by simp) ?_
     refine AllReadyH.cons rfl (fun K hK => ?_) AllReadyH.nil
     have r0 := B9.out.1.cell 0
     have f0 := B9.out.1.free 0
     have r1 := B9.out.1.cell 1
     have f1 := B9.out.1.free 1
     have r2 := B9.out.1.cell 2
     have f2 := B9.out.1.free 2
     have r3 := B9.out.1.cell 3
     have f3 := B9.out.1.free 3
     simp only [nil4, List.getElem?_cons_zero, List.getElem?_cons_succ] at r0 r1 r2 r3
     obtain ⟨hb, hs⟩ := put4 B9.out.1 (.bool false) (.slice (some ⟨g77, 0, none⟩) (nk + 1) c77) (.slice none 0 0) (.slice (some ⟨g93, 0, none⟩) (nd + 1) c93)
     have hx := T.out.size
     have hlo := B9.out.2
     have hS : TF w3 _ := Turn.trans_new T.out hs (fun k hk e => by omega)
     go_simp
     refine hK.out _ _ hS (fun hHeld => ?_)
     clear hK K
     try simp only [e1, e2, e3, Act.put, e4, e5, e6]
     refine wpAnyH_named (fun X1 e => ?_)
     clear hHeld
     have T1 := Lib.hid (e ▸ hS)
     have hH1 := T1.out
     have B19 := Lib.hid (e ▸ hb)
     rw [← e] at hs
     have R177 := R77.tn hs d77_9
     have R193 := R93.tn hs d93_9
     clear r0 f0 r1 f1 r2 f2 r3 f3 hS hb hs e
     refine wpAnyH_done (by kernel_rfl) ?_ _
     refine NoPanic.normal ?_
     go_wp2_with fail
     go_meet
     exact ⟨g9, g77, g93, c77, c93, rfl, B19.out, R177.out.1, R193.out.1, R177.out.2.1, R193.out.2.1, T1.out⟩
    have st_1023 : ∀ (X : World) (u64 : Value) (u69 : Value) (u71 : Value) (u72 : Value) (u78 : Value) (u84 : Value) (u86 : Value) (u87 : Value) (g77 : Nat) (c77 : Nat) (g93 : Nat) (c93 : Nat) (T : HT w3 X) (R77 : HS w3 X MK.keys (nk + 1) g77 c77) (R93 : HJ w3 X MK.kids (nd + 1) g93 c93) (d77_93 : ¬ g77 = g93), ST 2 #[true, true, true, true, true, true, true, true, true, true, true, true, true, true, true, true, true, true, true, true, true, true, true, true, true, true, true, true, true, true, true, false, false] (((((((((((A0.put (some 64) u64).put (some 69) u69).put (some 71) u71).put (some 72) u72).put (some 77) (.slice (some ⟨g77, 0, none⟩) (nk + 1) c77)).put (some 78) u78).put (some 84) u84).put (some 86) u86).put (some 87) u87).put (some 93) (.slice (some ⟨g93, 0, none⟩) (nd + 1) c93)).put (some 94) (.agg #[.bool false, .slice (some ⟨g77, 0, none⟩) (nk + 1) c77, .slice none 0 0, .slice (some ⟨g93, 0, none⟩) (nd + 1) c93])) X := by
     intro X u64 u69 u71 u72 u78 u84 u86 u87 g77 c77 g93 c93 T R77 R93 d77_93
     have hH : Turn (fun _ => False) w3 X := T.out
     refine (hST.out _ _ _ _).2 ?_
     simp only [hA0, Act.put, e4, e5, e6]
     refine wpAnyH_ready (rs := [31]) (by kernel_rfl) (by simp) ?_
     refine AllReadyH.cons rfl (fun K hK => ?_) AllReadyH.nil
     refine oA rfl rfl ?_
     refine hK.out _ _ (T.out.alloc _) (fun _ => ?_)
     try simp only [e1, e2, e3, Act.put, e4, e5, e6]
     refine wpAnyH_named (fun X1 e => ?_)
     have T1 := T.al e
     have hN := st_2047 X1 u64 u69 u71 u72 u78 u84 u86 u87 g77 c77 g93 c93 X.heap.size T1 (R77.al e) (R93.al e) (T.nw nil4 e) d77_93 (aln R77.lt) (aln R93.lt)
     simp only [hA0, Act.put, e4, e5, e6] at hN
     exact (hST.out _ _ _ _).1 hN
    have st_1535 : ∀ (X : World) (u64 : Value) (u69 : Value) (u71 : Value) (u72 : Value) (u78 : Value) (u84 : Value) (u86 : Value) (g77 : Nat) (c77 : Nat) (g87 : Nat) (c87 : Nat) (g9 : Nat) (T : HT w3 X) (R77 : HS w3 X MK.keys (nk + 1) g77 c77) (R87 : HJ w3 X L87 (q + 1) g87 c87) (B9 : HB w3 X 26 g9 nil4) (d77_87 : ¬ g77 = g87) (d77_9 : ¬ g77 = g9) (d87_9 : ¬ g87 = g9), ST 3 #[true, true, true, true, true, true, true, true, true, true, true, true, true, true, true, true, true, true, true, true, true, true, true, true, true, true, true, true, true, false, false, true, false] ((((((((((A0.put (some 64) u64).put (some 69) u69).put (some 71) u71).put (some 72) u72).put (some 77) (.slice (some ⟨g77, 0, none⟩) (nk + 1) c77)).put (some 78) u78).put (some 84) u84).put (some 86) u86).put (some 87) (.slice (some ⟨g87, 0, none⟩) (q + 1) c87)).put (some 9) (.pointer (some ⟨g9, 0, none⟩))) X := by
     intro X u64 u69 u71 u72 u78 u84 u86 g77 c77 g87 c87 g9 T R77 R87 B9 d77_87 d77_9 d87_9
     have hH : Turn (fun _ => False) w3 X := T.out
     refine (hST.out _ _ _ _).2 ?_
     simp only [hA0, Act.put, e4, e5, e6]
     refine wpAnyH_ready (rs := [29]) (by kernel_rfl) (by simp) ?_
     refine AllReadyH.cons rfl (fun K hK => ?_) AllReadyH.nil
     refine sI rfl _ _ rfl L87 (n.kids.drop q) MK.kids g87 c87 (q + 1) (off8 (some a3) c3 q) (nd - q) (c3 - q) (nd + 1) HM92.out HE93.out HN93.out HG93.out rfl rfl T R87 (HD2.out.turn T.out) PD2.out ?_
     intro g93 c93 X1 r ht hg T1
     have hH1 := T1.out
     refine hK.out _ _ T1.out (fun _ => ?_)
     try simp only [e1, e2, e3, Act.put, e4, e5, e6]
     refine wpAnyH_take (i := 30) (v := ?_) rfl (by kernel_rfl) (by kernel_rfl) (by kernel_rfl) (fun _ _ _ h => h) (Or.inl ⟨by rfl, ?_⟩) (by assumption) ?_
     rotate_left 1
     · intro w' hSw
       go_simp
       all_goals first | with_reducible rfl | (rw [if_neg (by omega)]; done) | (rw [if_pos (by omega)]; done) | (rw [if_neg (by omega)]; with_reducible rfl) | (rw [if_pos (by omega)]; with_reducible rfl)
     try simp only [e1, e2, e3, Act.put, e4, e5, e6]
     have hN := st_2047 X1 u64 u69 u71 u72 u78 u84 u86 (.slice (some ⟨g87, 0, none⟩) (q + 1) c87) g77 c77 g93 c93 g9 T1 (R77.tn ht d77_87) r (B9.tn ht (nsy d87_9)) (nsy (apn hg (nsy d77_87) R77.lt)) d77_9 (apn hg d87_9 B9.lt)
     simp only [hA0, Act.put, e4, e5, e6] at hN
     exact (hST.out _ _ _ _).1 hN
    have st_511 : ∀ (X : World) (u64 : Value) (u69 : Value) (u71 : Value) (u72 : Value) (u78 : Value) (u84 : Value) (u86 : Value) (g77 : Nat) (c77 : Nat) (g87 : Nat) (c87 : Nat) (T : HT w3 X) (R77 : HS w3 X MK.keys (nk + 1) g77 c77) (R87 : HJ w3 X L87 (q + 1) g87 c87) (d77_87 : ¬ g77 = g87), ST 4 #[true, true, true, true, true, true, true, true, true, true, true, true, true, true, true, true, true, true, true, true, true, true, true, true, true, true, true, true, true, false, false, false, false] (((((((((A0.put (some 64) u64).put (some 69) u69).put (some 71) u71).put (some 72) u72).put (some 77) (.slice (some ⟨g77, 0, none⟩) (nk + 1) c77)).put (some 78) u78).put (some 84) u84).put (some 86) u86).put (some 87) (.slice (some ⟨g87, 0, none⟩) (q + 1) c87)) X := by
     intro X u64 u69 u71 u72 u78 u84 u86 g77 c77 g87 c87 T R77 R87 d77_87
     have hH : Turn (fun _ => False) w3 X := T.out
     refine (hST.out _ _ _ _).2 ?_
     simp only [hA0, Act.put, e4, e5, e6]
     refine wpAnyH_ready (rs := [29, 31]) (by kernel_rfl) (by simp) ?_
     refine AllReadyH.cons rfl (fun K hK => ?_) (AllReadyH.cons rfl (fun K hK => ?_) AllReadyH.nil)
     · refine sI rfl _ _ rfl L87 (n.kids.drop q) MK.kids g87 c87 (q + 1) (off8 (some a3) c3 q) (nd - q) (c3 - q) (nd + 1) HM92.out HE93.out HN93.out HG93.out rfl rfl T R87 (HD2.out.turn T.out) PD2.out ?_
       intro g93 c93 X1 r ht hg T1
       have hH1 := T1.out
       refine hK.out _ _ T1.out (fun _ => ?_)
       try simp only [e1, e2, e3, Act.put, e4, e5, e6]
       refine wpAnyH_take (i := 30) (v := ?_) rfl (by kernel_rfl) (by kernel_rfl) (by kernel_rfl) (fun _ _ _ h => h) (Or.inl ⟨by rfl, ?_⟩) (by assumption) ?_
       rotate_left 1
       · intro w' hSw
         go_simp
         all_goals first | with_reducible rfl | (rw [if_neg (by omega)]; done) | (rw [if_pos (by omega)]; done) | (rw [if_neg (by omega)]; with_reducible rfl) | (rw [if_pos (by omega)]; with_reducible rfl)
       try simp only [e1, e2, e3, Act.put, e4, e5, e6]
       have hN := st_1023 X1 u64 u69 u71 u72 u78 u84 u86 (.slice (some ⟨g87, 0, none⟩) (q + 1) c87) g77 c77 g93 c93 T1 (R77.tn ht d77_87) r (nsy (apn hg (nsy d77_87) R77.lt))
       simp only [hA0, Act.put, e4, e5, e6] at hN
       exact (hST.out _ _ _ _).1 hN
     · refine oA rfl rfl ?_
       refine hK.out _ _ (T.out.alloc _) (fun _ => ?_)
       try simp only [e1, e2, e3, Act.put, e4, e5, e6]
       refine wpAnyH_named (fun X1 e => ?_)
       have T1 := T.al e
       have hN := st_1535 X1 u64 u69 u71 u72 u78 u84 u86 g77 c77 g87 c87 X.heap.size T1 (R77.al e) (R87.al e) (T.nw nil4 e) d77_87 (aln R77.lt) (aln R87.lt)
       simp only [hA0, Act.put, e4, e5, e6] at hN
       exact (hST.out _ _ _ _).1 hN
    have st_1279 : ∀ (X : World) (u64 : Value) (u69 : Value) (u71 : Value) (u72 : Value) (u78 : Value) (g77 : Nat) (c77 : Nat) (g84 : Nat) (c84 : Nat) (g9 : Nat) (g86 : Nat) (T : HT w3 X) (R77 : HS w3 X MK.keys (nk + 1) g77 c77) (R84 : HJ w3 X L84 q g84 c84) (B9 : HB w3 X 26 g9 nil4) (B86 : HB w3 X 3 g86 [.int .i64 kid]) (d77_84 : ¬ g77 = g84) (d77_9 : ¬ g77 = g9) (d84_9 : ¬ g84 = g9) (d77_86 : ¬ g77 = g86) (d84_86 : ¬ g84 = g86) (d9_86 : ¬ g9 = g86), ST 4 #[true, true, true, true, true, true, true, true, true, true, true, true, true, true, true, true, true, true, true, true, true, true, true, false, true, true, true, true, true, false, false, true, false] (((((((((A0.put (some 64) u64).put (some 69) u69).put (some 71) u71).put (some 72) u72).put (some 77) (.slice (some ⟨g77, 0, none⟩) (nk + 1) c77)).put (some 78) u78).put (some 84) (.slice (some ⟨g84, 0, none⟩) q c84)).put (some 86) (.slice (some ⟨g86, 0, none⟩) 1 1)).put (some 9) (.pointer (some ⟨g9, 0, none⟩))) X := by
     intro X u64 u69 u71 u72 u78 g77 c77 g84 c84 g9 g86 T R77 R84 B9 B86 d77_84 d77_9 d84_9 d77_86 d84_86 d9_86
     have hH : Turn (fun _ => False) w3 X := T.out
     refine (hST.out _ _ _ _).2 ?_
     simp only [hA0, Act.put, e4, e5, e6]
     refine wpAnyH_ready (rs := [23]) (by kernel_rfl) (by simp) ?_
     refine AllReadyH.cons rfl (fun K hK => ?_) AllReadyH.nil
     refine sI rfl _ _ rfl L84 [kid] L87 g84 c84 q (some ⟨g86, 0, none⟩) 1 1 (q + 1) rfl HE87.out HN87.out HG87.out rfl rfl T R84 (nr_of_blk (L := [kid]) B86.out.1) (one_cp g86) ?_
     intro g87 c87 X1 r ht hg T1
     refine hK.out _ _ T1.out (fun _ => ?_)
     try simp only [e1, e2, e3, Act.put, e4, e5, e6]
     have hN := st_1535 X1 u64 u69 u71 u72 u78 (.slice (some ⟨g84, 0, none⟩) q c84) (.slice (some ⟨g86, 0, none⟩) 1 1) g77 c77 g87 c87 g9 T1 (R77.tn ht d77_84) r (B9.tn ht (nsy d84_9)) (nsy (apn hg (nsy d77_84) R77.lt)) d77_9 (apn hg d84_9 B9.lt)
     simp only [hA0, Act.put, e4, e5, e6] at hN
     exact (hST.out _ _ _ _).1 hN
    have st_255 : ∀ (X : World) (u64 : Value) (u69 : Value) (u71 : Value) (u72 : Value) (u78 : Value) (g77 : Nat) (c77 : Nat) (g84 : Nat) (c84 : Nat) (g86 : Nat) (T : HT w3 X) (R77 : HS w3 X MK.keys (nk + 1) g77 c77) (R84 : HJ w3 X L84 q g84 c84) (B86 : HB w3 X 3 g86 [.int .i64 kid]) (d77_84 : ¬ g77 = g84) (d77_86 : ¬ g77 = g86) (d84_86 : ¬ g84 = g86), ST 5 #[true, true, true, true, true, true, true, true, true, true, true, true, true, true, true, true, true, true, true, true, true, true, true, false, true, true, true, true, true, false, false, false, false] ((((((((A0.put (some 64) u64).put (some 69) u69).put (some 71) u71).put (some 72) u72).put (some 77) (.slice (some ⟨g77, 0, none⟩) (nk + 1) c77)).put (some 78) u78).put (some 84) (.slice (some ⟨g84, 0, none⟩) q c84)).put (some 86) (.slice (some ⟨g86, 0, none⟩) 1 1)) X := by
     intro X u64 u69 u71 u72 u78 g77 c77 g84 c84 g86 T R77 R84 B86 d77_84 d77_86 d84_86
     have hH : Turn (fun _ => False) w3 X := T.out
     refine (hST.out _ _ _ _).2 ?_
     simp only [hA0, Act.put, e4, e5, e6]
     refine wpAnyH_ready (rs := [23, 31]) (by kernel_rfl) (by simp) ?_
     refine AllReadyH.cons rfl (fun K hK => ?_) (AllReadyH.cons rfl (fun K hK => ?_) AllReadyH.nil)
     · refine sI rfl _ _ rfl L84 [kid] L87 g84 c84 q (some ⟨g86, 0, none⟩) 1 1 (q + 1) rfl HE87.out HN87.out HG87.out rfl rfl T R84 (nr_of_blk (L := [kid]) B86.out.1) (one_cp g86) ?_
       intro g87 c87 X1 r ht hg T1
       refine hK.out _ _ T1.out (fun _ => ?_)
       try simp only [e1, e2, e3, Act.put, e4, e5, e6]
       have hN := st_511 X1 u64 u69 u71 u72 u78 (.slice (some ⟨g84, 0, none⟩) q c84) (.slice (some ⟨g86, 0, none⟩) 1 1) g77 c77 g87 c87 T1 (R77.tn ht d77_84) r (nsy (apn hg (nsy d77_84) R77.lt))
       simp only [hA0, Act.put, e4, e5, e6] at hN
       exact (hST.out _ _ _ _).1 hN
     · refine oA rfl rfl ?_
       refine hK.out _ _ (T.out.alloc _) (fun _ => ?_)
       try simp only [e1, e2, e3, Act.put, e4, e5, e6]
       refine wpAnyH_named (fun X1 e => ?_)
       have T1 := T.al e
       have hN := st_1279 X1 u64 u69 u71 u72 u78 g77 c77 g84 c84 X.heap.size g86 T1 (R77.al e) (R84.al e) (T.nw nil4 e) (B86.al e) d77_84 (aln R77.lt) (aln R84.lt) d77_86 d84_86 (nsy (aln B86.lt))
       simp only [hA0, Act.put, e4, e5, e6] at hN
       exact (hST.out _ _ _ _).1 hN
    have st_1151 : ∀ (X : World) (u64 : Value) (u69 : Value) (u71 : Value) (u72 : Value) (u78 : Value) (g77 : Nat) (c77 : Nat) (g84 : Nat) (c84 : Nat) (g9 : Nat) (T : HT w3 X) (R77 : HS w3 X MK.keys (nk + 1) g77 c77) (R84 : HJ w3 X L84 q g84 c84) (B9 : HB w3 X 26 g9 nil4) (d77_84 : ¬ g77 = g84) (d77_9 : ¬ g77 = g9) (d84_9 : ¬ g84 = g9), ST 5 #[true, true, true, true, true, true, true, true, true, true, true, true, true, true, true, true, true, true, true, true, true, true, false, false, true, true, true, true, true, false, false, true, false] ((((((((A0.put (some 64) u64).put (some 69) u69).put (some 71) u71).put (some 72) u72).put (some 77) (.slice (some ⟨g77, 0, none⟩) (nk + 1) c77)).put (some 78) u78).put (some 84) (.slice (some ⟨g84, 0, none⟩) q c84)).put (some 9) (.pointer (some ⟨g9, 0, none⟩))) X := by
     intro X u64 u69 u71 u72 u78 g77 c77 g84 c84 g9 T R77 R84 B9 d77_84 d77_9 d84_9
     have hH : Turn (fun _ => False) w3 X := T.out
     refine (hST.out _ _ _ _).2 ?_
     simp only [hA0, Act.put, e4, e5, e6]
     refine wpAnyH_ready (rs := [22]) (by kernel_rfl) (by simp) ?_
     refine AllReadyH.cons rfl (fun K hK => ?_) AllReadyH.nil
     refine oI1 rfl 85 kid rfl rfl ?_
     refine hK.out _ _ (T.out.alloc _) (fun _ => ?_)
     try simp only [e1, e2, e3, Act.put, e4, e5, e6]
     refine wpAnyH_named (fun X1 e => ?_)
     have T1 := T.al e
     have hN := st_1279 X1 u64 u69 u71 u72 u78 g77 c77 g84 c84 g9 X.heap.size T1 (R77.al e) (R84.al e) (B9.al e) (T.nw [.int .i64 kid] e) d77_84 d77_9 d84_9 (aln R77.lt) (aln R84.lt) (aln B9.lt)
     simp only [hA0, Act.put, e4, e5, e6] at hN
     exact (hST.out _ _ _ _).1 hN
    have st_1215 : ∀ (X : World) (u64 : Value) (u69 : Value) (u71 : Value) (u72 : Value) (g77 : Nat) (c77 : Nat) (g78 : Nat) (c78 : Nat) (g9 : Nat) (g86 : Nat) (T : HT w3 X) (R77 : HS w3 X MK.keys (nk + 1) g77 c77) (R78 : HJ w3 X [] 0 g78 c78) (B9 : HB w3 X 26 g9 nil4) (B86 : HB w3 X 3 g86 [.int .i64 kid]) (d77_78 : ¬ g77 = g78) (d77_9 : ¬ g77 = g9) (d78_9 : ¬ g78 = g9) (d77_86 : ¬ g77 = g86) (d78_86 : ¬ g78 = g86) (d9_86 : ¬ g9 = g86), ST 5 #[true, true, true, true, true, true, true, true, true, true, true, true, true, true, true, true, true, true, true, true, false, true, true, false, true, true, true, true, true, false, false, true, false] ((((((((A0.put (some 64) u64).put (some 69) u69).put (some 71) u71).put (some 72) u72).put (some 77) (.slice (some ⟨g77, 0, none⟩) (nk + 1) c77)).put (some 78) (.slice (some ⟨g78, 0, none⟩) 0 c78)).put (some 86) (.slice (some ⟨g86, 0, none⟩) 1 1)).put (some 9) (.pointer (some ⟨g9, 0, none⟩))) X := by
     intro X u64 u69 u71 u72 g77 c77 g78 c78 g9 g86 T R77 R78 B9 B86 d77_78 d77_9 d78_9 d77_86 d78_86 d9_86
     have hH : Turn (fun _ => False) w3 X := T.out
     refine (hST.out _ _ _ _).2 ?_
     simp only [hA0, Act.put, e4, e5, e6]
     refine wpAnyH_ready (rs := [20]) (by kernel_rfl) (by simp) ?_
     refine AllReadyH.cons rfl (fun K hK => ?_) AllReadyH.nil
     refine sI rfl _ _ rfl [] (n.kids.take q) L84 g78 c78 0 (some a3) q c3 q HM83.out HE84.out HN84.out HG84.out rfl rfl T R78 (HD1.out.turn T.out) PD1.out ?_
     intro g84 c84 X1 r ht hg T1
     refine hK.out _ _ T1.out (fun _ => ?_)
     try simp only [e1, e2, e3, Act.put, e4, e5, e6]
     have hN := st_1279 X1 u64 u69 u71 u72 (.slice (some ⟨g78, 0, none⟩) 0 c78) g77 c77 g84 c84 g9 g86 T1 (R77.tn ht d77_78) r (B9.tn ht (nsy d78_9)) (B86.tn ht (nsy d78_86)) (nsy (apn hg (nsy d77_78) R77.lt)) d77_9 (apn hg d78_9 B9.lt) d77_86 (apn hg d78_86 B86.lt) d9_86
     simp only [hA0, Act.put, e4, e5, e6] at hN
     exact (hST.out _ _ _ _).1 hN
    have st_127 : ∀ (X : World) (u64 : Value) (u69 : Value) (u71 : Value) (u72 : Value) (u78 : Value) (g77 : Nat) (c77 : Nat) (g84 : Nat) (c84 : Nat) (T : HT w3 X) (R77 : HS w3 X MK.keys (nk + 1) g77 c77) (R84 : HJ w3 X L84 q g84 c84) (d77_84 : ¬ g77 = g84), ST 6 #[true, true, true, true, true, true, true, true, true, true, true, true, true, true, true, true, true, true, true, true, true, true, false, false, true, true, true, true, true, false, false, false, false] (((((((A0.put (some 64) u64).put (some 69) u69).put (some 71) u71).put (some 72) u72).put (some 77) (.slice (some ⟨g77, 0, none⟩) (nk + 1) c77)).put (some 78) u78).put (some 84) (.slice (some ⟨g84, 0, none⟩) q c84)) X := by
     intro X u64 u69 u71 u72 u78 g77 c77 g84 c84 T R77 R84 d77_84
     have hH : Turn (fun _ => False) w3 X := T.out
     refine (hST.out _ _ _ _).2 ?_
     simp only [hA0, Act.put, e4, e5, e6]
     refine wpAnyH_ready (rs := [22, 31]) (by kernel_rfl) (by simp) ?_
     refine AllReadyH.cons rfl (fun K hK => ?_) (AllReadyH.cons rfl (fun K hK => ?_) AllReadyH.nil)
     · refine oI1 rfl 85 kid rfl rfl ?_
       refine hK.out _ _ (T.out.alloc _) (fun _ => ?_)
       try simp only [e1, e2, e3, Act.put, e4, e5, e6]
       refine wpAnyH_named (fun X1 e => ?_)
       have T1 := T.al e
       have hN := st_255 X1 u64 u69 u71 u72 u78 g77 c77 g84 c84 X.heap.size T1 (R77.al e) (R84.al e) (T.nw [.int .i64 kid] e) d77_84 (aln R77.lt) (aln R84.lt)
       simp only [hA0, Act.put, e4, e5, e6] at hN
       exact (hST.out _ _ _ _).1 hN
     · refine oA rfl rfl ?_
       refine hK.out _ _ (T.out.alloc _) (fun _ => ?_)
       try simp only [e1, e2, e3, Act.put, e4, e5, e6]
       refine wpAnyH_named (fun X1 e => ?_)
       have T1 := T.al e
       have hN := st_1151 X1 u64 u69 u71 u72 u78 g77 c77 g84 c84 X.heap.size T1 (R77.al e) (R84.al e) (T.nw nil4 e) d77_84 (aln R77.lt) (aln R84.lt)
       simp only [hA0, Act.put, e4, e5, e6] at hN
       exact (hST.out _ _ _ _).1 hN
    have st_191 : ∀ (X : World) (u64 : Value) (u69 : Value) (u71 : Value) (u72 : Value) (g77 : Nat) (c77 : Nat) (g78 : Nat) (c78 : Nat) (g86 : Nat) (T : HT w3 X) (R77 : HS w3 X MK.keys (nk + 1) g77 c77) (R78 : HJ w3 X [] 0 g78 c78) (B86 : HB w3 X 3 g86 [.int .i64 kid]) (d77_78 : ¬ g77 = g78) (d77_86 : ¬ g77 = g86) (d78_86 : ¬ g78 = g86), ST 6 #[true, true, true, true, true, true, true, true, true, true, true, true, true, true, true, true, true, true, true, true, false, true, true, false, true, true, true, true, true, false, false, false, false] (((((((A0.put (some 64) u64).put (some 69) u69).put (some 71) u71).put (some 72) u72).put (some 77) (.slice (some ⟨g77, 0, none⟩) (nk + 1) c77)).put (some 78) (.slice (some ⟨g78, 0, none⟩) 0 c78)).put (some 86) (.slice (some ⟨g86, 0, none⟩) 1 1)) X := by
     intro X u64 u69 u71 u72 g77 c77 g78 c78 g86 T R77 R78 B86 d77_78 d77_86 d78_86
     have hH : Turn (fun _ => False) w3 X := T.out
     refine (hST.out _ _ _ _).2 ?_
     simp only [hA0, Act.put, e4, e5, e6]
     refine wpAnyH_ready (rs := [20, 31]) (by kernel_rfl) (by simp) ?_
     refine AllReadyH.cons rfl (fun K hK => ?_) (AllReadyH.cons rfl (fun K hK => ?_) AllReadyH.nil)
     · refine sI rfl _ _ rfl [] (n.kids.take q) L84 g78 c78 0 (some a3) q c3 q HM83.out HE84.out HN84.out HG84.out rfl rfl T R78 (HD1.out.turn T.out) PD1.out ?_
       intro g84 c84 X1 r ht hg T1
       refine hK.out _ _ T1.out (fun _ => ?_)
       try simp only [e1, e2, e3, Act.put, e4, e5, e6]
       have hN := st_255 X1 u64 u69 u71 u72 (.slice (some ⟨g78, 0, none⟩) 0 c78) g77 c77 g84 c84 g86 T1 (R77.tn ht d77_78) r (B86.tn ht (nsy d78_86)) (nsy (apn hg (nsy d77_78) R77.lt)) d77_86 (apn hg d78_86 B86.lt)
       simp only [hA0, Act.put, e4, e5, e6] at hN
       exact (hST.out _ _ _ _).1 hN
     · refine oA rfl rfl ?_
       refine hK.out _ _ (T.out.alloc _) (fun _ => ?_)
       try simp only [e1, e2, e3, Act.put, e4, e5, e6]
       refine wpAnyH_named (fun X1 e => ?_)
       have T1 := T.al e
       have hN := st_1215 X1 u64 u69 u71 u72 g77 c77 g78 c78 X.heap.size g86 T1 (R77.al e) (R78.al e) (T.nw nil4 e) (B86.al e) d77_78 (aln R77.lt) (aln R78.lt) d77_86 d78_86 (nsy (aln B86.lt))
       simp only [hA0, Act.put, e4, e5, e6] at hN
       exact (hST.out _ _ _ _).1 hN
    have st_1087 : ∀ (X : World) (u64 : Value) (u69 : Value) (u71 : Value) (u72 : Value) (g77 : Nat) (c77 : Nat) (g78 : Nat) (c78 : Nat) (g9 : Nat) (T : HT w3 X) (R77 : HS w3 X MK.keys (nk + 1) g77 c77) (R78 : HJ w3 X [] 0 g78 c78) (B9 : HB w3 X 26 g9 nil4) (d77_78 : ¬ g77 = g78) (d77_9 : ¬ g77 = g9) (d78_9 : ¬ g78 = g9), ST 6 #[true, true, true, true, true, true, true, true, true, true, true, true, true, true, true, true, true, true, true, true, false, true, false, false, true, true, true, true, true, false, false, true, false] (((((((A0.put (some 64) u64).put (some 69) u69).put (some 71) u71).put (some 72) u72).put (some 77) (.slice (some ⟨g77, 0, none⟩) (nk + 1) c77)).put (some 78) (.slice (some ⟨g78, 0, none⟩) 0 c78)).put (some 9) (.pointer (some ⟨g9, 0, none⟩))) X := by
     intro X u64 u69 u71 u72 g77 c77 g78 c78 g9 T R77 R78 B9 d77_78 d77_9 d78_9
     have hH : Turn (fun _ => False) w3 X := T.out
     refine (hST.out _ _ _ _).2 ?_
     simp only [hA0, Act.put, e4, e5, e6]
     refine wpAnyH_ready (rs := [20, 22]) (by kernel_rfl) (by simp) ?_
     refine AllReadyH.cons rfl (fun K hK => ?_) (AllReadyH.cons rfl (fun K hK => ?_) AllReadyH.nil)
     · refine sI rfl _ _ rfl [] (n.kids.take q) L84 g78 c78 0 (some a3) q c3 q HM83.out HE84.out HN84.out HG84.out rfl rfl T R78 (HD1.out.turn T.out) PD1.out ?_
       intro g84 c84 X1 r ht hg T1
       refine hK.out _ _ T1.out (fun _ => ?_)
       try simp only [e1, e2, e3, Act.put, e4, e5, e6]
       have hN := st_1151 X1 u64 u69 u71 u72 (.slice (some ⟨g78, 0, none⟩) 0 c78) g77 c77 g84 c84 g9 T1 (R77.tn ht d77_78) r (B9.tn ht (nsy d78_9)) (nsy (apn hg (nsy d77_78) R77.lt)) d77_9 (apn hg d78_9 B9.lt)
       simp only [hA0, Act.put, e4, e5, e6] at hN
       exact (hST.out _ _ _ _).1 hN
     · refine oI1 rfl 85 kid rfl rfl ?_
       refine hK.out _ _ (T.out.alloc _) (fun _ => ?_)
       try simp only [e1, e2, e3, Act.put, e4, e5, e6]
       refine wpAnyH_named (fun X1 e => ?_)
       have T1 := T.al e
       have hN := st_1215 X1 u64 u69 u71 u72 g77 c77 g78 c78 g9 X.heap.size T1 (R77.al e) (R78.al e) (B9.al e) (T.nw [.int .i64 kid] e) d77_78 d77_9 d78_9 (aln R77.lt) (aln R78.lt) (aln B9.lt)
       simp only [hA0, Act.put, e4, e5, e6] at hN
       exact (hST.out _ _ _ _).1 hN
    have st_1183 : ∀ (X : World) (u64 : Value) (u69 : Value) (u71 : Value) (u72 : Value) (g77 : Nat) (c77 : Nat) (g9 : Nat) (g86 : Nat) (T : HT w3 X) (R77 : HS w3 X MK.keys (nk + 1) g77 c77) (B9 : HB w3 X 26 g9 nil4) (B86 : HB w3 X 3 g86 [.int .i64 kid]) (d77_9 : ¬ g77 = g9) (d77_86 : ¬ g77 = g86) (d9_86 : ¬ g9 = g86), ST 6 #[true, true, true, true, true, true, true, true, true, true, true, true, true, true, false, true, true, true, true, true, false, true, true, false, true, true, true, true, true, false, false, true, false] (((((((A0.put (some 64) u64).put (some 69) u69).put (some 71) u71).put (some 72) u72).put (some 77) (.slice (some ⟨g77, 0, none⟩) (nk + 1) c77)).put (some 86) (.slice (some ⟨g86, 0, none⟩) 1 1)).put (some 9) (.pointer (some ⟨g9, 0, none⟩))) X := by
     intro X u64 u69 u71 u72 g77 c77 g9 g86 T R77 B9 B86 d77_9 d77_86 d9_86
     have hH : Turn (fun _ => False) w3 X := T.out
     refine (hST.out _ _ _ _).2 ?_
     simp only [hA0, Act.put, e4, e5, e6]
     refine wpAnyH_ready (rs := [14]) (by kernel_rfl) (by simp) ?_
     refine AllReadyH.cons rfl (fun K hK => ?_) AllReadyH.nil
     refine oI rfl rfl ?_
     refine hK.out _ _ (T.out.alloc _) (fun _ => ?_)
     try simp only [e1, e2, e3, Act.put, e4, e5, e6]
     refine wpAnyH_named (fun X1 e => ?_)
     have T1 := T.al e
     have hN := st_1215 X1 u64 u69 u71 u72 g77 c77 X.heap.size 0 g9 g86 T1 (R77.al e) (T.eI e) (B9.al e) (B86.al e) (aln R77.lt) d77_9 (nsy (aln B9.lt)) d77_86 (nsy (aln B86.lt)) d9_86
     simp only [hA0, Act.put, e4, e5, e6] at hN
     exact (hST.out _ _ _ _).1 hN
    have st_1199 : ∀ (X : World) (u64 : Value) (u69 : Value) (u71 : Value) (g72 : Nat) (c72 : Nat) (g78 : Nat) (c78 : Nat) (g9 : Nat) (g86 : Nat) (T : HT w3 X) (R72 : HS w3 X L72 (i + 1) g72 c72) (R78 : HJ w3 X [] 0 g78 c78) (B9 : HB w3 X 26 g9 nil4) (B86 : HB w3 X 3 g86 [.int .i64 kid]) (d72_78 : ¬ g72 = g78) (d72_9 : ¬ g72 = g9) (d78_9 : ¬ g78 = g9) (d72_86 : ¬ g72 = g86) (d78_86 : ¬ g78 = g86) (d9_86 : ¬ g9 = g86), ST 6 #[true, true, true, true, true, true, true, true, true, true, true, true, true, false, true, true, true, true, true, true, false, true, true, false, true, true, true, true, true, false, false, true, false] (((((((A0.put (some 64) u64).put (some 69) u69).put (some 71) u71).put (some 72) (.slice (some ⟨g72, 0, none⟩) (i + 1) c72)).put (some 78) (.slice (some ⟨g78, 0, none⟩) 0 c78)).put (some 86) (.slice (some ⟨g86, 0, none⟩) 1 1)).put (some 9) (.pointer (some ⟨g9, 0, none⟩))) X := by
     intro X u64 u69 u71 g72 c72 g78 c78 g9 g86 T R72 R78 B9 B86 d72_78 d72_9 d78_9 d72_86 d78_86 d9_86
     have hH : Turn (fun _ => False) w3 X := T.out
     refine (hST.out _ _ _ _).2 ?_
     simp only [hA0, Act.put, e4, e5, e6]
     refine wpAnyH_ready (rs := [13]) (by kernel_rfl) (by simp) ?_
     refine AllReadyH.cons rfl (fun K hK => ?_) AllReadyH.nil
     refine sT rfl _ _ rfl L72 (n.keys.drop i) MK.keys g72 c72 (i + 1) (off8 A1 c1 i) (nk - i) (c1 - i) (nk + 1) HM76.out HE77.out HN77.out HG77.out rfl rfl T R72 (HK2.out.turn T.out) PK2.out ?_
     intro g77 c77 X1 r ht hg T1
     refine hK.out _ _ T1.out (fun _ => ?_)
     try simp only [e1, e2, e3, Act.put, e4, e5, e6]
     have hN := st_1215 X1 u64 u69 u71 (.slice (some ⟨g72, 0, none⟩) (i + 1) c72) g77 c77 g78 c78 g9 g86 T1 r (R78.tn ht (nsy d72_78)) (B9.tn ht (nsy d72_9)) (B86.tn ht (nsy d72_86)) (apn hg d72_78 R78.lt) (apn hg d72_9 B9.lt) d78_9 (apn hg d72_86 B86.lt) d78_86 d9_86
     simp only [hA0, Act.put, e4, e5, e6] at hN
     exact (hST.out _ _ _ _).1 hN
    have st_63 : ∀ (X : World) (u64 : Value) (u69 : Value) (u71 : Value) (u72 : Value) (g77 : Nat) (c77 : Nat) (g78 : Nat) (c78 : Nat) (T : HT w3 X) (R77 : HS w3 X MK.keys (nk + 1) g77 c77) (R78 : HJ w3 X [] 0 g78 c78) (d77_78 : ¬ g77 = g78), ST 7 #[true, true, true, true, true, true, true, true, true, true, true, true, true, true, true, true, true, true, true, true, false, true, false, false, true, true, true, true, true, false, false, false, false] ((((((A0.put (some 64) u64).put (some 69) u69).put (some 71) u71).put (some 72) u72).put (some 77) (.slice (some ⟨g77, 0, none⟩) (nk + 1) c77)).put (some 78) (.slice (some ⟨g78, 0, none⟩) 0 c78)) X := by
     intro X u64 u69 u71 u72 g77 c77 g78 c78 T R77 R78 d77_78
     have hH : Turn (fun _ => False) w3 X := T.out
     refine (hST.out _ _ _ _).2 ?_
     simp only [hA0, Act.put, e4, e5, e6]
     refine wpAnyH_ready (rs := [20, 22, 31]) (by kernel_rfl) (by simp) ?_
     refine AllReadyH.cons rfl (fun K hK => ?_) (AllReadyH.cons rfl (fun K hK => ?_) (AllReadyH.cons rfl (fun K hK => ?_) AllReadyH.nil))
     · refine sI rfl _ _ rfl [] (n.kids.take q) L84 g78 c78 0 (some a3) q c3 q HM83.out HE84.out HN84.out HG84.out rfl rfl T R78 (HD1.out.turn T.out) PD1.out ?_
       intro g84 c84 X1 r ht hg T1
       refine hK.out _ _ T1.out (fun _ => ?_)
       try simp only [e1, e2, e3, Act.put, e4, e5, e6]
       have hN := st_127 X1 u64 u69 u71 u72 (.slice (some ⟨g78, 0, none⟩) 0 c78) g77 c77 g84 c84 T1 (R77.tn ht d77_78) r (nsy (apn hg (nsy d77_78) R77.lt))
       simp only [hA0, Act.put, e4, e5, e6] at hN
       exact (hST.out _ _ _ _).1 hN
     · refine oI1 rfl 85 kid rfl rfl ?_
       refine hK.out _ _ (T.out.alloc _) (fun _ => ?_)
       try simp only [e1, e2, e3, Act.put, e4, e5, e6]
       refine wpAnyH_named (fun X1 e => ?_)
       have T1 := T.al e
       have hN := st_191 X1 u64 u69 u71 u72 g77 c77 g78 c78 X.heap.size T1 (R77.al e) (R78.al e) (T.nw [.int .i64 kid] e) d77_78 (aln R77.lt) (aln R78.lt)
       simp only [hA0, Act.put, e4, e5, e6] at hN
       exact (hST.out _ _ _ _).1 hN
     · refine oA rfl rfl ?_
       refine hK.out _ _ (T.out.alloc _) (fun _ => ?_)
       try simp only [e1, e2, e3, Act.put, e4, e5, e6]
       refine wpAnyH_named (fun X1 e => ?_)
       have T1 := T.al e
       have hN := st_1087 X1 u64 u69 u71 u72 g77 c77 g78 c78 X.heap.size T1 (R77.al e) (R78.al e) (T.nw nil4 e) d77_78 (aln R77.lt) (aln R78.lt)
       simp only [hA0, Act.put, e4, e5, e6] at hN
       exact (hST.out _ _ _ _).1 hN
    have st_159 : ∀ (X : World) (u64 : Value) (u69 : Value) (u71 : Value) (u72 : Value) (g77 : Nat) (c77 : Nat) (g86 : Nat) (T : HT w3 X) (R77 : HS w3 X MK.keys (nk + 1) g77 c77) (B86 : HB w3 X 3 g86 [.int .i64 kid]) (d77_86 : ¬ g77 = g86), ST 7 #[true, true, true, true, true, true, true, true, true, true, true, true, true, true, false, true, true, true, true, true, false, true, true, false, true, true, true, true, true, false, false, false, false] ((((((A0.put (some 64) u64).put (some 69) u69).put (some 71) u71).put (some 72) u72).put (some 77) (.slice (some ⟨g77, 0, none⟩) (nk + 1) c77)).put (some 86) (.slice (some ⟨g86, 0, none⟩) 1 1)) X := by
     intro X u64 u69 u71 u72 g77 c77 g86 T R77 B86 d77_86
     have hH : Turn (fun _ => False) w3 X := T.out
     refine (hST.out _ _ _ _).2 ?_
     simp only [hA0, Act.put, e4, e5, e6]
     refine wpAnyH_ready (rs := [14, 31]) (by kernel_rfl) (by simp) ?_
     refine AllReadyH.cons rfl (fun K hK => ?_) (AllReadyH.cons rfl (fun K hK => ?_) AllReadyH.nil)
     · refine oI rfl rfl ?_
       refine hK.out _ _ (T.out.alloc _) (fun _ => ?_)
       try simp only [e1, e2, e3, Act.put, e4, e5, e6]
       refine wpAnyH_named (fun X1 e => ?_)
       have T1 := T.al e
       have hN := st_191 X1 u64 u69 u71 u72 g77 c77 X.heap.size 0 g86 T1 (R77.al e) (T.eI e) (B86.al e) (aln R77.lt) d77_86 (nsy (aln B86.lt))
       simp only [hA0, Act.put, e4, e5, e6] at hN
       exact (hST.out _ _ _ _).1 hN
     · refine oA rfl rfl ?_
       refine hK.out _ _ (T.out.alloc _) (fun _ => ?_)
       try simp only [e1, e2, e3, Act.put, e4, e5, e6]
       refine wpAnyH_named (fun X1 e => ?_)
       have T1 := T.al e
       have hN := st_1183 X1 u64 u69 u71 u72 g77 c77 X.heap.size g86 T1 (R77.al e) (T.nw nil4 e) (B86.al e) (aln R77.lt) d77_86 (nsy (aln B86.lt))
       simp only [hA0, Act.put, e4, e5, e6] at hN
       exact (hST.out _ _ _ _).1 hN
    have st_1055 : ∀ (X : World) (u64 : Value) (u69 : Value) (u71 : Value) (u72 : Value) (g77 : Nat) (c77 : Nat) (g9 : Nat) (T : HT w3 X) (R77 : HS w3 X MK.keys (nk + 1) g77 c77) (B9 : HB w3 X 26 g9 nil4) (d77_9 : ¬ g77 = g9), ST 7 #[true, true, true, true, true, true, true, true, true, true, true, true, true, true, false, true, true, true, true, true, false, true, false, false, true, true, true, true, true, false, false, true, false] ((((((A0.put (some 64) u64).put (some 69) u69).put (some 71) u71).put (some 72) u72).put (some 77) (.slice (some ⟨g77, 0, none⟩) (nk + 1) c77)).put (some 9) (.pointer (some ⟨g9, 0, none⟩))) X := by
     intro X u64 u69 u71 u72 g77 c77 g9 T R77 B9 d77_9
     have hH : Turn (fun _ => False) w3 X := T.out
     refine (hST.out _ _ _ _).2 ?_
     simp only [hA0, Act.put, e4, e5, e6]
     refine wpAnyH_ready (rs := [14, 22]) (by kernel_rfl) (by simp) ?_
     refine AllReadyH.cons rfl (fun K hK => ?_) (AllReadyH.cons rfl (fun K hK => ?_) AllReadyH.nil)
     · refine oI rfl rfl ?_
       refine hK.out _ _ (T.out.alloc _) (fun _ => ?_)
       try simp only [e1, e2, e3, Act.put, e4, e5, e6]
       refine wpAnyH_named (fun X1 e => ?_)
       have T1 := T.al e
       have hN := st_1087 X1 u64 u69 u71 u72 g77 c77 X.heap.size 0 g9 T1 (R77.al e) (T.eI e) (B9.al e) (aln R77.lt) d77_9 (nsy (aln B9.lt))
       simp only [hA0, Act.put, e4, e5, e6] at hN
       exact (hST.out _ _ _ _).1 hN
     · refine oI1 rfl 85 kid rfl rfl ?_
       refine hK.out _ _ (T.out.alloc _) (fun _ => ?_)
       try simp only [e1, e2, e3, Act.put, e4, e5, e6]
       refine wpAnyH_named (fun X1 e => ?_)
       have T1 := T.al e
       have hN := st_1183 X1 u64 u69 u71 u72 g77 c77 g9 X.heap.size T1 (R77.al e) (B9.al e) (T.nw [.int .i64 kid] e) d77_9 (aln R77.lt) (aln B9.lt)
       simp only [hA0, Act.put, e4, e5, e6] at hN
       exact (hST.out _ _ _ _).1 hN
    have st_175 : ∀ (X : World) (u64 : Value) (u69 : Value) (u71 : Value) (g72 : Nat) (c72 : Nat) (g78 : Nat) (c78 : Nat) (g86 : Nat) (T : HT w3 X) (R72 : HS w3 X L72 (i + 1) g72 c72) (R78 : HJ w3 X [] 0 g78 c78) (B86 : HB w3 X 3 g86 [.int .i64 kid]) (d72_78 : ¬ g72 = g78) (d72_86 : ¬ g72 = g86) (d78_86 : ¬ g78 = g86), ST 7 #[true, true, true, true, true, true, true, true, true, true, true, true, true, false, true, true, true, true, true, true, false, true, true, false, true, true, true, true, true, false, false, false, false] ((((((A0.put (some 64) u64).put (some 69) u69).put (some 71) u71).put (some 72) (.slice (some ⟨g72, 0, none⟩) (i + 1) c72)).put (some 78) (.slice (some ⟨g78, 0, none⟩) 0 c78)).put (some 86) (.slice (some ⟨g86, 0, none⟩) 1 1)) X := by
     intro X u64 u69 u71 g72 c72 g78 c78 g86 T R72 R78 B86 d72_78 d72_86 d78_86
     have hH : Turn (fun _ => False) w3 X := T.out
     refine (hST.out _ _ _ _).2 ?_
     simp only [hA0, Act.put, e4, e5, e6]
     refine wpAnyH_ready (rs := [13, 31]) (by kernel_rfl) (by simp) ?_
     refine AllReadyH.cons rfl (fun K hK => ?_) (AllReadyH.cons rfl (fun K hK => ?_) AllReadyH.nil)
     · refine sT rfl _ _ rfl L72 (n.keys.drop i) MK.keys g72 c72 (i + 1) (off8 A1 c1 i) (nk - i) (c1 - i) (nk + 1) HM76.out HE77.out HN77.out HG77.out rfl rfl T R72 (HK2.out.turn T.out) PK2.out ?_
       intro g77 c77 X1 r ht hg T1
       refine hK.out _ _ T1.out (fun _ => ?_)
       try simp only [e1, e2, e3, Act.put, e4, e5, e6]
       have hN := st_191 X1 u64 u69 u71 (.slice (some ⟨g72, 0, none⟩) (i + 1) c72) g77 c77 g78 c78 g86 T1 r (R78.tn ht (nsy d72_78)) (B86.tn ht (nsy d72_86)) (apn hg d72_78 R78.lt) (apn hg d72_86 B86.lt) d78_86
       simp only [hA0, Act.put, e4, e5, e6] at hN
       exact (hST.out _ _ _ _).1 hN
     · refine oA rfl rfl ?_
       refine hK.out _ _ (T.out.alloc _) (fun _ => ?_)
       try simp only [e1, e2, e3, Act.put, e4, e5, e6]
       refine wpAnyH_named (fun X1 e => ?_)
       have T1 := T.al e
       have hN := st_1199 X1 u64 u69 u71 g72 c72 g78 c78 X.heap.size g86 T1 (R72.al e) (R78.al e) (T.nw nil4 e) (B86.al e) d72_78 (aln R72.lt) (aln R78.lt) d72_86 d78_86 (nsy (aln B86.lt))
       simp only [hA0, Act.put, e4, e5, e6] at hN
       exact (hST.out _ _ _ _).1 hN
    have st_1071 : ∀ (X : World) (u64 : Value) (u69 : Value) (u71 : Value) (g72 : Nat) (c72 : Nat) (g78 : Nat) (c78 : Nat) (g9 : Nat) (T : HT w3 X) (R72 : HS w3 X L72 (i + 1) g72 c72) (R78 : HJ w3 X [] 0 g78 c78) (B9 : HB w3 X 26 g9 nil4) (d72_78 : ¬ g72 = g78) (d72_9 : ¬ g72 = g9) (d78_9 : ¬ g78 = g9), ST 7 #[true, true, true, true, true, true, true, true, true, true, true, true, true, false, true, true, true, true, true, true, false, true, false, false, true, true, true, true, true, false, false, true, false] ((((((A0.put (some 64) u64).put (some 69) u69).put (some 71) u71).put (some 72) (.slice (some ⟨g72, 0, none⟩) (i + 1) c72)).put (some 78) (.slice (some ⟨g78, 0, none⟩) 0 c78)).put (some 9) (.pointer (some ⟨g9, 0, none⟩))) X := by
     intro X u64 u69 u71 g72 c72 g78 c78 g9 T R72 R78 B9 d72_78 d72_9 d78_9
     have hH : Turn (fun _ => False) w3 X := T.out
     refine (hST.out _ _ _ _).2 ?_
     simp only [hA0, Act.put, e4, e5, e6]
     refine wpAnyH_ready (rs := [13, 22]) (by kernel_rfl) (by simp) ?_
     refine AllReadyH.cons rfl (fun K hK => ?_) (AllReadyH.cons rfl (fun K hK => ?_) AllReadyH.nil)
     · refine sT rfl _ _ rfl L72 (n.keys.drop i) MK.keys g72 c72 (i + 1) (off8 A1 c1 i) (nk - i) (c1 - i) (nk + 1) HM76.out HE77.out HN77.out HG77.out rfl rfl T R72 (HK2.out.turn T.out) PK2.out ?_
       intro g77 c77 X1 r ht hg T1
       refine hK.out _ _ T1.out (fun _ => ?_)
       try simp only [e1, e2, e3, Act.put, e4, e5, e6]
       have hN := st_1087 X1 u64 u69 u71 (.slice (some ⟨g72, 0, none⟩) (i + 1) c72) g77 c77 g78 c78 g9 T1 r (R78.tn ht (nsy d72_78)) (B9.tn ht (nsy d72_9)) (apn hg d72_78 R78.lt) (apn hg d72_9 B9.lt) d78_9
       simp only [hA0, Act.put, e4, e5, e6] at hN
       exact (hST.out _ _ _ _).1 hN
     · refine oI1 rfl 85 kid rfl rfl ?_
       refine hK.out _ _ (T.out.alloc _) (fun _ => ?_)
       try simp only [e1, e2, e3, Act.put, e4, e5, e6]
       refine wpAnyH_named (fun X1 e => ?_)
       have T1 := T.al e
       have hN := st_1199 X1 u64 u69 u71 g72 c72 g78 c78 g9 X.heap.size T1 (R72.al e) (R78.al e) (B9.al e) (T.nw [.int .i64 kid] e) d72_78 d72_9 d78_9 (aln R72.lt) (aln R78.lt) (aln B9.lt)
       simp only [hA0, Act.put, e4, e5, e6] at hN
       exact (hST.out _ _ _ _).1 hN
    have st_1167 : ∀ (X : World) (u64 : Value) (u69 : Value) (u71 : Value) (g72 : Nat) (c72 : Nat) (g9 : Nat) (g86 : Nat) (T : HT w3 X) (R72 : HS w3 X L72 (i + 1) g72 c72) (B9 : HB w3 X 26 g9 nil4) (B86 : HB w3 X 3 g86 [.int .i64 kid]) (d72_9 : ¬ g72 = g9) (d72_86 : ¬ g72 = g86) (d9_86 : ¬ g9 = g86), ST 7 #[true, true, true, true, true, true, true, true, true, true, true, true, true, false, false, true, true, true, true, true, false, true, true, false, true, true, true, true, true, false, false, true, false] ((((((A0.put (some 64) u64).put (some 69) u69).put (some 71) u71).put (some 72) (.slice (some ⟨g72, 0, none⟩) (i + 1) c72)).put (some 86) (.slice (some ⟨g86, 0, none⟩) 1 1)).put (some 9) (.pointer (some ⟨g9, 0, none⟩))) X := by
     intro X u64 u69 u71 g72 c72 g9 g86 T R72 B9 B86 d72_9 d72_86 d9_86
     have hH : Turn (fun _ => False) w3 X := T.out
     refine (hST.out _ _ _ _).2 ?_
     simp only [hA0, Act.put, e4, e5, e6]
     refine wpAnyH_ready (rs := [13, 14]) (by kernel_rfl) (by simp) ?_
     refine AllReadyH.cons rfl (fun K hK => ?_) (AllReadyH.cons rfl (fun K hK => ?_) AllReadyH.nil)
     · refine sT rfl _ _ rfl L72 (n.keys.drop i) MK.keys g72 c72 (i + 1) (off8 A1 c1 i) (nk - i) (c1 - i) (nk + 1) HM76.out HE77.out HN77.out HG77.out rfl rfl T R72 (HK2.out.turn T.out) PK2.out ?_
       intro g77 c77 X1 r ht hg T1
       refine hK.out _ _ T1.out (fun _ => ?_)
       try simp only [e1, e2, e3, Act.put, e4, e5, e6]
       have hN := st_1183 X1 u64 u69 u71 (.slice (some ⟨g72, 0, none⟩) (i + 1) c72) g77 c77 g9 g86 T1 r (B9.tn ht (nsy d72_9)) (B86.tn ht (nsy d72_86)) (apn hg d72_9 B9.lt) (apn hg d72_86 B86.lt) d9_86
       simp only [hA0, Act.put, e4, e5, e6] at hN
       exact (hST.out _ _ _ _).1 hN
     · refine oI rfl rfl ?_
       refine hK.out _ _ (T.out.alloc _) (fun _ => ?_)
       try simp only [e1, e2, e3, Act.put, e4, e5, e6]
       refine wpAnyH_named (fun X1 e => ?_)
       have T1 := T.al e
       have hN := st_1199 X1 u64 u69 u71 g72 c72 X.heap.size 0 g9 g86 T1 (R72.al e) (T.eI e) (B9.al e) (B86.al e) (aln R72.lt) d72_9 (nsy (aln B9.lt)) d72_86 (nsy (aln B86.lt)) d9_86
       simp only [hA0, Act.put, e4, e5, e6] at hN
       exact (hST.out _ _ _ _).1 hN
    have st_1191 : ∀ (X : World) (u64 : Value) (g69 : Nat) (c69 : Nat) (g78 : Nat) (c78 : Nat) (g9 : Nat) (g71 : Nat) (g86 : Nat) (T : HT w3 X) (R69 : HS w3 X L69 i g69 c69) (R78 : HJ w3 X [] 0 g78 c78) (B9 : HB w3 X 26 g9 nil4) (B71 : HB w3 X 9 g71 [.string key]) (B86 : HB w3 X 3 g86 [.int .i64 kid]) (d69_78 : ¬ g69 = g78) (d69_9 : ¬ g69 = g9) (d78_9 : ¬ g78 = g9) (d69_71 : ¬ g69 = g71) (d78_71 : ¬ g78 = g71) (d9_71 : ¬ g9 = g71) (d69_86 : ¬ g69 = g86) (d78_86 : ¬ g78 = g86) (d9_86 : ¬ g9 = g86) (d71_86 : ¬ g71 = g86), ST 7 #[true, true, true, true, true, true, true, true, false, true, true, true, true, false, true, true, true, true, true, true, false, true, true, false, true, true, true, true, true, false, false, true, false] ((((((A0.put (some 64) u64).put (some 69) (.slice (some ⟨g69, 0, none⟩) i c69)).put (some 71) (.slice (some ⟨g71, 0, none⟩) 1 1)).put (some 78) (.slice (some ⟨g78, 0, none⟩) 0 c78)).put (some 86) (.slice (some ⟨g86, 0, none⟩) 1 1)).put (some 9) (.pointer (some ⟨g9, 0, none⟩))) X := by
     intro X u64 g69 c69 g78 c78 g9 g71 g86 T R69 R78 B9 B71 B86 d69_78 d69_9 d78_9 d69_71 d78_71 d9_71 d69_86 d78_86 d9_86 d71_86
     have hH : Turn (fun _ => False) w3 X := T.out
     refine (hST.out _ _ _ _).2 ?_
     simp only [hA0, Act.put, e4, e5, e6]
     refine wpAnyH_ready (rs := [8]) (by kernel_rfl) (by simp) ?_
     refine AllReadyH.cons rfl (fun K hK => ?_) AllReadyH.nil
     refine sT rfl _ _ rfl L69 [key] L72 g69 c69 i (some ⟨g71, 0, none⟩) 1 1 (i + 1) rfl HE72.out HN72.out HG72.out rfl rfl T R69 (sr_of_blk (L := [key]) B71.out.1) (one_cp g71) ?_
     intro g72 c72 X1 r ht hg T1
     refine hK.out _ _ T1.out (fun _ => ?_)
     try simp only [e1, e2, e3, Act.put, e4, e5, e6]
     have hN := st_1199 X1 u64 (.slice (some ⟨g69, 0, none⟩) i c69) (.slice (some ⟨g71, 0, none⟩) 1 1) g72 c72 g78 c78 g9 g86 T1 r (R78.tn ht (nsy d69_78)) (B9.tn ht (nsy d69_9)) (B86.tn ht (nsy d69_86)) (apn hg d69_78 R78.lt) (apn hg d69_9 B9.lt) d78_9 (apn hg d69_86 B86.lt) d78_86 d9_86
     simp only [hA0, Act.put, e4, e5, e6] at hN
     exact (hST.out _ _ _ _).1 hN
    have st_31 : ∀ (X : World) (u64 : Value) (u69 : Value) (u71 : Value) (u72 : Value) (g77 : Nat) (c77 : Nat) (T : HT w3 X) (R77 : HS w3 X MK.keys (nk + 1) g77 c77), ST 8 #[true, true, true, true, true, true, true, true, true, true, true, true, true, true, false, true, true, true, true, true, false, true, false, false, true, true, true, true, true, false, false, false, false] (((((A0.put (some 64) u64).put (some 69) u69).put (some 71) u71).put (some 72) u72).put (some 77) (.slice (some ⟨g77, 0, none⟩) (nk + 1) c77)) X := by
     intro X u64 u69 u71 u72 g77 c77 T R77
     have hH : Turn (fun _ => False) w3 X := T.out
     refine (hST.out _ _ _ _).2 ?_
     simp only [hA0, Act.put, e4, e5, e6]
     refine wpAnyH_ready (rs := [14, 22, 31]) (by kernel_rfl) (by simp) ?_
     refine AllReadyH.cons rfl (fun K hK => ?_) (AllReadyH.cons rfl (fun K hK => ?_) (AllReadyH.cons rfl (fun K hK => ?_) AllReadyH.nil))
     · refine oI rfl rfl ?_
       refine hK.out _ _ (T.out.alloc _) (fun _ => ?_)
       try simp only [e1, e2, e3, Act.put, e4, e5, e6]
       refine wpAnyH_named (fun X1 e => ?_)
       have T1 := T.al e
       have hN := st_63 X1 u64 u69 u71 u72 g77 c77 X.heap.size 0 T1 (R77.al e) (T.eI e) (aln R77.lt)
       simp only [hA0, Act.put, e4, e5, e6] at hN
       exact (hST.out _ _ _ _).1 hN
     · refine oI1 rfl 85 kid rfl rfl ?_
       refine hK.out _ _ (T.out.alloc _) (fun _ => ?_)
       try simp only [e1, e2, e3, Act.put, e4, e5, e6]
       refine wpAnyH_named (fun X1 e => ?_)
       have T1 := T.al e
       have hN := st_159 X1 u64 u69 u71 u72 g77 c77 X.heap.size T1 (R77.al e) (T.nw [.int .i64 kid] e) (aln R77.lt)
       simp only [hA0, Act.put, e4, e5, e6] at hN
       exact (hST.out _ _ _ _).1 hN
     · refine oA rfl rfl ?_
       refine hK.out _ _ (T.out.alloc _) (fun _ => ?_)
       try simp only [e1, e2, e3, Act.put, e4, e5, e6]
       refine wpAnyH_named (fun X1 e => ?_)
       have T1 := T.al e
       have hN := st_1055 X1 u64 u69 u71 u72 g77 c77 X.heap.size T1 (R77.al e) (T.nw nil4 e) (aln R77.lt)
       simp only [hA0, Act.put, e4, e5, e6] at hN
       exact (hST.out _ _ _ _).1 hN
    have st_47 : ∀ (X : World) (u64 : Value) (u69 : Value) (u71 : Value) (g72 : Nat) (c72 : Nat) (g78 : Nat) (c78 : Nat) (T : HT w3 X) (R72 : HS w3 X L72 (i + 1) g72 c72) (R78 : HJ w3 X [] 0 g78 c78) (d72_78 : ¬ g72 = g78), ST 8 #[true, true, true, true, true, true, true, true, true, true, true, true, true, false, true, true, true, true, true, true, false, true, false, false, true, true, true, true, true, false, false, false, false] (((((A0.put (some 64) u64).put (some 69) u69).put (some 71) u71).put (some 72) (.slice (some ⟨g72, 0, none⟩) (i + 1) c72)).put (some 78) (.slice (some ⟨g78, 0, none⟩) 0 c78)) X := by
     intro X u64 u69 u71 g72 c72 g78 c78 T R72 R78 d72_78
     have hH : Turn (fun _ => False) w3 X := T.out
     refine (hST.out _ _ _ _).2 ?_
     simp only [hA0, Act.put, e4, e5, e6]
     refine wpAnyH_ready (rs := [13, 22, 31]) (by kernel_rfl) (by simp) ?_
     refine AllReadyH.cons rfl (fun K hK => ?_) (AllReadyH.cons rfl (fun K hK => ?_) (AllReadyH.cons rfl (fun K hK => ?_) AllReadyH.nil))
     · refine sT rfl _ _ rfl L72 (n.keys.drop i) MK.keys g72 c72 (i + 1) (off8 A1 c1 i) (nk - i) (c1 - i) (nk + 1) HM76.out HE77.out HN77.out HG77.out rfl rfl T R72 (HK2.out.turn T.out) PK2.out ?_
       intro g77 c77 X1 r ht hg T1
       refine hK.out _ _ T1.out (fun _ => ?_)
       try simp only [e1, e2, e3, Act.put, e4, e5, e6]
       have hN := st_63 X1 u64 u69 u71 (.slice (some ⟨g72, 0, none⟩) (i + 1) c72) g77 c77 g78 c78 T1 r (R78.tn ht (nsy d72_78)) (apn hg d72_78 R78.lt)
       simp only [hA0, Act.put, e4, e5, e6] at hN
       exact (hST.out _ _ _ _).1 hN
     · refine oI1 rfl 85 kid rfl rfl ?_
       refine hK.out _ _ (T.out.alloc _) (fun _ => ?_)
       try simp only [e1, e2, e3, Act.put, e4, e5, e6]
       refine wpAnyH_named (fun X1 e => ?_)
       have T1 := T.al e
       have hN := st_175 X1 u64 u69 u71 g72 c72 g78 c78 X.heap.size T1 (R72.al e) (R78.al e) (T.nw [.int .i64 kid] e) d72_78 (aln R72.lt) (aln R78.lt)
       simp only [hA0, Act.put, e4, e5, e6] at hN
       exact (hST.out _ _ _ _).1 hN
     · refine oA rfl rfl ?_
       refine hK.out _ _ (T.out.alloc _) (fun _ => ?_)
       try simp only [e1, e2, e3, Act.put, e4, e5, e6]
       refine wpAnyH_named (fun X1 e => ?_)
       have T1 := T.al e
       have hN := st_1071 X1 u64 u69 u71 g72 c72 g78 c78 X.heap.size T1 (R72.al e) (R78.al e) (T.nw nil4 e) d72_78 (aln R72.lt) (aln R78.lt)
       simp only [hA0, Act.put, e4, e5, e6] at hN
       exact (hST.out _ _ _ _).1 hN
    have st_143 : ∀ (X : World) (u64 : Value) (u69 : Value) (u71 : Value) (g72 : Nat) (c72 : Nat) (g86 : Nat) (T : HT w3 X) (R72 : HS w3 X L72 (i + 1) g72 c72) (B86 : HB w3 X 3 g86 [.int .i64 kid]) (d72_86 : ¬ g72 = g86), ST 8 #[true, true, true, true, true, true, true, true, true, true, true, true, true, false, false, true, true, true, true, true, false, true, true, false, true, true, true, true, true, false, false, false, false] (((((A0.put (some 64) u64).put (some 69) u69).put (some 71) u71).put (some 72) (.slice (some ⟨g72, 0, none⟩) (i + 1) c72)).put (some 86) (.slice (some ⟨g86, 0, none⟩) 1 1)) X := by
     intro X u64 u69 u71 g72 c72 g86 T R72 B86 d72_86
     have hH : Turn (fun _ => False) w3 X := T.out
     refine (hST.out _ _ _ _).2 ?_
     simp only [hA0, Act.put, e4, e5, e6]
     refine wpAnyH_ready (rs := [13, 14, 31]) (by kernel_rfl) (by simp) ?_
     refine AllReadyH.cons rfl (fun K hK => ?_) (AllReadyH.cons rfl (fun K hK => ?_) (AllReadyH.cons rfl (fun K hK => ?_) AllReadyH.nil))
     · refine sT rfl _ _ rfl L72 (n.keys.drop i) MK.keys g72 c72 (i + 1) (off8 A1 c1 i) (nk - i) (c1 - i) (nk + 1) HM76.out HE77.out HN77.out HG77.out rfl rfl T R72 (HK2.out.turn T.out) PK2.out ?_
       intro g77 c77 X1 r ht hg T1
       refine hK.out _ _ T1.out (fun _ => ?_)
       try simp only [e1, e2, e3, Act.put, e4, e5, e6]
       have hN := st_159 X1 u64 u69 u71 (.slice (some ⟨g72, 0, none⟩) (i + 1) c72) g77 c77 g86 T1 r (B86.tn ht (nsy d72_86)) (apn hg d72_86 B86.lt)
       simp only [hA0, Act.put, e4, e5, e6] at hN
       exact (hST.out _ _ _ _).1 hN
     · refine oI rfl rfl ?_
       refine hK.out _ _ (T.out.alloc _) (fun _ => ?_)
       try simp only [e1, e2, e3, Act.put, e4, e5, e6]
       refine wpAnyH_named (fun X1 e => ?_)
       have T1 := T.al e
       have hN := st_175 X1 u64 u69 u71 g72 c72 X.heap.size 0 g86 T1 (R72.al e) (T.eI e) (B86.al e) (aln R72.lt) d72_86 (nsy (aln B86.lt))
       simp only [hA0, Act.put, e4, e5, e6] at hN
       exact (hST.out _ _ _ _).1 hN
     · refine oA rfl rfl ?_
       refine hK.out _ _ (T.out.alloc _) (fun _ => ?_)
       try simp only [e1, e2, e3, Act.put, e4, e5, e6]
       refine wpAnyH_named (fun X1 e => ?_)
       have T1 := T.al e
       have hN := st_1167 X1 u64 u69 u71 g72 c72 X.heap.size g86 T1 (R72.al e) (T.nw nil4 e) (B86.al e) (aln R72.lt) d72_86 (nsy (aln B86.lt))
       simp only [hA0, Act.put, e4, e5, e6] at hN
       exact (hST.out _ _ _ _).1 hN
    have st_1039 : ∀ (X : World) (u64 : Value) (u69 : Value) (u71 : Value) (g72 : Nat) (c72 : Nat) (g9 : Nat) (T : HT w3 X) (R72 : HS w3 X L72 (i + 1) g72 c72) (B9 : HB w3 X 26 g9 nil4) (d72_9 : ¬ g72 = g9), ST 8 #[true, true, true, true, true, true, true, true, true, true, true, true, true, false, false, true, true, true, true, true, false, true, false, false, true, true, true, true, true, false, false, true, false] (((((A0.put (some 64) u64).put (some 69) u69).put (some 71) u71).put (some 72) (.slice (some ⟨g72, 0, none⟩) (i + 1) c72)).put (some 9) (.pointer (some ⟨g9, 0, none⟩))) X := by
     intro X u64 u69 u71 g72 c72 g9 T R72 B9 d72_9
     have hH : Turn (fun _ => False) w3 X := T.out
     refine (hST.out _ _ _ _).2 ?_
     simp only [hA0, Act.put, e4, e5, e6]
     refine wpAnyH_ready (rs := [13, 14, 22]) (by kernel_rfl) (by simp) ?_
     refine AllReadyH.cons rfl (fun K hK => ?_) (AllReadyH.cons rfl (fun K hK => ?_) (AllReadyH.cons rfl (fun K hK => ?_) AllReadyH.nil))
     · refine sT rfl _ _ rfl L72 (n.keys.drop i) MK.keys g72 c72 (i + 1) (off8 A1 c1 i) (nk - i) (c1 - i) (nk + 1) HM76.out HE77.out HN77.out HG77.out rfl rfl T R72 (HK2.out.turn T.out) PK2.out ?_
       intro g77 c77 X1 r ht hg T1
       refine hK.out _ _ T1.out (fun _ => ?_)
       try simp only [e1, e2, e3, Act.put, e4, e5, e6]
       have hN := st_1055 X1 u64 u69 u71 (.slice (some ⟨g72, 0, none⟩) (i + 1) c72) g77 c77 g9 T1 r (B9.tn ht (nsy d72_9)) (apn hg d72_9 B9.lt)
       simp only [hA0, Act.put, e4, e5, e6] at hN
       exact (hST.out _ _ _ _).1 hN
     · refine oI rfl rfl ?_
       refine hK.out _ _ (T.out.alloc _) (fun _ => ?_)
       try simp only [e1, e2, e3, Act.put, e4, e5, e6]
       refine wpAnyH_named (fun X1 e => ?_)
       have T1 := T.al e
       have hN := st_1071 X1 u64 u69 u71 g72 c72 X.heap.size 0 g9 T1 (R72.al e) (T.eI e) (B9.al e) (aln R72.lt) d72_9 (nsy (aln B9.lt))
       simp only [hA0, Act.put, e4, e5, e6] at hN
       exact (hST.out _ _ _ _).1 hN
     · refine oI1 rfl 85 kid rfl rfl ?_
       refine hK.out _ _ (T.out.alloc _) (fun _ => ?_)
       try simp only [e1, e2, e3, Act.put, e4, e5, e6]
       refine wpAnyH_named (fun X1 e => ?_)
       have T1 := T.al e
       have hN := st_1167 X1 u64 u69 u71 g72 c72 g9 X.heap.size T1 (R72.al e) (B9.al e) (T.nw [.int .i64 kid] e) d72_9 (aln R72.lt) (aln B9.lt)
       simp only [hA0, Act.put, e4, e5, e6] at hN
       exact (hST.out _ _ _ _).1 hN
    have st_167 : ∀ (X : World) (u64 : Value) (g69 : Nat) (c69 : Nat) (g78 : Nat) (c78 : Nat) (g71 : Nat) (g86 : Nat) (T : HT w3 X) (R69 : HS w3 X L69 i g69 c69) (R78 : HJ w3 X [] 0 g78 c78) (B71 : HB w3 X 9 g71 [.string key]) (B86 : HB w3 X 3 g86 [.int .i64 kid]) (d69_78 : ¬ g69 = g78) (d69_71 : ¬ g69 = g71) (d78_71 : ¬ g78 = g71) (d69_86 : ¬ g69 = g86) (d78_86 : ¬ g78 = g86) (d71_86 : ¬ g71 = g86), ST 8 #[true, true, true, true, true, true, true, true, false, true, true, true, true, false, true, true, true, true, true, true, false, true, true, false, true, true, true, true, true, false, false, false, false] (((((A0.put (some 64) u64).put (some 69) (.slice (some ⟨g69, 0, none⟩) i c69)).put (some 71) (.slice (some ⟨g71, 0, none⟩) 1 1)).put (some 78) (.slice (some ⟨g78, 0, none⟩) 0 c78)).put (some 86) (.slice (some ⟨g86, 0, none⟩) 1 1)) X := by
     intro X u64 g69 c69 g78 c78 g71 g86 T R69 R78 B71 B86 d69_78 d69_71 d78_71 d69_86 d78_86 d71_86
     have hH : Turn (fun _ => False) w3 X := T.out
     refine (hST.out _ _ _ _).2 ?_
     simp only [hA0, Act.put, e4, e5, e6]
     refine wpAnyH_ready (rs := [8, 31]) (by kernel_rfl) (by simp) ?_
     refine AllReadyH.cons rfl (fun K hK => ?_) (AllReadyH.cons rfl (fun K hK => ?_) AllReadyH.nil)
     · refine sT rfl _ _ rfl L69 [key] L72 g69 c69 i (some ⟨g71, 0, none⟩) 1 1 (i + 1) rfl HE72.out HN72.out HG72.out rfl rfl T R69 (sr_of_blk (L := [key]) B71.out.1) (one_cp g71) ?_
       intro g72 c72 X1 r ht hg T1
       refine hK.out _ _ T1.out (fun _ => ?_)
       try simp only [e1, e2, e3, Act.put, e4, e5, e6]
       have hN := st_175 X1 u64 (.slice (some ⟨g69, 0, none⟩) i c69) (.slice (some ⟨g71, 0, none⟩) 1 1) g72 c72 g78 c78 g86 T1 r (R78.tn ht (nsy d69_78)) (B86.tn ht (nsy d69_86)) (apn hg d69_78 R78.lt) (apn hg d69_86 B86.lt) d78_86
       simp only [hA0, Act.put, e4, e5, e6] at hN
       exact (hST.out _ _ _ _).1 hN
     · refine oA rfl rfl ?_
       refine hK.out _ _ (T.out.alloc _) (fun _ => ?_)
       try simp only [e1, e2, e3, Act.put, e4, e5, e6]
       refine wpAnyH_named (fun X1 e => ?_)
       have T1 := T.al e
       have hN := st_1191 X1 u64 g69 c69 g78 c78 X.heap.size g71 g86 T1 (R69.al e) (R78.al e) (T.nw nil4 e) (B71.al e) (B86.al e) d69_78 (aln R69.lt) (aln R78.lt) d69_71 d78_71 (nsy (aln B71.lt)) d69_86 d78_86 (nsy (aln B86.lt)) d71_86
       simp only [hA0, Act.put, e4, e5, e6] at hN
       exact (hST.out _ _ _ _).1 hN
    have st_1063 : ∀ (X : World) (u64 : Value) (g69 : Nat) (c69 : Nat) (g78 : Nat) (c78 : Nat) (g9 : Nat) (g71 : Nat) (T : HT w3 X) (R69 : HS w3 X L69 i g69 c69) (R78 : HJ w3 X [] 0 g78 c78) (B9 : HB w3 X 26 g9 nil4) (B71 : HB w3 X 9 g71 [.string key]) (d69_78 : ¬ g69 = g78) (d69_9 : ¬ g69 = g9) (d78_9 : ¬ g78 = g9) (d69_71 : ¬ g69 = g71) (d78_71 : ¬ g78 = g71) (d9_71 : ¬ g9 = g71), ST 8 #[true, true, true, true, true, true, true, true, false, true, true, true, true, false, true, true, true, true, true, true, false, true, false, false, true, true, true, true, true, false, false, true, false] (((((A0.put (some 64) u64).put (some 69) (.slice (some ⟨g69, 0, none⟩) i c69)).put (some 71) (.slice (some ⟨g71, 0, none⟩) 1 1)).put (some 78) (.slice (some ⟨g78, 0, none⟩) 0 c78)).put (some 9) (.pointer (some ⟨g9, 0, none⟩))) X := by
     intro X u64 g69 c69 g78 c78 g9 g71 T R69 R78 B9 B71 d69_78 d69_9 d78_9 d69_71 d78_71 d9_71
     have hH : Turn (fun _ => False) w3 X := T.out
     refine (hST.out _ _ _ _).2 ?_
     simp only [hA0, Act.put, e4, e5, e6]
     refine wpAnyH_ready (rs := [8, 22]) (by kernel_rfl) (by simp) ?_
     refine AllReadyH.cons rfl (fun K hK => ?_) (AllReadyH.cons rfl (fun K hK => ?_) AllReadyH.nil)
     · refine sT rfl _ _ rfl L69 [key] L72 g69 c69 i (some ⟨g71, 0, none⟩) 1 1 (i + 1) rfl HE72.out HN72.out HG72.out rfl rfl T R69 (sr_of_blk (L := [key]) B71.out.1) (one_cp g71) ?_
       intro g72 c72 X1 r ht hg T1
       refine hK.out _ _ T1.out (fun _ => ?_)
       try simp only [e1, e2, e3, Act.put, e4, e5, e6]
       have hN := st_1071 X1 u64 (.slice (some ⟨g69, 0, none⟩) i c69) (.slice (some ⟨g71, 0, none⟩) 1 1) g72 c72 g78 c78 g9 T1 r (R78.tn ht (nsy d69_78)) (B9.tn ht (nsy d69_9)) (apn hg d69_78 R78.lt) (apn hg d69_9 B9.lt) d78_9
       simp only [hA0, Act.put, e4, e5, e6] at hN
       exact (hST.out _ _ _ _).1 hN
     · refine oI1 rfl 85 kid rfl rfl ?_
       refine hK.out _ _ (T.out.alloc _) (fun _ => ?_)
       try simp only [e1, e2, e3, Act.put, e4, e5, e6]
       refine wpAnyH_named (fun X1 e => ?_)
       have T1 := T.al e
       have hN := st_1191 X1 u64 g69 c69 g78 c78 g9 g71 X.heap.size T1 (R69.al e) (R78.al e) (B9.al e) (B71.al e) (T.nw [.int .i64 kid] e) d69_78 d69_9 d78_9 d69_71 d78_71 d9_71 (aln R69.lt) (aln R78.lt) (aln B9.lt) (aln B71.lt)
       simp only [hA0, Act.put, e4, e5, e6] at hN
       exact (hST.out _ _ _ _).1 hN
    have st_1159 : ∀ (X : World) (u64 : Value) (g69 : Nat) (c69 : Nat) (g9 : Nat) (g71 : Nat) (g86 : Nat) (T : HT w3 X) (R69 : HS w3 X L69 i g69 c69) (B9 : HB w3 X 26 g9 nil4) (B71 : HB w3 X 9 g71 [.string key]) (B86 : HB w3 X 3 g86 [.int .i64 kid]) (d69_9 : ¬ g69 = g9) (d69_71 : ¬ g69 = g71) (d9_71 : ¬ g9 = g71) (d69_86 : ¬ g69 = g86) (d9_86 : ¬ g9 = g86) (d71_86 : ¬ g71 = g86), ST 8 #[true, true, true, true, true, true, true, true, false, true, true, true, true, false, false, true, true, true, true, true, false, true, true, false, true, true, true, true, true, false, false, true, false] (((((A0.put (some 64) u64).put (some 69) (.slice (some ⟨g69, 0, none⟩) i c69)).put (some 71) (.slice (some ⟨g71, 0, none⟩) 1 1)).put (some 86) (.slice (some ⟨g86, 0, none⟩) 1 1)).put (some 9) (.pointer (some ⟨g9, 0, none⟩))) X := by
     intro X u64 g69 c69 g9 g71 g86 T R69 B9 B71 B86 d69_9 d69_71 d9_71 d69_86 d9_86 d71_86
     have hH : Turn (fun _ => False) w3 X := T.out
     refine (hST.out _ _ _ _).2 ?_
     simp only [hA0, Act.put, e4, e5, e6]
     refine wpAnyH_ready (rs := [8, 14]) (by kernel_rfl) (by simp) ?_
     refine AllReadyH.cons rfl (fun K hK => ?_) (AllReadyH.cons rfl (fun K hK => ?_) AllReadyH.nil)
     · refine sT rfl _ _ rfl L69 [key] L72 g69 c69 i (some ⟨g71, 0, none⟩) 1 1 (i + 1) rfl HE72.out HN72.out HG72.out rfl rfl T R69 (sr_of_blk (L := [key]) B71.out.1) (one_cp g71) ?_
       intro g72 c72 X1 r ht hg T1
       refine hK.out _ _ T1.out (fun _ => ?_)
       try simp only [e1, e2, e3, Act.put, e4, e5, e6]
       have hN := st_1167 X1 u64 (.slice (some ⟨g69, 0, none⟩) i c69) (.slice (some ⟨g71, 0, none⟩) 1 1) g72 c72 g9 g86 T1 r (B9.tn ht (nsy d69_9)) (B86.tn ht (nsy d69_86)) (apn hg d69_9 B9.lt) (apn hg d69_86 B86.lt) d9_86
       simp only [hA0, Act.put, e4, e5, e6] at hN
       exact (hST.out _ _ _ _).1 hN
     · refine oI rfl rfl ?_
       refine hK.out _ _ (T.out.alloc _) (fun _ => ?_)
       try simp only [e1, e2, e3, Act.put, e4, e5, e6]
       refine wpAnyH_named (fun X1 e => ?_)
       have T1 := T.al e
       have hN := st_1191 X1 u64 g69 c69 X.heap.size 0 g9 g71 g86 T1 (R69.al e) (T.eI e) (B9.al e) (B71.al e) (B86.al e) (aln R69.lt) d69_9 (nsy (aln B9.lt)) d69_71 (nsy (aln B71.lt)) d9_71 d69_86 (nsy (aln B86.lt)) d9_86 d71_86
       simp only [hA0, Act.put, e4, e5, e6] at hN
       exact (hST.out _ _ _ _).1 hN
    have st_1187 : ∀ (X : World) (u64 : Value) (g69 : Nat) (c69 : Nat) (g78 : Nat) (c78 : Nat) (g9 : Nat) (g86 : Nat) (T : HT w3 X) (R69 : HS w3 X L69 i g69 c69) (R78 : HJ w3 X [] 0 g78 c78) (B9 : HB w3 X 26 g9 nil4) (B86 : HB w3 X 3 g86 [.int .i64 kid]) (d69_78 : ¬ g69 = g78) (d69_9 : ¬ g69 = g9) (d78_9 : ¬ g78 = g9) (d69_86 : ¬ g69 = g86) (d78_86 : ¬ g78 = g86) (d9_86 : ¬ g9 = g86), ST 8 #[true, true, true, true, true, true, true, false, false, true, true, true, true, false, true, true, true, true, true, true, false, true, true, false, true, true, true, true, true, false, false, true, false] (((((A0.put (some 64) u64).put (some 69) (.slice (some ⟨g69, 0, none⟩) i c69)).put (some 78) (.slice (some ⟨g78, 0, none⟩) 0 c78)).put (some 86) (.slice (some ⟨g86, 0, none⟩) 1 1)).put (some 9) (.pointer (some ⟨g9, 0, none⟩))) X := by
     intro X u64 g69 c69 g78 c78 g9 g86 T R69 R78 B9 B86 d69_78 d69_9 d78_9 d69_86 d78_86 d9_86
     have hH : Turn (fun _ => False) w3 X := T.out
     refine (hST.out _ _ _ _).2 ?_
     simp only [hA0, Act.put, e4, e5, e6]
     refine wpAnyH_ready (rs := [7]) (by kernel_rfl) (by simp) ?_
     refine AllReadyH.cons rfl (fun K hK => ?_) AllReadyH.nil
     refine oS1 rfl 70 key rfl rfl ?_
     refine hK.out _ _ (T.out.alloc _) (fun _ => ?_)
     try simp only [e1, e2, e3, Act.put, e4, e5, e6]
     refine wpAnyH_named (fun X1 e => ?_)
     have T1 := T.al e
     have hN := st_1191 X1 u64 g69 c69 g78 c78 g9 X.heap.size g86 T1 (R69.al e) (R78.al e) (B9.al e) (T.nw [.string key] e) (B86.al e) d69_78 d69_9 d78_9 (aln R69.lt) (aln R78.lt) (aln B9.lt) d69_86 d78_86 d9_86 (nsy (aln B86.lt))
     simp only [hA0, Act.put, e4, e5, e6] at hN
     exact (hST.out _ _ _ _).1 hN
    have st_1189 : ∀ (X : World) (g64 : Nat) (c64 : Nat) (g78 : Nat) (c78 : Nat) (g9 : Nat) (g71 : Nat) (g86 : Nat) (T : HT w3 X) (R64 : HS w3 X [] 0 g64 c64) (R78 : HJ w3 X [] 0 g78 c78) (B9 : HB w3 X 26 g9 nil4) (B71 : HB w3 X 9 g71 [.string key]) (B86 : HB w3 X 3 g86 [.int .i64 kid]) (d64_78 : ¬ g64 = g78) (d64_9 : ¬ g64 = g9) (d78_9 : ¬ g78 = g9) (d64_71 : ¬ g64 = g71) (d78_71 : ¬ g78 = g71) (d9_71 : ¬ g9 = g71) (d64_86 : ¬ g64 = g86) (d78_86 : ¬ g78 = g86) (d9_86 : ¬ g9 = g86) (d71_86 : ¬ g71 = g86), ST 8 #[true, true, true, true, true, false, true, true, false, true, true, true, true, false, true, true, true, true, true, true, false, true, true, false, true, true, true, true, true, false, false, true, false] (((((A0.put (some 64) (.slice (some ⟨g64, 0, none⟩) 0 c64)).put (some 71) (.slice (some ⟨g71, 0, none⟩) 1 1)).put (some 78) (.slice (some ⟨g78, 0, none⟩) 0 c78)).put (some 86) (.slice (some ⟨g86, 0, none⟩) 1 1)).put (some 9) (.pointer (some ⟨g9, 0, none⟩))) X := by
     intro X g64 c64 g78 c78 g9 g71 g86 T R64 R78 B9 B71 B86 d64_78 d64_9 d78_9 d64_71 d78_71 d9_71 d64_86 d78_86 d9_86 d71_86
     have hH : Turn (fun _ => False) w3 X := T.out
     refine (hST.out _ _ _ _).2 ?_
     simp only [hA0, Act.put, e4, e5, e6]
     refine wpAnyH_ready (rs := [5]) (by kernel_rfl) (by simp) ?_
     refine AllReadyH.cons rfl (fun K hK => ?_) AllReadyH.nil
     refine sT rfl _ _ rfl [] (n.keys.take i) L69 g64 c64 0 A1 i c1 i HM68.out HE69.out HN69.out HG69.out rfl rfl T R64 (HK1.out.turn T.out) PK1.out ?_
     intro g69 c69 X1 r ht hg T1
     refine hK.out _ _ T1.out (fun _ => ?_)
     try simp only [e1, e2, e3, Act.put, e4, e5, e6]
     have hN := st_1191 X1 (.slice (some ⟨g64, 0, none⟩) 0 c64) g69 c69 g78 c78 g9 g71 g86 T1 r (R78.tn ht (nsy d64_78)) (B9.tn ht (nsy d64_9)) (B71.tn ht (nsy d64_71)) (B86.tn ht (nsy d64_86)) (apn hg d64_78 R78.lt) (apn hg d64_9 B9.lt) d78_9 (apn hg d64_71 B71.lt) d78_71 d9_71 (apn hg d64_86 B86.lt) d78_86 d9_86 d71_86
     simp only [hA0, Act.put, e4, e5, e6] at hN
     exact (hST.out _ _ _ _).1 hN
    have st_15 : ∀ (X : World) (u64 : Value) (u69 : Value) (u71 : Value) (g72 : Nat) (c72 : Nat) (T : HT w3 X) (R72 : HS w3 X L72 (i + 1) g72 c72), ST 9 #[true, true, true, true, true, true, true, true, true, true, true, true, true, false, false, true, true, true, true, true, false, true, false, false, true, true, true, true, true, false, false, false, false] ((((A0.put (some 64) u64).put (some 69) u69).put (some 71) u71).put (some 72) (.slice (some ⟨g72, 0, none⟩) (i + 1) c72)) X := by
     intro X u64 u69 u71 g72 c72 T R72
     have hH : Turn (fun _ => False) w3 X := T.out
     refine (hST.out _ _ _ _).2 ?_
     simp only [hA0, Act.put, e4, e5, e6]
     refine wpAnyH_ready (rs := [13, 14, 22, 31]) (by kernel_rfl) (by simp) ?_
     refine AllReadyH.cons rfl (fun K hK => ?_) (AllReadyH.cons rfl (fun K hK => ?_) (AllReadyH.cons rfl (fun K hK => ?_) (AllReadyH.cons rfl (fun K hK => ?_) AllReadyH.nil)))
     · refine sT rfl _ _ rfl L72 (n.keys.drop i) MK.keys g72 c72 (i + 1) (off8 A1 c1 i) (nk - i) (c1 - i) (nk + 1) HM76.out HE77.out HN77.out HG77.out rfl rfl T R72 (HK2.out.turn T.out) PK2.out ?_
       intro g77 c77 X1 r ht hg T1
       refine hK.out _ _ T1.out (fun _ => ?_)
       try simp only [e1, e2, e3, Act.put, e4, e5, e6]
       have hN := st_31 X1 u64 u69 u71 (.slice (some ⟨g72, 0, none⟩) (i + 1) c72) g77 c77 T1 r
       simp only [hA0, Act.put, e4, e5, e6] at hN
       exact (hST.out _ _ _ _).1 hN
     · refine oI rfl rfl ?_
       refine hK.out _ _ (T.out.alloc _) (fun _ => ?_)
       try simp only [e1, e2, e3, Act.put, e4, e5, e6]
       refine wpAnyH_named (fun X1 e => ?_)
       have T1 := T.al e
       have hN := st_47 X1 u64 u69 u71 g72 c72 X.heap.size 0 T1 (R72.al e) (T.eI e) (aln R72.lt)
       simp only [hA0, Act.put, e4, e5, e6] at hN
       exact (hST.out _ _ _ _).1 hN
     · refine oI1 rfl 85 kid rfl rfl ?_
       refine hK.out _ _ (T.out.alloc _) (fun _ => ?_)
       try simp only [e1, e2, e3, Act.put, e4, e5, e6]
       refine wpAnyH_named (fun X1 e => ?_)
       have T1 := T.al e
       have hN := st_143 X1 u64 u69 u71 g72 c72 X.heap.size T1 (R72.al e) (T.nw [.int .i64 kid] e) (aln R72.lt)
       simp only [hA0, Act.put, e4, e5, e6] at hN
       exact (hST.out _ _ _ _).1 hN
     · refine oA rfl rfl ?_
       refine hK.out _ _ (T.out.alloc _) (fun _ => ?_)
       try simp only [e1, e2, e3, Act.put, e4, e5, e6]
       refine wpAnyH_named (fun X1 e => ?_)
       have T1 := T.al e
       have hN := st_1039 X1 u64 u69 u71 g72 c72 X.heap.size T1 (R72.al e) (T.nw nil4 e) (aln R72.lt)
       simp only [hA0, Act.put, e4, e5, e6] at hN
       exact (hST.out _ _ _ _).1 hN
    have st_39 : ∀ (X : World) (u64 : Value) (g69 : Nat) (c69 : Nat) (g78 : Nat) (c78 : Nat) (g71 : Nat) (T : HT w3 X) (R69 : HS w3 X L69 i g69 c69) (R78 : HJ w3 X [] 0 g78 c78) (B71 : HB w3 X 9 g71 [.string key]) (d69_78 : ¬ g69 = g78) (d69_71 : ¬ g69 = g71) (d78_71 : ¬ g78 = g71), ST 9 #[true, true, true, true, true, true, true, true, false, true, true, true, true, false, true, true, true, true, true, true, false, true, false, false, true, true, true, true, true, false, false, false, false] ((((A0.put (some 64) u64).put (some 69) (.slice (some ⟨g69, 0, none⟩) i c69)).put (some 71) (.slice (some ⟨g71, 0, none⟩) 1 1)).put (some 78) (.slice (some ⟨g78, 0, none⟩) 0 c78)) X := by
     intro X u64 g69 c69 g78 c78 g71 T R69 R78 B71 d69_78 d69_71 d78_71
     have hH : Turn (fun _ => False) w3 X := T.out
     refine (hST.out _ _ _ _).2 ?_
     simp only [hA0, Act.put, e4, e5, e6]
     refine wpAnyH_ready (rs := [8, 22, 31]) (by kernel_rfl) (by simp) ?_
     refine AllReadyH.cons rfl (fun K hK => ?_) (AllReadyH.cons rfl (fun K hK => ?_) (AllReadyH.cons rfl (fun K hK => ?_) AllReadyH.nil))
     · refine sT rfl _ _ rfl L69 [key] L72 g69 c69 i (some ⟨g71, 0, none⟩) 1 1 (i + 1) rfl HE72.out HN72.out HG72.out rfl rfl T R69 (sr_of_blk (L := [key]) B71.out.1) (one_cp g71) ?_
       intro g72 c72 X1 r ht hg T1
       refine hK.out _ _ T1.out (fun _ => ?_)
       try simp only [e1, e2, e3, Act.put, e4, e5, e6]
       have hN := st_47 X1 u64 (.slice (some ⟨g69, 0, none⟩) i c69) (.slice (some ⟨g71, 0, none⟩) 1 1) g72 c72 g78 c78 T1 r (R78.tn ht (nsy d69_78)) (apn hg d69_78 R78.lt)
       simp only [hA0, Act.put, e4, e5, e6] at hN
       exact (hST.out _ _ _ _).1 hN
     · refine oI1 rfl 85 kid rfl rfl ?_
       refine hK.out _ _ (T.out.alloc _) (fun _ => ?_)
       try simp only [e1, e2, e3, Act.put, e4, e5, e6]
       refine wpAnyH_named (fun X1 e => ?_)
       have T1 := T.al e
       have hN := st_167 X1 u64 g69 c69 g78 c78 g71 X.heap.size T1 (R69.al e) (R78.al e) (B71.al e) (T.nw [.int .i64 kid] e) d69_78 d69_71 d78_71 (aln R69.lt) (aln R78.lt) (aln B71.lt)
       simp only [hA0, Act.put, e4, e5, e6] at hN
       exact (hST.out _ _ _ _).1 hN
     · refine oA rfl rfl ?_
       refine hK.out _ _ (T.out.alloc _) (fun _ => ?_)
       try simp only [e1, e2, e3, Act.put, e4, e5, e6]
       refine wpAnyH_named (fun X1 e => ?_)
       have T1 := T.al e
       have hN := st_1063 X1 u64 g69 c69 g78 c78 X.heap.size g71 T1 (R69.al e) (R78.al e) (T.nw nil4 e) (B71.al e) d69_78 (aln R69.lt) (aln R78.lt) d69_71 d78_71 (nsy (aln B71.lt))
       simp only [hA0, Act.put, e4, e5, e6] at hN
       exact (hST.out _ _ _ _).1 hN
    have st_135 : ∀ (X : World) (u64 : Value) (g69 : Nat) (c69 : Nat) (g71 : Nat) (g86 : Nat) (T : HT w3 X) (R69 : HS w3 X L69 i g69 c69) (B71 : HB w3 X 9 g71 [.string key]) (B86 : HB w3 X 3 g86 [.int .i64 kid]) (d69_71 : ¬ g69 = g71) (d69_86 : ¬ g69 = g86) (d71_86 : ¬ g71 = g86), ST 9 #[true, true, true, true, true, true, true, true, false, true, true, true, true, false, false, true, true, true, true, true, false, true, true, false, true, true, true, true, true, false, false, false, false] ((((A0.put (some 64) u64).put (some 69) (.slice (some ⟨g69, 0, none⟩) i c69)).put (some 71) (.slice (some ⟨g71, 0, none⟩) 1 1)).put (some 86) (.slice (some ⟨g86, 0, none⟩) 1 1)) X := by
     intro X u64 g69 c69 g71 g86 T R69 B71 B86 d69_71 d69_86 d71_86
     have hH : Turn (fun _ => False) w3 X := T.out
     refine (hST.out _ _ _ _).2 ?_
     simp only [hA0, Act.put, e4, e5, e6]
     refine wpAnyH_ready (rs := [8, 14, 31]) (by kernel_rfl) (by simp) ?_
     refine AllReadyH.cons rfl (fun K hK => ?_) (AllReadyH.cons rfl (fun K hK => ?_) (AllReadyH.cons rfl (fun K hK => ?_) AllReadyH.nil))
     · refine sT rfl _ _ rfl L69 [key] L72 g69 c69 i (some ⟨g71, 0, none⟩) 1 1 (i + 1) rfl HE72.out HN72.out HG72.out rfl rfl T R69 (sr_of_blk (L := [key]) B71.out.1) (one_cp g71) ?_
       intro g72 c72 X1 r ht hg T1
       refine hK.out _ _ T1.out (fun _ => ?_)
       try simp only [e1, e2, e3, Act.put, e4, e5, e6]
       have hN := st_143 X1 u64 (.slice (some ⟨g69, 0, none⟩) i c69) (.slice (some ⟨g71, 0, none⟩) 1 1) g72 c72 g86 T1 r (B86.tn ht (nsy d69_86)) (apn hg d69_86 B86.lt)
       simp only [hA0, Act.put, e4, e5, e6] at hN
       exact (hST.out _ _ _ _).1 hN
     · refine oI rfl rfl ?_
       refine hK.out _ _ (T.out.alloc _) (fun _ => ?_)
       try simp only [e1, e2, e3, Act.put, e4, e5, e6]
       refine wpAnyH_named (fun X1 e => ?_)
       have T1 := T.al e
       have hN := st_167 X1 u64 g69 c69 X.heap.size 0 g71 g86 T1 (R69.al e) (T.eI e) (B71.al e) (B86.al e) (aln R69.lt) d69_71 (nsy (aln B71.lt)) d69_86 (nsy (aln B86.lt)) d71_86
       simp only [hA0, Act.put, e4, e5, e6] at hN
       exact (hST.out _ _ _ _).1 hN
     · refine oA rfl rfl ?_
       refine hK.out _ _ (T.out.alloc _) (fun _ => ?_)
       try simp only [e1, e2, e3, Act.put, e4, e5, e6]
       refine wpAnyH_named (fun X1 e => ?_)
       have T1 := T.al e
       have hN := st_1159 X1 u64 g69 c69 X.heap.size g71 g86 T1 (R69.al e) (T.nw nil4 e) (B71.al e) (B86.al e) (aln R69.lt) d69_71 (nsy (aln B71.lt)) d69_86 (nsy (aln B86.lt)) d71_86
       simp only [hA0, Act.put, e4, e5, e6] at hN
       exact (hST.out _ _ _ _).1 hN
    have st_1031 : ∀ (X : World) (u64 : Value) (g69 : Nat) (c69 : Nat) (g9 : Nat) (g71 : Nat) (T : HT w3 X) (R69 : HS w3 X L69 i g69 c69) (B9 : HB w3 X 26 g9 nil4) (B71 : HB w3 X 9 g71 [.string key]) (d69_9 : ¬ g69 = g9) (d69_71 : ¬ g69 = g71) (d9_71 : ¬ g9 = g71), ST 9 #[true, true, true, true, true, true, true, true, false, true, true, true, true, false, false, true, true, true, true, true, false, true, false, false, true, true, true, true, true, false, false, true, false] ((((A0.put (some 64) u64).put (some 69) (.slice (some ⟨g69, 0, none⟩) i c69)).put (some 71) (.slice (some ⟨g71, 0, none⟩) 1 1)).put (some 9) (.pointer (some ⟨g9, 0, none⟩))) X := by
     intro X u64 g69 c69 g9 g71 T R69 B9 B71 d69_9 d69_71 d9_71
     have hH : Turn (fun _ => False) w3 X := T.out
     refine (hST.out _ _ _ _).2 ?_
     simp only [hA0, Act.put, e4, e5, e6]
     refine wpAnyH_ready (rs := [8, 14, 22]) (by kernel_rfl) (by simp) ?_
     refine AllReadyH.cons rfl (fun K hK => ?_) (AllReadyH.cons rfl (fun K hK => ?_) (AllReadyH.cons rfl (fun K hK => ?_) AllReadyH.nil))
     · refine sT rfl _ _ rfl L69 [key] L72 g69 c69 i (some ⟨g71, 0, none⟩) 1 1 (i + 1) rfl HE72.out HN72.out HG72.out rfl rfl T R69 (sr_of_blk (L := [key]) B71.out.1) (one_cp g71) ?_
       intro g72 c72 X1 r ht hg T1
       refine hK.out _ _ T1.out (fun _ => ?_)
       try simp only [e1, e2, e3, Act.put, e4, e5, e6]
       have hN := st_1039 X1 u64 (.slice (some ⟨g69, 0, none⟩) i c69) (.slice (some ⟨g71, 0, none⟩) 1 1) g72 c72 g9 T1 r (B9.tn ht (nsy d69_9)) (apn hg d69_9 B9.lt)
       simp only [hA0, Act.put, e4, e5, e6] at hN
       exact (hST.out _ _ _ _).1 hN
     · refine oI rfl rfl ?_
       refine hK.out _ _ (T.out.alloc _) (fun _ => ?_)
       try simp only [e1, e2, e3, Act.put, e4, e5, e6]
       refine wpAnyH_named (fun X1 e => ?_)
       have T1 := T.al e
       have hN := st_1063 X1 u64 g69 c69 X.heap.size 0 g9 g71 T1 (R69.al e) (T.eI e) (B9.al e) (B71.al e) (aln R69.lt) d69_9 (nsy (aln B9.lt)) d69_71 (nsy (aln B71.lt)) d9_71
       simp only [hA0, Act.put, e4, e5, e6] at hN
       exact (hST.out _ _ _ _).1 hN
     · refine oI1 rfl 85 kid rfl rfl ?_
       refine hK.out _ _ (T.out.alloc _) (fun _ => ?_)
       try simp only [e1, e2, e3, Act.put, e4, e5, e6]
       refine wpAnyH_named (fun X1 e => ?_)
       have T1 := T.al e
       have hN := st_1159 X1 u64 g69 c69 g9 g71 X.heap.size T1 (R69.al e) (B9.al e) (B71.al e) (T.nw [.int .i64 kid] e) d69_9 d69_71 d9_71 (aln R69.lt) (aln B9.lt) (aln B71.lt)
       simp only [hA0, Act.put, e4, e5, e6] at hN
       exact (hST.out _ _ _ _).1 hN
    have st_163 : ∀ (X : World) (u64 : Value) (g69 : Nat) (c69 : Nat) (g78 : Nat) (c78 : Nat) (g86 : Nat) (T : HT w3 X) (R69 : HS w3 X L69 i g69 c69) (R78 : HJ w3 X [] 0 g78 c78) (B86 : HB w3 X 3 g86 [.int .i64 kid]) (d69_78 : ¬ g69 = g78) (d69_86 : ¬ g69 = g86) (d78_86 : ¬ g78 = g86), ST 9 #[true, true, true, true, true, true, true, false, false, true, true, true, true, false, true, true, true, true, true, true, false, true, true, false, true, true, true, true, true, false, false, false, false] ((((A0.put (some 64) u64).put (some 69) (.slice (some ⟨g69, 0, none⟩) i c69)).put (some 78) (.slice (some ⟨g78, 0, none⟩) 0 c78)).put (some 86) (.slice (some ⟨g86, 0, none⟩) 1 1)) X := by
     intro X u64 g69 c69 g78 c78 g86 T R69 R78 B86 d69_78 d69_86 d78_86
     have hH : Turn (fun _ => False) w3 X := T.out
     refine (hST.out _ _ _ _).2 ?_
     simp only [hA0, Act.put, e4, e5, e6]
     refine wpAnyH_ready (rs := [7, 31]) (by kernel_rfl) (by simp) ?_
     refine AllReadyH.cons rfl (fun K hK => ?_) (AllReadyH.cons rfl (fun K hK => ?_) AllReadyH.nil)
     · refine oS1 rfl 70 key rfl rfl ?_
       refine hK.out _ _ (T.out.alloc _) (fun _ => ?_)
       try simp only [e1, e2, e3, Act.put, e4, e5, e6]
       refine wpAnyH_named (fun X1 e => ?_)
       have T1 := T.al e
       have hN := st_167 X1 u64 g69 c69 g78 c78 X.heap.size g86 T1 (R69.al e) (R78.al e) (T.nw [.string key] e) (B86.al e) d69_78 (aln R69.lt) (aln R78.lt) d69_86 d78_86 (nsy (aln B86.lt))
       simp only [hA0, Act.put, e4, e5, e6] at hN
       exact (hST.out _ _ _ _).1 hN
     · refine oA rfl rfl ?_
       refine hK.out _ _ (T.out.alloc _) (fun _ => ?_)
       try simp only [e1, e2, e3, Act.put, e4, e5, e6]
       refine wpAnyH_named (fun X1 e => ?_)
       have T1 := T.al e
       have hN := st_1187 X1 u64 g69 c69 g78 c78 X.heap.size g86 T1 (R69.al e) (R78.al e) (T.nw nil4 e) (B86.al e) d69_78 (aln R69.lt) (aln R78.lt) d69_86 d78_86 (nsy (aln B86.lt))
       simp only [hA0, Act.put, e4, e5, e6] at hN
       exact (hST.out _ _ _ _).1 hN
    have st_1059 : ∀ (X : World) (u64 : Value) (g69 : Nat) (c69 : Nat) (g78 : Nat) (c78 : Nat) (g9 : Nat) (T : HT w3 X) (R69 : HS w3 X L69 i g69 c69) (R78 : HJ w3 X [] 0 g78 c78) (B9 : HB w3 X 26 g9 nil4) (d69_78 : ¬ g69 = g78) (d69_9 : ¬ g69 = g9) (d78_9 : ¬ g78 = g9), ST 9 #[true, true, true, true, true, true, true, false, false, true, true, true, true, false, true, true, true, true, true, true, false, true, false, false, true, true, true, true, true, false, false, true, false] ((((A0.put (some 64) u64).put (some 69) (.slice (some ⟨g69, 0, none⟩) i c69)).put (some 78) (.slice (some ⟨g78, 0, none⟩) 0 c78)).put (some 9) (.pointer (some ⟨g9, 0, none⟩))) X := by
     intro X u64 g69 c69 g78 c78 g9 T R69 R78 B9 d69_78 d69_9 d78_9
     have hH : Turn (fun _ => False) w3 X := T.out
     refine (hST.out _ _ _ _).2 ?_
     simp only [hA0, Act.put, e4, e5, e6]
     refine wpAnyH_ready (rs := [7, 22]) (by kernel_rfl) (by simp) ?_
     refine AllReadyH.cons rfl (fun K hK => ?_) (AllReadyH.cons rfl (fun K hK => ?_) AllReadyH.nil)
     · refine oS1 rfl 70 key rfl rfl ?_
       refine hK.out _ _ (T.out.alloc _) (fun _ => ?_)
       try simp only [e1, e2, e3, Act.put, e4, e5, e6]
       refine wpAnyH_named (fun X1 e => ?_)
       have T1 := T.al e
       have hN := st_1063 X1 u64 g69 c69 g78 c78 g9 X.heap.size T1 (R69.al e) (R78.al e) (B9.al e) (T.nw [.string key] e) d69_78 d69_9 d78_9 (aln R69.lt) (aln R78.lt) (aln B9.lt)
       simp only [hA0, Act.put, e4, e5, e6] at hN
       exact (hST.out _ _ _ _).1 hN
     · refine oI1 rfl 85 kid rfl rfl ?_
       refine hK.out _ _ (T.out.alloc _) (fun _ => ?_)
       try simp only [e1, e2, e3, Act.put, e4, e5, e6]
       refine wpAnyH_named (fun X1 e => ?_)
       have T1 := T.al e
       have hN := st_1187 X1 u64 g69 c69 g78 c78 g9 X.heap.size T1 (R69.al e) (R78.al e) (B9.al e) (T.nw [.int .i64 kid] e) d69_78 d69_9 d78_9 (aln R69.lt) (aln R78.lt) (aln B9.lt)
       simp only [hA0, Act.put, e4, e5, e6] at hN
       exact (hST.out _ _ _ _).1 hN
    have st_1155 : ∀ (X : World) (u64 : Value) (g69 : Nat) (c69 : Nat) (g9 : Nat) (g86 : Nat) (T : HT w3 X) (R69 : HS w3 X L69 i g69 c69) (B9 : HB w3 X 26 g9 nil4) (B86 : HB w3 X 3 g86 [.int .i64 kid]) (d69_9 : ¬ g69 = g9) (d69_86 : ¬ g69 = g86) (d9_86 : ¬ g9 = g86), ST 9 #[true, true, true, true, true, true, true, false, false, true, true, true, true, false, false, true, true, true, true, true, false, true, true, false, true, true, true, true, true, false, false, true, false] ((((A0.put (some 64) u64).put (some 69) (.slice (some ⟨g69, 0, none⟩) i c69)).put (some 86) (.slice (some ⟨g86, 0, none⟩) 1 1)).put (some 9) (.pointer (some ⟨g9, 0, none⟩))) X := by
     intro X u64 g69 c69 g9 g86 T R69 B9 B86 d69_9 d69_86 d9_86
     have hH : Turn (fun _ => False) w3 X := T.out
     refine (hST.out _ _ _ _).2 ?_
     simp only [hA0, Act.put, e4, e5, e6]
     refine wpAnyH_ready (rs := [7, 14]) (by kernel_rfl) (by simp) ?_
     refine AllReadyH.cons rfl (fun K hK => ?_) (AllReadyH.cons rfl (fun K hK => ?_) AllReadyH.nil)
     · refine oS1 rfl 70 key rfl rfl ?_
       refine hK.out _ _ (T.out.alloc _) (fun _ => ?_)
       try simp only [e1, e2, e3, Act.put, e4, e5, e6]
       refine wpAnyH_named (fun X1 e => ?_)
       have T1 := T.al e
       have hN := st_1159 X1 u64 g69 c69 g9 X.heap.size g86 T1 (R69.al e) (B9.al e) (T.nw [.string key] e) (B86.al e) d69_9 (aln R69.lt) (aln B9.lt) d69_86 d9_86 (nsy (aln B86.lt))
       simp only [hA0, Act.put, e4, e5, e6] at hN
       exact (hST.out _ _ _ _).1 hN
     · refine oI rfl rfl ?_
       refine hK.out _ _ (T.out.alloc _) (fun _ => ?_)
       try simp only [e1, e2, e3, Act.put, e4, e5, e6]
       refine wpAnyH_named (fun X1 e => ?_)
       have T1 := T.al e
       have hN := st_1187 X1 u64 g69 c69 X.heap.size 0 g9 g86 T1 (R69.al e) (T.eI e) (B9.al e) (B86.al e) (aln R69.lt) d69_9 (nsy (aln B9.lt)) d69_86 (nsy (aln B86.lt)) d9_86
       simp only [hA0, Act.put, e4, e5, e6] at hN
       exact (hST.out _ _ _ _).1 hN
    have st_165 : ∀ (X : World) (g64 : Nat) (c64 : Nat) (g78 : Nat) (c78 : Nat) (g71 : Nat) (g86 : Nat) (T : HT w3 X) (R64 : HS w3 X [] 0 g64 c64) (R78 : HJ w3 X [] 0 g78 c78) (B71 : HB w3 X 9 g71 [.string key]) (B86 : HB w3 X 3 g86 [.int .i64 kid]) (d64_78 : ¬ g64 = g78) (d64_71 : ¬ g64 = g71) (d78_71 : ¬ g78 = g71) (d64_86 : ¬ g64 = g86) (d78_86 : ¬ g78 = g86) (d71_86 : ¬ g71 = g86), ST 9 #[true, true, true, true, true, false, true, true, false, true, true, true, true, false, true, true, true, true, true, true, false, true, true, false, true, true, true, true, true, false, false, false, false] ((((A0.put (some 64) (.slice (some ⟨g64, 0, none⟩) 0 c64)).put (some 71) (.slice (some ⟨g71, 0, none⟩) 1 1)).put (some 78) (.slice (some ⟨g78, 0, none⟩) 0 c78)).put (some 86) (.slice (some ⟨g86, 0, none⟩) 1 1)) X := by
     intro X g64 c64 g78 c78 g71 g86 T R64 R78 B71 B86 d64_78 d64_71 d78_71 d64_86 d78_86 d71_86
     have hH : Turn (fun _ => False) w3 X := T.out
     refine (hST.out _ _ _ _).2 ?_
     simp only [hA0, Act.put, e4, e5, e6]
     refine wpAnyH_ready (rs := [5, 31]) (by kernel_rfl) (by simp) ?_
     refine AllReadyH.cons rfl (fun K hK => ?_) (AllReadyH.cons rfl (fun K hK => ?_) AllReadyH.nil)
     · refine sT rfl _ _ rfl [] (n.keys.take i) L69 g64 c64 0 A1 i c1 i HM68.out HE69.out HN69.out HG69.out rfl rfl T R64 (HK1.out.turn T.out) PK1.out ?_
       intro g69 c69 X1 r ht hg T1
       refine hK.out _ _ T1.out (fun _ => ?_)
       try simp only [e1, e2, e3, Act.put, e4, e5, e6]
       have hN := st_167 X1 (.slice (some ⟨g64, 0, none⟩) 0 c64) g69 c69 g78 c78 g71 g86 T1 r (R78.tn ht (nsy d64_78)) (B71.tn ht (nsy d64_71)) (B86.tn ht (nsy d64_86)) (apn hg d64_78 R78.lt) (apn hg d64_71 B71.lt) d78_71 (apn hg d64_86 B86.lt) d78_86 d71_86
       simp only [hA0, Act.put, e4, e5, e6] at hN
       exact (hST.out _ _ _ _).1 hN
     · refine oA rfl rfl ?_
       refine hK.out _ _ (T.out.alloc _) (fun _ => ?_)
       try simp only [e1, e2, e3, Act.put, e4, e5, e6]
       refine wpAnyH_named (fun X1 e => ?_)
       have T1 := T.al e
       have hN := st_1189 X1 g64 c64 g78 c78 X.heap.size g71 g86 T1 (R64.al e) (R78.al e) (T.nw nil4 e) (B71.al e) (B86.al e) d64_78 (aln R64.lt) (aln R78.lt) d64_71 d78_71 (nsy (aln B71.lt)) d64_86 d78_86 (nsy (aln B86.lt)) d71_86
       simp only [hA0, Act.put, e4, e5, e6] at hN
       exact (hST.out _ _ _ _).1 hN
    have st_1061 : ∀ (X : World) (g64 : Nat) (c64 : Nat) (g78 : Nat) (c78 : Nat) (g9 : Nat) (g71 : Nat) (T : HT w3 X) (R64 : HS w3 X [] 0 g64 c64) (R78 : HJ w3 X [] 0 g78 c78) (B9 : HB w3 X 26 g9 nil4) (B71 : HB w3 X 9 g71 [.string key]) (d64_78 : ¬ g64 = g78) (d64_9 : ¬ g64 = g9) (d78_9 : ¬ g78 = g9) (d64_71 : ¬ g64 = g71) (d78_71 : ¬ g78 = g71) (d9_71 : ¬ g9 = g71), ST 9 #[true, true, true, true, true, false, true, true, false, true, true, true, true, false, true, true, true, true, true, true, false, true, false, false, true, true, true, true, true, false, false, true, false] ((((A0.put (some 64) (.slice (some ⟨g64, 0, none⟩) 0 c64)).put (some 71) (.slice (some ⟨g71, 0, none⟩) 1 1)).put (some 78) (.slice (some ⟨g78, 0, none⟩) 0 c78)).put (some 9) (.pointer (some ⟨g9, 0, none⟩))) X := by
     intro X g64 c64 g78 c78 g9 g71 T R64 R78 B9 B71 d64_78 d64_9 d78_9 d64_71 d78_71 d9_71
     have hH : Turn (fun _ => False) w3 X := T.out
     refine (hST.out _ _ _ _).2 ?_
     simp only [hA0, Act.put, e4, e5, e6]
     refine wpAnyH_ready (rs := [5, 22]) (by kernel_rfl) (by simp) ?_
     refine AllReadyH.cons rfl (fun K hK => ?_) (AllReadyH.cons rfl (fun K hK => ?_) AllReadyH.nil)
     · refine sT rfl _ _ rfl [] (n.keys.take i) L69 g64 c64 0 A1 i c1 i HM68.out HE69.out HN69.out HG69.out rfl rfl T R64 (HK1.out.turn T.out) PK1.out ?_
       intro g69 c69 X1 r ht hg T1
       refine hK.out _ _ T1.out (fun _ => ?_)
       try simp only [e1, e2, e3, Act.put, e4, e5, e6]
       have hN := st_1063 X1 (.slice (some ⟨g64, 0, none⟩) 0 c64) g69 c69 g78 c78 g9 g71 T1 r (R78.tn ht (nsy d64_78)) (B9.tn ht (nsy d64_9)) (B71.tn ht (nsy d64_71)) (apn hg d64_78 R78.lt) (apn hg d64_9 B9.lt) d78_9 (apn hg d64_71 B71.lt) d78_71 d9_71
       simp only [hA0, Act.put, e4, e5, e6] at hN
       exact (hST.out _ _ _ _).1 hN
     · refine oI1 rfl 85 kid rfl rfl ?_
       refine hK.out _ _ (T.out.alloc _) (fun _ => ?_)
       try simp only [e1, e2, e3, Act.put, e4, e5, e6]
       refine wpAnyH_named (fun X1 e => ?_)
       have T1 := T.al e
       have hN := st_1189 X1 g64 c64 g78 c78 g9 g71 X.heap.size T1 (R64.al e) (R78.al e) (B9.al e) (B71.al e) (T.nw [.int .i64 kid] e) d64_78 d64_9 d78_9 d64_71 d78_71 d9_71 (aln R64.lt) (aln R78.lt) (aln B9.lt) (aln B71.lt)
       simp only [hA0, Act.put, e4, e5, e6] at hN
       exact (hST.out _ _ _ _).1 hN
    have st_1157 : ∀ (X : World) (g64 : Nat) (c64 : Nat) (g9 : Nat) (g71 : Nat) (g86 : Nat) (T : HT w3 X) (R64 : HS w3 X [] 0 g64 c64) (B9 : HB w3 X 26 g9 nil4) (B71 : HB w3 X 9 g71 [.string key]) (B86 : HB w3 X 3 g86 [.int .i64 kid]) (d64_9 : ¬ g64 = g9) (d64_71 : ¬ g64 = g71) (d9_71 : ¬ g9 = g71) (d64_86 : ¬ g64 = g86) (d9_86 : ¬ g9 = g86) (d71_86 : ¬ g71 = g86), ST 9 #[true, true, true, true, true, false, true, true, false, true, true, true, true, false, false, true, true, true, true, true, false, true, true, false, true, true, true, true, true, false, false, true, false] ((((A0.put (some 64) (.slice (some ⟨g64, 0, none⟩) 0 c64)).put (some 71) (.slice (some ⟨g71, 0, none⟩) 1 1)).put (some 86) (.slice (some ⟨g86, 0, none⟩) 1 1)).put (some 9) (.pointer (some ⟨g9, 0, none⟩))) X := by
     intro X g64 c64 g9 g71 g86 T R64 B9 B71 B86 d64_9 d64_71 d9_71 d64_86 d9_86 d71_86
     have hH : Turn (fun _ => False) w3 X := T.out
     refine (hST.out _ _ _ _).2 ?_
     simp only [hA0, Act.put, e4, e5, e6]
     refine wpAnyH_ready (rs := [5, 14]) (by kernel_rfl) (by simp) ?_
     refine AllReadyH.cons rfl (fun K hK => ?_) (AllReadyH.cons rfl (fun K hK => ?_) AllReadyH.nil)
     · refine sT rfl _ _ rfl [] (n.keys.take i) L69 g64 c64 0 A1 i c1 i HM68.out HE69.out HN69.out HG69.out rfl rfl T R64 (HK1.out.turn T.out) PK1.out ?_
       intro g69 c69 X1 r ht hg T1
       refine hK.out _ _ T1.out (fun _ => ?_)
       try simp only [e1, e2, e3, Act.put, e4, e5, e6]
       have hN := st_1159 X1 (.slice (some ⟨g64, 0, none⟩) 0 c64) g69 c69 g9 g71 g86 T1 r (B9.tn ht (nsy d64_9)) (B71.tn ht (nsy d64_71)) (B86.tn ht (nsy d64_86)) (apn hg d64_9 B9.lt) (apn hg d64_71 B71.lt) d9_71 (apn hg d64_86 B86.lt) d9_86 d71_86
       simp only [hA0, Act.put, e4, e5, e6] at hN
       exact (hST.out _ _ _ _).1 hN
     · refine oI rfl rfl ?_
       refine hK.out _ _ (T.out.alloc _) (fun _ => ?_)
       try simp only [e1, e2, e3, Act.put, e4, e5, e6]
       refine wpAnyH_named (fun X1 e => ?_)
       have T1 := T.al e
       have hN := st_1189 X1 g64 c64 X.heap.size 0 g9 g71 g86 T1 (R64.al e) (T.eI e) (B9.al e) (B71.al e) (B86.al e) (aln R64.lt) d64_9 (nsy (aln B9.lt)) d64_71 (nsy (aln B71.lt)) d9_71 d64_86 (nsy (aln B86.lt)) d9_86 d71_86
       simp only [hA0, Act.put, e4, e5, e6] at hN
       exact (hST.out _ _ _ _).1 hN
    have st_1185 : ∀ (X : World) (g64 : Nat) (c64 : Nat) (g78 : Nat) (c78 : Nat) (g9 : Nat) (g86 : Nat) (T : HT w3 X) (R64 : HS w3 X [] 0 g64 c64) (R78 : HJ w3 X [] 0 g78 c78) (B9 : HB w3 X 26 g9 nil4) (B86 : HB w3 X 3 g86 [.int .i64 kid]) (d64_78 : ¬ g64 = g78) (d64_9 : ¬ g64 = g9) (d78_9 : ¬ g78 = g9) (d64_86 : ¬ g64 = g86) (d78_86 : ¬ g78 = g86) (d9_86 : ¬ g9 = g86), ST 9 #[true, true, true, true, true, false, true, false, false, true, true, true, true, false, true, true, true, true, true, true, false, true, true, false, true, true, true, true, true, false, false, true, false] ((((A0.put (some 64) (.slice (some ⟨g64, 0, none⟩) 0 c64)).put (some 78) (.slice (some ⟨g78, 0, none⟩) 0 c78)).put (some 86) (.slice (some ⟨g86, 0, none⟩) 1 1)).put (some 9) (.pointer (some ⟨g9, 0, none⟩))) X := by
     intro X g64 c64 g78 c78 g9 g86 T R64 R78 B9 B86 d64_78 d64_9 d78_9 d64_86 d78_86 d9_86
     have hH : Turn (fun _ => False) w3 X := T.out
     refine (hST.out _ _ _ _).2 ?_
     simp only [hA0, Act.put, e4, e5, e6]
     refine wpAnyH_ready (rs := [5, 7]) (by kernel_rfl) (by simp) ?_
     refine AllReadyH.cons rfl (fun K hK => ?_) (AllReadyH.cons rfl (fun K hK => ?_) AllReadyH.nil)
     · refine sT rfl _ _ rfl [] (n.keys.take i) L69 g64 c64 0 A1 i c1 i HM68.out HE69.out HN69.out HG69.out rfl rfl T R64 (HK1.out.turn T.out) PK1.out ?_
       intro g69 c69 X1 r ht hg T1
       refine hK.out _ _ T1.out (fun _ => ?_)
       try simp only [e1, e2, e3, Act.put, e4, e5, e6]
       have hN := st_1187 X1 (.slice (some ⟨g64, 0, none⟩) 0 c64) g69 c69 g78 c78 g9 g86 T1 r (R78.tn ht (nsy d64_78)) (B9.tn ht (nsy d64_9)) (B86.tn ht (nsy d64_86)) (apn hg d64_78 R78.lt) (apn hg d64_9 B9.lt) d78_9 (apn hg d64_86 B86.lt) d78_86 d9_86
       simp only [hA0, Act.put, e4, e5, e6] at hN
       exact (hST.out _ _ _ _).1 hN
     · refine oS1 rfl 70 key rfl rfl ?_
       refine hK.out _ _ (T.out.alloc _) (fun _ => ?_)
       try simp only [e1, e2, e3, Act.put, e4, e5, e6]
       refine wpAnyH_named (fun X1 e => ?_)
       have T1 := T.al e
       have hN := st_1189 X1 g64 c64 g78 c78 g9 X.heap.size g86 T1 (R64.al e) (R78.al e) (B9.al e) (T.nw [.string key] e) (B86.al e) d64_78 d64_9 d78_9 (aln R64.lt) (aln R78.lt) (aln B9.lt) d64_86 d78_86 d9_86 (nsy (aln B86.lt))
       simp only [hA0, Act.put, e4, e5, e6] at hN
       exact (hST.out _ _ _ _).1 hN
    have st_1188 : ∀ (X : World) (g78 : Nat) (c78 : Nat) (g9 : Nat) (g71 : Nat) (g86 : Nat) (T : HT w3 X) (R78 : HJ w3 X [] 0 g78 c78) (B9 : HB w3 X 26 g9 nil4) (B71 : HB w3 X 9 g71 [.string key]) (B86 : HB w3 X 3 g86 [.int .i64 kid]) (d78_9 : ¬ g78 = g9) (d78_71 : ¬ g78 = g71) (d9_71 : ¬ g9 = g71) (d78_86 : ¬ g78 = g86) (d9_86 : ¬ g9 = g86) (d71_86 : ¬ g71 = g86), ST 9 #[false, true, true, true, true, false, true, true, false, true, true, true, true, false, true, true, true, true, true, true, false, true, true, false, true, true, true, true, true, false, false, true, false] ((((A0.put (some 71) (.slice (some ⟨g71, 0, none⟩) 1 1)).put (some 78) (.slice (some ⟨g78, 0, none⟩) 0 c78)).put (some 86) (.slice (some ⟨g86, 0, none⟩) 1 1)).put (some 9) (.pointer (some ⟨g9, 0, none⟩))) X := by
     intro X g78 c78 g9 g71 g86 T R78 B9 B71 B86 d78_9 d78_71 d9_71 d78_86 d9_86 d71_86
     have hH : Turn (fun _ => False) w3 X := T.out
     refine (hST.out _ _ _ _).2 ?_
     simp only [hA0, Act.put, e4, e5, e6]
     refine wpAnyH_ready (rs := [0]) (by kernel_rfl) (by simp) ?_
     refine AllReadyH.cons rfl (fun K hK => ?_) AllReadyH.nil
     refine oS rfl rfl ?_
     refine hK.out _ _ (T.out.alloc _) (fun _ => ?_)
     try simp only [e1, e2, e3, Act.put, e4, e5, e6]
     refine wpAnyH_named (fun X1 e => ?_)
     have T1 := T.al e
     have hN := st_1189 X1 X.heap.size 0 g78 c78 g9 g71 g86 T1 (T.eS e) (R78.al e) (B9.al e) (B71.al e) (B86.al e) (nsy (aln R78.lt)) (nsy (aln B9.lt)) d78_9 (nsy (aln B71.lt)) d78_71 d9_71 (nsy (aln B86.lt)) d78_86 d9_86 d71_86
     simp only [hA0, Act.put, e4, e5, e6] at hN
     exact (hST.out _ _ _ _).1 hN
    have st_7 : ∀ (X : World) (u64 : Value) (g69 : Nat) (c69 : Nat) (g71 : Nat) (T : HT w3 X) (R69 : HS w3 X L69 i g69 c69) (B71 : HB w3 X 9 g71 [.string key]) (d69_71 : ¬ g69 = g71), ST 10 #[true, true, true, true, true, true, true, true, false, true, true, true, true, false, false, true, true, true, true, true, false, true, false, false, true, true, true, true, true, false, false, false, false] (((A0.put (some 64) u64).put (some 69) (.slice (some ⟨g69, 0, none⟩) i c69)).put (some 71) (.slice (some ⟨g71, 0, none⟩) 1 1)) X := by
     intro X u64 g69 c69 g71 T R69 B71 d69_71
     have hH : Turn (fun _ => False) w3 X := T.out
     refine (hST.out _ _ _ _).2 ?_
     simp only [hA0, Act.put, e4, e5, e6]
     refine wpAnyH_ready (rs := [8, 14, 22, 31]) (by kernel_rfl) (by simp) ?_
     refine AllReadyH.cons rfl (fun K hK => ?_) (AllReadyH.cons rfl (fun K hK => ?_) (AllReadyH.cons rfl (fun K hK => ?_) (AllReadyH.cons rfl (fun K hK => ?_) AllReadyH.nil)))
     · refine sT rfl _ _ rfl L69 [key] L72 g69 c69 i (some ⟨g71, 0, none⟩) 1 1 (i + 1) rfl HE72.out HN72.out HG72.out rfl rfl T R69 (sr_of_blk (L := [key]) B71.out.1) (one_cp g71) ?_
       intro g72 c72 X1 r ht hg T1
       refine hK.out _ _ T1.out (fun _ => ?_)
       try simp only [e1, e2, e3, Act.put, e4, e5, e6]
       have hN := st_15 X1 u64 (.slice (some ⟨g69, 0, none⟩) i c69) (.slice (some ⟨g71, 0, none⟩) 1 1) g72 c72 T1 r
       simp only [hA0, Act.put, e4, e5, e6] at hN
       exact (hST.out _ _ _ _).1 hN
     · refine oI rfl rfl ?_
       refine hK.out _ _ (T.out.alloc _) (fun _ => ?_)
       try simp only [e1, e2, e3, Act.put, e4, e5, e6]
       refine wpAnyH_named (fun X1 e => ?_)
       have T1 := T.al e
       have hN := st_39 X1 u64 g69 c69 X.heap.size 0 g71 T1 (R69.al e) (T.eI e) (B71.al e) (aln R69.lt) d69_71 (nsy (aln B71.lt))
       simp only [hA0, Act.put, e4, e5, e6] at hN
       exact (hST.out _ _ _ _).1 hN
     · refine oI1 rfl 85 kid rfl rfl ?_
       refine hK.out _ _ (T.out.alloc _) (fun _ => ?_)
       try simp only [e1, e2, e3, Act.put, e4, e5, e6]
       refine wpAnyH_named (fun X1 e => ?_)
       have T1 := T.al e
       have hN := st_135 X1 u64 g69 c69 g71 X.heap.size T1 (R69.al e) (B71.al e) (T.nw [.int .i64 kid] e) d69_71 (aln R69.lt) (aln B71.lt)
       simp only [hA0, Act.put, e4, e5, e6] at hN
       exact (hST.out _ _ _ _).1 hN
     · refine oA rfl rfl ?_
       refine hK.out _ _ (T.out.alloc _) (fun _ => ?_)
       try simp only [e1, e2, e3, Act.put, e4, e5, e6]
       refine wpAnyH_named (fun X1 e => ?_)
       have T1 := T.al e
       have hN := st_1031 X1 u64 g69 c69 X.heap.size g71 T1 (R69.al e) (T.nw nil4 e) (B71.al e) (aln R69.lt) d69_71 (nsy (aln B71.lt))
       simp only [hA0, Act.put, e4, e5, e6] at hN
       exact (hST.out _ _ _ _).1 hN
    have st_35 : ∀ (X : World) (u64 : Value) (g69 : Nat) (c69 : Nat) (g78 : Nat) (c78 : Nat) (T : HT w3 X) (R69 : HS w3 X L69 i g69 c69) (R78 : HJ w3 X [] 0 g78 c78) (d69_78 : ¬ g69 = g78), ST 10 #[true, true, true, true, true, true, true, false, false, true, true, true, true, false, true, true, true, true, true, true, false, true, false, false, true, true, true, true, true, false, false, false, false] (((A0.put (some 64) u64).put (some 69) (.slice (some ⟨g69, 0, none⟩) i c69)).put (some 78) (.slice (some ⟨g78, 0, none⟩) 0 c78)) X := by
     intro X u64 g69 c69 g78 c78 T R69 R78 d69_78
     have hH : Turn (fun _ => False) w3 X := T.out
     refine (hST.out _ _ _ _).2 ?_
     simp only [hA0, Act.put, e4, e5, e6]
     refine wpAnyH_ready (rs := [7, 22, 31]) (by kernel_rfl) (by simp) ?_
     refine AllReadyH.cons rfl (fun K hK => ?_) (AllReadyH.cons rfl (fun K hK => ?_) (AllReadyH.cons rfl (fun K hK => ?_) AllReadyH.nil))
     · refine oS1 rfl 70 key rfl rfl ?_
       refine hK.out _ _ (T.out.alloc _) (fun _ => ?_)
       try simp only [e1, e2, e3, Act.put, e4, e5, e6]
       refine wpAnyH_named (fun X1 e => ?_)
       have T1 := T.al e
       have hN := st_39 X1 u64 g69 c69 g78 c78 X.heap.size T1 (R69.al e) (R78.al e) (T.nw [.string key] e) d69_78 (aln R69.lt) (aln R78.lt)
       simp only [hA0, Act.put, e4, e5, e6] at hN
       exact (hST.out _ _ _ _).1 hN
     · refine oI1 rfl 85 kid rfl rfl ?_
       refine hK.out _ _ (T.out.alloc _) (fun _ => ?_)
       try simp only [e1, e2, e3, Act.put, e4, e5, e6]
       refine wpAnyH_named (fun X1 e => ?_)
       have T1 := T.al e
       have hN := st_163 X1 u64 g69 c69 g78 c78 X.heap.size T1 (R69.al e) (R78.al e) (T.nw [.int .i64 kid] e) d69_78 (aln R69.lt) (aln R78.lt)
       simp only [hA0, Act.put, e4, e5, e6] at hN
       exact (hST.out _ _ _ _).1 hN
     · refine oA rfl rfl ?_
       refine hK.out _ _ (T.out.alloc _) (fun _ => ?_)
       try simp only [e1, e2, e3, Act.put, e4, e5, e6]
       refine wpAnyH_named (fun X1 e => ?_)
       have T1 := T.al e
       have hN := st_1059 X1 u64 g69 c69 g78 c78 X.heap.size T1 (R69.al e) (R78.al e) (T.nw nil4 e) d69_78 (aln R69.lt) (aln R78.lt)
       simp only [hA0, Act.put, e4, e5, e6] at hN
       exact (hST.out _ _ _ _).1 hN
    have st_131 : ∀ (X : World) (u64 : Value) (g69 : Nat) (c69 : Nat) (g86 : Nat) (T : HT w3 X) (R69 : HS w3 X L69 i g69 c69) (B86 : HB w3 X 3 g86 [.int .i64 kid]) (d69_86 : ¬ g69 = g86), ST 10 #[true, true, true, true, true, true, true, false, false, true, true, true, true, false, false, true, true, true, true, true, false, true, true, false, true, true, true, true, true, false, false, false, false] (((A0.put (some 64) u64).put (some 69) (.slice (some ⟨g69, 0, none⟩) i c69)).put (some 86) (.slice (some ⟨g86, 0, none⟩) 1 1)) X := by
     intro X u64 g69 c69 g86 T R69 B86 d69_86
     have hH : Turn (fun _ => False) w3 X := T.out
     refine (hST.out _ _ _ _).2 ?_
     simp only [hA0, Act.put, e4, e5, e6]
     refine wpAnyH_ready (rs := [7, 14, 31]) (by kernel_rfl) (by simp) ?_
     refine AllReadyH.cons rfl (fun K hK => ?_) (AllReadyH.cons rfl (fun K hK => ?_) (AllReadyH.cons rfl (fun K hK => ?_) AllReadyH.nil))
     · refine oS1 rfl 70 key rfl rfl ?_
       refine hK.out _ _ (T.out.alloc _) (fun _ => ?_)
       try simp only [e1, e2, e3, Act.put, e4, e5, e6]
       refine wpAnyH_named (fun X1 e => ?_)
       have T1 := T.al e
       have hN := st_135 X1 u64 g69 c69 X.heap.size g86 T1 (R69.al e) (T.nw [.string key] e) (B86.al e) (aln R69.lt) d69_86 (nsy (aln B86.lt))
       simp only [hA0, Act.put, e4, e5, e6] at hN
       exact (hST.out _ _ _ _).1 hN
     · refine oI rfl rfl ?_
       refine hK.out _ _ (T.out.alloc _) (fun _ => ?_)
       try simp only [e1, e2, e3, Act.put, e4, e5, e6]
       refine wpAnyH_named (fun X1 e => ?_)
       have T1 := T.al e
       have hN := st_163 X1 u64 g69 c69 X.heap.size 0 g86 T1 (R69.al e) (T.eI e) (B86.al e) (aln R69.lt) d69_86 (nsy (aln B86.lt))
       simp only [hA0, Act.put, e4, e5, e6] at hN
       exact (hST.out _ _ _ _).1 hN
     · refine oA rfl rfl ?_
       refine hK.out _ _ (T.out.alloc _) (fun _ => ?_)
       try simp only [e1, e2, e3, Act.put, e4, e5, e6]
       refine wpAnyH_named (fun X1 e => ?_)
       have T1 := T.al e
       have hN := st_1155 X1 u64 g69 c69 X.heap.size g86 T1 (R69.al e) (T.nw nil4 e) (B86.al e) (aln R69.lt) d69_86 (nsy (aln B86.lt))
       simp only [hA0, Act.put, e4, e5, e6] at hN
       exact (hST.out _ _ _ _).1 hN
    have st_1027 : ∀ (X : World) (u64 : Value) (g69 : Nat) (c69 : Nat) (g9 : Nat) (T : HT w3 X) (R69 : HS w3 X L69 i g69 c69) (B9 : HB w3 X 26 g9 nil4) (d69_9 : ¬ g69 = g9), ST 10 #[true, true, true, true, true, true, true, false, false, true, true, true, true, false, false, true, true, true, true, true, false, true, false, false, true, true, true, true, true, false, false, true, false] (((A0.put (some 64) u64).put (some 69) (.slice (some ⟨g69, 0, none⟩) i c69)).put (some 9) (.pointer (some ⟨g9, 0, none⟩))) X := by
     intro X u64 g69 c69 g9 T R69 B9 d69_9
     have hH : Turn (fun _ => False) w3 X := T.out
     refine (hST.out _ _ _ _).2 ?_
     simp only [hA0, Act.put, e4, e5, e6]
     refine wpAnyH_ready (rs := [7, 14, 22]) (by kernel_rfl) (by simp) ?_
     refine AllReadyH.cons rfl (fun K hK => ?_) (AllReadyH.cons rfl (fun K hK => ?_) (AllReadyH.cons rfl (fun K hK => ?_) AllReadyH.nil))
     · refine oS1 rfl 70 key rfl rfl ?_
       refine hK.out _ _ (T.out.alloc _) (fun _ => ?_)
       try simp only [e1, e2, e3, Act.put, e4, e5, e6]
       refine wpAnyH_named (fun X1 e => ?_)
       have T1 := T.al e
       have hN := st_1031 X1 u64 g69 c69 g9 X.heap.size T1 (R69.al e) (B9.al e) (T.nw [.string key] e) d69_9 (aln R69.lt) (aln B9.lt)
       simp only [hA0, Act.put, e4, e5, e6] at hN
       exact (hST.out _ _ _ _).1 hN
     · refine oI rfl rfl ?_
       refine hK.out _ _ (T.out.alloc _) (fun _ => ?_)
       try simp only [e1, e2, e3, Act.put, e4, e5, e6]
       refine wpAnyH_named (fun X1 e => ?_)
       have T1 := T.al e
       have hN := st_1059 X1 u64 g69 c69 X.heap.size 0 g9 T1 (R69.al e) (T.eI e) (B9.al e) (aln R69.lt) d69_9 (nsy (aln B9.lt))
       simp only [hA0, Act.put, e4, e5, e6] at hN
       exact (hST.out _ _ _ _).1 hN
     · refine oI1 rfl 85 kid rfl rfl ?_
       refine hK.out _ _ (T.out.alloc _) (fun _ => ?_)
       try simp only [e1, e2, e3, Act.put, e4, e5, e6]
       refine wpAnyH_named (fun X1 e => ?_)
       have T1 := T.al e
       have hN := st_1155 X1 u64 g69 c69 g9 X.heap.size T1 (R69.al e) (B9.al e) (T.nw [.int .i64 kid] e) d69_9 (aln R69.lt) (aln B9.lt)
       simp only [hA0, Act.put, e4, e5, e6] at hN
       exact (hST.out _ _ _ _).1 hN
    have st_37 : ∀ (X : World) (g64 : Nat) (c64 : Nat) (g78 : Nat) (c78 : Nat) (g71 : Nat) (T : HT w3 X) (R64 : HS w3 X [] 0 g64 c64) (R78 : HJ w3 X [] 0 g78 c78) (B71 : HB w3 X 9 g71 [.string key]) (d64_78 : ¬ g64 = g78) (d64_71 : ¬ g64 = g71) (d78_71 : ¬ g78 = g71), ST 10 #[true, true, true, true, true, false, true, true, false, true, true, true, true, false, true, true, true, true, true, true, false, true, false, false, true, true, true, true, true, false, false, false, false] (((A0.put (some 64) (.slice (some ⟨g64, 0, none⟩) 0 c64)).put (some 71) (.slice (some ⟨g71, 0, none⟩) 1 1)).put (some 78) (.slice (some ⟨g78, 0, none⟩) 0 c78)) X := by
     intro X g64 c64 g78 c78 g71 T R64 R78 B71 d64_78 d64_71 d78_71
     have hH : Turn (fun _ => False) w3 X := T.out
     refine (hST.out _ _ _ _).2 ?_
     simp only [hA0, Act.put, e4, e5, e6]
     refine wpAnyH_ready (rs := [5, 22, 31]) (by kernel_rfl) (by simp) ?_
     refine AllReadyH.cons rfl (fun K hK => ?_) (AllReadyH.cons rfl (fun K hK => ?_) (AllReadyH.cons rfl (fun K hK => ?_) AllReadyH.nil))
     · refine sT rfl _ _ rfl [] (n.keys.take i) L69 g64 c64 0 A1 i c1 i HM68.out HE69.out HN69.out HG69.out rfl rfl T R64 (HK1.out.turn T.out) PK1.out ?_
       intro g69 c69 X1 r ht hg T1
       refine hK.out _ _ T1.out (fun _ => ?_)
       try simp only [e1, e2, e3, Act.put, e4, e5, e6]
       have hN := st_39 X1 (.slice (some ⟨g64, 0, none⟩) 0 c64) g69 c69 g78 c78 g71 T1 r (R78.tn ht (nsy d64_78)) (B71.tn ht (nsy d64_71)) (apn hg d64_78 R78.lt) (apn hg d64_71 B71.lt) d78_71
       simp only [hA0, Act.put, e4, e5, e6] at hN
       exact (hST.out _ _ _ _).1 hN
     · refine oI1 rfl 85 kid rfl rfl ?_
       refine hK.out _ _ (T.out.alloc _) (fun _ => ?_)
       try simp only [e1, e2, e3, Act.put, e4, e5, e6]
       refine wpAnyH_named (fun X1 e => ?_)
       have T1 := T.al e
       have hN := st_165 X1 g64 c64 g78 c78 g71 X.heap.size T1 (R64.al e) (R78.al e) (B71.al e) (T.nw [.int .i64 kid] e) d64_78 d64_71 d78_71 (aln R64.lt) (aln R78.lt) (aln B71.lt)
       simp only [hA0, Act.put, e4, e5, e6] at hN
       exact (hST.out _ _ _ _).1 hN
     · refine oA rfl rfl ?_
       refine hK.out _ _ (T.out.alloc _) (fun _ => ?_)
       try simp only [e1, e2, e3, Act.put, e4, e5, e6]
       refine wpAnyH_named (fun X1 e => ?_)
       have T1 := T.al e
       have hN := st_1061 X1 g64 c64 g78 c78 X.heap.size g71 T1 (R64.al e) (R78.al e) (T.nw nil4 e) (B71.al e) d64_78 (aln R64.lt) (aln R78.lt) d64_71 d78_71 (nsy (aln B71.lt))
       simp only [hA0, Act.put, e4, e5, e6] at hN
       exact (hST.out _ _ _ _).1 hN
    have st_133 : ∀ (X : World) (g64 : Nat) (c64 : Nat) (g71 : Nat) (g86 : Nat) (T : HT w3 X) (R64 : HS w3 X [] 0 g64 c64) (B71 : HB w3 X 9 g71 [.string key]) (B86 : HB w3 X 3 g86 [.int .i64 kid]) (d64_71 : ¬ g64 = g71) (d64_86 : ¬ g64 = g86) (d71_86 : ¬ g71 = g86), ST 10 #[true, true, true, true, true, false, true, true, false, true, true, true, true, false, false, true, true, true, true, true, false, true, true, false, true, true, true, true, true, false, false, false, false] (((A0.put (some 64) (.slice (some ⟨g64, 0, none⟩) 0 c64)).put (some 71) (.slice (some ⟨g71, 0, none⟩) 1 1)).put (some 86) (.slice (some ⟨g86, 0, none⟩) 1 1)) X := by
     intro X g64 c64 g71 g86 T R64 B71 B86 d64_71 d64_86 d71_86
     have hH : Turn (fun _ => False) w3 X := T.out
     refine (hST.out _ _ _ _).2 ?_
     simp only [hA0, Act.put, e4, e5, e6]
     refine wpAnyH_ready (rs := [5, 14, 31]) (by kernel_rfl) (by simp) ?_
     refine AllReadyH.cons rfl (fun K hK => ?_) (AllReadyH.cons rfl (fun K hK => ?_) (AllReadyH.cons rfl (fun K hK => ?_) AllReadyH.nil))
     · refine sT rfl _ _ rfl [] (n.keys.take i) L69 g64 c64 0 A1 i c1 i HM68.out HE69.out HN69.out HG69.out rfl rfl T R64 (HK1.out.turn T.out) PK1.out ?_
       intro g69 c69 X1 r ht hg T1
       refine hK.out _ _ T1.out (fun _ => ?_)
       try simp only [e1, e2, e3, Act.put, e4, e5, e6]
       have hN := st_135 X1 (.slice (some ⟨g64, 0, none⟩) 0 c64) g69 c69 g71 g86 T1 r (B71.tn ht (nsy d64_71)) (B86.tn ht (nsy d64_86)) (apn hg d64_71 B71.lt) (apn hg d64_86 B86.lt) d71_86
       simp only [hA0, Act.put, e4, e5, e6] at hN
       exact (hST.out _ _ _ _).1 hN
     · refine oI rfl rfl ?_
       refine hK.out _ _ (T.out.alloc _) (fun _ => ?_)
       try simp only [e1, e2, e3, Act.put, e4, e5, e6]
       refine wpAnyH_named (fun X1 e => ?_)
       have T1 := T.al e
       have hN := st_165 X1 g64 c64 X.heap.size 0 g71 g86 T1 (R64.al e) (T.eI e) (B71.al e) (B86.al e) (aln R64.lt) d64_71 (nsy (aln B71.lt)) d64_86 (nsy (aln B86.lt)) d71_86
       simp only [hA0, Act.put, e4, e5, e6] at hN
       exact (hST.out _ _ _ _).1 hN
     · refine oA rfl rfl ?_
       refine hK.out _ _ (T.out.alloc _) (fun _ => ?_)
       try simp only [e1, e2, e3, Act.put, e4, e5, e6]
       refine wpAnyH_named (fun X1 e => ?_)
       have T1 := T.al e
       have hN := st_1157 X1 g64 c64 X.heap.size g71 g86 T1 (R64.al e) (T.nw nil4 e) (B71.al e) (B86.al e) (aln R64.lt) d64_71 (nsy (aln B71.lt)) d64_86 (nsy (aln B86.lt)) d71_86
       simp only [hA0, Act.put, e4, e5, e6] at hN
       exact (hST.out _ _ _ _).1 hN
    have st_1029 : ∀ (X : World) (g64 : Nat) (c64 : Nat) (g9 : Nat) (g71 : Nat) (T : HT w3 X) (R64 : HS w3 X [] 0 g64 c64) (B9 : HB w3 X 26 g9 nil4) (B71 : HB w3 X 9 g71 [.string key]) (d64_9 : ¬ g64 = g9) (d64_71 : ¬ g64 = g71) (d9_71 : ¬ g9 = g71), ST 10 #[true, true, true, true, true, false, true, true, false, true, true, true, true, false, false, true, true, true, true, true, false, true, false, false, true, true, true, true, true, false, false, true, false] (((A0.put (some 64) (.slice (some ⟨g64, 0, none⟩) 0 c64)).put (some 71) (.slice (some ⟨g71, 0, none⟩) 1 1)).put (some 9) (.pointer (some ⟨g9, 0, none⟩))) X := by
     intro X g64 c64 g9 g71 T R64 B9 B71 d64_9 d64_71 d9_71
     have hH : Turn (fun _ => False) w3 X := T.out
     refine (hST.out _ _ _ _).2 ?_
     simp only [hA0, Act.put, e4, e5, e6]
     refine wpAnyH_ready (rs := [5, 14, 22]) (by kernel_rfl) (by simp) ?_
     refine AllReadyH.cons rfl (fun K hK => ?_) (AllReadyH.cons rfl (fun K hK => ?_) (AllReadyH.cons rfl (fun K hK => ?_) AllReadyH.nil))
     · refine sT rfl _ _ rfl [] (n.keys.take i) L69 g64 c64 0 A1 i c1 i HM68.out HE69.out HN69.out HG69.out rfl rfl T R64 (HK1.out.turn T.out) PK1.out ?_
       intro g69 c69 X1 r ht hg T1
       refine hK.out _ _ T1.out (fun _ => ?_)
       try simp only [e1, e2, e3, Act.put, e4, e5, e6]
       have hN := st_1031 X1 (.slice (some ⟨g64, 0, none⟩) 0 c64) g69 c69 g9 g71 T1 r (B9.tn ht (nsy d64_9)) (B71.tn ht (nsy d64_71)) (apn hg d64_9 B9.lt) (apn hg d64_71 B71.lt) d9_71
       simp only [hA0, Act.put, e4, e5, e6] at hN
       exact (hST.out _ _ _ _).1 hN
     · refine oI rfl rfl ?_
       refine hK.out _ _ (T.out.alloc _) (fun _ => ?_)
       try simp only [e1, e2, e3, Act.put, e4, e5, e6]
       refine wpAnyH_named (fun X1 e => ?_)
       have T1 := T.al e
       have hN := st_1061 X1 g64 c64 X.heap.size 0 g9 g71 T1 (R64.al e) (T.eI e) (B9.al e) (B71.al e) (aln R64.lt) d64_9 (nsy (aln B9.lt)) d64_71 (nsy (aln B71.lt)) d9_71
       simp only [hA0, Act.put, e4, e5, e6] at hN
       exact (hST.out _ _ _ _).1 hN
     · refine oI1 rfl 85 kid rfl rfl ?_
       refine hK.out _ _ (T.out.alloc _) (fun _ => ?_)
       try simp only [e1, e2, e3, Act.put, e4, e5, e6]
       refine wpAnyH_named (fun X1 e => ?_)
       have T1 := T.al e
       have hN := st_1157 X1 g64 c64 g9 g71 X.heap.size T1 (R64.al e) (B9.al e) (B71.al e) (T.nw [.int .i64 kid] e) d64_9 d64_71 d9_71 (aln R64.lt) (aln B9.lt) (aln B71.lt)
       simp only [hA0, Act.put, e4, e5, e6] at hN
       exact (hST.out _ _ _ _).1 hN
    have st_161 : ∀ (X : World) (g64 : Nat) (c64 : Nat) (g78 : Nat) (c78 : Nat) (g86 : Nat) (T : HT w3 X) (R64 : HS w3 X [] 0 g64 c64) (R78 : HJ w3 X [] 0 g78 c78) (B86 : HB w3 X 3 g86 [.int .i64 kid]) (d64_78 : ¬ g64 = g78) (d64_86 : ¬ g64 = g86) (d78_86 : ¬ g78 = g86), ST 10 #[true, true, true, true, true, false, true, false, false, true, true, true, true, false, true, true, true, true, true, true, false, true, true, false, true, true, true, true, true, false, false, false, false] (((A0.put (some 64) (.slice (some ⟨g64, 0, none⟩) 0 c64)).put (some 78) (.slice (some ⟨g78, 0, none⟩) 0 c78)).put (some 86) (.slice (some ⟨g86, 0, none⟩) 1 1)) X := by
     intro X g64 c64 g78 c78 g86 T R64 R78 B86 d64_78 d64_86 d78_86
     have hH : Turn (fun _ => False) w3 X := T.out
     refine (hST.out _ _ _ _).2 ?_
     simp only [hA0, Act.put, e4, e5, e6]
     refine wpAnyH_ready (rs := [5, 7, 31]) (by kernel_rfl) (by simp) ?_
     refine AllReadyH.cons rfl (fun K hK => ?_) (AllReadyH.cons rfl (fun K hK => ?_) (AllReadyH.cons rfl (fun K hK => ?_) AllReadyH.nil))
     · refine sT rfl _ _ rfl [] (n.keys.take i) L69 g64 c64 0 A1 i c1 i HM68.out HE69.out HN69.out HG69.out rfl rfl T R64 (HK1.out.turn T.out) PK1.out ?_
       intro g69 c69 X1 r ht hg T1
       refine hK.out _ _ T1.out (fun _ => ?_)
       try simp only [e1, e2, e3, Act.put, e4, e5, e6]
       have hN := st_163 X1 (.slice (some ⟨g64, 0, none⟩) 0 c64) g69 c69 g78 c78 g86 T1 r (R78.tn ht (nsy d64_78)) (B86.tn ht (nsy d64_86)) (apn hg d64_78 R78.lt) (apn hg d64_86 B86.lt) d78_86
       simp only [hA0, Act.put, e4, e5, e6] at hN
       exact (hST.out _ _ _ _).1 hN
     · refine oS1 rfl 70 key rfl rfl ?_
       refine hK.out _ _ (T.out.alloc _) (fun _ => ?_)
       try simp only [e1, e2, e3, Act.put, e4, e5, e6]
       refine wpAnyH_named (fun X1 e => ?_)
       have T1 := T.al e
       have hN := st_165 X1 g64 c64 g78 c78 X.heap.size g86 T1 (R64.al e) (R78.al e) (T.nw [.string key] e) (B86.al e) d64_78 (aln R64.lt) (aln R78.lt) d64_86 d78_86 (nsy (aln B86.lt))
       simp only [hA0, Act.put, e4, e5, e6] at hN
       exact (hST.out _ _ _ _).1 hN
     · refine oA rfl rfl ?_
       refine hK.out _ _ (T.out.alloc _) (fun _ => ?_)
       try simp only [e1, e2, e3, Act.put, e4, e5, e6]
       refine wpAnyH_named (fun X1 e => ?_)
       have T1 := T.al e
       have hN := st_1185 X1 g64 c64 g78 c78 X.heap.size g86 T1 (R64.al e) (R78.al e) (T.nw nil4 e) (B86.al e) d64_78 (aln R64.lt) (aln R78.lt) d64_86 d78_86 (nsy (aln B86.lt))
       simp only [hA0, Act.put, e4, e5, e6] at hN
       exact (hST.out _ _ _ _).1 hN
    have st_1057 : ∀ (X : World) (g64 : Nat) (c64 : Nat) (g78 : Nat) (c78 : Nat) (g9 : Nat) (T : HT w3 X) (R64 : HS w3 X [] 0 g64 c64) (R78 : HJ w3 X [] 0 g78 c78) (B9 : HB w3 X 26 g9 nil4) (d64_78 : ¬ g64 = g78) (d64_9 : ¬ g64 = g9) (d78_9 : ¬ g78 = g9), ST 10 #[true, true, true, true, true, false, true, false, false, true, true, true, true, false, true, true, true, true, true, true, false, true, false, false, true, true, true, true, true, false, false, true, false] (((A0.put (some 64) (.slice (some ⟨g64, 0, none⟩) 0 c64)).put (some 78) (.slice (some ⟨g78, 0, none⟩) 0 c78)).put (some 9) (.pointer (some ⟨g9, 0, none⟩))) X := by
     intro X g64 c64 g78 c78 g9 T R64 R78 B9 d64_78 d64_9 d78_9
     have hH : Turn (fun _ => False) w3 X := T.out
     refine (hST.out _ _ _ _).2 ?_
     simp only [hA0, Act.put, e4, e5, e6]
     refine wpAnyH_ready (rs := [5, 7, 22]) (by kernel_rfl) (by simp) ?_
     refine AllReadyH.cons rfl (fun K hK => ?_) (AllReadyH.cons rfl (fun K hK => ?_) (AllReadyH.cons rfl (fun K hK => ?_) AllReadyH.nil))
     · refine sT rfl _ _ rfl [] (n.keys.take i) L69 g64 c64 0 A1 i c1 i HM68.out HE69.out HN69.out HG69.out rfl rfl T R64 (HK1.out.turn T.out) PK1.out ?_
       intro g69 c69 X1 r ht hg T1
       refine hK.out _ _ T1.out (fun _ => ?_)
       try simp only [e1, e2, e3, Act.put, e4, e5, e6]
       have hN := st_1059 X1 (.slice (some ⟨g64, 0, none⟩) 0 c64) g69 c69 g78 c78 g9 T1 r (R78.tn ht (nsy d64_78)) (B9.tn ht (nsy d64_9)) (apn hg d64_78 R78.lt) (apn hg d64_9 B9.lt) d78_9
       simp only [hA0, Act.put, e4, e5, e6] at hN
       exact (hST.out _ _ _ _).1 hN
     · refine oS1 rfl 70 key rfl rfl ?_
       refine hK.out _ _ (T.out.alloc _) (fun _ => ?_)
       try simp only [e1, e2, e3, Act.put, e4, e5, e6]
       refine wpAnyH_named (fun X1 e => ?_)
       have T1 := T.al e
       have hN := st_1061 X1 g64 c64 g78 c78 g9 X.heap.size T1 (R64.al e) (R78.al e) (B9.al e) (T.nw [.string key] e) d64_78 d64_9 d78_9 (aln R64.lt) (aln R78.lt) (aln B9.lt)
       simp only [hA0, Act.put, e4, e5, e6] at hN
       exact (hST.out _ _ _ _).1 hN
     · refine oI1 rfl 85 kid rfl rfl ?_
       refine hK.out _ _ (T.out.alloc _) (fun _ => ?_)
       try simp only [e1, e2, e3, Act.put, e4, e5, e6]
       refine wpAnyH_named (fun X1 e => ?_)
       have T1 := T.al e
       have hN := st_1185 X1 g64 c64 g78 c78 g9 X.heap.size T1 (R64.al e) (R78.al e) (B9.al e) (T.nw [.int .i64 kid] e) d64_78 d64_9 d78_9 (aln R64.lt) (aln R78.lt) (aln B9.lt)
       simp only [hA0, Act.put, e4, e5, e6] at hN
       exact (hST.out _ _ _ _).1 hN
    have st_1153 : ∀ (X : World) (g64 : Nat) (c64 : Nat) (g9 : Nat) (g86 : Nat) (T : HT w3 X) (R64 : HS w3 X [] 0 g64 c64) (B9 : HB w3 X 26 g9 nil4) (B86 : HB w3 X 3 g86 [.int .i64 kid]) (d64_9 : ¬ g64 = g9) (d64_86 : ¬ g64 = g86) (d9_86 : ¬ g9 = g86), ST 10 #[true, true, true, true, true, false, true, false, false, true, true, true, true, false, false, true, true, true, true, true, false, true, true, false, true, true, true, true, true, false, false, true, false] (((A0.put (some 64) (.slice (some ⟨g64, 0, none⟩) 0 c64)).put (some 86) (.slice (some ⟨g86, 0, none⟩) 1 1)).put (some 9) (.pointer (some ⟨g9, 0, none⟩))) X := by
     intro X g64 c64 g9 g86 T R64 B9 B86 d64_9 d64_86 d9_86
     have hH : Turn (fun _ => False) w3 X := T.out
     refine (hST.out _ _ _ _).2 ?_
     simp only [hA0, Act.put, e4, e5, e6]
     refine wpAnyH_ready (rs := [5, 7, 14]) (by kernel_rfl) (by simp) ?_
     refine AllReadyH.cons rfl (fun K hK => ?_) (AllReadyH.cons rfl (fun K hK => ?_) (AllReadyH.cons rfl (fun K hK => ?_) AllReadyH.nil))
     · refine sT rfl _ _ rfl [] (n.keys.take i) L69 g64 c64 0 A1 i c1 i HM68.out HE69.out HN69.out HG69.out rfl rfl T R64 (HK1.out.turn T.out) PK1.out ?_
       intro g69 c69 X1 r ht hg T1
       refine hK.out _ _ T1.out (fun _ => ?_)
       try simp only [e1, e2, e3, Act.put, e4, e5, e6]
       have hN := st_1155 X1 (.slice (some ⟨g64, 0, none⟩) 0 c64) g69 c69 g9 g86 T1 r (B9.tn ht (nsy d64_9)) (B86.tn ht (nsy d64_86)) (apn hg d64_9 B9.lt) (apn hg d64_86 B86.lt) d9_86
       simp only [hA0, Act.put, e4, e5, e6] at hN
       exact (hST.out _ _ _ _).1 hN
     · refine oS1 rfl 70 key rfl rfl ?_
       refine hK.out _ _ (T.out.alloc _) (fun _ => ?_)
       try simp only [e1, e2, e3, Act.put, e4, e5, e6]
       refine wpAnyH_named (fun X1 e => ?_)
       have T1 := T.al e
       have hN := st_1157 X1 g64 c64 g9 X.heap.size g86 T1 (R64.al e) (B9.al e) (T.nw [.string key] e) (B86.al e) d64_9 (aln R64.lt) (aln B9.lt) d64_86 d9_86 (nsy (aln B86.lt))
       simp only [hA0, Act.put, e4, e5, e6] at hN
       exact (hST.out _ _ _ _).1 hN
     · refine oI rfl rfl ?_
       refine hK.out _ _ (T.out.alloc _) (fun _ => ?_)
       try simp only [e1, e2, e3, Act.put, e4, e5, e6]
       refine wpAnyH_named (fun X1 e => ?_)
       have T1 := T.al e
       have hN := st_1185 X1 g64 c64 X.heap.size 0 g9 g86 T1 (R64.al e) (T.eI e) (B9.al e) (B86.al e) (aln R64.lt) d64_9 (nsy (aln B9.lt)) d64_86 (nsy (aln B86.lt)) d9_86
       simp only [hA0, Act.put, e4, e5, e6] at hN
       exact (hST.out _ _ _ _).1 hN
    have st_164 : ∀ (X : World) (g78 : Nat) (c78 : Nat) (g71 : Nat) (g86 : Nat) (T : HT w3 X) (R78 : HJ w3 X [] 0 g78 c78) (B71 : HB w3 X 9 g71 [.string key]) (B86 : HB w3 X 3 g86 [.int .i64 kid]) (d78_71 : ¬ g78 = g71) (d78_86 : ¬ g78 = g86) (d71_86 : ¬ g71 = g86), ST 10 #[false, true, true, true, true, false, true, true, false, true, true, true, true, false, true, true, true, true, true, true, false, true, true, false, true, true, true, true, true, false, false, false, false] (((A0.put (some 71) (.slice (some ⟨g71, 0, none⟩) 1 1)).put (some 78) (.slice (some ⟨g78, 0, none⟩) 0 c78)).put (some 86) (.slice (some ⟨g86, 0, none⟩) 1 1)) X := by
     intro X g78 c78 g71 g86 T R78 B71 B86 d78_71 d78_86 d71_86
     have hH : Turn (fun _ => False) w3 X := T.out
     refine (hST.out _ _ _ _).2 ?_
     simp only [hA0, Act.put, e4, e5, e6]
     refine wpAnyH_ready (rs := [0, 31]) (by kernel_rfl) (by simp) ?_
     refine AllReadyH.cons rfl (fun K hK => ?_) (AllReadyH.cons rfl (fun K hK => ?_) AllReadyH.nil)
     · refine oS rfl rfl ?_
       refine hK.out _ _ (T.out.alloc _) (fun _ => ?_)
       try simp only [e1, e2, e3, Act.put, e4, e5, e6]
       refine wpAnyH_named (fun X1 e => ?_)
       have T1 := T.al e
       have hN := st_165 X1 X.heap.size 0 g78 c78 g71 g86 T1 (T.eS e) (R78.al e) (B71.al e) (B86.al e) (nsy (aln R78.lt)) (nsy (aln B71.lt)) d78_71 (nsy (aln B86.lt)) d78_86 d71_86
       simp only [hA0, Act.put, e4, e5, e6] at hN
       exact (hST.out _ _ _ _).1 hN
     · refine oA rfl rfl ?_
       refine hK.out _ _ (T.out.alloc _) (fun _ => ?_)
       try simp only [e1, e2, e3, Act.put, e4, e5, e6]
       refine wpAnyH_named (fun X1 e => ?_)
       have T1 := T.al e
       have hN := st_1188 X1 g78 c78 X.heap.size g71 g86 T1 (R78.al e) (T.nw nil4 e) (B71.al e) (B86.al e) (aln R78.lt) d78_71 (nsy (aln B71.lt)) d78_86 (nsy (aln B86.lt)) d71_86
       simp only [hA0, Act.put, e4, e5, e6] at hN
       exact (hST.out _ _ _ _).1 hN
    have st_1060 : ∀ (X : World) (g78 : Nat) (c78 : Nat) (g9 : Nat) (g71 : Nat) (T : HT w3 X) (R78 : HJ w3 X [] 0 g78 c78) (B9 : HB w3 X 26 g9 nil4) (B71 : HB w3 X 9 g71 [.string key]) (d78_9 : ¬ g78 = g9) (d78_71 : ¬ g78 = g71) (d9_71 : ¬ g9 = g71), ST 10 #[false, true, true, true, true, false, true, true, false, true, true, true, true, false, true, true, true, true, true, true, false, true, false, false, true, true, true, true, true, false, false, true, false] (((A0.put (some 71) (.slice (some ⟨g71, 0, none⟩) 1 1)).put (some 78) (.slice (some ⟨g78, 0, none⟩) 0 c78)).put (some 9) (.pointer (some ⟨g9, 0, none⟩))) X := by
     intro X g78 c78 g9 g71 T R78 B9 B71 d78_9 d78_71 d9_71
     have hH : Turn (fun _ => False) w3 X := T.out
     refine (hST.out _ _ _ _).2 ?_
     simp only [hA0, Act.put, e4, e5, e6]
     refine wpAnyH_ready (rs := [0, 22]) (by kernel_rfl) (by simp) ?_
     refine AllReadyH.cons rfl (fun K hK => ?_) (AllReadyH.cons rfl (fun K hK => ?_) AllReadyH.nil)
     · refine oS rfl rfl ?_
       refine hK.out _ _ (T.out.alloc _) (fun _ => ?_)
       try simp only [e1, e2, e3, Act.put, e4, e5, e6]
       refine wpAnyH_named (fun X1 e => ?_)
       have T1 := T.al e
       have hN := st_1061 X1 X.heap.size 0 g78 c78 g9 g71 T1 (T.eS e) (R78.al e) (B9.al e) (B71.al e) (nsy (aln R78.lt)) (nsy (aln B9.lt)) d78_9 (nsy (aln B71.lt)) d78_71 d9_71
       simp only [hA0, Act.put, e4, e5, e6] at hN
       exact (hST.out _ _ _ _).1 hN
     · refine oI1 rfl 85 kid rfl rfl ?_
       refine hK.out _ _ (T.out.alloc _) (fun _ => ?_)
       try simp only [e1, e2, e3, Act.put, e4, e5, e6]
       refine wpAnyH_named (fun X1 e => ?_)
       have T1 := T.al e
       have hN := st_1188 X1 g78 c78 g9 g71 X.heap.size T1 (R78.al e) (B9.al e) (B71.al e) (T.nw [.int .i64 kid] e) d78_9 d78_71 d9_71 (aln R78.lt) (aln B9.lt) (aln B71.lt)
       simp only [hA0, Act.put, e4, e5, e6] at hN
       exact (hST.out _ _ _ _).1 hN
    have st_1156 : ∀ (X : World) (g9 : Nat) (g71 : Nat) (g86 : Nat) (T : HT w3 X) (B9 : HB w3 X 26 g9 nil4) (B71 : HB w3 X 9 g71 [.string key]) (B86 : HB w3 X 3 g86 [.int .i64 kid]) (d9_71 : ¬ g9 = g71) (d9_86 : ¬ g9 = g86) (d71_86 : ¬ g71 = g86), ST 10 #[false, true, true, true, true, false, true, true, false, true, true, true, true, false, false, true, true, true, true, true, false, true, true, false, true, true, true, true, true, false, false, true, false] (((A0.put (some 71) (.slice (some ⟨g71, 0, none⟩) 1 1)).put (some 86) (.slice (some ⟨g86, 0, none⟩) 1 1)).put (some 9) (.pointer (some ⟨g9, 0, none⟩))) X := by
     intro X g9 g71 g86 T B9 B71 B86 d9_71 d9_86 d71_86
     have hH : Turn (fun _ => False) w3 X := T.out
     refine (hST.out _ _ _ _).2 ?_
     simp only [hA0, Act.put, e4, e5, e6]
     refine wpAnyH_ready (rs := [0, 14]) (by kernel_rfl) (by simp) ?_
     refine AllReadyH.cons rfl (fun K hK => ?_) (AllReadyH.cons rfl (fun K hK => ?_) AllReadyH.nil)
     · refine oS rfl rfl ?_
       refine hK.out _ _ (T.out.alloc _) (fun _ => ?_)
       try simp only [e1, e2, e3, Act.put, e4, e5, e6]
       refine wpAnyH_named (fun X1 e => ?_)
       have T1 := T.al e
       have hN := st_1157 X1 X.heap.size 0 g9 g71 g86 T1 (T.eS e) (B9.al e) (B71.al e) (B86.al e) (nsy (aln B9.lt)) (nsy (aln B71.lt)) d9_71 (nsy (aln B86.lt)) d9_86 d71_86
       simp only [hA0, Act.put, e4, e5, e6] at hN
       exact (hST.out _ _ _ _).1 hN
     · refine oI rfl rfl ?_
       refine hK.out _ _ (T.out.alloc _) (fun _ => ?_)
       try simp only [e1, e2, e3, Act.put, e4, e5, e6]
       refine wpAnyH_named (fun X1 e => ?_)
       have T1 := T.al e
       have hN := st_1188 X1 X.heap.size 0 g9 g71 g86 T1 (T.eI e) (B9.al e) (B71.al e) (B86.al e) (nsy (aln B9.lt)) (nsy (aln B71.lt)) d9_71 (nsy (aln B86.lt)) d9_86 d71_86
       simp only [hA0, Act.put, e4, e5, e6] at hN
       exact (hST.out _ _ _ _).1 hN
    have st_1184 : ∀ (X : World) (g78 : Nat) (c78 : Nat) (g9 : Nat) (g86 : Nat) (T : HT w3 X) (R78 : HJ w3 X [] 0 g78 c78) (B9 : HB w3 X 26 g9 nil4) (B86 : HB w3 X 3 g86 [.int .i64 kid]) (d78_9 : ¬ g78 = g9) (d78_86 : ¬ g78 = g86) (d9_86 : ¬ g9 = g86), ST 10 #[false, true, true, true, true, false, true, false, false, true, true, true, true, false, true, true, true, true, true, true, false, true, true, false, true, true, true, true, true, false, false, true, false] (((A0.put (some 78) (.slice (some ⟨g78, 0, none⟩) 0 c78)).put (some 86) (.slice (some ⟨g86, 0, none⟩) 1 1)).put (some 9) (.pointer (some ⟨g9, 0, none⟩))) X := by
     intro X g78 c78 g9 g86 T R78 B9 B86 d78_9 d78_86 d9_86
     have hH : Turn (fun _ => False) w3 X := T.out
     refine (hST.out _ _ _ _).2 ?_
     simp only [hA0, Act.put, e4, e5, e6]
     refine wpAnyH_ready (rs := [0, 7]) (by kernel_rfl) (by simp) ?_
     refine AllReadyH.cons rfl (fun K hK => ?_) (AllReadyH.cons rfl (fun K hK => ?_) AllReadyH.nil)
     · refine oS rfl rfl ?_
       refine hK.out _ _ (T.out.alloc _) (fun _ => ?_)
       try simp only [e1, e2, e3, Act.put, e4, e5, e6]
       refine wpAnyH_named (fun X1 e => ?_)
       have T1 := T.al e
       have hN := st_1185 X1 X.heap.size 0 g78 c78 g9 g86 T1 (T.eS e) (R78.al e) (B9.al e) (B86.al e) (nsy (aln R78.lt)) (nsy (aln B9.lt)) d78_9 (nsy (aln B86.lt)) d78_86 d9_86
       simp only [hA0, Act.put, e4, e5, e6] at hN
       exact (hST.out _ _ _ _).1 hN
     · refine oS1 rfl 70 key rfl rfl ?_
       refine hK.out _ _ (T.out.alloc _) (fun _ => ?_)
       try simp only [e1, e2, e3, Act.put, e4, e5, e6]
       refine wpAnyH_named (fun X1 e => ?_)
       have T1 := T.al e
       have hN := st_1188 X1 g78 c78 g9 X.heap.size g86 T1 (R78.al e) (B9.al e) (T.nw [.string key] e) (B86.al e) d78_9 (aln R78.lt) (aln B9.lt) d78_86 d9_86 (nsy (aln B86.lt))
       simp only [hA0, Act.put, e4, e5, e6] at hN
       exact (hST.out _ _ _ _).1 hN
    have st_3 : ∀ (X : World) (u64 : Value) (g69 : Nat) (c69 : Nat) (T : HT w3 X) (R69 : HS w3 X L69 i g69 c69), ST 11 #[true, true, true, true, true, true, true, false, false, true, true, true, true, false, false, true, true, true, true, true, false, true, false, false, true, true, true, true, true, false, false, false, false] ((A0.put (some 64) u64).put (some 69) (.slice (some ⟨g69, 0, none⟩) i c69)) X := by
     intro X u64 g69 c69 T R69
     have hH : Turn (fun _ => False) w3 X := T.out
     refine (hST.out _ _ _ _).2 ?_
     simp only [hA0, Act.put, e4, e5, e6]
     refine wpAnyH_ready (rs := [7, 14, 22, 31]) (by kernel_rfl) (by simp) ?_
     refine AllReadyH.cons rfl (fun K hK => ?_) (AllReadyH.cons rfl (fun K hK => ?_) (AllReadyH.cons rfl (fun K hK => ?_) (AllReadyH.cons rfl (fun K hK => ?_) AllReadyH.nil)))
     · refine oS1 rfl 70 key rfl rfl ?_
       refine hK.out _ _ (T.out.alloc _) (fun _ => ?_)
       try simp only [e1, e2, e3, Act.put, e4, e5, e6]
       refine wpAnyH_named (fun X1 e => ?_)
       have T1 := T.al e
       have hN := st_7 X1 u64 g69 c69 X.heap.size T1 (R69.al e) (T.nw [.string key] e) (aln R69.lt)
       simp only [hA0, Act.put, e4, e5, e6] at hN
       exact (hST.out _ _ _ _).1 hN
     · refine oI rfl rfl ?_
       refine hK.out _ _ (T.out.alloc _) (fun _ => ?_)
       try simp only [e1, e2, e3, Act.put, e4, e5, e6]
       refine wpAnyH_named (fun X1 e => ?_)
       have T1 := T.al e
       have hN := st_35 X1 u64 g69 c69 X.heap.size 0 T1 (R69.al e) (T.eI e) (aln R69.lt)
       simp only [hA0, Act.put, e4, e5, e6] at hN
       exact (hST.out _ _ _ _).1 hN
     · refine oI1 rfl 85 kid rfl rfl ?_
       refine hK.out _ _ (T.out.alloc _) (fun _ => ?_)
       try simp only [e1, e2, e3, Act.put, e4, e5, e6]
       refine wpAnyH_named (fun X1 e => ?_)
       have T1 := T.al e
       have hN := st_131 X1 u64 g69 c69 X.heap.size T1 (R69.al e) (T.nw [.int .i64 kid] e) (aln R69.lt)
       simp only [hA0, Act.put, e4, e5, e6] at hN
       exact (hST.out _ _ _ _).1 hN
     · refine oA rfl rfl ?_
       refine hK.out _ _ (T.out.alloc _) (fun _ => ?_)
       try simp only [e1, e2, e3, Act.put, e4, e5, e6]
       refine wpAnyH_named (fun X1 e => ?_)
       have T1 := T.al e
       have hN := st_1027 X1 u64 g69 c69 X.heap.size T1 (R69.al e) (T.nw nil4 e) (aln R69.lt)
       simp only [hA0, Act.put, e4, e5, e6] at hN
       exact (hST.out _ _ _ _).1 hN
    have st_5 : ∀ (X : World) (g64 : Nat) (c64 : Nat) (g71 : Nat) (T : HT w3 X) (R64 : HS w3 X [] 0 g64 c64) (B71 : HB w3 X 9 g71 [.string key]) (d64_71 : ¬ g64 = g71), ST 11 #[true, true, true, true, true, false, true, true, false, true, true, true, true, false, false, true, true, true, true, true, false, true, false, false, true, true, true, true, true, false, false, false, false] ((A0.put (some 64) (.slice (some ⟨g64, 0, none⟩) 0 c64)).put (some 71) (.slice (some ⟨g71, 0, none⟩) 1 1)) X := by
     intro X g64 c64 g71 T R64 B71 d64_71
     have hH : Turn (fun _ => False) w3 X := T.out
     refine (hST.out _ _ _ _).2 ?_
     simp only [hA0, Act.put, e4, e5, e6]
     refine wpAnyH_ready (rs := [5, 14, 22, 31]) (by kernel_rfl) (by simp) ?_
     refine AllReadyH.cons rfl (fun K hK => ?_) (AllReadyH.cons rfl (fun K hK => ?_) (AllReadyH.cons rfl (fun K hK => ?_) (AllReadyH.cons rfl (fun K hK => ?_) AllReadyH.nil)))
     · refine sT rfl _ _ rfl [] (n.keys.take i) L69 g64 c64 0 A1 i c1 i HM68.out HE69.out HN69.out HG69.out rfl rfl T R64 (HK1.out.turn T.out) PK1.out ?_
       intro g69 c69 X1 r ht hg T1
       refine hK.out _ _ T1.out (fun _ => ?_)
       try simp only [e1, e2, e3, Act.put, e4, e5, e6]
       have hN := st_7 X1 (.slice (some ⟨g64, 0, none⟩) 0 c64) g69 c69 g71 T1 r (B71.tn ht (nsy d64_71)) (apn hg d64_71 B71.lt)
       simp only [hA0, Act.put, e4, e5, e6] at hN
       exact (hST.out _ _ _ _).1 hN
     · refine oI rfl rfl ?_
       refine hK.out _ _ (T.out.alloc _) (fun _ => ?_)
       try simp only [e1, e2, e3, Act.put, e4, e5, e6]
       refine wpAnyH_named (fun X1 e => ?_)
       have T1 := T.al e
       have hN := st_37 X1 g64 c64 X.heap.size 0 g71 T1 (R64.al e) (T.eI e) (B71.al e) (aln R64.lt) d64_71 (nsy (aln B71.lt))
       simp only [hA0, Act.put, e4, e5, e6] at hN
       exact (hST.out _ _ _ _).1 hN
     · refine oI1 rfl 85 kid rfl rfl ?_
       refine hK.out _ _ (T.out.alloc _) (fun _ => ?_)
       try simp only [e1, e2, e3, Act.put, e4, e5, e6]
       refine wpAnyH_named (fun X1 e => ?_)
       have T1 := T.al e
       have hN := st_133 X1 g64 c64 g71 X.heap.size T1 (R64.al e) (B71.al e) (T.nw [.int .i64 kid] e) d64_71 (aln R64.lt) (aln B71.lt)
       simp only [hA0, Act.put, e4, e5, e6] at hN
       exact (hST.out _ _ _ _).1 hN
     · refine oA rfl rfl ?_
       refine hK.out _ _ (T.out.alloc _) (fun _ => ?_)
       try simp only [e1, e2, e3, Act.put, e4, e5, e6]
       refine wpAnyH_named (fun X1 e => ?_)
       have T1 := T.al e
       have hN := st_1029 X1 g64 c64 X.heap.size g71 T1 (R64.al e) (T.nw nil4 e) (B71.al e) (aln R64.lt) d64_71 (nsy (aln B71.lt))
       simp only [hA0, Act.put, e4, e5, e6] at hN
       exact (hST.out _ _ _ _).1 hN
    have st_33 : ∀ (X : World) (g64 : Nat) (c64 : Nat) (g78 : Nat) (c78 : Nat) (T : HT w3 X) (R64 : HS w3 X [] 0 g64 c64) (R78 : HJ w3 X [] 0 g78 c78) (d64_78 : ¬ g64 = g78), ST 11 #[true, true, true, true, true, false, true, false, false, true, true, true, true, false, true, true, true, true, true, true, false, true, false, false, true, true, true, true, true, false, false, false, false] ((A0.put (some 64) (.slice (some ⟨g64, 0, none⟩) 0 c64)).put (some 78) (.slice (some ⟨g78, 0, none⟩) 0 c78)) X := by
     intro X g64 c64 g78 c78 T R64 R78 d64_78
     have hH : Turn (fun _ => False) w3 X := T.out
     refine (hST.out _ _ _ _).2 ?_
     simp only [hA0, Act.put, e4, e5, e6]
     refine wpAnyH_ready (rs := [5, 7, 22, 31]) (by kernel_rfl) (by simp) ?_
     refine AllReadyH.cons rfl (fun K hK => ?_) (AllReadyH.cons rfl (fun K hK => ?_) (AllReadyH.cons rfl (fun K hK => ?_) (AllReadyH.cons rfl (fun K hK => ?_) AllReadyH.nil)))
     · refine sT rfl _ _ rfl [] (n.keys.take i) L69 g64 c64 0 A1 i c1 i HM68.out HE69.out HN69.out HG69.out rfl rfl T R64 (HK1.out.turn T.out) PK1.out ?_
       intro g69 c69 X1 r ht hg T1
       refine hK.out _ _ T1.out (fun _ => ?_)
       try simp only [e1, e2, e3, Act.put, e4, e5, e6]
       have hN := st_35 X1 (.slice (some ⟨g64, 0, none⟩) 0 c64) g69 c69 g78 c78 T1 r (R78.tn ht (nsy d64_78)) (apn hg d64_78 R78.lt)
       simp only [hA0, Act.put, e4, e5, e6] at hN
       exact (hST.out _ _ _ _).1 hN
     · refine oS1 rfl 70 key rfl rfl ?_
       refine hK.out _ _ (T.out.alloc _) (fun _ => ?_)
       try simp only [e1, e2, e3, Act.put, e4, e5, e6]
       refine wpAnyH_named (fun X1 e => ?_)
       have T1 := T.al e
       have hN := st_37 X1 g64 c64 g78 c78 X.heap.size T1 (R64.al e) (R78.al e) (T.nw [.string key] e) d64_78 (aln R64.lt) (aln R78.lt)
       simp only [hA0, Act.put, e4, e5, e6] at hN
       exact (hST.out _ _ _ _).1 hN
     · refine oI1 rfl 85 kid rfl rfl ?_
       refine hK.out _ _ (T.out.alloc _) (fun _ => ?_)
       try simp only [e1, e2, e3, Act.put, e4, e5, e6]
       refine wpAnyH_named (fun X1 e => ?_)
       have T1 := T.al e
       have hN := st_161 X1 g64 c64 g78 c78 X.heap.size T1 (R64.al e) (R78.al e) (T.nw [.int .i64 kid] e) d64_78 (aln R64.lt) (aln R78.lt)
       simp only [hA0, Act.put, e4, e5, e6] at hN
       exact (hST.out _ _ _ _).1 hN
     · refine oA rfl rfl ?_
       refine hK.out _ _ (T.out.alloc _) (fun _ => ?_)
       try simp only [e1, e2, e3, Act.put, e4, e5, e6]
       refine wpAnyH_named (fun X1 e => ?_)
       have T1 := T.al e
       have hN := st_1057 X1 g64 c64 g78 c78 X.heap.size T1 (R64.al e) (R78.al e) (T.nw nil4 e) d64_78 (aln R64.lt) (aln R78.lt)
       simp only [hA0, Act.put, e4, e5, e6] at hN
       exact (hST.out _ _ _ _).1 hN
    have st_129 : ∀ (X : World) (g64 : Nat) (c64 : Nat) (g86 : Nat) (T : HT w3 X) (R64 : HS w3 X [] 0 g64 c64) (B86 : HB w3 X 3 g86 [.int .i64 kid]) (d64_86 : ¬ g64 = g86), ST 11 #[true, true, true, true, true, false, true, false, false, true, true, true, true, false, false, true, true, true, true, true, false, true, true, false, true, true, true, true, true, false, false, false, false] ((A0.put (some 64) (.slice (some ⟨g64, 0, none⟩) 0 c64)).put (some 86) (.slice (some ⟨g86, 0, none⟩) 1 1)) X := by
     intro X g64 c64 g86 T R64 B86 d64_86
     have hH : Turn (fun _ => False) w3 X := T.out
     refine (hST.out _ _ _ _).2 ?_
     simp only [hA0, Act.put, e4, e5, e6]
     refine wpAnyH_ready (rs := [5, 7, 14, 31]) (by kernel_rfl) (by simp) ?_
     refine AllReadyH.cons rfl (fun K hK => ?_) (AllReadyH.cons rfl (fun K hK => ?_) (AllReadyH.cons rfl (fun K hK => ?_) (AllReadyH.cons rfl (fun K hK => ?_) AllReadyH.nil)))
     · refine sT rfl _ _ rfl [] (n.keys.take i) L69 g64 c64 0 A1 i c1 i HM68.out HE69.out HN69.out HG69.out rfl rfl T R64 (HK1.out.turn T.out) PK1.out ?_
       intro g69 c69 X1 r ht hg T1
       refine hK.out _ _ T1.out (fun _ => ?_)
       try simp only [e1, e2, e3, Act.put, e4, e5, e6]
       have hN := st_131 X1 (.slice (some ⟨g64, 0, none⟩) 0 c64) g69 c69 g86 T1 r (B86.tn ht (nsy d64_86)) (apn hg d64_86 B86.lt)
       simp only [hA0, Act.put, e4, e5, e6] at hN
       exact (hST.out _ _ _ _).1 hN
     · refine oS1 rfl 70 key rfl rfl ?_
       refine hK.out _ _ (T.out.alloc _) (fun _ => ?_)
       try simp only [e1, e2, e3, Act.put, e4, e5, e6]
       refine wpAnyH_named (fun X1 e => ?_)
       have T1 := T.al e
       have hN := st_133 X1 g64 c64 X.heap.size g86 T1 (R64.al e) (T.nw [.string key] e) (B86.al e) (aln R64.lt) d64_86 (nsy (aln B86.lt))
       simp only [hA0, Act.put, e4, e5, e6] at hN
       exact (hST.out _ _ _ _).1 hN
     · refine oI rfl rfl ?_
       refine hK.out _ _ (T.out.alloc _) (fun _ => ?_)
       try simp only [e1, e2, e3, Act.put, e4, e5, e6]
       refine wpAnyH_named (fun X1 e => ?_)
       have T1 := T.al e
       have hN := st_161 X1 g64 c64 X.heap.size 0 g86 T1 (R64.al e) (T.eI e) (B86.al e) (aln R64.lt) d64_86 (nsy (aln B86.lt))
       simp only [hA0, Act.put, e4, e5, e6] at hN
       exact (hST.out _ _ _ _).1 hN
     · refine oA rfl rfl ?_
       refine hK.out _ _ (T.out.alloc _) (fun _ => ?_)
       try simp only [e1, e2, e3, Act.put, e4, e5, e6]
       refine wpAnyH_named (fun X1 e => ?_)
       have T1 := T.al e
       have hN := st_1153 X1 g64 c64 X.heap.size g86 T1 (R64.al e) (T.nw nil4 e) (B86.al e) (aln R64.lt) d64_86 (nsy (aln B86.lt))
       simp only [hA0, Act.put, e4, e5, e6] at hN
       exact (hST.out _ _ _ _).1 hN
    have st_1025 : ∀ (X : World) (g64 : Nat) (c64 : Nat) (g9 : Nat) (T : HT w3 X) (R64 : HS w3 X [] 0 g64 c64) (B9 : HB w3 X 26 g9 nil4) (d64_9 : ¬ g64 = g9), ST 11 #[true, true, true, true, true, false, true, false, false, true, true, true, true, false, false, true, true, true, true, true, false, true, false, false, true, true, true, true, true, false, false, true, false] ((A0.put (some 64) (.slice (some ⟨g64, 0, none⟩) 0 c64)).put (some 9) (.pointer (some ⟨g9, 0, none⟩))) X := by
     intro X g64 c64 g9 T R64 B9 d64_9
     have hH : Turn (fun _ => False) w3 X := T.out
     refine (hST.out _ _ _ _).2 ?_
     simp only [hA0, Act.put, e4, e5, e6]
     refine wpAnyH_ready (rs := [5, 7, 14, 22]) (by kernel_rfl) (by simp) ?_
     refine AllReadyH.cons rfl (fun K hK => ?_) (AllReadyH.cons rfl (fun K hK => ?_) (AllReadyH.cons rfl (fun K hK => ?_) (AllReadyH.cons rfl (fun K hK => ?_) AllReadyH.nil)))
     · refine sT rfl _ _ rfl [] (n.keys.take i) L69 g64 c64 0 A1 i c1 i HM68.out HE69.out HN69.out HG69.out rfl rfl T R64 (HK1.out.turn T.out) PK1.out ?_
       intro g69 c69 X1 r ht hg T1
       refine hK.out _ _ T1.out (fun _ => ?_)
       try simp only [e1, e2, e3, Act.put, e4, e5, e6]
       have hN := st_1027 X1 (.slice (some ⟨g64, 0, none⟩) 0 c64) g69 c69 g9 T1 r (B9.tn ht (nsy d64_9)) (apn hg d64_9 B9.lt)
       simp only [hA0, Act.put, e4, e5, e6] at hN
       exact (hST.out _ _ _ _).1 hN
     · refine oS1 rfl 70 key rfl rfl ?_
       refine hK.out _ _ (T.out.alloc _) (fun _ => ?_)
       try simp only [e1, e2, e3, Act.put, e4, e5, e6]
       refine wpAnyH_named (fun X1 e => ?_)
       have T1 := T.al e
       have hN := st_1029 X1 g64 c64 g9 X.heap.size T1 (R64.al e) (B9.al e) (T.nw [.string key] e) d64_9 (aln R64.lt) (aln B9.lt)
       simp only [hA0, Act.put, e4, e5, e6] at hN
       exact (hST.out _ _ _ _).1 hN
     · refine oI rfl rfl ?_
       refine hK.out _ _ (T.out.alloc _) (fun _ => ?_)
       try simp only [e1, e2, e3, Act.put, e4, e5, e6]
       refine wpAnyH_named (fun X1 e => ?_)
       have T1 := T.al e
       have hN := st_1057 X1 g64 c64 X.heap.size 0 g9 T1 (R64.al e) (T.eI e) (B9.al e) (aln R64.lt) d64_9 (nsy (aln B9.lt))
       simp only [hA0, Act.put, e4, e5, e6] at hN
       exact (hST.out _ _ _ _).1 hN
     · refine oI1 rfl 85 kid rfl rfl ?_
       refine hK.out _ _ (T.out.alloc _) (fun _ => ?_)
       try simp only [e1, e2, e3, Act.put, e4, e5, e6]
       refine wpAnyH_named (fun X1 e => ?_)
       have T1 := T.al e
       have hN := st_1153 X1 g64 c64 g9 X.heap.size T1 (R64.al e) (B9.al e) (T.nw [.int .i64 kid] e) d64_9 (aln R64.lt) (aln B9.lt)
       simp only [hA0, Act.put, e4, e5, e6] at hN
       exact (hST.out _ _ _ _).1 hN
    have st_36 : ∀ (X : World) (g78 : Nat) (c78 : Nat) (g71 : Nat) (T : HT w3 X) (R78 : HJ w3 X [] 0 g78 c78) (B71 : HB w3 X 9 g71 [.string key]) (d78_71 : ¬ g78 = g71), ST 11 #[false, true, true, true, true, false, true, true, false, true, true, true, true, false, true, true, true, true, true, true, false, true, false, false, true, true, true, true, true, false, false, false, false] ((A0.put (some 71) (.slice (some ⟨g71, 0, none⟩) 1 1)).put (some 78) (.slice (some ⟨g78, 0, none⟩) 0 c78)) X := by
     intro X g78 c78 g71 T R78 B71 d78_71
     have hH : Turn (fun _ => False) w3 X := T.out
     refine (hST.out _ _ _ _).2 ?_
     simp only [hA0, Act.put, e4, e5, e6]
     refine wpAnyH_ready (rs := [0, 22, 31]) (by kernel_rfl) (by simp) ?_
     refine AllReadyH.cons rfl (fun K hK => ?_) (AllReadyH.cons rfl (fun K hK => ?_) (AllReadyH.cons rfl (fun K hK => ?_) AllReadyH.nil))
     · refine oS rfl rfl ?_
       refine hK.out _ _ (T.out.alloc _) (fun _ => ?_)
       try simp only [e1, e2, e3, Act.put, e4, e5, e6]
       refine wpAnyH_named (fun X1 e => ?_)
       have T1 := T.al e
       have hN := st_37 X1 X.heap.size 0 g78 c78 g71 T1 (T.eS e) (R78.al e) (B71.al e) (nsy (aln R78.lt)) (nsy (aln B71.lt)) d78_71
       simp only [hA0, Act.put, e4, e5, e6] at hN
       exact (hST.out _ _ _ _).1 hN
     · refine oI1 rfl 85 kid rfl rfl ?_
       refine hK.out _ _ (T.out.alloc _) (fun _ => ?_)
       try simp only [e1, e2, e3, Act.put, e4, e5, e6]
       refine wpAnyH_named (fun X1 e => ?_)
       have T1 := T.al e
       have hN := st_164 X1 g78 c78 g71 X.heap.size T1 (R78.al e) (B71.al e) (T.nw [.int .i64 kid] e) d78_71 (aln R78.lt) (aln B71.lt)
       simp only [hA0, Act.put, e4, e5, e6] at hN
       exact (hST.out _ _ _ _).1 hN
     · refine oA rfl rfl ?_
       refine hK.out _ _ (T.out.alloc _) (fun _ => ?_)
       try simp only [e1, e2, e3, Act.put, e4, e5, e6]
       refine wpAnyH_named (fun X1 e => ?_)
       have T1 := T.al e
       have hN := st_1060 X1 g78 c78 X.heap.size g71 T1 (R78.al e) (T.nw nil4 e) (B71.al e) (aln R78.lt) d78_71 (nsy (aln B71.lt))
       simp only [hA0, Act.put, e4, e5, e6] at hN
       exact (hST.out _ _ _ _).1 hN
    have st_132 : ∀ (X : World) (g71 : Nat) (g86 : Nat) (T : HT w3 X) (B71 : HB w3 X 9 g71 [.string key]) (B86 : HB w3 X 3 g86 [.int .i64 kid]) (d71_86 : ¬ g71 = g86), ST 11 #[false, true, true, true, true, false, true, true, false, true, true, true, true, false, false, true, true, true, true, true, false, true, true, false, true, true, true, true, true, false, false, false, false] ((A0.put (some 71) (.slice (some ⟨g71, 0, none⟩) 1 1)).put (some 86) (.slice (some ⟨g86, 0, none⟩) 1 1)) X := by
     intro X g71 g86 T B71 B86 d71_86
     have hH : Turn (fun _ => False) w3 X := T.out
     refine (hST.out _ _ _ _).2 ?_
     simp only [hA0, Act.put, e4, e5, e6]
     refine wpAnyH_ready (rs := [0, 14, 31]) (by kernel_rfl) (by simp) ?_
     refine AllReadyH.cons rfl (fun K hK => ?_) (AllReadyH.cons rfl (fun K hK => ?_) (AllReadyH.cons rfl (fun K hK => ?_) AllReadyH.nil))
     · refine oS rfl rfl ?_
       refine hK.out _ _ (T.out.alloc _) (fun _ => ?_)
       try simp only [e1, e2, e3, Act.put, e4, e5, e6]
       refine wpAnyH_named (fun X1 e => ?_)
       have T1 := T.al e
       have hN := st_133 X1 X.heap.size 0 g71 g86 T1 (T.eS e) (B71.al e) (B86.al e) (nsy (aln B71.lt)) (nsy (aln B86.lt)) d71_86
       simp only [hA0, Act.put, e4, e5, e6] at hN
       exact (hST.out _ _ _ _).1 hN
     · refine oI rfl rfl ?_
       refine hK.out _ _ (T.out.alloc _) (fun _ => ?_)
       try simp only [e1, e2, e3, Act.put, e4, e5, e6]
       refine wpAnyH_named (fun X1 e => ?_)
       have T1 := T.al e
       have hN := st_164 X1 X.heap.size 0 g71 g86 T1 (T.eI e) (B71.al e) (B86.al e) (nsy (aln B71.lt)) (nsy (aln B86.lt)) d71_86
       simp only [hA0, Act.put, e4, e5, e6] at hN
       exact (hST.out _ _ _ _).1 hN
     · refine oA rfl rfl ?_
       refine hK.out _ _ (T.out.alloc _) (fun _ => ?_)
       try simp only [e1, e2, e3, Act.put, e4, e5, e6]
       refine wpAnyH_named (fun X1 e => ?_)
       have T1 := T.al e
       have hN := st_1156 X1 X.heap.size g71 g86 T1 (T.nw nil4 e) (B71.al e) (B86.al e) (nsy (aln B71.lt)) (nsy (aln B86.lt)) d71_86
       simp only [hA0, Act.put, e4, e5, e6] at hN
       exact (hST.out _ _ _ _).1 hN
    have st_1028 : ∀ (X : World) (g9 : Nat) (g71 : Nat) (T : HT w3 X) (B9 : HB w3 X 26 g9 nil4) (B71 : HB w3 X 9 g71 [.string key]) (d9_71 : ¬ g9 = g71), ST 11 #[false, true, true, true, true, false, true, true, false, true, true, true, true, false, false, true, true, true, true, true, false, true, false, false, true, true, true, true, true, false, false, true, false] ((A0.put (some 71) (.slice (some ⟨g71, 0, none⟩) 1 1)).put (some 9) (.pointer (some ⟨g9, 0, none⟩))) X := by
     intro X g9 g71 T B9 B71 d9_71
     have hH : Turn (fun _ => False) w3 X := T.out
     refine (hST.out _ _ _ _).2 ?_
     simp only [hA0, Act.put, e4, e5, e6]
     refine wpAnyH_ready (rs := [0, 14, 22]) (by kernel_rfl) (by simp) ?_
     refine AllReadyH.cons rfl (fun K hK => ?_) (AllReadyH.cons rfl (fun K hK => ?_) (AllReadyH.cons rfl (fun K hK => ?_) AllReadyH.nil))
     · refine oS rfl rfl ?_
       refine hK.out _ _ (T.out.alloc _) (fun _ => ?_)
       try simp only [e1, e2, e3, Act.put, e4, e5, e6]
       refine wpAnyH_named (fun X1 e => ?_)
       have T1 := T.al e
       have hN := st_1029 X1 X.heap.size 0 g9 g71 T1 (T.eS e) (B9.al e) (B71.al e) (nsy (aln B9.lt)) (nsy (aln B71.lt)) d9_71
       simp only [hA0, Act.put, e4, e5, e6] at hN
       exact (hST.out _ _ _ _).1 hN
     · refine oI rfl rfl ?_
       refine hK.out _ _ (T.out.alloc _) (fun _ => ?_)
       try simp only [e1, e2, e3, Act.put, e4, e5, e6]
       refine wpAnyH_named (fun X1 e => ?_)
       have T1 := T.al e
       have hN := st_1060 X1 X.heap.size 0 g9 g71 T1 (T.eI e) (B9.al e) (B71.al e) (nsy (aln B9.lt)) (nsy (aln B71.lt)) d9_71
       simp only [hA0, Act.put, e4, e5, e6] at hN
       exact (hST.out _ _ _ _).1 hN
     · refine oI1 rfl 85 kid rfl rfl ?_
       refine hK.out _ _ (T.out.alloc _) (fun _ => ?_)
       try simp only [e1, e2, e3, Act.put, e4, e5, e6]
       refine wpAnyH_named (fun X1 e => ?_)
       have T1 := T.al e
       have hN := st_1156 X1 g9 g71 X.heap.size T1 (B9.al e) (B71.al e) (T.nw [.int .i64 kid] e) d9_71 (aln B9.lt) (aln B71.lt)
       simp only [hA0, Act.put, e4, e5, e6] at hN
       exact (hST.out _ _ _ _).1 hN
    have st_160 : ∀ (X : World) (g78 : Nat) (c78 : Nat) (g86 : Nat) (T : HT w3 X) (R78 : HJ w3 X [] 0 g78 c78) (B86 : HB w3 X 3 g86 [.int .i64 kid]) (d78_86 : ¬ g78 = g86), ST 11 #[false, true, true, true, true, false, true, false, false, true, true, true, true, false, true, true, true, true, true, true, false, true, true, false, true, true, true, true, true, false, false, false, false] ((A0.put (some 78) (.slice (some ⟨g78, 0, none⟩) 0 c78)).put (some 86) (.slice (some ⟨g86, 0, none⟩) 1 1)) X := by
     intro X g78 c78 g86 T R78 B86 d78_86
     have hH : Turn (fun _ => False) w3 X := T.out
     refine (hST.out _ _ _ _).2 ?_
     simp only [hA0, Act.put, e4, e5, e6]
     refine wpAnyH_ready (rs := [0, 7, 31]) (by kernel_rfl) (by simp) ?_
     refine AllReadyH.cons rfl (fun K hK => ?_) (AllReadyH.cons rfl (fun K hK => ?_) (AllReadyH.cons rfl (fun K hK => ?_) AllReadyH.nil))
     · refine oS rfl rfl ?_
       refine hK.out _ _ (T.out.alloc _) (fun _ => ?_)
       try simp only [e1, e2, e3, Act.put, e4, e5, e6]
       refine wpAnyH_named (fun X1 e => ?_)
       have T1 := T.al e
       have hN := st_161 X1 X.heap.size 0 g78 c78 g86 T1 (T.eS e) (R78.al e) (B86.al e) (nsy (aln R78.lt)) (nsy (aln B86.lt)) d78_86
       simp only [hA0, Act.put, e4, e5, e6] at hN
       exact (hST.out _ _ _ _).1 hN
     · refine oS1 rfl 70 key rfl rfl ?_
       refine hK.out _ _ (T.out.alloc _) (fun _ => ?_)
       try simp only [e1, e2, e3, Act.put, e4, e5, e6]
       refine wpAnyH_named (fun X1 e => ?_)
       have T1 := T.al e
       have hN := st_164 X1 g78 c78 X.heap.size g86 T1 (R78.al e) (T.nw [.string key] e) (B86.al e) (aln R78.lt) d78_86 (nsy (aln B86.lt))
       simp only [hA0, Act.put, e4, e5, e6] at hN
       exact (hST.out _ _ _ _).1 hN
     · refine oA rfl rfl ?_
       refine hK.out _ _ (T.out.alloc _) (fun _ => ?_)
       try simp only [e1, e2, e3, Act.put, e4, e5, e6]
       refine wpAnyH_named (fun X1 e => ?_)
       have T1 := T.al e
       have hN := st_1184 X1 g78 c78 X.heap.size g86 T1 (R78.al e) (T.nw nil4 e) (B86.al e) (aln R78.lt) d78_86 (nsy (aln B86.lt))
       simp only [hA0, Act.put, e4, e5, e6] at hN
       exact (hST.out _ _ _ _).1 hN
    have st_1056 : ∀ (X : World) (g78 : Nat) (c78 : Nat) (g9 : Nat) (T : HT w3 X) (R78 : HJ w3 X [] 0 g78 c78) (B9 : HB w3 X 26 g9 nil4) (d78_9 : ¬ g78 = g9), ST 11 #[false, true, true, true, true, false, true, false, false, true, true, true, true, false, true, true, true, true, true, true, false, true, false, false, true, true, true, true, true, false, false, true, false] ((A0.put (some 78) (.slice (some ⟨g78, 0, none⟩) 0 c78)).put (some 9) (.pointer (some ⟨g9, 0, none⟩))) X := by
     intro X g78 c78 g9 T R78 B9 d78_9
     have hH : Turn (fun _ => False) w3 X := T.out
     refine (hST.out _ _ _ _).2 ?_
     simp only [hA0, Act.put, e4, e5, e6]
     refine wpAnyH_ready (rs := [0, 7, 22]) (by kernel_rfl) (by simp) ?_
     refine AllReadyH.cons rfl (fun K hK => ?_) (AllReadyH.cons rfl (fun K hK => ?_) (AllReadyH.cons rfl (fun K hK => ?_) AllReadyH.nil))
     · refine oS rfl rfl ?_
       refine hK.out _ _ (T.out.alloc _) (fun _ => ?_)
       try simp only [e1, e2, e3, Act.put, e4, e5, e6]
       refine wpAnyH_named (fun X1 e => ?_)
       have T1 := T.al e
       have hN := st_1057 X1 X.heap.size 0 g78 c78 g9 T1 (T.eS e) (R78.al e) (B9.al e) (nsy (aln R78.lt)) (nsy (aln B9.lt)) d78_9
       simp only [hA0, Act.put, e4, e5, e6] at hN
       exact (hST.out _ _ _ _).1 hN
     · refine oS1 rfl 70 key rfl rfl ?_
       refine hK.out _ _ (T.out.alloc _) (fun _ => ?_)
       try simp only [e1, e2, e3, Act.put, e4, e5, e6]
       refine wpAnyH_named (fun X1 e => ?_)
       have T1 := T.al e
       have hN := st_1060 X1 g78 c78 g9 X.heap.size T1 (R78.al e) (B9.al e) (T.nw [.string key] e) d78_9 (aln R78.lt) (aln B9.lt)
       simp only [hA0, Act.put, e4, e5, e6] at hN
       exact (hST.out _ _ _ _).1 hN
     · refine oI1 rfl 85 kid rfl rfl ?_
       refine hK.out _ _ (T.out.alloc _) (fun _ => ?_)
       try simp only [e1, e2, e3, Act.put, e4, e5, e6]
       refine wpAnyH_named (fun X1 e => ?_)
       have T1 := T.al e
       have hN := st_1184 X1 g78 c78 g9 X.heap.size T1 (R78.al e) (B9.al e) (T.nw [.int .i64 kid] e) d78_9 (aln R78.lt) (aln B9.lt)
       simp only [hA0, Act.put, e4, e5, e6] at hN
       exact (hST.out _ _ _ _).1 hN
    have st_1152 : ∀ (X : World) (g9 : Nat) (g86 : Nat) (T : HT w3 X) (B9 : HB w3 X 26 g9 nil4) (B86 : HB w3 X 3 g86 [.int .i64 kid]) (d9_86 : ¬ g9 = g86), ST 11 #[false, true, true, true, true, false, true, false, false, true, true, true, true, false, false, true, true, true, true, true, false, true, true, false, true, true, true, true, true, false, false, true, false] ((A0.put (some 86) (.slice (some ⟨g86, 0, none⟩) 1 1)).put (some 9) (.pointer (some ⟨g9, 0, none⟩))) X := by
     intro X g9 g86 T B9 B86 d9_86
     have hH : Turn (fun _ => False) w3 X := T.out
     refine (hST.out _ _ _ _).2 ?_
     simp only [hA0, Act.put, e4, e5, e6]
     refine wpAnyH_ready (rs := [0, 7, 14]) (by kernel_rfl) (by simp) ?_
     refine AllReadyH.cons rfl (fun K hK => ?_) (AllReadyH.cons rfl (fun K hK => ?_) (AllReadyH.cons rfl (fun K hK => ?_) AllReadyH.nil))
     · refine oS rfl rfl ?_
       refine hK.out _ _ (T.out.alloc _) (fun _ => ?_)
       try simp only [e1, e2, e3, Act.put, e4, e5, e6]
       refine wpAnyH_named (fun X1 e => ?_)
       have T1 := T.al e
       have hN := st_1153 X1 X.heap.size 0 g9 g86 T1 (T.eS e) (B9.al e) (B86.al e) (nsy (aln B9.lt)) (nsy (aln B86.lt)) d9_86
       simp only [hA0, Act.put, e4, e5, e6] at hN
       exact (hST.out _ _ _ _).1 hN
     · refine oS1 rfl 70 key rfl rfl ?_
       refine hK.out _ _ (T.out.alloc _) (fun _ => ?_)
       try simp only [e1, e2, e3, Act.put, e4, e5, e6]
       refine wpAnyH_named (fun X1 e => ?_)
       have T1 := T.al e
       have hN := st_1156 X1 g9 X.heap.size g86 T1 (B9.al e) (T.nw [.string key] e) (B86.al e) (aln B9.lt) d9_86 (nsy (aln B86.lt))
       simp only [hA0, Act.put, e4, e5, e6] at hN
       exact (hST.out _ _ _ _).1 hN
     · refine oI rfl rfl ?_
       refine hK.out _ _ (T.out.alloc _) (fun _ => ?_)
       try simp only [e1, e2, e3, Act.put, e4, e5, e6]
       refine wpAnyH_named (fun X1 e => ?_)
       have T1 := T.al e
       have hN := st_1184 X1 X.heap.size 0 g9 g86 T1 (T.eI e) (B9.al e) (B86.al e) (nsy (aln B9.lt)) (nsy (aln B86.lt)) d9_86
       simp only [hA0, Act.put, e4, e5, e6] at hN
       exact (hST.out _ _ _ _).1 hN
    have st_1 : ∀ (X : World) (g64 : Nat) (c64 : Nat) (T : HT w3 X) (R64 : HS w3 X [] 0 g64 c64), ST 12 #[true, true, true, true, true, false, true, false, false, true, true, true, true, false, false, true, true, true, true, true, false, true, false, false, true, true, true, true, true, false, false, false, false] (A0.put (some 64) (.slice (some ⟨g64, 0, none⟩) 0 c64)) X := by
     intro X g64 c64 T R64
     have hH : Turn (fun _ => False) w3 X := T.out
     refine (hST.out _ _ _ _).2 ?_
     simp only [hA0, Act.put, e4, e5, e6]
     refine wpAnyH_ready (rs := [5, 7, 14, 22, 31]) (by kernel_rfl) (by simp) ?_
     refine AllReadyH.cons rfl (fun K hK => ?_) (AllReadyH.cons rfl (fun K hK => ?_) (AllReadyH.cons rfl (fun K hK => ?_) (AllReadyH.cons rfl (fun K hK => ?_) (AllReadyH.cons rfl (fun K hK => ?_) AllReadyH.nil))))
     · refine sT rfl _ _ rfl [] (n.keys.take i) L69 g64 c64 0 A1 i c1 i HM68.out HE69.out HN69.out HG69.out rfl rfl T R64 (HK1.out.turn T.out) PK1.out ?_
       intro g69 c69 X1 r ht hg T1
       refine hK.out _ _ T1.out (fun _ => ?_)
       try simp only [e1, e2, e3, Act.put, e4, e5, e6]
       have hN := st_3 X1 (.slice (some ⟨g64, 0, none⟩) 0 c64) g69 c69 T1 r
       simp only [hA0, Act.put, e4, e5, e6] at hN
       exact (hST.out _ _ _ _).1 hN
     · refine oS1 rfl 70 key rfl rfl ?_
       refine hK.out _ _ (T.out.alloc _) (fun _ => ?_)
       try simp only [e1, e2, e3, Act.put, e4, e5, e6]
       refine wpAnyH_named (fun X1 e => ?_)
       have T1 := T.al e
       have hN := st_5 X1 g64 c64 X.heap.size T1 (R64.al e) (T.nw [.string key] e) (aln R64.lt)
       simp only [hA0, Act.put, e4, e5, e6] at hN
       exact (hST.out _ _ _ _).1 hN
     · refine oI rfl rfl ?_
       refine hK.out _ _ (T.out.alloc _) (fun _ => ?_)
       try simp only [e1, e2, e3, Act.put, e4, e5, e6]
       refine wpAnyH_named (fun X1 e => ?_)
       have T1 := T.al e
       have hN := st_33 X1 g64 c64 X.heap.size 0 T1 (R64.al e) (T.eI e) (aln R64.lt)
       simp only [hA0, Act.put, e4, e5, e6] at hN
       exact (hST.out _ _ _ _).1 hN
     · refine oI1 rfl 85 kid rfl rfl ?_
       refine hK.out _ _ (T.out.alloc _) (fun _ => ?_)
       try simp only [e1, e2, e3, Act.put, e4, e5, e6]
       refine wpAnyH_named (fun X1 e => ?_)
       have T1 := T.al e
       have hN := st_129 X1 g64 c64 X.heap.size T1 (R64.al e) (T.nw [.int .i64 kid] e) (aln R64.lt)
       simp only [hA0, Act.put, e4, e5, e6] at hN
       exact (hST.out _ _ _ _).1 hN
     · refine oA rfl rfl ?_
       refine hK.out _ _ (T.out.alloc _) (fun _ => ?_)
       try simp only [e1, e2, e3, Act.put, e4, e5, e6]
       refine wpAnyH_named (fun X1 e => ?_)
       have T1 := T.al e
       have hN := st_1025 X1 g64 c64 X.heap.size T1 (R64.al e) (T.nw nil4 e) (aln R64.lt)
       simp only [hA0, Act.put, e4, e5, e6] at hN
       exact (hST.out _ _ _ _).1 hN
    have st_4 : ∀ (X : World) (g71 : Nat) (T : HT w3 X) (B71 : HB w3 X 9 g71 [.string key]), ST 12 #[false, true, true, true, true, false, true, true, false, true, true, true, true, false, false, true, true, true, true, true, false, true, false, false, true, true, true, true, true, false, false, false, false] (A0.put (some 71) (.slice (some ⟨g71, 0, none⟩) 1 1)) X := by
     intro X g71 T B71
     have hH : Turn (fun _ => False) w3 X := T.out
     refine (hST.out _ _ _ _).2 ?_
     simp only [hA0, Act.put, e4, e5, e6]
     refine wpAnyH_ready (rs := [0, 14, 22, 31]) (by kernel_rfl) (by simp) ?_
     refine AllReadyH.cons rfl (fun K hK => ?_) (AllReadyH.cons rfl (fun K hK => ?_) (AllReadyH.cons rfl (fun K hK => ?_) (AllReadyH.cons rfl (fun K hK => ?_) AllReadyH.nil)))
     · refine oS rfl rfl ?_
       refine hK.out _ _ (T.out.alloc _) (fun _ => ?_)
       try simp only [e1, e2, e3, Act.put, e4, e5, e6]
       refine wpAnyH_named (fun X1 e => ?_)
       have T1 := T.al e
       have hN := st_5 X1 X.heap.size 0 g71 T1 (T.eS e) (B71.al e) (nsy (aln B71.lt))
       simp only [hA0, Act.put, e4, e5, e6] at hN
       exact (hST.out _ _ _ _).1 hN
     · refine oI rfl rfl ?_
       refine hK.out _ _ (T.out.alloc _) (fun _ => ?_)
       try simp only [e1, e2, e3, Act.put, e4, e5, e6]
       refine wpAnyH_named (fun X1 e => ?_)
       have T1 := T.al e
       have hN := st_36 X1 X.heap.size 0 g71 T1 (T.eI e) (B71.al e) (nsy (aln B71.lt))
       simp only [hA0, Act.put, e4, e5, e6] at hN
       exact (hST.out _ _ _ _).1 hN
     · refine oI1 rfl 85 kid rfl rfl ?_
       refine hK.out _ _ (T.out.alloc _) (fun _ => ?_)
       try simp only [e1, e2, e3, Act.put, e4, e5, e6]
       refine wpAnyH_named (fun X1 e => ?_)
       have T1 := T.al e
       have hN := st_132 X1 g71 X.heap.size T1 (B71.al e) (T.nw [.int .i64 kid] e) (aln B71.lt)
       simp only [hA0, Act.put, e4, e5, e6] at hN
       exact (hST.out _ _ _ _).1 hN
     · refine oA rfl rfl ?_
       refine hK.out _ _ (T.out.alloc _) (fun _ => ?_)
       try simp only [e1, e2, e3, Act.put, e4, e5, e6]
       refine wpAnyH_named (fun X1 e => ?_)
       have T1 := T.al e
       have hN := st_1028 X1 X.heap.size g71 T1 (T.nw nil4 e) (B71.al e) (nsy (aln B71.lt))
       simp only [hA0, Act.put, e4, e5, e6] at hN
       exact (hST.out _ _ _ _).1 hN
    have st_32 : ∀ (X : World) (g78 : Nat) (c78 : Nat) (T : HT w3 X) (R78 : HJ w3 X [] 0 g78 c78), ST 12 #[false, true, true, true, true, false, true, false, false, true, true, true, true, false, true, true, true, true, true, true, false, true, false, false, true, true, true, true, true, false, false, false, false] (A0.put (some 78) (.slice (some ⟨g78, 0, none⟩) 0 c78)) X := by
     intro X g78 c78 T R78
     have hH : Turn (fun _ => False) w3 X := T.out
     refine (hST.out _ _ _ _).2 ?_
     simp only [hA0, Act.put, e4, e5, e6]
     refine wpAnyH_ready (rs := [0, 7, 22, 31]) (by kernel_rfl) (by simp) ?_
     refine AllReadyH.cons rfl (fun K hK => ?_) (AllReadyH.cons rfl (fun K hK => ?_) (AllReadyH.cons rfl (fun K hK => ?_) (AllReadyH.cons rfl (fun K hK => ?_) AllReadyH.nil)))
     · refine oS rfl rfl ?_
       refine hK.out _ _ (T.out.alloc _) (fun _ => ?_)
       try simp only [e1, e2, e3, Act.put, e4, e5, e6]
       refine wpAnyH_named (fun X1 e => ?_)
       have T1 := T.al e
       have hN := st_33 X1 X.heap.size 0 g78 c78 T1 (T.eS e) (R78.al e) (nsy (aln R78.lt))
       simp only [hA0, Act.put, e4, e5, e6] at hN
       exact (hST.out _ _ _ _).1 hN
     · refine oS1 rfl 70 key rfl rfl ?_
       refine hK.out _ _ (T.out.alloc _) (fun _ => ?_)
       try simp only [e1, e2, e3, Act.put, e4, e5, e6]
       refine wpAnyH_named (fun X1 e => ?_)
       have T1 := T.al e
       have hN := st_36 X1 g78 c78 X.heap.size T1 (R78.al e) (T.nw [.string key] e) (aln R78.lt)
       simp only [hA0, Act.put, e4, e5, e6] at hN
       exact (hST.out _ _ _ _).1 hN
     · refine oI1 rfl 85 kid rfl rfl ?_
       refine hK.out _ _ (T.out.alloc _) (fun _ => ?_)
       try simp only [e1, e2, e3, Act.put, e4, e5, e6]
       refine wpAnyH_named (fun X1 e => ?_)
       have T1 := T.al e
       have hN := st_160 X1 g78 c78 X.heap.size T1 (R78.al e) (T.nw [.int .i64 kid] e) (aln R78.lt)
       simp only [hA0, Act.put, e4, e5, e6] at hN
       exact (hST.out _ _ _ _).1 hN
     · refine oA rfl rfl ?_
       refine hK.out _ _ (T.out.alloc _) (fun _ => ?_)
       try simp only [e1, e2, e3, Act.put, e4, e5, e6]
       refine wpAnyH_named (fun X1 e => ?_)
       have T1 := T.al e
       have hN := st_1056 X1 g78 c78 X.heap.size T1 (R78.al e) (T.nw nil4 e) (aln R78.lt)
       simp only [hA0, Act.put, e4, e5, e6] at hN
       exact (hST.out _ _ _ _).1 hN
    have st_128 : ∀ (X : World) (g86 : Nat) (T : HT w3 X) (B86 : HB w3 X 3 g86 [.int .i64 kid]), ST 12 #[false, true, true, true, true, false, true, false, false, true, true, true, true, false, false, true, true, true, true, true, false, true, true, false, true, true, true, true, true, false, false, false, false] (A0.put (some 86) (.slice (some ⟨g86, 0, none⟩) 1 1)) X := by
     intro X g86 T B86
     have hH : Turn (fun _ => False) w3 X := T.out
     refine (hST.out _ _ _ _).2 ?_
     simp only [hA0, Act.put, e4, e5, e6]
     refine wpAnyH_ready (rs := [0, 7, 14, 31]) (by kernel_rfl) (by simp) ?_
     refine AllReadyH.cons rfl (fun K hK => ?_) (AllReadyH.cons rfl (fun K hK => ?_) (AllReadyH.cons rfl (fun K hK => ?_) (AllReadyH.cons rfl (fun K hK => ?_) AllReadyH.nil)))
     · refine oS rfl rfl ?_
       refine hK.out _ _ (T.out.alloc _) (fun _ => ?_)
       try simp only [e1, e2, e3, Act.put, e4, e5, e6]
       refine wpAnyH_named (fun X1 e => ?_)
       have T1 := T.al e
       have hN := st_129 X1 X.heap.size 0 g86 T1 (T.eS e) (B86.al e) (nsy (aln B86.lt))
       simp only [hA0, Act.put, e4, e5, e6] at hN
       exact (hST.out _ _ _ _).1 hN
     · refine oS1 rfl 70 key rfl rfl ?_
       refine hK.out _ _ (T.out.alloc _) (fun _ => ?_)
       try simp only [e1, e2, e3, Act.put, e4, e5, e6]
       refine wpAnyH_named (fun X1 e => ?_)
       have T1 := T.al e
       have hN := st_132 X1 X.heap.size g86 T1 (T.nw [.string key] e) (B86.al e) (nsy (aln B86.lt))
       simp only [hA0, Act.put, e4, e5, e6] at hN
       exact (hST.out _ _ _ _).1 hN
     · refine oI rfl rfl ?_
       refine hK.out _ _ (T.out.alloc _) (fun _ => ?_)
       try simp only [e1, e2, e3, Act.put, e4, e5, e6]
       refine wpAnyH_named (fun X1 e => ?_)
       have T1 := T.al e
       have hN := st_160 X1 X.heap.size 0 g86 T1 (T.eI e) (B86.al e) (nsy (aln B86.lt))
       simp only [hA0, Act.put, e4, e5, e6] at hN
       exact (hST.out _ _ _ _).1 hN
     · refine oA rfl rfl ?_
       refine hK.out _ _ (T.out.alloc _) (fun _ => ?_)
       try simp only [e1, e2, e3, Act.put, e4, e5, e6]
       refine wpAnyH_named (fun X1 e => ?_)
       have T1 := T.al e
       have hN := st_1152 X1 X.heap.size g86 T1 (T.nw nil4 e) (B86.al e) (nsy (aln B86.lt))
       simp only [hA0, Act.put, e4, e5, e6] at hN
       exact (hST.out _ _ _ _).1 hN
    have st_1024 : ∀ (X : World) (g9 : Nat) (T : HT w3 X) (B9 : HB w3 X 26 g9 nil4), ST 12 #[false, true, true, true, true, false, true, false, false, true, true, true, true, false, false, true, true, true, true, true, false, true, false, false, true, true, true, true, true, false, false, true, false] (A0.put (some 9) (.pointer (some ⟨g9, 0, none⟩))) X := by
     intro X g9 T B9
     have hH : Turn (fun _ => False) w3 X := T.out
     refine (hST.out _ _ _ _).2 ?_
     simp only [hA0, Act.put, e4, e5, e6]
     refine wpAnyH_ready (rs := [0, 7, 14, 22]) (by kernel_rfl) (by simp) ?_
     refine AllReadyH.cons rfl (fun K hK => ?_) (AllReadyH.cons rfl (fun K hK => ?_) (AllReadyH.cons rfl (fun K hK => ?_) (AllReadyH.cons rfl (fun K hK => ?_) AllReadyH.nil)))
     · refine oS rfl rfl ?_
       refine hK.out _ _ (T.out.alloc _) (fun _ => ?_)
       try simp only [e1, e2, e3, Act.put, e4, e5, e6]
       refine wpAnyH_named (fun X1 e => ?_)
       have T1 := T.al e
       have hN := st_1025 X1 X.heap.size 0 g9 T1 (T.eS e) (B9.al e) (nsy (aln B9.lt))
       simp only [hA0, Act.put, e4, e5, e6] at hN
       exact (hST.out _ _ _ _).1 hN
     · refine oS1 rfl 70 key rfl rfl ?_
       refine hK.out _ _ (T.out.alloc _) (fun _ => ?_)
       try simp only [e1, e2, e3, Act.put, e4, e5, e6]
       refine wpAnyH_named (fun X1 e => ?_)
       have T1 := T.al e
       have hN := st_1028 X1 g9 X.heap.size T1 (B9.al e) (T.nw [.string key] e) (aln B9.lt)
       simp only [hA0, Act.put, e4, e5, e6] at hN
       exact (hST.out _ _ _ _).1 hN
     · refine oI rfl rfl ?_
       refine hK.out _ _ (T.out.alloc _) (fun _ => ?_)
       try simp only [e1, e2, e3, Act.put, e4, e5, e6]
       refine wpAnyH_named (fun X1 e => ?_)
       have T1 := T.al e
       have hN := st_1056 X1 X.heap.size 0 g9 T1 (T.eI e) (B9.al e) (nsy (aln B9.lt))
       simp only [hA0, Act.put, e4, e5, e6] at hN
       exact (hST.out _ _ _ _).1 hN
     · refine oI1 rfl 85 kid rfl rfl ?_
       refine hK.out _ _ (T.out.alloc _) (fun _ => ?_)
       try simp only [e1, e2, e3, Act.put, e4, e5, e6]
       refine wpAnyH_named (fun X1 e => ?_)
       have T1 := T.al e
       have hN := st_1152 X1 g9 X.heap.size T1 (B9.al e) (T.nw [.int .i64 kid] e) (aln B9.lt)
       simp only [hA0, Act.put, e4, e5, e6] at hN
       exact (hST.out _ _ _ _).1 hN
    have st_0 : ∀ (X : World) (T : HT w3 X), ST 13 #[false, true, true, true, true, false, true, false, false, true, true, true, true, false, false, true, true, true, true, true, false, true, false, false, true, true, true, true, true, false, false, false, false] A0 X := by
     intro X T
     have hH : Turn (fun _ => False) w3 X := T.out
     refine (hST.out _ _ _ _).2 ?_
     simp only [hA0, Act.put, e4, e5, e6]
     refine wpAnyH_ready (rs := [0, 7, 14, 22, 31]) (by kernel_rfl) (by simp) ?_
     refine AllReadyH.cons rfl (fun K hK => ?_) (AllReadyH.cons rfl (fun K hK => ?_) (AllReadyH.cons rfl (fun K hK => ?_) (AllReadyH.cons rfl (fun K hK => ?_) (AllReadyH.cons rfl (fun K hK => ?_) AllReadyH.nil))))
     · refine oS rfl rfl ?_
       refine hK.out _ _ (T.out.alloc _) (fun _ => ?_)
       try simp only [e1, e2, e3, Act.put, e4, e5, e6]
       refine wpAnyH_named (fun X1 e => ?_)
       have T1 := T.al e
       have hN := st_1 X1 X.heap.size 0 T1 (T.eS e)
       simp only [hA0, Act.put, e4, e5, e6] at hN
       exact (hST.out _ _ _ _).1 hN
     · refine oS1 rfl 70 key rfl rfl ?_
       refine hK.out _ _ (T.out.alloc _) (fun _ => ?_)
       try simp only [e1, e2, e3, Act.put, e4, e5, e6]
       refine wpAnyH_named (fun X1 e => ?_)
       have T1 := T.al e
       have hN := st_4 X1 X.heap.size T1 (T.nw [.string key] e)
       simp only [hA0, Act.put, e4, e5, e6] at hN
       exact (hST.out _ _ _ _).1 hN
     · refine oI rfl rfl ?_
       refine hK.out _ _ (T.out.alloc _) (fun _ => ?_)
       try simp only [e1, e2, e3, Act.put, e4, e5, e6]
       refine wpAnyH_named (fun X1 e => ?_)
       have T1 := T.al e
       have hN := st_32 X1 X.heap.size 0 T1 (T.eI e)
       simp only [hA0, Act.put, e4, e5, e6] at hN
       exact (hST.out _ _ _ _).1 hN
     · refine oI1 rfl 85 kid rfl rfl ?_
       refine hK.out _ _ (T.out.alloc _) (fun _ => ?_)
       try simp only [e1, e2, e3, Act.put, e4, e5, e6]
       refine wpAnyH_named (fun X1 e => ?_)
       have T1 := T.al e
       have hN := st_128 X1 X.heap.size T1 (T.nw [.int .i64 kid] e)
       simp only [hA0, Act.put, e4, e5, e6] at hN
       exact (hST.out _ _ _ _).1 hN
     · refine oA rfl rfl ?_
       refine hK.out _ _ (T.out.alloc _) (fun _ => ?_)
       try simp only [e1, e2, e3, Act.put, e4, e5, e6]
       refine wpAnyH_named (fun X1 e => ?_)
       have T1 := T.al e
       have hN := st_1024 X1 X.heap.size T1 (T.nw nil4 e)
       simp only [hA0, Act.put, e4, e5, e6] at hN
       exact (hST.out _ _ _ _).1 hN
    exact st_0 X0 T0
  case rest =>
    obtain ⟨Y, gA, gB, cA, cB, rfl, hBY, hRA, hRB, hPA, hPB, hTX⟩ := hcut
    obtain ⟨w5, hw5⟩ : ∃ W, W = wc := ⟨_, rfl⟩
    subst hw5
    have hvals : MK.vals = [] := by rw [← HMK.out]; rfl
    have hleaf : MK.leaf = false := by rw [← HMK.out]; rfl
    have hvl : MK.vals.length = 0 := by rw [hvals]; rfl
    have FM : Few8 MK := by rw [← HMK.out]; exact mk_few HFEW.out (by rw [HNK.out]; omega) (by rw [HND.out, HDL.out]; omega) hkz
    have HFM := Lib.hid FM
    have NM5 := Lib.hid (show No w5 (some ⟨gA, 0, none⟩) cA none 0 (some ⟨gB, 0, none⟩) cB MK from ⟨hRA.sr, by rw [hvals]; exact sr_nil _ _, hRB.nr⟩)
    have BY5 := Lib.hid hBY
    have T5 := Lib.hid (T3.out.trans hTX)
    have BN5 := Lib.hid (B3_n.out.turn hTX (fun h => h))
    have P5 := Lib.hid (And.intro hPA hPB)
    have HLF := Lib.hid hleaf
    have HVL := Lib.hid hvl
    have HCM := Lib.hid (fun W (h : No W (some ⟨gA, 0, none⟩) cA none 0 (some ⟨gB, 0, none⟩) cB MK) => check_any MK (some ⟨gA, 0, none⟩) cA none 0 (some ⟨gB, 0, none⟩) cB W h FM)
    simp only [nv8] at HCM
    rw [hleaf, HN77.out, hvl, HN93.out] at HCM
    have m0 : (w5).cell? ⟨Y, 0, none⟩ = some (.bool false) := hBY.cell 0
    have m1 : (w5).cell? ⟨Y, 1, none⟩ = some (.slice (some ⟨gA, 0, none⟩) (nk + 1) cA) := hBY.cell 1
    have m2 : (w5).cell? ⟨Y, 2, none⟩ = some (.slice none 0 0) := hBY.cell 2
    have m3 : (w5).cell? ⟨Y, 3, none⟩ = some (.slice (some ⟨gB, 0, none⟩) (nd + 1) cB) := hBY.cell 3
    clear hBY hRA hRB hPA hPB hTX hvals hleaf hvl FM
    by_cases hin : key ∈ n.keys
    · obtain ⟨hns, hp0, hkp⟩ := mk_not (kid := kid) HSS.out hlf hin
      rw [HI.out, HMK.out] at hns
      rw [HI.out] at hp0 hkp
      have hc2 : check8 MK = 2 := by unfold check8; rw [st8_no hns, if_neg (by decide)]
      rw [hc2] at HCM
      obtain ⟨b1, o1, rfl, hb1, hcc⟩ := HHN.out.keys (by rw [HNK.out]; omega)
      obtain ⟨p, hp⟩ : ∃ p, i = p + 1 := ⟨i - 1, by omega⟩
      have hkp2 : n.keys[p]? = some key := by rw [hp] at hkp; exact hkp
      have HCC := Lib.hid (fun X (hX : Turn (fun _ => False) w X) => hcc X hX p key hkp2)
      have p1 : (i : Int) - 1 = (p : Int) := by omega
      have p2 : (0 : Int) < (i : Int) := by omega
      have p3 : (0 : Int) ≤ (p : Int) := by omega
      have p4 : (p : Int) < (nk : Int) := by omega
      have p5 := wrap_of (p : Int) (by omega) (by omega)
      have sk := str_same key
      clear hns hp0 hkp hc2 hcc hp hkp2 hin
      go_wp2_with fail
      refine (HCM.out _ NM5.out).mono ?_
      rintro e w6 ⟨rfl, ht6⟩
      have T6 := Lib.hid (T5.out.trans ht6)
      have BN6 := Lib.hid (BN5.out.turn ht6 (fun h => h))
      clear ht6 m0 m1 m2 m3
      have y1 : w6.cell? ⟨w.heap.size, 1, none⟩ = some (.slice (some ⟨b1, o1, none⟩) nk c1) := BN6.out.cell 1
      have y5 : w6.cell? ⟨b1, o1 + p, none⟩ = some (.string key) := HCC.out _ T6.out
      go_wp2_with fail
      refine (HLV.out _).mono ?_
      rintro e w7 ⟨rfl, ht7⟩
      have T7 := Lib.hid ((T6.out).trans ht7)
      go_wp2_with fail
      go_ret
      exact ⟨rfl, turn_below8 T7.out⟩
    · have SM : Stands8 MK := by have := mk_stands (kid := kid) HSS.out hlf hkz hk0 hk1k hin; rw [HI.out, HMK.out] at this; exact this
      have hsz : size8 MK ≤ 1157 := by
        have h1 := mk_size n i key kid hlf (by rw [HNK.out]; omega)
        rw [HMK.out] at h1
        have h2 := HSZ.out
        omega
      have hC : ((check8 MK : Int) == 2) = false := by unfold check8; rw [st8_yes SM, if_pos rfl]; split <;> rfl
      have HSM := Lib.hid SM
      have HSI := Lib.hid hsz
      clear SM hsz hin
      generalize check8 MK = C at *
      go_wp2_with fail
      refine (HCM.out _ NM5.out).mono ?_
      rintro e w6 ⟨rfl, ht6⟩
      have T6 := Lib.hid (T5.out.trans ht6)
      have BY6 := Lib.hid (BY5.out.turn ht6 (fun h => h))
      have NM6 := Lib.hid (NM5.out.turn ht6)
      clear ht6 m0 m1 m2 m3 T5 BY5 NM5 BN5
      have m0 : (w6).cell? ⟨Y, 0, none⟩ = some (.bool false) := BY6.out.cell 0
      have m1 : (w6).cell? ⟨Y, 1, none⟩ = some (.slice (some ⟨gA, 0, none⟩) (nk + 1) cA) := BY6.out.cell 1
      have m2 : (w6).cell? ⟨Y, 2, none⟩ = some (.slice none 0 0) := BY6.out.cell 2
      have m3 : (w6).cell? ⟨Y, 3, none⟩ = some (.slice (some ⟨gB, 0, none⟩) (nd + 1) cB) := BY6.out.cell 3
      by_cases hlen : nk + 1 ≤ 2
      · have HSP := Lib.hid (fun W (h : No W (some ⟨gA, 0, none⟩) cA none 0 (some ⟨gB, 0, none⟩) cB MK) => split_no MK (some ⟨gA, 0, none⟩) cA none 0 (some ⟨gB, 0, none⟩) cB W h HFM.out (.inr (by rw [HLF.out, HN77.out]; exact hlen)))
        simp only [nv8] at HSP
        rw [HLF.out, HN77.out, HVL.out, HN93.out] at HSP
        have hl3 : ((nk : Int) + 1) < 3 := by omega
        go_wp2_with fail
        refine (HSP.out _ NM6.out).mono ?_
        rintro e w7 ⟨rfl, ht7⟩
        have NB := Lib.hid (((Turn.refl (fun _ => False) w7).alloc (.cells #[.bool false, .slice none 0 0, .slice none 0 0, .slice none 0 0] 26)).alloc (.cells #[.bool false, .slice none 0 0, .slice none 0 0, .slice none 0 0] 26))
        have T7 := Lib.hid ((T6.out.trans ht7).trans NB.out)
        have BY7 := Lib.hid ((BY6.out.turn ht7 (fun h => h)).turn NB.out (fun h => h))
        clear ht7 NB m0 m1 m2 m3
        have m0 : (((w7.alloc (.cells #[.bool false, .slice none 0 0, .slice none 0 0, .slice none 0 0] 26)).alloc (.cells #[.bool false, .slice none 0 0, .slice none 0 0, .slice none 0 0] 26))).cell? ⟨Y, 0, none⟩ = some (.bool false) := BY7.out.cell 0
        have m1 : (((w7.alloc (.cells #[.bool false, .slice none 0 0, .slice none 0 0, .slice none 0 0] 26)).alloc (.cells #[.bool false, .slice none 0 0, .slice none 0 0, .slice none 0 0] 26))).cell? ⟨Y, 1, none⟩ = some (.slice (some ⟨gA, 0, none⟩) (nk + 1) cA) := BY7.out.cell 1
        have m2 : (((w7.alloc (.cells #[.bool false, .slice none 0 0, .slice none 0 0, .slice none 0 0] 26)).alloc (.cells #[.bool false, .slice none 0 0, .slice none 0 0, .slice none 0 0] 26))).cell? ⟨Y, 2, none⟩ = some (.slice none 0 0) := BY7.out.cell 2
        have m3 : (((w7.alloc (.cells #[.bool false, .slice none 0 0, .slice none 0 0, .slice none 0 0] 26)).alloc (.cells #[.bool false, .slice none 0 0, .slice none 0 0, .slice none 0 0] 26))).cell? ⟨Y, 3, none⟩ = some (.slice (some ⟨gB, 0, none⟩) (nd + 1) cB) := BY7.out.cell 3
        go_wp2_with fail
        refine (HLV.out _).mono ?_
        rintro e w8 ⟨rfl, ht8⟩
        have T8 := Lib.hid ((T7.out).trans ht8)
        go_wp2_with fail
        go_ret
        exact ⟨rfl, turn_below8 T8.out⟩
      · have HSP := Lib.hid (fun W (h : No W (some ⟨gA, 0, none⟩) cA none 0 (some ⟨gB, 0, none⟩) cB MK) => split_yes MK (some ⟨gA, 0, none⟩) cA none 0 (some ⟨gB, 0, none⟩) cB W h (by rw [HN77.out]; exact P5.out.1) (by rw [HVL.out]; exact ⟨Nat.le_refl _, by unfold maxLen; decide, fun _ => rfl⟩) (by rw [HN93.out]; exact P5.out.2) HFM.out HSM.out (by rw [HLF.out, HN77.out]; show 1 + 1 < nk + 1; omega))
        simp only [nv8, HLF.out, bet8, Bool.false_eq_true, if_false] at HSP
        rw [HVL.out] at HSP
        rw [HN77.out, HN93.out] at HSP
        have HZM := Lib.hid (fun W (h : No W (some ⟨gA, 0, none⟩) cA none 0 (some ⟨gB, 0, none⟩) cB MK) => size_any MK (some ⟨gA, 0, none⟩) cA none 0 (some ⟨gB, 0, none⟩) cB W h HFM.out)
        simp only [nv8] at HZM
        rw [HLF.out, HN77.out, HVL.out, HN93.out] at HZM
        go_wp2_with fail
        refine (HSP.out _ NM6.out).mono ?_
        rintro e w7 ⟨kk, vA, vB, rfl, ⟨hk1, hk2, hlo, hhi⟩, hna, hnb, ht7⟩
        obtain ⟨ca, cb⟩ := halvesK HSM.out HLF.out HSI.out hk1 (by rw [HN77.out]; exact hk2) hlo (by rw [HN77.out]; exact hhi)
        obtain ⟨hjk, hjd⟩ := wholeK HSM.out HLF.out (k := kk) (by rw [HN77.out]; exact hk2)
        rw [HN77.out] at cb hjk hjd
        have fa := few_part HFM.out 0 kk
        have fb := few_part HFM.out (kk + 1) (nk + 1)
        have la : (part8 MK 0 kk).leaf = false := by rw [part_kids HLF.out]
        have lb : (part8 MK (kk + 1) (nk + 1)).leaf = false := by rw [part_kids HLF.out]
        generalize size8 MK = SZ at *
        generalize part8 MK 0 kk = PA at *
        generalize part8 MK (kk + 1) (nk + 1) = PB at *
        generalize key8 MK.keys kk = KK at *
        clear hlo hhi hk1 hk2
        obtain ⟨E1, f1, E2, f2, E3, f3, rfl, hea, ka1, _, ka3⟩ := hna
        obtain ⟨G1, g1, G2, g2, G3, g3, rfl, heb, kb1, _, kb3⟩ := hnb
        have HCA := Lib.hid (fun W (h : No W E1 f1 E2 f2 E3 f3 PA) => check_any PA E1 f1 E2 f2 E3 f3 W h fa)
        have HCB := Lib.hid (fun W (h : No W G1 g1 G2 g2 G3 g3 PB) => check_any PB G1 g1 G2 g2 G3 g3 W h fb)
        rw [ca] at HCA
        rw [cb] at HCB
        have hfa := fa.nk
        have hfd := fa.nd
        have KKA := Lib.hid (And.intro ka1 ka3)
        have KKB := Lib.hid (And.intro kb1 kb3)
        have HEA := Lib.hid hea
        have HEB := Lib.hid heb
        clear hea heb ka1 ka3 kb1 kb3 fa fb ca cb
        simp only [nv8] at *
        rw [la] at HCA ⊢
        rw [lb] at HCB ⊢
        clear la lb
        generalize hka : PA.keys.length = ka at *
        generalize hkb : PB.keys.length = kb at *
        generalize PA.vals.length = va at *
        generalize PB.vals.length = vb at *
        generalize hda : PA.kids.length = da at *
        generalize hdb : PB.kids.length = db at *
        have HKA := Lib.hid hka
        have HKB := Lib.hid hkb
        have HDA := Lib.hid hda
        have HDB := Lib.hid hdb
        obtain ⟨L149, hL149⟩ : ∃ L, PA.keys ++ [KK] = L := ⟨_, rfl⟩
        rw [hL149] at hjk
        have HJ149 := Lib.hid hL149
        have HJK := Lib.hid hjk
        have HJD := Lib.hid hjd
        have HN149 : Hid (L149.length = ka + 1) := Lib.hid (by rw [← hL149]; simp [hka])
        have HG146 : Hid (PA.keys.length ≤ 100000) := Lib.hid (by rw [hka]; omega)
        have HG149 : Hid (L149.length ≤ 100000) := Lib.hid (by rw [HN149.out]; omega)
        have HG156 : Hid (PA.kids.length ≤ 100000) := Lib.hid (by rw [hda]; omega)
        clear hka hkb hda hdb hjk hjd hL149
        have NB := Lib.hid (((Turn.refl (fun _ => False) w7).alloc (.cells #[.bool false, .slice E1 ka f1, .slice E2 va f2, .slice E3 da f3] 26)).alloc (.cells #[.bool false, .slice G1 kb g1, .slice G2 vb g2, .slice G3 db g3] 26))
        have BX := Lib.hid (box_two w7 [.bool false, .slice E1 ka f1, .slice E2 va f2, .slice E3 da f3] [.bool false, .slice G1 kb g1, .slice G2 vb g2, .slice G3 db g3])
        have T7 := Lib.hid ((T6.out.trans ht7).trans NB.out)
        have BY7 := Lib.hid ((BY6.out.turn ht7 (fun h => h)).turn NB.out (fun h => h))
        have NM7 := Lib.hid ((NM6.out.turn ht7).turn NB.out)
        have EA7 := Lib.hid (HEA.out.turn NB.out)
        have EB7 := Lib.hid (HEB.out.turn NB.out)
        clear ht7 NB m0 m1 m2 m3 T6 BY6 NM6
        have m0 : (((w7.alloc (.cells #[.bool false, .slice E1 ka f1, .slice E2 va f2, .slice E3 da f3] 26)).alloc (.cells #[.bool false, .slice G1 kb g1, .slice G2 vb g2, .slice G3 db g3] 26))).cell? ⟨Y, 0, none⟩ = some (.bool false) := BY7.out.cell 0
        have m1 : (((w7.alloc (.cells #[.bool false, .slice E1 ka f1, .slice E2 va f2, .slice E3 da f3] 26)).alloc (.cells #[.bool false, .slice G1 kb g1, .slice G2 vb g2, .slice G3 db g3] 26))).cell? ⟨Y, 1, none⟩ = some (.slice (some ⟨gA, 0, none⟩) (nk + 1) cA) := BY7.out.cell 1
        have m2 : (((w7.alloc (.cells #[.bool false, .slice E1 ka f1, .slice E2 va f2, .slice E3 da f3] 26)).alloc (.cells #[.bool false, .slice G1 kb g1, .slice G2 vb g2, .slice G3 db g3] 26))).cell? ⟨Y, 2, none⟩ = some (.slice none 0 0) := BY7.out.cell 2
        have m3 : (((w7.alloc (.cells #[.bool false, .slice E1 ka f1, .slice E2 va f2, .slice E3 da f3] 26)).alloc (.cells #[.bool false, .slice G1 kb g1, .slice G2 vb g2, .slice G3 db g3] 26))).cell? ⟨Y, 3, none⟩ = some (.slice (some ⟨gB, 0, none⟩) (nd + 1) cB) := BY7.out.cell 3
        have x0 : (((w7.alloc (.cells #[.bool false, .slice E1 ka f1, .slice E2 va f2, .slice E3 da f3] 26)).alloc (.cells #[.bool false, .slice G1 kb g1, .slice G2 vb g2, .slice G3 db g3] 26))).cell? ⟨w7.heap.size, 0, none⟩ = some (.bool false) := BX.out.1.cell 0
        have x1 : (((w7.alloc (.cells #[.bool false, .slice E1 ka f1, .slice E2 va f2, .slice E3 da f3] 26)).alloc (.cells #[.bool false, .slice G1 kb g1, .slice G2 vb g2, .slice G3 db g3] 26))).cell? ⟨w7.heap.size, 1, none⟩ = some (.slice E1 ka f1) := BX.out.1.cell 1
        have x2 : (((w7.alloc (.cells #[.bool false, .slice E1 ka f1, .slice E2 va f2, .slice E3 da f3] 26)).alloc (.cells #[.bool false, .slice G1 kb g1, .slice G2 vb g2, .slice G3 db g3] 26))).cell? ⟨w7.heap.size, 2, none⟩ = some (.slice E2 va f2) := BX.out.1.cell 2
        have x3 : (((w7.alloc (.cells #[.bool false, .slice E1 ka f1, .slice E2 va f2, .slice E3 da f3] 26)).alloc (.cells #[.bool false, .slice G1 kb g1, .slice G2 vb g2, .slice G3 db g3] 26))).cell? ⟨w7.heap.size, 3, none⟩ = some (.slice E3 da f3) := BX.out.1.cell 3
        have s0 : (((w7.alloc (.cells #[.bool false, .slice E1 ka f1, .slice E2 va f2, .slice E3 da f3] 26)).alloc (.cells #[.bool false, .slice G1 kb g1, .slice G2 vb g2, .slice G3 db g3] 26))).cell? ⟨(w7.heap.size + 1), 0, none⟩ = some (.bool false) := BX.out.2.cell 0
        have s1 : (((w7.alloc (.cells #[.bool false, .slice E1 ka f1, .slice E2 va f2, .slice E3 da f3] 26)).alloc (.cells #[.bool false, .slice G1 kb g1, .slice G2 vb g2, .slice G3 db g3] 26))).cell? ⟨(w7.heap.size + 1), 1, none⟩ = some (.slice G1 kb g1) := BX.out.2.cell 1
        have s2 : (((w7.alloc (.cells #[.bool false, .slice E1 ka f1, .slice E2 va f2, .slice E3 da f3] 26)).alloc (.cells #[.bool false, .slice G1 kb g1, .slice G2 vb g2, .slice G3 db g3] 26))).cell? ⟨(w7.heap.size + 1), 2, none⟩ = some (.slice G2 vb g2) := BX.out.2.cell 2
        have s3 : (((w7.alloc (.cells #[.bool false, .slice E1 ka f1, .slice E2 va f2, .slice E3 da f3] 26)).alloc (.cells #[.bool false, .slice G1 kb g1, .slice G2 vb g2, .slice G3 db g3] 26))).cell? ⟨(w7.heap.size + 1), 3, none⟩ = some (.slice G3 db g3) := BX.out.2.cell 3
        go_upto_region 13 with fail
        go_cut [142] (fun c wx => c = .bool false ∧ Turn (fun _ => False) w wx ∧ Blk wx Y 26 [.bool false, .slice (some ⟨gA, 0, none⟩) (nk + 1) cA, .slice none 0 0, .slice (some ⟨gB, 0, none⟩) (nd + 1) cB] ∧ No wx (some ⟨gA, 0, none⟩) cA none 0 (some ⟨gB, 0, none⟩) cB MK ∧ No wx E1 f1 E2 f2 E3 f3 PA ∧ No wx G1 g1 G2 g2 G3 g3 PB ∧ Blk wx w7.heap.size 26 [.bool false, .slice E1 ka f1, .slice E2 va f2, .slice E3 da f3] ∧ Blk wx (w7.heap.size + 1) 26 [.bool false, .slice G1 kb g1, .slice G2 vb g2, .slice G3 db g3])
        case first =>
          by_cases hz : 1024 < SZ
          · have hz1 : (1024 : Int) < (SZ : Int) := by omega
            go_wp2_with fail
            refine (HZM.out _ NM7.out).mono ?_
            rintro e w8 ⟨rfl, ht8⟩
            have T8 := Lib.hid (T7.out.trans ht8)
            have BY8 := Lib.hid (BY7.out.turn ht8 (fun h => h))
            have NM8 := Lib.hid (NM7.out.turn ht8)
            have EA8 := Lib.hid (EA7.out.turn ht8)
            have EB8 := Lib.hid (EB7.out.turn ht8)
            have BA8 := Lib.hid (BX.out.1.turn ht8 (fun h => h))
            have BB8 := Lib.hid (BX.out.2.turn ht8 (fun h => h))
            clear ht8 m0 m1 m2 m3 x0 x1 x2 x3 s0 s1 s2 s3
            have m0 : (w8).cell? ⟨Y, 0, none⟩ = some (.bool false) := BY8.out.cell 0
            have m1 : (w8).cell? ⟨Y, 1, none⟩ = some (.slice (some ⟨gA, 0, none⟩) (nk + 1) cA) := BY8.out.cell 1
            have m2 : (w8).cell? ⟨Y, 2, none⟩ = some (.slice none 0 0) := BY8.out.cell 2
            have m3 : (w8).cell? ⟨Y, 3, none⟩ = some (.slice (some ⟨gB, 0, none⟩) (nd + 1) cB) := BY8.out.cell 3
            have x0 : (w8).cell? ⟨w7.heap.size, 0, none⟩ = some (.bool false) := BA8.out.cell 0
            have x1 : (w8).cell? ⟨w7.heap.size, 1, none⟩ = some (.slice E1 ka f1) := BA8.out.cell 1
            have x2 : (w8).cell? ⟨w7.heap.size, 2, none⟩ = some (.slice E2 va f2) := BA8.out.cell 2
            have x3 : (w8).cell? ⟨w7.heap.size, 3, none⟩ = some (.slice E3 da f3) := BA8.out.cell 3
            have s0 : (w8).cell? ⟨(w7.heap.size + 1), 0, none⟩ = some (.bool false) := BB8.out.cell 0
            have s1 : (w8).cell? ⟨(w7.heap.size + 1), 1, none⟩ = some (.slice G1 kb g1) := BB8.out.cell 1
            have s2 : (w8).cell? ⟨(w7.heap.size + 1), 2, none⟩ = some (.slice G2 vb g2) := BB8.out.cell 2
            have s3 : (w8).cell? ⟨(w7.heap.size + 1), 3, none⟩ = some (.slice G3 db g3) := BB8.out.cell 3
            go_wp2_with fail
            refine (HCA.out _ EA8.out).mono ?_
            rintro e w9 ⟨rfl, ht9⟩
            have T9 := Lib.hid (T8.out.trans ht9)
            have BY9 := Lib.hid (BY8.out.turn ht9 (fun h => h))
            have NM9 := Lib.hid (NM8.out.turn ht9)
            have EA9 := Lib.hid (EA8.out.turn ht9)
            have EB9 := Lib.hid (EB8.out.turn ht9)
            have BA9 := Lib.hid (BA8.out.turn ht9 (fun h => h))
            have BB9 := Lib.hid (BB8.out.turn ht9 (fun h => h))
            clear ht9 m0 m1 m2 m3 x0 x1 x2 x3 s0 s1 s2 s3
            have m0 : (w9).cell? ⟨Y, 0, none⟩ = some (.bool false) := BY9.out.cell 0
            have m1 : (w9).cell? ⟨Y, 1, none⟩ = some (.slice (some ⟨gA, 0, none⟩) (nk + 1) cA) := BY9.out.cell 1
            have m2 : (w9).cell? ⟨Y, 2, none⟩ = some (.slice none 0 0) := BY9.out.cell 2
            have m3 : (w9).cell? ⟨Y, 3, none⟩ = some (.slice (some ⟨gB, 0, none⟩) (nd + 1) cB) := BY9.out.cell 3
            have x0 : (w9).cell? ⟨w7.heap.size, 0, none⟩ = some (.bool false) := BA9.out.cell 0
            have x1 : (w9).cell? ⟨w7.heap.size, 1, none⟩ = some (.slice E1 ka f1) := BA9.out.cell 1
            have x2 : (w9).cell? ⟨w7.heap.size, 2, none⟩ = some (.slice E2 va f2) := BA9.out.cell 2
            have x3 : (w9).cell? ⟨w7.heap.size, 3, none⟩ = some (.slice E3 da f3) := BA9.out.cell 3
            have s0 : (w9).cell? ⟨(w7.heap.size + 1), 0, none⟩ = some (.bool false) := BB9.out.cell 0
            have s1 : (w9).cell? ⟨(w7.heap.size + 1), 1, none⟩ = some (.slice G1 kb g1) := BB9.out.cell 1
            have s2 : (w9).cell? ⟨(w7.heap.size + 1), 2, none⟩ = some (.slice G2 vb g2) := BB9.out.cell 2
            have s3 : (w9).cell? ⟨(w7.heap.size + 1), 3, none⟩ = some (.slice G3 db g3) := BB9.out.cell 3
            go_wp2_with fail
            refine (HCB.out _ EB9.out).mono ?_
            rintro e w10 ⟨rfl, ht10⟩
            have T10 := Lib.hid (T9.out.trans ht10)
            have BY10 := Lib.hid (BY9.out.turn ht10 (fun h => h))
            have NM10 := Lib.hid (NM9.out.turn ht10)
            have EA10 := Lib.hid (EA9.out.turn ht10)
            have EB10 := Lib.hid (EB9.out.turn ht10)
            have BA10 := Lib.hid (BA9.out.turn ht10 (fun h => h))
            have BB10 := Lib.hid (BB9.out.turn ht10 (fun h => h))
            clear ht10 m0 m1 m2 m3 x0 x1 x2 x3 s0 s1 s2 s3
            go_wp2_with fail
            go_meet
            exact ⟨rfl, T10.out, BY10.out, NM10.out, EA10.out, EB10.out, BA10.out, BB10.out⟩
          · have hz1 : ¬ (1024 : Int) < (SZ : Int) := by omega
            go_wp2_with fail
            refine (HZM.out _ NM7.out).mono ?_
            rintro e w8 ⟨rfl, ht8⟩
            have T8 := Lib.hid (T7.out.trans ht8)
            have BY8 := Lib.hid (BY7.out.turn ht8 (fun h => h))
            have NM8 := Lib.hid (NM7.out.turn ht8)
            have EA8 := Lib.hid (EA7.out.turn ht8)
            have EB8 := Lib.hid (EB7.out.turn ht8)
            have BA8 := Lib.hid (BX.out.1.turn ht8 (fun h => h))
            have BB8 := Lib.hid (BX.out.2.turn ht8 (fun h => h))
            clear ht8 m0 m1 m2 m3 x0 x1 x2 x3 s0 s1 s2 s3
            go_wp2_with fail
            go_meet
            exact ⟨rfl, T8.out, BY8.out, NM8.out, EA8.out, EB8.out, BA8.out, BB8.out⟩
        case rest =>
          obtain ⟨rfl, hT, hBY, hNM, hEA, hEB, hBA, hBB⟩ := hcut
          obtain ⟨w9, hw9⟩ : ∃ W, W = wc := ⟨_, rfl⟩
          subst hw9
          have T9 := Lib.hid hT
          have BY9 := Lib.hid hBY
          have NM9 := Lib.hid hNM
          have EA9 := Lib.hid hEA
          have EB9 := Lib.hid hEB
          have BA9 := Lib.hid hBA
          have BB9 := Lib.hid hBB
          clear hT hBY hNM hEA hEB hBA hBB T7 BY7 NM7 EA7 EB7 BX m0 m1 m2 m3 x0 x1 x2 x3
          go_wp2_with fail
          go_cut [15] (fun a15 wx => ∃ (Z gC gD cC cD : Nat), a15 = .pointer (some ⟨Z, 0, none⟩) ∧ Blk wx Z 26 [.bool false, .slice (some ⟨gC, 0, none⟩) (nk + 1) cC, .slice none 0 0, .slice (some ⟨gD, 0, none⟩) (nd + 1) cD] ∧ Ro wx 9 (.slice (some ⟨gC, 0, none⟩) (nk + 1) cC) (MK.keys.map Value.string) gC ∧ Ro wx 3 (.slice (some ⟨gD, 0, none⟩) (nd + 1) cD) (MK.kids.map (Value.int .i64)) gD ∧ Turn (fun _ => False) w9 wx)
          case first =>
            refine wp_region_noPanic ?_
            refine wp_region_held_drew (S := fun X => Turn (fun _ => False) w9 X) (by kernel_rfl) ((Turn.refl (fun _ => False) w9).drew) (fun hHeld => ?_)
            refine wpAnyH_named (fun X0 hX0 => ?_)
            clear hHeld
            have T0 : HT w9 X0 := ⟨by rw [hX0]; exact (Turn.refl (fun _ => False) w9).drew⟩
            have hH0 : Turn (fun _ => False) w9 X0 := T0.out
            clear hX0
            refine wpAnyH_take (i := 1) (v := ?_) rfl (by kernel_rfl) (by kernel_rfl) (by kernel_rfl) (fun _ _ _ h => h) (Or.inl ⟨by rfl, ?_⟩) (by assumption) ?_
            rotate_left 1
            · intro w' hSw
              go_simp
              all_goals first | with_reducible rfl | (rw [if_neg (by omega)]; done) | (rw [if_pos (by omega)]; done) | (rw [if_neg (by omega)]; with_reducible rfl) | (rw [if_pos (by omega)]; with_reducible rfl)
            try simp only [e1, e2, e3, Act.put, e4, e5, e6]
            refine wpAnyH_take (i := 2) (v := ?_) rfl (by kernel_rfl) (by kernel_rfl) (by kernel_rfl) (fun _ _ _ h => h) (Or.inl ⟨by rfl, ?_⟩) (by assumption) ?_
            rotate_left 1
            · intro w' hSw
              have x1 : w'.cell? ⟨w7.heap.size, 1, none⟩ = some (.slice E1 ka f1) := (BA9.out.turn hSw (fun h => h)).cell 1
              go_simp
              all_goals first | with_reducible rfl | (rw [if_neg (by omega)]; done) | (rw [if_pos (by omega)]; done) | (rw [if_neg (by omega)]; with_reducible rfl) | (rw [if_pos (by omega)]; with_reducible rfl)
            try simp only [e1, e2, e3, Act.put, e4, e5, e6]
            refine wpAnyH_take (i := 4) (v := ?_) rfl (by kernel_rfl) (by kernel_rfl) (by kernel_rfl) (fun _ _ _ h => h) (Or.inl ⟨by rfl, ?_⟩) (by assumption) ?_
            rotate_left 1
            · intro w' hSw
              go_simp
              all_goals first | with_reducible rfl | (rw [if_neg (by omega)]; done) | (rw [if_pos (by omega)]; done) | (rw [if_neg (by omega)]; with_reducible rfl) | (rw [if_pos (by omega)]; with_reducible rfl)
            try simp only [e1, e2, e3, Act.put, e4, e5, e6]
            refine wpAnyH_take (i := 7) (v := ?_) rfl (by kernel_rfl) (by kernel_rfl) (by kernel_rfl) (fun _ _ _ h => h) (Or.inl ⟨by rfl, ?_⟩) (by assumption) ?_
            rotate_left 1
            · intro w' hSw
              go_simp
              all_goals first | with_reducible rfl | (rw [if_neg (by omega)]; done) | (rw [if_pos (by omega)]; done) | (rw [if_neg (by omega)]; with_reducible rfl) | (rw [if_pos (by omega)]; with_reducible rfl)
            try simp only [e1, e2, e3, Act.put, e4, e5, e6]
            refine wpAnyH_take (i := 8) (v := ?_) rfl (by kernel_rfl) (by kernel_rfl) (by kernel_rfl) (fun _ _ _ h => h) (Or.inl ⟨by rfl, ?_⟩) (by assumption) ?_
            rotate_left 1
            · intro w' hSw
              have s1 : w'.cell? ⟨w7.heap.size + 1, 1, none⟩ = some (.slice G1 kb g1) := (BB9.out.turn hSw (fun h => h)).cell 1
              go_simp
              all_goals first | with_reducible rfl | (rw [if_neg (by omega)]; done) | (rw [if_pos (by omega)]; done) | (rw [if_neg (by omega)]; with_reducible rfl) | (rw [if_pos (by omega)]; with_reducible rfl)
            try simp only [e1, e2, e3, Act.put, e4, e5, e6]
            refine wpAnyH_take (i := 11) (v := ?_) rfl (by kernel_rfl) (by kernel_rfl) (by kernel_rfl) (fun _ _ _ h => h) (Or.inl ⟨by rfl, ?_⟩) (by assumption) ?_
            rotate_left 1
            · intro w' hSw
              go_simp
              all_goals first | with_reducible rfl | (rw [if_neg (by omega)]; done) | (rw [if_pos (by omega)]; done) | (rw [if_neg (by omega)]; with_reducible rfl) | (rw [if_pos (by omega)]; with_reducible rfl)
            try simp only [e1, e2, e3, Act.put, e4, e5, e6]
            refine wpAnyH_take (i := 12) (v := ?_) rfl (by kernel_rfl) (by kernel_rfl) (by kernel_rfl) (fun _ _ _ h => h) (Or.inl ⟨by rfl, ?_⟩) (by assumption) ?_
            rotate_left 1
            · intro w' hSw
              have x3 : w'.cell? ⟨w7.heap.size, 3, none⟩ = some (.slice E3 da f3) := (BA9.out.turn hSw (fun h => h)).cell 3
              go_simp
              all_goals first | with_reducible rfl | (rw [if_neg (by omega)]; done) | (rw [if_pos (by omega)]; done) | (rw [if_neg (by omega)]; with_reducible rfl) | (rw [if_pos (by omega)]; with_reducible rfl)
            try simp only [e1, e2, e3, Act.put, e4, e5, e6]
            refine wpAnyH_take (i := 14) (v := ?_) rfl (by kernel_rfl) (by kernel_rfl) (by kernel_rfl) (fun _ _ _ h => h) (Or.inl ⟨by rfl, ?_⟩) (by assumption) ?_
            rotate_left 1
            · intro w' hSw
              go_simp
              all_goals first | with_reducible rfl | (rw [if_neg (by omega)]; done) | (rw [if_pos (by omega)]; done) | (rw [if_neg (by omega)]; with_reducible rfl) | (rw [if_pos (by omega)]; with_reducible rfl)
            try simp only [e1, e2, e3, Act.put, e4, e5, e6]
            refine wpAnyH_take (i := 15) (v := ?_) rfl (by kernel_rfl) (by kernel_rfl) (by kernel_rfl) (fun _ _ _ h => h) (Or.inl ⟨by rfl, ?_⟩) (by assumption) ?_
            rotate_left 1
            · intro w' hSw
              have s3 : w'.cell? ⟨w7.heap.size + 1, 3, none⟩ = some (.slice G3 db g3) := (BB9.out.turn hSw (fun h => h)).cell 3
              go_simp
              all_goals first | with_reducible rfl | (rw [if_neg (by omega)]; done) | (rw [if_pos (by omega)]; done) | (rw [if_neg (by omega)]; with_reducible rfl) | (rw [if_pos (by omega)]; with_reducible rfl)
            try simp only [e1, e2, e3, Act.put, e4, e5, e6]
            refine wpAnyH_open (fun ST A0 hST0 hA0 => ?_)
            have hST := Lib.hid hST0
            clear hST0
            have st_511 : ∀ (X : World) (u143 : Value) (u146 : Value) (u148 : Value) (u149 : Value) (u153 : Value) (u156 : Value) (g152 : Nat) (c152 : Nat) (g159 : Nat) (c159 : Nat) (g15 : Nat) (T : HT w9 X) (R152 : HS w9 X MK.keys (nk + 1) g152 c152) (R159 : HJ w9 X MK.kids (nd + 1) g159 c159) (B15 : HB w9 X 26 g15 nil4) (d152_159 : ¬ g152 = g159) (d152_15 : ¬ g152 = g15) (d159_15 : ¬ g159 = g15), ST 1 #[true, true, true, true, true, true, true, true, true, true, true, true, true, true, true, true, true, true, true, false] ((((((((((A0.put (some 143) u143).put (some 146) u146).put (some 148) u148).put (some 149) u149).put (some 152) (.slice (some ⟨g152, 0, none⟩) (nk + 1) c152)).put (some 153) u153).put (some 156) u156).put (some 159) (.slice (some ⟨g159, 0, none⟩) (nd + 1) c159)).put (some 15) (.pointer (some ⟨g15, 0, none⟩))).put (some 160) (.agg #[.bool false, .slice (some ⟨g152, 0, none⟩) (nk + 1) c152, .slice none 0 0, .slice (some ⟨g159, 0, none⟩) (nd + 1) c159])) X := by
             intro X u143 u146 u148 u149 u153 u156 g152 c152 g159 c159 g15 T R152 R159 B15 d152_159 d152_15 d159_15
             have hH : Turn (fun _ => False) w9 X := T.out
             refine (hST.out _ _ _ _).2 ?_
             simp only [hA0, Act.put, e4, e5, e6]
             refine wpAnyH_ready (rs := [19]) (by kernel_rfl) (by simp) ?_
             refine AllReadyH.cons rfl (fun K hK => ?_) AllReadyH.nil
             have r0 := B15.out.1.cell 0
             have f0 := B15.out.1.free 0
             have r1 := B15.out.1.cell 1
             have f1 := B15.out.1.free 1
             have r2 := B15.out.1.cell 2
             have f2 := B15.out.1.free 2
             have r3 := B15.out.1.cell 3
             have f3 := B15.out.1.free 3
             simp only [nil4, List.getElem?_cons_zero, List.getElem?_cons_succ] at r0 r1 r2 r3
             obtain ⟨hb, hs⟩ := put4 B15.out.1 (.bool false) (.slice (some ⟨g152, 0, none⟩) (nk + 1) c152) (.slice none 0 0) (.slice (some ⟨g159, 0, none⟩) (nd + 1) c159)
             have hx := T.out.size
             have hlo := B15.out.2
             have hS : TF w9 _ := Turn.trans_new T.out hs (fun k hk e => by omega)
             go_simp
             refine hK.out _ _ hS (fun hHeld => ?_)
             clear hK K
             try simp only [e1, e2, e3, Act.put, e4, e5, e6]
             refine wpAnyH_named (fun X1 e => ?_)
             clear hHeld
             have T1 := Lib.hid (e ▸ hS)
             have hH1 := T1.out
             have B115 := Lib.hid (e ▸ hb)
             rw [← e] at hs
             have R1152 := R152.tn hs d152_15
             have R1159 := R159.tn hs d159_15
             clear r0 f0 r1 f1 r2 f2 r3 f3 hS hb hs e
             refine wpAnyH_done (by kernel_rfl) ?_ _
             refine NoPanic.normal ?_
             go_wp2_with fail
             go_meet
             exact ⟨g15, g152, g159, c152, c159, rfl, B115.out, R1152.out.1, R1159.out.1, T1.out⟩
            have st_255 : ∀ (X : World) (u143 : Value) (u146 : Value) (u148 : Value) (u149 : Value) (u153 : Value) (u156 : Value) (g152 : Nat) (c152 : Nat) (g159 : Nat) (c159 : Nat) (T : HT w9 X) (R152 : HS w9 X MK.keys (nk + 1) g152 c152) (R159 : HJ w9 X MK.kids (nd + 1) g159 c159) (d152_159 : ¬ g152 = g159), ST 2 #[true, true, true, true, true, true, true, true, true, true, true, true, true, true, true, true, true, true, false, false] (((((((((A0.put (some 143) u143).put (some 146) u146).put (some 148) u148).put (some 149) u149).put (some 152) (.slice (some ⟨g152, 0, none⟩) (nk + 1) c152)).put (some 153) u153).put (some 156) u156).put (some 159) (.slice (some ⟨g159, 0, none⟩) (nd + 1) c159)).put (some 160) (.agg #[.bool false, .slice (some ⟨g152, 0, none⟩) (nk + 1) c152, .slice none 0 0, .slice (some ⟨g159, 0, none⟩) (nd + 1) c159])) X := by
             intro X u143 u146 u148 u149 u153 u156 g152 c152 g159 c159 T R152 R159 d152_159
             have hH : Turn (fun _ => False) w9 X := T.out
             refine (hST.out _ _ _ _).2 ?_
             simp only [hA0, Act.put, e4, e5, e6]
             refine wpAnyH_ready (rs := [18]) (by kernel_rfl) (by simp) ?_
             refine AllReadyH.cons rfl (fun K hK => ?_) AllReadyH.nil
             refine oA rfl rfl ?_
             refine hK.out _ _ (T.out.alloc _) (fun _ => ?_)
             try simp only [e1, e2, e3, Act.put, e4, e5, e6]
             refine wpAnyH_named (fun X1 e => ?_)
             have T1 := T.al e
             have hN := st_511 X1 u143 u146 u148 u149 u153 u156 g152 c152 g159 c159 X.heap.size T1 (R152.al e) (R159.al e) (T.nw nil4 e) d152_159 (aln R152.lt) (aln R159.lt)
             simp only [hA0, Act.put, e4, e5, e6] at hN
             exact (hST.out _ _ _ _).1 hN
            have st_383 : ∀ (X : World) (u143 : Value) (u146 : Value) (u148 : Value) (u149 : Value) (u153 : Value) (g152 : Nat) (c152 : Nat) (g156 : Nat) (c156 : Nat) (g15 : Nat) (T : HT w9 X) (R152 : HS w9 X MK.keys (nk + 1) g152 c152) (R156 : HJ w9 X PA.kids da g156 c156) (B15 : HB w9 X 26 g15 nil4) (d152_156 : ¬ g152 = g156) (d152_15 : ¬ g152 = g15) (d156_15 : ¬ g156 = g15), ST 3 #[true, true, true, true, true, true, true, true, true, true, true, true, true, true, true, true, false, false, true, false] ((((((((A0.put (some 143) u143).put (some 146) u146).put (some 148) u148).put (some 149) u149).put (some 152) (.slice (some ⟨g152, 0, none⟩) (nk + 1) c152)).put (some 153) u153).put (some 156) (.slice (some ⟨g156, 0, none⟩) da c156)).put (some 15) (.pointer (some ⟨g15, 0, none⟩))) X := by
             intro X u143 u146 u148 u149 u153 g152 c152 g156 c156 g15 T R152 R156 B15 d152_156 d152_15 d156_15
             have hH : Turn (fun _ => False) w9 X := T.out
             refine (hST.out _ _ _ _).2 ?_
             simp only [hA0, Act.put, e4, e5, e6]
             refine wpAnyH_ready (rs := [16]) (by kernel_rfl) (by simp) ?_
             refine AllReadyH.cons rfl (fun K hK => ?_) AllReadyH.nil
             refine sI rfl _ _ rfl PA.kids PB.kids MK.kids g156 c156 da G3 db g3 (nd + 1) HDB.out HJD.out HN93.out HG93.out rfl rfl T R156 (EB9.out.kids.turn T.out) KKB.out.2 ?_
             intro g159 c159 X1 r ht hg T1
             have hH1 := T1.out
             refine hK.out _ _ T1.out (fun _ => ?_)
             try simp only [e1, e2, e3, Act.put, e4, e5, e6]
             refine wpAnyH_take (i := 17) (v := ?_) rfl (by kernel_rfl) (by kernel_rfl) (by kernel_rfl) (fun _ _ _ h => h) (Or.inl ⟨by rfl, ?_⟩) (by assumption) ?_
             rotate_left 1
             · intro w' hSw
               go_simp
               all_goals first | with_reducible rfl | (rw [if_neg (by omega)]; done) | (rw [if_pos (by omega)]; done) | (rw [if_neg (by omega)]; with_reducible rfl) | (rw [if_pos (by omega)]; with_reducible rfl)
             try simp only [e1, e2, e3, Act.put, e4, e5, e6]
             have hN := st_511 X1 u143 u146 u148 u149 u153 (.slice (some ⟨g156, 0, none⟩) da c156) g152 c152 g159 c159 g15 T1 (R152.tn ht d152_156) r (B15.tn ht (nsy d156_15)) (nsy (apn hg (nsy d152_156) R152.lt)) d152_15 (apn hg d156_15 B15.lt)
             simp only [hA0, Act.put, e4, e5, e6] at hN
             exact (hST.out _ _ _ _).1 hN
            have st_127 : ∀ (X : World) (u143 : Value) (u146 : Value) (u148 : Value) (u149 : Value) (u153 : Value) (g152 : Nat) (c152 : Nat) (g156 : Nat) (c156 : Nat) (T : HT w9 X) (R152 : HS w9 X MK.keys (nk + 1) g152 c152) (R156 : HJ w9 X PA.kids da g156 c156) (d152_156 : ¬ g152 = g156), ST 4 #[true, true, true, true, true, true, true, true, true, true, true, true, true, true, true, true, false, false, false, false] (((((((A0.put (some 143) u143).put (some 146) u146).put (some 148) u148).put (some 149) u149).put (some 152) (.slice (some ⟨g152, 0, none⟩) (nk + 1) c152)).put (some 153) u153).put (some 156) (.slice (some ⟨g156, 0, none⟩) da c156)) X := by
             intro X u143 u146 u148 u149 u153 g152 c152 g156 c156 T R152 R156 d152_156
             have hH : Turn (fun _ => False) w9 X := T.out
             refine (hST.out _ _ _ _).2 ?_
             simp only [hA0, Act.put, e4, e5, e6]
             refine wpAnyH_ready (rs := [16, 18]) (by kernel_rfl) (by simp) ?_
             refine AllReadyH.cons rfl (fun K hK => ?_) (AllReadyH.cons rfl (fun K hK => ?_) AllReadyH.nil)
             · refine sI rfl _ _ rfl PA.kids PB.kids MK.kids g156 c156 da G3 db g3 (nd + 1) HDB.out HJD.out HN93.out HG93.out rfl rfl T R156 (EB9.out.kids.turn T.out) KKB.out.2 ?_
               intro g159 c159 X1 r ht hg T1
               have hH1 := T1.out
               refine hK.out _ _ T1.out (fun _ => ?_)
               try simp only [e1, e2, e3, Act.put, e4, e5, e6]
               refine wpAnyH_take (i := 17) (v := ?_) rfl (by kernel_rfl) (by kernel_rfl) (by kernel_rfl) (fun _ _ _ h => h) (Or.inl ⟨by rfl, ?_⟩) (by assumption) ?_
               rotate_left 1
               · intro w' hSw
                 go_simp
                 all_goals first | with_reducible rfl | (rw [if_neg (by omega)]; done) | (rw [if_pos (by omega)]; done) | (rw [if_neg (by omega)]; with_reducible rfl) | (rw [if_pos (by omega)]; with_reducible rfl)
               try simp only [e1, e2, e3, Act.put, e4, e5, e6]
               have hN := st_255 X1 u143 u146 u148 u149 u153 (.slice (some ⟨g156, 0, none⟩) da c156) g152 c152 g159 c159 T1 (R152.tn ht d152_156) r (nsy (apn hg (nsy d152_156) R152.lt))
               simp only [hA0, Act.put, e4, e5, e6] at hN
               exact (hST.out _ _ _ _).1 hN
             · refine oA rfl rfl ?_
               refine hK.out _ _ (T.out.alloc _) (fun _ => ?_)
               try simp only [e1, e2, e3, Act.put, e4, e5, e6]
               refine wpAnyH_named (fun X1 e => ?_)
               have T1 := T.al e
               have hN := st_383 X1 u143 u146 u148 u149 u153 g152 c152 g156 c156 X.heap.size T1 (R152.al e) (R156.al e) (T.nw nil4 e) d152_156 (aln R152.lt) (aln R156.lt)
               simp only [hA0, Act.put, e4, e5, e6] at hN
               exact (hST.out _ _ _ _).1 hN
            have st_319 : ∀ (X : World) (u143 : Value) (u146 : Value) (u148 : Value) (u149 : Value) (g152 : Nat) (c152 : Nat) (g153 : Nat) (c153 : Nat) (g15 : Nat) (T : HT w9 X) (R152 : HS w9 X MK.keys (nk + 1) g152 c152) (R153 : HJ w9 X [] 0 g153 c153) (B15 : HB w9 X 26 g15 nil4) (d152_153 : ¬ g152 = g153) (d152_15 : ¬ g152 = g15) (d153_15 : ¬ g153 = g15), ST 4 #[true, true, true, true, true, true, true, true, true, true, true, true, true, false, true, true, false, false, true, false] (((((((A0.put (some 143) u143).put (some 146) u146).put (some 148) u148).put (some 149) u149).put (some 152) (.slice (some ⟨g152, 0, none⟩) (nk + 1) c152)).put (some 153) (.slice (some ⟨g153, 0, none⟩) 0 c153)).put (some 15) (.pointer (some ⟨g15, 0, none⟩))) X := by
             intro X u143 u146 u148 u149 g152 c152 g153 c153 g15 T R152 R153 B15 d152_153 d152_15 d153_15
             have hH : Turn (fun _ => False) w9 X := T.out
             refine (hST.out _ _ _ _).2 ?_
             simp only [hA0, Act.put, e4, e5, e6]
             refine wpAnyH_ready (rs := [13]) (by kernel_rfl) (by simp) ?_
             refine AllReadyH.cons rfl (fun K hK => ?_) AllReadyH.nil
             refine sI rfl _ _ rfl [] PA.kids PA.kids g153 c153 0 E3 da f3 da HDA.out rfl HDA.out HG156.out rfl rfl T R153 (EA9.out.kids.turn T.out) KKA.out.2 ?_
             intro g156 c156 X1 r ht hg T1
             refine hK.out _ _ T1.out (fun _ => ?_)
             try simp only [e1, e2, e3, Act.put, e4, e5, e6]
             have hN := st_383 X1 u143 u146 u148 u149 (.slice (some ⟨g153, 0, none⟩) 0 c153) g152 c152 g156 c156 g15 T1 (R152.tn ht d152_153) r (B15.tn ht (nsy d153_15)) (nsy (apn hg (nsy d152_153) R152.lt)) d152_15 (apn hg d153_15 B15.lt)
             simp only [hA0, Act.put, e4, e5, e6] at hN
             exact (hST.out _ _ _ _).1 hN
            have st_63 : ∀ (X : World) (u143 : Value) (u146 : Value) (u148 : Value) (u149 : Value) (g152 : Nat) (c152 : Nat) (g153 : Nat) (c153 : Nat) (T : HT w9 X) (R152 : HS w9 X MK.keys (nk + 1) g152 c152) (R153 : HJ w9 X [] 0 g153 c153) (d152_153 : ¬ g152 = g153), ST 5 #[true, true, true, true, true, true, true, true, true, true, true, true, true, false, true, true, false, false, false, false] ((((((A0.put (some 143) u143).put (some 146) u146).put (some 148) u148).put (some 149) u149).put (some 152) (.slice (some ⟨g152, 0, none⟩) (nk + 1) c152)).put (some 153) (.slice (some ⟨g153, 0, none⟩) 0 c153)) X := by
             intro X u143 u146 u148 u149 g152 c152 g153 c153 T R152 R153 d152_153
             have hH : Turn (fun _ => False) w9 X := T.out
             refine (hST.out _ _ _ _).2 ?_
             simp only [hA0, Act.put, e4, e5, e6]
             refine wpAnyH_ready (rs := [13, 18]) (by kernel_rfl) (by simp) ?_
             refine AllReadyH.cons rfl (fun K hK => ?_) (AllReadyH.cons rfl (fun K hK => ?_) AllReadyH.nil)
             · refine sI rfl _ _ rfl [] PA.kids PA.kids g153 c153 0 E3 da f3 da HDA.out rfl HDA.out HG156.out rfl rfl T R153 (EA9.out.kids.turn T.out) KKA.out.2 ?_
               intro g156 c156 X1 r ht hg T1
               refine hK.out _ _ T1.out (fun _ => ?_)
               try simp only [e1, e2, e3, Act.put, e4, e5, e6]
               have hN := st_127 X1 u143 u146 u148 u149 (.slice (some ⟨g153, 0, none⟩) 0 c153) g152 c152 g156 c156 T1 (R152.tn ht d152_153) r (nsy (apn hg (nsy d152_153) R152.lt))
               simp only [hA0, Act.put, e4, e5, e6] at hN
               exact (hST.out _ _ _ _).1 hN
             · refine oA rfl rfl ?_
               refine hK.out _ _ (T.out.alloc _) (fun _ => ?_)
               try simp only [e1, e2, e3, Act.put, e4, e5, e6]
               refine wpAnyH_named (fun X1 e => ?_)
               have T1 := T.al e
               have hN := st_319 X1 u143 u146 u148 u149 g152 c152 g153 c153 X.heap.size T1 (R152.al e) (R153.al e) (T.nw nil4 e) d152_153 (aln R152.lt) (aln R153.lt)
               simp only [hA0, Act.put, e4, e5, e6] at hN
               exact (hST.out _ _ _ _).1 hN
            have st_287 : ∀ (X : World) (u143 : Value) (u146 : Value) (u148 : Value) (u149 : Value) (g152 : Nat) (c152 : Nat) (g15 : Nat) (T : HT w9 X) (R152 : HS w9 X MK.keys (nk + 1) g152 c152) (B15 : HB w9 X 26 g15 nil4) (d152_15 : ¬ g152 = g15), ST 5 #[true, true, true, true, true, true, true, true, true, true, false, true, true, false, true, true, false, false, true, false] ((((((A0.put (some 143) u143).put (some 146) u146).put (some 148) u148).put (some 149) u149).put (some 152) (.slice (some ⟨g152, 0, none⟩) (nk + 1) c152)).put (some 15) (.pointer (some ⟨g15, 0, none⟩))) X := by
             intro X u143 u146 u148 u149 g152 c152 g15 T R152 B15 d152_15
             have hH : Turn (fun _ => False) w9 X := T.out
             refine (hST.out _ _ _ _).2 ?_
             simp only [hA0, Act.put, e4, e5, e6]
             refine wpAnyH_ready (rs := [10]) (by kernel_rfl) (by simp) ?_
             refine AllReadyH.cons rfl (fun K hK => ?_) AllReadyH.nil
             refine oI rfl rfl ?_
             refine hK.out _ _ (T.out.alloc _) (fun _ => ?_)
             try simp only [e1, e2, e3, Act.put, e4, e5, e6]
             refine wpAnyH_named (fun X1 e => ?_)
             have T1 := T.al e
             have hN := st_319 X1 u143 u146 u148 u149 g152 c152 X.heap.size 0 g15 T1 (R152.al e) (T.eI e) (B15.al e) (aln R152.lt) d152_15 (nsy (aln B15.lt))
             simp only [hA0, Act.put, e4, e5, e6] at hN
             exact (hST.out _ _ _ _).1 hN
            have st_303 : ∀ (X : World) (u143 : Value) (u146 : Value) (u148 : Value) (g149 : Nat) (c149 : Nat) (g153 : Nat) (c153 : Nat) (g15 : Nat) (T : HT w9 X) (R149 : HS w9 X L149 (ka + 1) g149 c149) (R153 : HJ w9 X [] 0 g153 c153) (B15 : HB w9 X 26 g15 nil4) (d149_153 : ¬ g149 = g153) (d149_15 : ¬ g149 = g15) (d153_15 : ¬ g153 = g15), ST 5 #[true, true, true, true, true, true, true, true, true, false, true, true, true, false, true, true, false, false, true, false] ((((((A0.put (some 143) u143).put (some 146) u146).put (some 148) u148).put (some 149) (.slice (some ⟨g149, 0, none⟩) (ka + 1) c149)).put (some 153) (.slice (some ⟨g153, 0, none⟩) 0 c153)).put (some 15) (.pointer (some ⟨g15, 0, none⟩))) X := by
             intro X u143 u146 u148 g149 c149 g153 c153 g15 T R149 R153 B15 d149_153 d149_15 d153_15
             have hH : Turn (fun _ => False) w9 X := T.out
             refine (hST.out _ _ _ _).2 ?_
             simp only [hA0, Act.put, e4, e5, e6]
             refine wpAnyH_ready (rs := [9]) (by kernel_rfl) (by simp) ?_
             refine AllReadyH.cons rfl (fun K hK => ?_) AllReadyH.nil
             refine sT rfl _ _ rfl L149 PB.keys MK.keys g149 c149 (ka + 1) G1 kb g1 (nk + 1) HKB.out HJK.out HN77.out HG77.out rfl rfl T R149 (EB9.out.keys.turn T.out) KKB.out.1 ?_
             intro g152 c152 X1 r ht hg T1
             refine hK.out _ _ T1.out (fun _ => ?_)
             try simp only [e1, e2, e3, Act.put, e4, e5, e6]
             have hN := st_319 X1 u143 u146 u148 (.slice (some ⟨g149, 0, none⟩) (ka + 1) c149) g152 c152 g153 c153 g15 T1 r (R153.tn ht (nsy d149_153)) (B15.tn ht (nsy d149_15)) (apn hg d149_153 R153.lt) (apn hg d149_15 B15.lt) d153_15
             simp only [hA0, Act.put, e4, e5, e6] at hN
             exact (hST.out _ _ _ _).1 hN
            have st_31 : ∀ (X : World) (u143 : Value) (u146 : Value) (u148 : Value) (u149 : Value) (g152 : Nat) (c152 : Nat) (T : HT w9 X) (R152 : HS w9 X MK.keys (nk + 1) g152 c152), ST 6 #[true, true, true, true, true, true, true, true, true, true, false, true, true, false, true, true, false, false, false, false] (((((A0.put (some 143) u143).put (some 146) u146).put (some 148) u148).put (some 149) u149).put (some 152) (.slice (some ⟨g152, 0, none⟩) (nk + 1) c152)) X := by
             intro X u143 u146 u148 u149 g152 c152 T R152
             have hH : Turn (fun _ => False) w9 X := T.out
             refine (hST.out _ _ _ _).2 ?_
             simp only [hA0, Act.put, e4, e5, e6]
             refine wpAnyH_ready (rs := [10, 18]) (by kernel_rfl) (by simp) ?_
             refine AllReadyH.cons rfl (fun K hK => ?_) (AllReadyH.cons rfl (fun K hK => ?_) AllReadyH.nil)
             · refine oI rfl rfl ?_
               refine hK.out _ _ (T.out.alloc _) (fun _ => ?_)
               try simp only [e1, e2, e3, Act.put, e4, e5, e6]
               refine wpAnyH_named (fun X1 e => ?_)
               have T1 := T.al e
               have hN := st_63 X1 u143 u146 u148 u149 g152 c152 X.heap.size 0 T1 (R152.al e) (T.eI e) (aln R152.lt)
               simp only [hA0, Act.put, e4, e5, e6] at hN
               exact (hST.out _ _ _ _).1 hN
             · refine oA rfl rfl ?_
               refine hK.out _ _ (T.out.alloc _) (fun _ => ?_)
               try simp only [e1, e2, e3, Act.put, e4, e5, e6]
               refine wpAnyH_named (fun X1 e => ?_)
               have T1 := T.al e
               have hN := st_287 X1 u143 u146 u148 u149 g152 c152 X.heap.size T1 (R152.al e) (T.nw nil4 e) (aln R152.lt)
               simp only [hA0, Act.put, e4, e5, e6] at hN
               exact (hST.out _ _ _ _).1 hN
            have st_47 : ∀ (X : World) (u143 : Value) (u146 : Value) (u148 : Value) (g149 : Nat) (c149 : Nat) (g153 : Nat) (c153 : Nat) (T : HT w9 X) (R149 : HS w9 X L149 (ka + 1) g149 c149) (R153 : HJ w9 X [] 0 g153 c153) (d149_153 : ¬ g149 = g153), ST 6 #[true, true, true, true, true, true, true, true, true, false, true, true, true, false, true, true, false, false, false, false] (((((A0.put (some 143) u143).put (some 146) u146).put (some 148) u148).put (some 149) (.slice (some ⟨g149, 0, none⟩) (ka + 1) c149)).put (some 153) (.slice (some ⟨g153, 0, none⟩) 0 c153)) X := by
             intro X u143 u146 u148 g149 c149 g153 c153 T R149 R153 d149_153
             have hH : Turn (fun _ => False) w9 X := T.out
             refine (hST.out _ _ _ _).2 ?_
             simp only [hA0, Act.put, e4, e5, e6]
             refine wpAnyH_ready (rs := [9, 18]) (by kernel_rfl) (by simp) ?_
             refine AllReadyH.cons rfl (fun K hK => ?_) (AllReadyH.cons rfl (fun K hK => ?_) AllReadyH.nil)
             · refine sT rfl _ _ rfl L149 PB.keys MK.keys g149 c149 (ka + 1) G1 kb g1 (nk + 1) HKB.out HJK.out HN77.out HG77.out rfl rfl T R149 (EB9.out.keys.turn T.out) KKB.out.1 ?_
               intro g152 c152 X1 r ht hg T1
               refine hK.out _ _ T1.out (fun _ => ?_)
               try simp only [e1, e2, e3, Act.put, e4, e5, e6]
               have hN := st_63 X1 u143 u146 u148 (.slice (some ⟨g149, 0, none⟩) (ka + 1) c149) g152 c152 g153 c153 T1 r (R153.tn ht (nsy d149_153)) (apn hg d149_153 R153.lt)
               simp only [hA0, Act.put, e4, e5, e6] at hN
               exact (hST.out _ _ _ _).1 hN
             · refine oA rfl rfl ?_
               refine hK.out _ _ (T.out.alloc _) (fun _ => ?_)
               try simp only [e1, e2, e3, Act.put, e4, e5, e6]
               refine wpAnyH_named (fun X1 e => ?_)
               have T1 := T.al e
               have hN := st_303 X1 u143 u146 u148 g149 c149 g153 c153 X.heap.size T1 (R149.al e) (R153.al e) (T.nw nil4 e) d149_153 (aln R149.lt) (aln R153.lt)
               simp only [hA0, Act.put, e4, e5, e6] at hN
               exact (hST.out _ _ _ _).1 hN
            have st_271 : ∀ (X : World) (u143 : Value) (u146 : Value) (u148 : Value) (g149 : Nat) (c149 : Nat) (g15 : Nat) (T : HT w9 X) (R149 : HS w9 X L149 (ka + 1) g149 c149) (B15 : HB w9 X 26 g15 nil4) (d149_15 : ¬ g149 = g15), ST 6 #[true, true, true, true, true, true, true, true, true, false, false, true, true, false, true, true, false, false, true, false] (((((A0.put (some 143) u143).put (some 146) u146).put (some 148) u148).put (some 149) (.slice (some ⟨g149, 0, none⟩) (ka + 1) c149)).put (some 15) (.pointer (some ⟨g15, 0, none⟩))) X := by
             intro X u143 u146 u148 g149 c149 g15 T R149 B15 d149_15
             have hH : Turn (fun _ => False) w9 X := T.out
             refine (hST.out _ _ _ _).2 ?_
             simp only [hA0, Act.put, e4, e5, e6]
             refine wpAnyH_ready (rs := [9, 10]) (by kernel_rfl) (by simp) ?_
             refine AllReadyH.cons rfl (fun K hK => ?_) (AllReadyH.cons rfl (fun K hK => ?_) AllReadyH.nil)
             · refine sT rfl _ _ rfl L149 PB.keys MK.keys g149 c149 (ka + 1) G1 kb g1 (nk + 1) HKB.out HJK.out HN77.out HG77.out rfl rfl T R149 (EB9.out.keys.turn T.out) KKB.out.1 ?_
               intro g152 c152 X1 r ht hg T1
               refine hK.out _ _ T1.out (fun _ => ?_)
               try simp only [e1, e2, e3, Act.put, e4, e5, e6]
               have hN := st_287 X1 u143 u146 u148 (.slice (some ⟨g149, 0, none⟩) (ka + 1) c149) g152 c152 g15 T1 r (B15.tn ht (nsy d149_15)) (apn hg d149_15 B15.lt)
               simp only [hA0, Act.put, e4, e5, e6] at hN
               exact (hST.out _ _ _ _).1 hN
             · refine oI rfl rfl ?_
               refine hK.out _ _ (T.out.alloc _) (fun _ => ?_)
               try simp only [e1, e2, e3, Act.put, e4, e5, e6]
               refine wpAnyH_named (fun X1 e => ?_)
               have T1 := T.al e
               have hN := st_303 X1 u143 u146 u148 g149 c149 X.heap.size 0 g15 T1 (R149.al e) (T.eI e) (B15.al e) (aln R149.lt) d149_15 (nsy (aln B15.lt))
               simp only [hA0, Act.put, e4, e5, e6] at hN
               exact (hST.out _ _ _ _).1 hN
            have st_295 : ∀ (X : World) (u143 : Value) (g146 : Nat) (c146 : Nat) (g153 : Nat) (c153 : Nat) (g15 : Nat) (g148 : Nat) (T : HT w9 X) (R146 : HS w9 X PA.keys ka g146 c146) (R153 : HJ w9 X [] 0 g153 c153) (B15 : HB w9 X 26 g15 nil4) (B148 : HB w9 X 9 g148 [.string KK]) (d146_153 : ¬ g146 = g153) (d146_15 : ¬ g146 = g15) (d153_15 : ¬ g153 = g15) (d146_148 : ¬ g146 = g148) (d153_148 : ¬ g153 = g148) (d15_148 : ¬ g15 = g148), ST 6 #[true, true, true, true, true, true, false, true, true, false, true, true, true, false, true, true, false, false, true, false] (((((A0.put (some 143) u143).put (some 146) (.slice (some ⟨g146, 0, none⟩) ka c146)).put (some 148) (.slice (some ⟨g148, 0, none⟩) 1 1)).put (some 153) (.slice (some ⟨g153, 0, none⟩) 0 c153)).put (some 15) (.pointer (some ⟨g15, 0, none⟩))) X := by
             intro X u143 g146 c146 g153 c153 g15 g148 T R146 R153 B15 B148 d146_153 d146_15 d153_15 d146_148 d153_148 d15_148
             have hH : Turn (fun _ => False) w9 X := T.out
             refine (hST.out _ _ _ _).2 ?_
             simp only [hA0, Act.put, e4, e5, e6]
             refine wpAnyH_ready (rs := [6]) (by kernel_rfl) (by simp) ?_
             refine AllReadyH.cons rfl (fun K hK => ?_) AllReadyH.nil
             refine sT rfl _ _ rfl PA.keys [KK] L149 g146 c146 ka (some ⟨g148, 0, none⟩) 1 1 (ka + 1) rfl HJ149.out HN149.out HG149.out rfl rfl T R146 (sr_of_blk (L := [KK]) B148.out.1) (one_cp g148) ?_
             intro g149 c149 X1 r ht hg T1
             refine hK.out _ _ T1.out (fun _ => ?_)
             try simp only [e1, e2, e3, Act.put, e4, e5, e6]
             have hN := st_303 X1 u143 (.slice (some ⟨g146, 0, none⟩) ka c146) (.slice (some ⟨g148, 0, none⟩) 1 1) g149 c149 g153 c153 g15 T1 r (R153.tn ht (nsy d146_153)) (B15.tn ht (nsy d146_15)) (apn hg d146_153 R153.lt) (apn hg d146_15 B15.lt) d153_15
             simp only [hA0, Act.put, e4, e5, e6] at hN
             exact (hST.out _ _ _ _).1 hN
            have st_15 : ∀ (X : World) (u143 : Value) (u146 : Value) (u148 : Value) (g149 : Nat) (c149 : Nat) (T : HT w9 X) (R149 : HS w9 X L149 (ka + 1) g149 c149), ST 7 #[true, true, true, true, true, true, true, true, true, false, false, true, true, false, true, true, false, false, false, false] ((((A0.put (some 143) u143).put (some 146) u146).put (some 148) u148).put (some 149) (.slice (some ⟨g149, 0, none⟩) (ka + 1) c149)) X := by
             intro X u143 u146 u148 g149 c149 T R149
             have hH : Turn (fun _ => False) w9 X := T.out
             refine (hST.out _ _ _ _).2 ?_
             simp only [hA0, Act.put, e4, e5, e6]
             refine wpAnyH_ready (rs := [9, 10, 18]) (by kernel_rfl) (by simp) ?_
             refine AllReadyH.cons rfl (fun K hK => ?_) (AllReadyH.cons rfl (fun K hK => ?_) (AllReadyH.cons rfl (fun K hK => ?_) AllReadyH.nil))
             · refine sT rfl _ _ rfl L149 PB.keys MK.keys g149 c149 (ka + 1) G1 kb g1 (nk + 1) HKB.out HJK.out HN77.out HG77.out rfl rfl T R149 (EB9.out.keys.turn T.out) KKB.out.1 ?_
               intro g152 c152 X1 r ht hg T1
               refine hK.out _ _ T1.out (fun _ => ?_)
               try simp only [e1, e2, e3, Act.put, e4, e5, e6]
               have hN := st_31 X1 u143 u146 u148 (.slice (some ⟨g149, 0, none⟩) (ka + 1) c149) g152 c152 T1 r
               simp only [hA0, Act.put, e4, e5, e6] at hN
               exact (hST.out _ _ _ _).1 hN
             · refine oI rfl rfl ?_
               refine hK.out _ _ (T.out.alloc _) (fun _ => ?_)
               try simp only [e1, e2, e3, Act.put, e4, e5, e6]
               refine wpAnyH_named (fun X1 e => ?_)
               have T1 := T.al e
               have hN := st_47 X1 u143 u146 u148 g149 c149 X.heap.size 0 T1 (R149.al e) (T.eI e) (aln R149.lt)
               simp only [hA0, Act.put, e4, e5, e6] at hN
               exact (hST.out _ _ _ _).1 hN
             · refine oA rfl rfl ?_
               refine hK.out _ _ (T.out.alloc _) (fun _ => ?_)
               try simp only [e1, e2, e3, Act.put, e4, e5, e6]
               refine wpAnyH_named (fun X1 e => ?_)
               have T1 := T.al e
               have hN := st_271 X1 u143 u146 u148 g149 c149 X.heap.size T1 (R149.al e) (T.nw nil4 e) (aln R149.lt)
               simp only [hA0, Act.put, e4, e5, e6] at hN
               exact (hST.out _ _ _ _).1 hN
            have st_39 : ∀ (X : World) (u143 : Value) (g146 : Nat) (c146 : Nat) (g153 : Nat) (c153 : Nat) (g148 : Nat) (T : HT w9 X) (R146 : HS w9 X PA.keys ka g146 c146) (R153 : HJ w9 X [] 0 g153 c153) (B148 : HB w9 X 9 g148 [.string KK]) (d146_153 : ¬ g146 = g153) (d146_148 : ¬ g146 = g148) (d153_148 : ¬ g153 = g148), ST 7 #[true, true, true, true, true, true, false, true, true, false, true, true, true, false, true, true, false, false, false, false] ((((A0.put (some 143) u143).put (some 146) (.slice (some ⟨g146, 0, none⟩) ka c146)).put (some 148) (.slice (some ⟨g148, 0, none⟩) 1 1)).put (some 153) (.slice (some ⟨g153, 0, none⟩) 0 c153)) X := by
             intro X u143 g146 c146 g153 c153 g148 T R146 R153 B148 d146_153 d146_148 d153_148
             have hH : Turn (fun _ => False) w9 X := T.out
             refine (hST.out _ _ _ _).2 ?_
             simp only [hA0, Act.put, e4, e5, e6]
             refine wpAnyH_ready (rs := [6, 18]) (by kernel_rfl) (by simp) ?_
             refine AllReadyH.cons rfl (fun K hK => ?_) (AllReadyH.cons rfl (fun K hK => ?_) AllReadyH.nil)
             · refine sT rfl _ _ rfl PA.keys [KK] L149 g146 c146 ka (some ⟨g148, 0, none⟩) 1 1 (ka + 1) rfl HJ149.out HN149.out HG149.out rfl rfl T R146 (sr_of_blk (L := [KK]) B148.out.1) (one_cp g148) ?_
               intro g149 c149 X1 r ht hg T1
               refine hK.out _ _ T1.out (fun _ => ?_)
               try simp only [e1, e2, e3, Act.put, e4, e5, e6]
               have hN := st_47 X1 u143 (.slice (some ⟨g146, 0, none⟩) ka c146) (.slice (some ⟨g148, 0, none⟩) 1 1) g149 c149 g153 c153 T1 r (R153.tn ht (nsy d146_153)) (apn hg d146_153 R153.lt)
               simp only [hA0, Act.put, e4, e5, e6] at hN
               exact (hST.out _ _ _ _).1 hN
             · refine oA rfl rfl ?_
               refine hK.out _ _ (T.out.alloc _) (fun _ => ?_)
               try simp only [e1, e2, e3, Act.put, e4, e5, e6]
               refine wpAnyH_named (fun X1 e => ?_)
               have T1 := T.al e
               have hN := st_295 X1 u143 g146 c146 g153 c153 X.heap.size g148 T1 (R146.al e) (R153.al e) (T.nw nil4 e) (B148.al e) d146_153 (aln R146.lt) (aln R153.lt) d146_148 d153_148 (nsy (aln B148.lt))
               simp only [hA0, Act.put, e4, e5, e6] at hN
               exact (hST.out _ _ _ _).1 hN
            have st_263 : ∀ (X : World) (u143 : Value) (g146 : Nat) (c146 : Nat) (g15 : Nat) (g148 : Nat) (T : HT w9 X) (R146 : HS w9 X PA.keys ka g146 c146) (B15 : HB w9 X 26 g15 nil4) (B148 : HB w9 X 9 g148 [.string KK]) (d146_15 : ¬ g146 = g15) (d146_148 : ¬ g146 = g148) (d15_148 : ¬ g15 = g148), ST 7 #[true, true, true, true, true, true, false, true, true, false, false, true, true, false, true, true, false, false, true, false] ((((A0.put (some 143) u143).put (some 146) (.slice (some ⟨g146, 0, none⟩) ka c146)).put (some 148) (.slice (some ⟨g148, 0, none⟩) 1 1)).put (some 15) (.pointer (some ⟨g15, 0, none⟩))) X := by
             intro X u143 g146 c146 g15 g148 T R146 B15 B148 d146_15 d146_148 d15_148
             have hH : Turn (fun _ => False) w9 X := T.out
             refine (hST.out _ _ _ _).2 ?_
             simp only [hA0, Act.put, e4, e5, e6]
             refine wpAnyH_ready (rs := [6, 10]) (by kernel_rfl) (by simp) ?_
             refine AllReadyH.cons rfl (fun K hK => ?_) (AllReadyH.cons rfl (fun K hK => ?_) AllReadyH.nil)
             · refine sT rfl _ _ rfl PA.keys [KK] L149 g146 c146 ka (some ⟨g148, 0, none⟩) 1 1 (ka + 1) rfl HJ149.out HN149.out HG149.out rfl rfl T R146 (sr_of_blk (L := [KK]) B148.out.1) (one_cp g148) ?_
               intro g149 c149 X1 r ht hg T1
               refine hK.out _ _ T1.out (fun _ => ?_)
               try simp only [e1, e2, e3, Act.put, e4, e5, e6]
               have hN := st_271 X1 u143 (.slice (some ⟨g146, 0, none⟩) ka c146) (.slice (some ⟨g148, 0, none⟩) 1 1) g149 c149 g15 T1 r (B15.tn ht (nsy d146_15)) (apn hg d146_15 B15.lt)
               simp only [hA0, Act.put, e4, e5, e6] at hN
               exact (hST.out _ _ _ _).1 hN
             · refine oI rfl rfl ?_
               refine hK.out _ _ (T.out.alloc _) (fun _ => ?_)
               try simp only [e1, e2, e3, Act.put, e4, e5, e6]
               refine wpAnyH_named (fun X1 e => ?_)
               have T1 := T.al e
               have hN := st_295 X1 u143 g146 c146 X.heap.size 0 g15 g148 T1 (R146.al e) (T.eI e) (B15.al e) (B148.al e) (aln R146.lt) d146_15 (nsy (aln B15.lt)) d146_148 (nsy (aln B148.lt)) d15_148
               simp only [hA0, Act.put, e4, e5, e6] at hN
               exact (hST.out _ _ _ _).1 hN
            have st_291 : ∀ (X : World) (u143 : Value) (g146 : Nat) (c146 : Nat) (g153 : Nat) (c153 : Nat) (g15 : Nat) (T : HT w9 X) (R146 : HS w9 X PA.keys ka g146 c146) (R153 : HJ w9 X [] 0 g153 c153) (B15 : HB w9 X 26 g15 nil4) (d146_153 : ¬ g146 = g153) (d146_15 : ¬ g146 = g15) (d153_15 : ¬ g153 = g15), ST 7 #[true, true, true, true, true, false, false, true, true, false, true, true, true, false, true, true, false, false, true, false] ((((A0.put (some 143) u143).put (some 146) (.slice (some ⟨g146, 0, none⟩) ka c146)).put (some 153) (.slice (some ⟨g153, 0, none⟩) 0 c153)).put (some 15) (.pointer (some ⟨g15, 0, none⟩))) X := by
             intro X u143 g146 c146 g153 c153 g15 T R146 R153 B15 d146_153 d146_15 d153_15
             have hH : Turn (fun _ => False) w9 X := T.out
             refine (hST.out _ _ _ _).2 ?_
             simp only [hA0, Act.put, e4, e5, e6]
             refine wpAnyH_ready (rs := [5]) (by kernel_rfl) (by simp) ?_
             refine AllReadyH.cons rfl (fun K hK => ?_) AllReadyH.nil
             refine oS1 rfl 147 KK rfl rfl ?_
             refine hK.out _ _ (T.out.alloc _) (fun _ => ?_)
             try simp only [e1, e2, e3, Act.put, e4, e5, e6]
             refine wpAnyH_named (fun X1 e => ?_)
             have T1 := T.al e
             have hN := st_295 X1 u143 g146 c146 g153 c153 g15 X.heap.size T1 (R146.al e) (R153.al e) (B15.al e) (T.nw [.string KK] e) d146_153 d146_15 d153_15 (aln R146.lt) (aln R153.lt) (aln B15.lt)
             simp only [hA0, Act.put, e4, e5, e6] at hN
             exact (hST.out _ _ _ _).1 hN
            have st_293 : ∀ (X : World) (g143 : Nat) (c143 : Nat) (g153 : Nat) (c153 : Nat) (g15 : Nat) (g148 : Nat) (T : HT w9 X) (R143 : HS w9 X [] 0 g143 c143) (R153 : HJ w9 X [] 0 g153 c153) (B15 : HB w9 X 26 g15 nil4) (B148 : HB w9 X 9 g148 [.string KK]) (d143_153 : ¬ g143 = g153) (d143_15 : ¬ g143 = g15) (d153_15 : ¬ g153 = g15) (d143_148 : ¬ g143 = g148) (d153_148 : ¬ g153 = g148) (d15_148 : ¬ g15 = g148), ST 7 #[true, true, true, false, true, true, false, true, true, false, true, true, true, false, true, true, false, false, true, false] ((((A0.put (some 143) (.slice (some ⟨g143, 0, none⟩) 0 c143)).put (some 148) (.slice (some ⟨g148, 0, none⟩) 1 1)).put (some 153) (.slice (some ⟨g153, 0, none⟩) 0 c153)).put (some 15) (.pointer (some ⟨g15, 0, none⟩))) X := by
             intro X g143 c143 g153 c153 g15 g148 T R143 R153 B15 B148 d143_153 d143_15 d153_15 d143_148 d153_148 d15_148
             have hH : Turn (fun _ => False) w9 X := T.out
             refine (hST.out _ _ _ _).2 ?_
             simp only [hA0, Act.put, e4, e5, e6]
             refine wpAnyH_ready (rs := [3]) (by kernel_rfl) (by simp) ?_
             refine AllReadyH.cons rfl (fun K hK => ?_) AllReadyH.nil
             refine sT rfl _ _ rfl [] PA.keys PA.keys g143 c143 0 E1 ka f1 ka HKA.out rfl HKA.out HG146.out rfl rfl T R143 (EA9.out.keys.turn T.out) KKA.out.1 ?_
             intro g146 c146 X1 r ht hg T1
             refine hK.out _ _ T1.out (fun _ => ?_)
             try simp only [e1, e2, e3, Act.put, e4, e5, e6]
             have hN := st_295 X1 (.slice (some ⟨g143, 0, none⟩) 0 c143) g146 c146 g153 c153 g15 g148 T1 r (R153.tn ht (nsy d143_153)) (B15.tn ht (nsy d143_15)) (B148.tn ht (nsy d143_148)) (apn hg d143_153 R153.lt) (apn hg d143_15 B15.lt) d153_15 (apn hg d143_148 B148.lt) d153_148 d15_148
             simp only [hA0, Act.put, e4, e5, e6] at hN
             exact (hST.out _ _ _ _).1 hN
            have st_7 : ∀ (X : World) (u143 : Value) (g146 : Nat) (c146 : Nat) (g148 : Nat) (T : HT w9 X) (R146 : HS w9 X PA.keys ka g146 c146) (B148 : HB w9 X 9 g148 [.string KK]) (d146_148 : ¬ g146 = g148), ST 8 #[true, true, true, true, true, true, false, true, true, false, false, true, true, false, true, true, false, false, false, false] (((A0.put (some 143) u143).put (some 146) (.slice (some ⟨g146, 0, none⟩) ka c146)).put (some 148) (.slice (some ⟨g148, 0, none⟩) 1 1)) X := by
             intro X u143 g146 c146 g148 T R146 B148 d146_148
             have hH : Turn (fun _ => False) w9 X := T.out
             refine (hST.out _ _ _ _).2 ?_
             simp only [hA0, Act.put, e4, e5, e6]
             refine wpAnyH_ready (rs := [6, 10, 18]) (by kernel_rfl) (by simp) ?_
             refine AllReadyH.cons rfl (fun K hK => ?_) (AllReadyH.cons rfl (fun K hK => ?_) (AllReadyH.cons rfl (fun K hK => ?_) AllReadyH.nil))
             · refine sT rfl _ _ rfl PA.keys [KK] L149 g146 c146 ka (some ⟨g148, 0, none⟩) 1 1 (ka + 1) rfl HJ149.out HN149.out HG149.out rfl rfl T R146 (sr_of_blk (L := [KK]) B148.out.1) (one_cp g148) ?_
               intro g149 c149 X1 r ht hg T1
               refine hK.out _ _ T1.out (fun _ => ?_)
               try simp only [e1, e2, e3, Act.put, e4, e5, e6]
               have hN := st_15 X1 u143 (.slice (some ⟨g146, 0, none⟩) ka c146) (.slice (some ⟨g148, 0, none⟩) 1 1) g149 c149 T1 r
               simp only [hA0, Act.put, e4, e5, e6] at hN
               exact (hST.out _ _ _ _).1 hN
             · refine oI rfl rfl ?_
               refine hK.out _ _ (T.out.alloc _) (fun _ => ?_)
               try simp only [e1, e2, e3, Act.put, e4, e5, e6]
               refine wpAnyH_named (fun X1 e => ?_)
               have T1 := T.al e
               have hN := st_39 X1 u143 g146 c146 X.heap.size 0 g148 T1 (R146.al e) (T.eI e) (B148.al e) (aln R146.lt) d146_148 (nsy (aln B148.lt))
               simp only [hA0, Act.put, e4, e5, e6] at hN
               exact (hST.out _ _ _ _).1 hN
             · refine oA rfl rfl ?_
               refine hK.out _ _ (T.out.alloc _) (fun _ => ?_)
               try simp only [e1, e2, e3, Act.put, e4, e5, e6]
               refine wpAnyH_named (fun X1 e => ?_)
               have T1 := T.al e
               have hN := st_263 X1 u143 g146 c146 X.heap.size g148 T1 (R146.al e) (T.nw nil4 e) (B148.al e) (aln R146.lt) d146_148 (nsy (aln B148.lt))
               simp only [hA0, Act.put, e4, e5, e6] at hN
               exact (hST.out _ _ _ _).1 hN
            have st_35 : ∀ (X : World) (u143 : Value) (g146 : Nat) (c146 : Nat) (g153 : Nat) (c153 : Nat) (T : HT w9 X) (R146 : HS w9 X PA.keys ka g146 c146) (R153 : HJ w9 X [] 0 g153 c153) (d146_153 : ¬ g146 = g153), ST 8 #[true, true, true, true, true, false, false, true, true, false, true, true, true, false, true, true, false, false, false, false] (((A0.put (some 143) u143).put (some 146) (.slice (some ⟨g146, 0, none⟩) ka c146)).put (some 153) (.slice (some ⟨g153, 0, none⟩) 0 c153)) X := by
             intro X u143 g146 c146 g153 c153 T R146 R153 d146_153
             have hH : Turn (fun _ => False) w9 X := T.out
             refine (hST.out _ _ _ _).2 ?_
             simp only [hA0, Act.put, e4, e5, e6]
             refine wpAnyH_ready (rs := [5, 18]) (by kernel_rfl) (by simp) ?_
             refine AllReadyH.cons rfl (fun K hK => ?_) (AllReadyH.cons rfl (fun K hK => ?_) AllReadyH.nil)
             · refine oS1 rfl 147 KK rfl rfl ?_
               refine hK.out _ _ (T.out.alloc _) (fun _ => ?_)
               try simp only [e1, e2, e3, Act.put, e4, e5, e6]
               refine wpAnyH_named (fun X1 e => ?_)
               have T1 := T.al e
               have hN := st_39 X1 u143 g146 c146 g153 c153 X.heap.size T1 (R146.al e) (R153.al e) (T.nw [.string KK] e) d146_153 (aln R146.lt) (aln R153.lt)
               simp only [hA0, Act.put, e4, e5, e6] at hN
               exact (hST.out _ _ _ _).1 hN
             · refine oA rfl rfl ?_
               refine hK.out _ _ (T.out.alloc _) (fun _ => ?_)
               try simp only [e1, e2, e3, Act.put, e4, e5, e6]
               refine wpAnyH_named (fun X1 e => ?_)
               have T1 := T.al e
               have hN := st_291 X1 u143 g146 c146 g153 c153 X.heap.size T1 (R146.al e) (R153.al e) (T.nw nil4 e) d146_153 (aln R146.lt) (aln R153.lt)
               simp only [hA0, Act.put, e4, e5, e6] at hN
               exact (hST.out _ _ _ _).1 hN
            have st_259 : ∀ (X : World) (u143 : Value) (g146 : Nat) (c146 : Nat) (g15 : Nat) (T : HT w9 X) (R146 : HS w9 X PA.keys ka g146 c146) (B15 : HB w9 X 26 g15 nil4) (d146_15 : ¬ g146 = g15), ST 8 #[true, true, true, true, true, false, false, true, true, false, false, true, true, false, true, true, false, false, true, false] (((A0.put (some 143) u143).put (some 146) (.slice (some ⟨g146, 0, none⟩) ka c146)).put (some 15) (.pointer (some ⟨g15, 0, none⟩))) X := by
             intro X u143 g146 c146 g15 T R146 B15 d146_15
             have hH : Turn (fun _ => False) w9 X := T.out
             refine (hST.out _ _ _ _).2 ?_
             simp only [hA0, Act.put, e4, e5, e6]
             refine wpAnyH_ready (rs := [5, 10]) (by kernel_rfl) (by simp) ?_
             refine AllReadyH.cons rfl (fun K hK => ?_) (AllReadyH.cons rfl (fun K hK => ?_) AllReadyH.nil)
             · refine oS1 rfl 147 KK rfl rfl ?_
               refine hK.out _ _ (T.out.alloc _) (fun _ => ?_)
               try simp only [e1, e2, e3, Act.put, e4, e5, e6]
               refine wpAnyH_named (fun X1 e => ?_)
               have T1 := T.al e
               have hN := st_263 X1 u143 g146 c146 g15 X.heap.size T1 (R146.al e) (B15.al e) (T.nw [.string KK] e) d146_15 (aln R146.lt) (aln B15.lt)
               simp only [hA0, Act.put, e4, e5, e6] at hN
               exact (hST.out _ _ _ _).1 hN
             · refine oI rfl rfl ?_
               refine hK.out _ _ (T.out.alloc _) (fun _ => ?_)
               try simp only [e1, e2, e3, Act.put, e4, e5, e6]
               refine wpAnyH_named (fun X1 e => ?_)
               have T1 := T.al e
               have hN := st_291 X1 u143 g146 c146 X.heap.size 0 g15 T1 (R146.al e) (T.eI e) (B15.al e) (aln R146.lt) d146_15 (nsy (aln B15.lt))
               simp only [hA0, Act.put, e4, e5, e6] at hN
               exact (hST.out _ _ _ _).1 hN
            have st_37 : ∀ (X : World) (g143 : Nat) (c143 : Nat) (g153 : Nat) (c153 : Nat) (g148 : Nat) (T : HT w9 X) (R143 : HS w9 X [] 0 g143 c143) (R153 : HJ w9 X [] 0 g153 c153) (B148 : HB w9 X 9 g148 [.string KK]) (d143_153 : ¬ g143 = g153) (d143_148 : ¬ g143 = g148) (d153_148 : ¬ g153 = g148), ST 8 #[true, true, true, false, true, true, false, true, true, false, true, true, true, false, true, true, false, false, false, false] (((A0.put (some 143) (.slice (some ⟨g143, 0, none⟩) 0 c143)).put (some 148) (.slice (some ⟨g148, 0, none⟩) 1 1)).put (some 153) (.slice (some ⟨g153, 0, none⟩) 0 c153)) X := by
             intro X g143 c143 g153 c153 g148 T R143 R153 B148 d143_153 d143_148 d153_148
             have hH : Turn (fun _ => False) w9 X := T.out
             refine (hST.out _ _ _ _).2 ?_
             simp only [hA0, Act.put, e4, e5, e6]
             refine wpAnyH_ready (rs := [3, 18]) (by kernel_rfl) (by simp) ?_
             refine AllReadyH.cons rfl (fun K hK => ?_) (AllReadyH.cons rfl (fun K hK => ?_) AllReadyH.nil)
             · refine sT rfl _ _ rfl [] PA.keys PA.keys g143 c143 0 E1 ka f1 ka HKA.out rfl HKA.out HG146.out rfl rfl T R143 (EA9.out.keys.turn T.out) KKA.out.1 ?_
               intro g146 c146 X1 r ht hg T1
               refine hK.out _ _ T1.out (fun _ => ?_)
               try simp only [e1, e2, e3, Act.put, e4, e5, e6]
               have hN := st_39 X1 (.slice (some ⟨g143, 0, none⟩) 0 c143) g146 c146 g153 c153 g148 T1 r (R153.tn ht (nsy d143_153)) (B148.tn ht (nsy d143_148)) (apn hg d143_153 R153.lt) (apn hg d143_148 B148.lt) d153_148
               simp only [hA0, Act.put, e4, e5, e6] at hN
               exact (hST.out _ _ _ _).1 hN
             · refine oA rfl rfl ?_
               refine hK.out _ _ (T.out.alloc _) (fun _ => ?_)
               try simp only [e1, e2, e3, Act.put, e4, e5, e6]
               refine wpAnyH_named (fun X1 e => ?_)
               have T1 := T.al e
               have hN := st_293 X1 g143 c143 g153 c153 X.heap.size g148 T1 (R143.al e) (R153.al e) (T.nw nil4 e) (B148.al e) d143_153 (aln R143.lt) (aln R153.lt) d143_148 d153_148 (nsy (aln B148.lt))
               simp only [hA0, Act.put, e4, e5, e6] at hN
               exact (hST.out _ _ _ _).1 hN
            have st_261 : ∀ (X : World) (g143 : Nat) (c143 : Nat) (g15 : Nat) (g148 : Nat) (T : HT w9 X) (R143 : HS w9 X [] 0 g143 c143) (B15 : HB w9 X 26 g15 nil4) (B148 : HB w9 X 9 g148 [.string KK]) (d143_15 : ¬ g143 = g15) (d143_148 : ¬ g143 = g148) (d15_148 : ¬ g15 = g148), ST 8 #[true, true, true, false, true, true, false, true, true, false, false, true, true, false, true, true, false, false, true, false] (((A0.put (some 143) (.slice (some ⟨g143, 0, none⟩) 0 c143)).put (some 148) (.slice (some ⟨g148, 0, none⟩) 1 1)).put (some 15) (.pointer (some ⟨g15, 0, none⟩))) X := by
             intro X g143 c143 g15 g148 T R143 B15 B148 d143_15 d143_148 d15_148
             have hH : Turn (fun _ => False) w9 X := T.out
             refine (hST.out _ _ _ _).2 ?_
             simp only [hA0, Act.put, e4, e5, e6]
             refine wpAnyH_ready (rs := [3, 10]) (by kernel_rfl) (by simp) ?_
             refine AllReadyH.cons rfl (fun K hK => ?_) (AllReadyH.cons rfl (fun K hK => ?_) AllReadyH.nil)
             · refine sT rfl _ _ rfl [] PA.keys PA.keys g143 c143 0 E1 ka f1 ka HKA.out rfl HKA.out HG146.out rfl rfl T R143 (EA9.out.keys.turn T.out) KKA.out.1 ?_
               intro g146 c146 X1 r ht hg T1
               refine hK.out _ _ T1.out (fun _ => ?_)
               try simp only [e1, e2, e3, Act.put, e4, e5, e6]
               have hN := st_263 X1 (.slice (some ⟨g143, 0, none⟩) 0 c143) g146 c146 g15 g148 T1 r (B15.tn ht (nsy d143_15)) (B148.tn ht (nsy d143_148)) (apn hg d143_15 B15.lt) (apn hg d143_148 B148.lt) d15_148
               simp only [hA0, Act.put, e4, e5, e6] at hN
               exact (hST.out _ _ _ _).1 hN
             · refine oI rfl rfl ?_
               refine hK.out _ _ (T.out.alloc _) (fun _ => ?_)
               try simp only [e1, e2, e3, Act.put, e4, e5, e6]
               refine wpAnyH_named (fun X1 e => ?_)
               have T1 := T.al e
               have hN := st_293 X1 g143 c143 X.heap.size 0 g15 g148 T1 (R143.al e) (T.eI e) (B15.al e) (B148.al e) (aln R143.lt) d143_15 (nsy (aln B15.lt)) d143_148 (nsy (aln B148.lt)) d15_148
               simp only [hA0, Act.put, e4, e5, e6] at hN
               exact (hST.out _ _ _ _).1 hN
            have st_289 : ∀ (X : World) (g143 : Nat) (c143 : Nat) (g153 : Nat) (c153 : Nat) (g15 : Nat) (T : HT w9 X) (R143 : HS w9 X [] 0 g143 c143) (R153 : HJ w9 X [] 0 g153 c153) (B15 : HB w9 X 26 g15 nil4) (d143_153 : ¬ g143 = g153) (d143_15 : ¬ g143 = g15) (d153_15 : ¬ g153 = g15), ST 8 #[true, true, true, false, true, false, false, true, true, false, true, true, true, false, true, true, false, false, true, false] (((A0.put (some 143) (.slice (some ⟨g143, 0, none⟩) 0 c143)).put (some 153) (.slice (some ⟨g153, 0, none⟩) 0 c153)).put (some 15) (.pointer (some ⟨g15, 0, none⟩))) X := by
             intro X g143 c143 g153 c153 g15 T R143 R153 B15 d143_153 d143_15 d153_15
             have hH : Turn (fun _ => False) w9 X := T.out
             refine (hST.out _ _ _ _).2 ?_
             simp only [hA0, Act.put, e4, e5, e6]
             refine wpAnyH_ready (rs := [3, 5]) (by kernel_rfl) (by simp) ?_
             refine AllReadyH.cons rfl (fun K hK => ?_) (AllReadyH.cons rfl (fun K hK => ?_) AllReadyH.nil)
             · refine sT rfl _ _ rfl [] PA.keys PA.keys g143 c143 0 E1 ka f1 ka HKA.out rfl HKA.out HG146.out rfl rfl T R143 (EA9.out.keys.turn T.out) KKA.out.1 ?_
               intro g146 c146 X1 r ht hg T1
               refine hK.out _ _ T1.out (fun _ => ?_)
               try simp only [e1, e2, e3, Act.put, e4, e5, e6]
               have hN := st_291 X1 (.slice (some ⟨g143, 0, none⟩) 0 c143) g146 c146 g153 c153 g15 T1 r (R153.tn ht (nsy d143_153)) (B15.tn ht (nsy d143_15)) (apn hg d143_153 R153.lt) (apn hg d143_15 B15.lt) d153_15
               simp only [hA0, Act.put, e4, e5, e6] at hN
               exact (hST.out _ _ _ _).1 hN
             · refine oS1 rfl 147 KK rfl rfl ?_
               refine hK.out _ _ (T.out.alloc _) (fun _ => ?_)
               try simp only [e1, e2, e3, Act.put, e4, e5, e6]
               refine wpAnyH_named (fun X1 e => ?_)
               have T1 := T.al e
               have hN := st_293 X1 g143 c143 g153 c153 g15 X.heap.size T1 (R143.al e) (R153.al e) (B15.al e) (T.nw [.string KK] e) d143_153 d143_15 d153_15 (aln R143.lt) (aln R153.lt) (aln B15.lt)
               simp only [hA0, Act.put, e4, e5, e6] at hN
               exact (hST.out _ _ _ _).1 hN
            have st_292 : ∀ (X : World) (g153 : Nat) (c153 : Nat) (g15 : Nat) (g148 : Nat) (T : HT w9 X) (R153 : HJ w9 X [] 0 g153 c153) (B15 : HB w9 X 26 g15 nil4) (B148 : HB w9 X 9 g148 [.string KK]) (d153_15 : ¬ g153 = g15) (d153_148 : ¬ g153 = g148) (d15_148 : ¬ g15 = g148), ST 8 #[false, true, true, false, true, true, false, true, true, false, true, true, true, false, true, true, false, false, true, false] (((A0.put (some 148) (.slice (some ⟨g148, 0, none⟩) 1 1)).put (some 153) (.slice (some ⟨g153, 0, none⟩) 0 c153)).put (some 15) (.pointer (some ⟨g15, 0, none⟩))) X := by
             intro X g153 c153 g15 g148 T R153 B15 B148 d153_15 d153_148 d15_148
             have hH : Turn (fun _ => False) w9 X := T.out
             refine (hST.out _ _ _ _).2 ?_
             simp only [hA0, Act.put, e4, e5, e6]
             refine wpAnyH_ready (rs := [0]) (by kernel_rfl) (by simp) ?_
             refine AllReadyH.cons rfl (fun K hK => ?_) AllReadyH.nil
             refine oS rfl rfl ?_
             refine hK.out _ _ (T.out.alloc _) (fun _ => ?_)
             try simp only [e1, e2, e3, Act.put, e4, e5, e6]
             refine wpAnyH_named (fun X1 e => ?_)
             have T1 := T.al e
             have hN := st_293 X1 X.heap.size 0 g153 c153 g15 g148 T1 (T.eS e) (R153.al e) (B15.al e) (B148.al e) (nsy (aln R153.lt)) (nsy (aln B15.lt)) d153_15 (nsy (aln B148.lt)) d153_148 d15_148
             simp only [hA0, Act.put, e4, e5, e6] at hN
             exact (hST.out _ _ _ _).1 hN
            have st_3 : ∀ (X : World) (u143 : Value) (g146 : Nat) (c146 : Nat) (T : HT w9 X) (R146 : HS w9 X PA.keys ka g146 c146), ST 9 #[true, true, true, true, true, false, false, true, true, false, false, true, true, false, true, true, false, false, false, false] ((A0.put (some 143) u143).put (some 146) (.slice (some ⟨g146, 0, none⟩) ka c146)) X := by
             intro X u143 g146 c146 T R146
             have hH : Turn (fun _ => False) w9 X := T.out
             refine (hST.out _ _ _ _).2 ?_
             simp only [hA0, Act.put, e4, e5, e6]
             refine wpAnyH_ready (rs := [5, 10, 18]) (by kernel_rfl) (by simp) ?_
             refine AllReadyH.cons rfl (fun K hK => ?_) (AllReadyH.cons rfl (fun K hK => ?_) (AllReadyH.cons rfl (fun K hK => ?_) AllReadyH.nil))
             · refine oS1 rfl 147 KK rfl rfl ?_
               refine hK.out _ _ (T.out.alloc _) (fun _ => ?_)
               try simp only [e1, e2, e3, Act.put, e4, e5, e6]
               refine wpAnyH_named (fun X1 e => ?_)
               have T1 := T.al e
               have hN := st_7 X1 u143 g146 c146 X.heap.size T1 (R146.al e) (T.nw [.string KK] e) (aln R146.lt)
               simp only [hA0, Act.put, e4, e5, e6] at hN
               exact (hST.out _ _ _ _).1 hN
             · refine oI rfl rfl ?_
               refine hK.out _ _ (T.out.alloc _) (fun _ => ?_)
               try simp only [e1, e2, e3, Act.put, e4, e5, e6]
               refine wpAnyH_named (fun X1 e => ?_)
               have T1 := T.al e
               have hN := st_35 X1 u143 g146 c146 X.heap.size 0 T1 (R146.al e) (T.eI e) (aln R146.lt)
               simp only [hA0, Act.put, e4, e5, e6] at hN
               exact (hST.out _ _ _ _).1 hN
             · refine oA rfl rfl ?_
               refine hK.out _ _ (T.out.alloc _) (fun _ => ?_)
               try simp only [e1, e2, e3, Act.put, e4, e5, e6]
               refine wpAnyH_named (fun X1 e => ?_)
               have T1 := T.al e
               have hN := st_259 X1 u143 g146 c146 X.heap.size T1 (R146.al e) (T.nw nil4 e) (aln R146.lt)
               simp only [hA0, Act.put, e4, e5, e6] at hN
               exact (hST.out _ _ _ _).1 hN
            have st_5 : ∀ (X : World) (g143 : Nat) (c143 : Nat) (g148 : Nat) (T : HT w9 X) (R143 : HS w9 X [] 0 g143 c143) (B148 : HB w9 X 9 g148 [.string KK]) (d143_148 : ¬ g143 = g148), ST 9 #[true, true, true, false, true, true, false, true, true, false, false, true, true, false, true, true, false, false, false, false] ((A0.put (some 143) (.slice (some ⟨g143, 0, none⟩) 0 c143)).put (some 148) (.slice (some ⟨g148, 0, none⟩) 1 1)) X := by
             intro X g143 c143 g148 T R143 B148 d143_148
             have hH : Turn (fun _ => False) w9 X := T.out
             refine (hST.out _ _ _ _).2 ?_
             simp only [hA0, Act.put, e4, e5, e6]
             refine wpAnyH_ready (rs := [3, 10, 18]) (by kernel_rfl) (by simp) ?_
             refine AllReadyH.cons rfl (fun K hK => ?_) (AllReadyH.cons rfl (fun K hK => ?_) (AllReadyH.cons rfl (fun K hK => ?_) AllReadyH.nil))
             · refine sT rfl _ _ rfl [] PA.keys PA.keys g143 c143 0 E1 ka f1 ka HKA.out rfl HKA.out HG146.out rfl rfl T R143 (EA9.out.keys.turn T.out) KKA.out.1 ?_
               intro g146 c146 X1 r ht hg T1
               refine hK.out _ _ T1.out (fun _ => ?_)
               try simp only [e1, e2, e3, Act.put, e4, e5, e6]
               have hN := st_7 X1 (.slice (some ⟨g143, 0, none⟩) 0 c143) g146 c146 g148 T1 r (B148.tn ht (nsy d143_148)) (apn hg d143_148 B148.lt)
               simp only [hA0, Act.put, e4, e5, e6] at hN
               exact (hST.out _ _ _ _).1 hN
             · refine oI rfl rfl ?_
               refine hK.out _ _ (T.out.alloc _) (fun _ => ?_)
               try simp only [e1, e2, e3, Act.put, e4, e5, e6]
               refine wpAnyH_named (fun X1 e => ?_)
               have T1 := T.al e
               have hN := st_37 X1 g143 c143 X.heap.size 0 g148 T1 (R143.al e) (T.eI e) (B148.al e) (aln R143.lt) d143_148 (nsy (aln B148.lt))
               simp only [hA0, Act.put, e4, e5, e6] at hN
               exact (hST.out _ _ _ _).1 hN
             · refine oA rfl rfl ?_
               refine hK.out _ _ (T.out.alloc _) (fun _ => ?_)
               try simp only [e1, e2, e3, Act.put, e4, e5, e6]
               refine wpAnyH_named (fun X1 e => ?_)
               have T1 := T.al e
               have hN := st_261 X1 g143 c143 X.heap.size g148 T1 (R143.al e) (T.nw nil4 e) (B148.al e) (aln R143.lt) d143_148 (nsy (aln B148.lt))
               simp only [hA0, Act.put, e4, e5, e6] at hN
               exact (hST.out _ _ _ _).1 hN
            have st_33 : ∀ (X : World) (g143 : Nat) (c143 : Nat) (g153 : Nat) (c153 : Nat) (T : HT w9 X) (R143 : HS w9 X [] 0 g143 c143) (R153 : HJ w9 X [] 0 g153 c153) (d143_153 : ¬ g143 = g153), ST 9 #[true, true, true, false, true, false, false, true, true, false, true, true, true, false, true, true, false, false, false, false] ((A0.put (some 143) (.slice (some ⟨g143, 0, none⟩) 0 c143)).put (some 153) (.slice (some ⟨g153, 0, none⟩) 0 c153)) X := by
             intro X g143 c143 g153 c153 T R143 R153 d143_153
             have hH : Turn (fun _ => False) w9 X := T.out
             refine (hST.out _ _ _ _).2 ?_
             simp only [hA0, Act.put, e4, e5, e6]
             refine wpAnyH_ready (rs := [3, 5, 18]) (by kernel_rfl) (by simp) ?_
             refine AllReadyH.cons rfl (fun K hK => ?_) (AllReadyH.cons rfl (fun K hK => ?_) (AllReadyH.cons rfl (fun K hK => ?_) AllReadyH.nil))
             · refine sT rfl _ _ rfl [] PA.keys PA.keys g143 c143 0 E1 ka f1 ka HKA.out rfl HKA.out HG146.out rfl rfl T R143 (EA9.out.keys.turn T.out) KKA.out.1 ?_
               intro g146 c146 X1 r ht hg T1
               refine hK.out _ _ T1.out (fun _ => ?_)
               try simp only [e1, e2, e3, Act.put, e4, e5, e6]
               have hN := st_35 X1 (.slice (some ⟨g143, 0, none⟩) 0 c143) g146 c146 g153 c153 T1 r (R153.tn ht (nsy d143_153)) (apn hg d143_153 R153.lt)
               simp only [hA0, Act.put, e4, e5, e6] at hN
               exact (hST.out _ _ _ _).1 hN
             · refine oS1 rfl 147 KK rfl rfl ?_
               refine hK.out _ _ (T.out.alloc _) (fun _ => ?_)
               try simp only [e1, e2, e3, Act.put, e4, e5, e6]
               refine wpAnyH_named (fun X1 e => ?_)
               have T1 := T.al e
               have hN := st_37 X1 g143 c143 g153 c153 X.heap.size T1 (R143.al e) (R153.al e) (T.nw [.string KK] e) d143_153 (aln R143.lt) (aln R153.lt)
               simp only [hA0, Act.put, e4, e5, e6] at hN
               exact (hST.out _ _ _ _).1 hN
             · refine oA rfl rfl ?_
               refine hK.out _ _ (T.out.alloc _) (fun _ => ?_)
               try simp only [e1, e2, e3, Act.put, e4, e5, e6]
               refine wpAnyH_named (fun X1 e => ?_)
               have T1 := T.al e
               have hN := st_289 X1 g143 c143 g153 c153 X.heap.size T1 (R143.al e) (R153.al e) (T.nw nil4 e) d143_153 (aln R143.lt) (aln R153.lt)
               simp only [hA0, Act.put, e4, e5, e6] at hN
               exact (hST.out _ _ _ _).1 hN
            have st_257 : ∀ (X : World) (g143 : Nat) (c143 : Nat) (g15 : Nat) (T : HT w9 X) (R143 : HS w9 X [] 0 g143 c143) (B15 : HB w9 X 26 g15 nil4) (d143_15 : ¬ g143 = g15), ST 9 #[true, true, true, false, true, false, false, true, true, false, false, true, true, false, true, true, false, false, true, false] ((A0.put (some 143) (.slice (some ⟨g143, 0, none⟩) 0 c143)).put (some 15) (.pointer (some ⟨g15, 0, none⟩))) X := by
             intro X g143 c143 g15 T R143 B15 d143_15
             have hH : Turn (fun _ => False) w9 X := T.out
             refine (hST.out _ _ _ _).2 ?_
             simp only [hA0, Act.put, e4, e5, e6]
             refine wpAnyH_ready (rs := [3, 5, 10]) (by kernel_rfl) (by simp) ?_
             refine AllReadyH.cons rfl (fun K hK => ?_) (AllReadyH.cons rfl (fun K hK => ?_) (AllReadyH.cons rfl (fun K hK => ?_) AllReadyH.nil))
             · refine sT rfl _ _ rfl [] PA.keys PA.keys g143 c143 0 E1 ka f1 ka HKA.out rfl HKA.out HG146.out rfl rfl T R143 (EA9.out.keys.turn T.out) KKA.out.1 ?_
               intro g146 c146 X1 r ht hg T1
               refine hK.out _ _ T1.out (fun _ => ?_)
               try simp only [e1, e2, e3, Act.put, e4, e5, e6]
               have hN := st_259 X1 (.slice (some ⟨g143, 0, none⟩) 0 c143) g146 c146 g15 T1 r (B15.tn ht (nsy d143_15)) (apn hg d143_15 B15.lt)
               simp only [hA0, Act.put, e4, e5, e6] at hN
               exact (hST.out _ _ _ _).1 hN
             · refine oS1 rfl 147 KK rfl rfl ?_
               refine hK.out _ _ (T.out.alloc _) (fun _ => ?_)
               try simp only [e1, e2, e3, Act.put, e4, e5, e6]
               refine wpAnyH_named (fun X1 e => ?_)
               have T1 := T.al e
               have hN := st_261 X1 g143 c143 g15 X.heap.size T1 (R143.al e) (B15.al e) (T.nw [.string KK] e) d143_15 (aln R143.lt) (aln B15.lt)
               simp only [hA0, Act.put, e4, e5, e6] at hN
               exact (hST.out _ _ _ _).1 hN
             · refine oI rfl rfl ?_
               refine hK.out _ _ (T.out.alloc _) (fun _ => ?_)
               try simp only [e1, e2, e3, Act.put, e4, e5, e6]
               refine wpAnyH_named (fun X1 e => ?_)
               have T1 := T.al e
               have hN := st_289 X1 g143 c143 X.heap.size 0 g15 T1 (R143.al e) (T.eI e) (B15.al e) (aln R143.lt) d143_15 (nsy (aln B15.lt))
               simp only [hA0, Act.put, e4, e5, e6] at hN
               exact (hST.out _ _ _ _).1 hN
            have st_36 : ∀ (X : World) (g153 : Nat) (c153 : Nat) (g148 : Nat) (T : HT w9 X) (R153 : HJ w9 X [] 0 g153 c153) (B148 : HB w9 X 9 g148 [.string KK]) (d153_148 : ¬ g153 = g148), ST 9 #[false, true, true, false, true, true, false, true, true, false, true, true, true, false, true, true, false, false, false, false] ((A0.put (some 148) (.slice (some ⟨g148, 0, none⟩) 1 1)).put (some 153) (.slice (some ⟨g153, 0, none⟩) 0 c153)) X := by
             intro X g153 c153 g148 T R153 B148 d153_148
             have hH : Turn (fun _ => False) w9 X := T.out
             refine (hST.out _ _ _ _).2 ?_
             simp only [hA0, Act.put, e4, e5, e6]
             refine wpAnyH_ready (rs := [0, 18]) (by kernel_rfl) (by simp) ?_
             refine AllReadyH.cons rfl (fun K hK => ?_) (AllReadyH.cons rfl (fun K hK => ?_) AllReadyH.nil)
             · refine oS rfl rfl ?_
               refine hK.out _ _ (T.out.alloc _) (fun _ => ?_)
               try simp only [e1, e2, e3, Act.put, e4, e5, e6]
               refine wpAnyH_named (fun X1 e => ?_)
               have T1 := T.al e
               have hN := st_37 X1 X.heap.size 0 g153 c153 g148 T1 (T.eS e) (R153.al e) (B148.al e) (nsy (aln R153.lt)) (nsy (aln B148.lt)) d153_148
               simp only [hA0, Act.put, e4, e5, e6] at hN
               exact (hST.out _ _ _ _).1 hN
             · refine oA rfl rfl ?_
               refine hK.out _ _ (T.out.alloc _) (fun _ => ?_)
               try simp only [e1, e2, e3, Act.put, e4, e5, e6]
               refine wpAnyH_named (fun X1 e => ?_)
               have T1 := T.al e
               have hN := st_292 X1 g153 c153 X.heap.size g148 T1 (R153.al e) (T.nw nil4 e) (B148.al e) (aln R153.lt) d153_148 (nsy (aln B148.lt))
               simp only [hA0, Act.put, e4, e5, e6] at hN
               exact (hST.out _ _ _ _).1 hN
            have st_260 : ∀ (X : World) (g15 : Nat) (g148 : Nat) (T : HT w9 X) (B15 : HB w9 X 26 g15 nil4) (B148 : HB w9 X 9 g148 [.string KK]) (d15_148 : ¬ g15 = g148), ST 9 #[false, true, true, false, true, true, false, true, true, false, false, true, true, false, true, true, false, false, true, false] ((A0.put (some 148) (.slice (some ⟨g148, 0, none⟩) 1 1)).put (some 15) (.pointer (some ⟨g15, 0, none⟩))) X := by
             intro X g15 g148 T B15 B148 d15_148
             have hH : Turn (fun _ => False) w9 X := T.out
             refine (hST.out _ _ _ _).2 ?_
             simp only [hA0, Act.put, e4, e5, e6]
             refine wpAnyH_ready (rs := [0, 10]) (by kernel_rfl) (by simp) ?_
             refine AllReadyH.cons rfl (fun K hK => ?_) (AllReadyH.cons rfl (fun K hK => ?_) AllReadyH.nil)
             · refine oS rfl rfl ?_
               refine hK.out _ _ (T.out.alloc _) (fun _ => ?_)
               try simp only [e1, e2, e3, Act.put, e4, e5, e6]
               refine wpAnyH_named (fun X1 e => ?_)
               have T1 := T.al e
               have hN := st_261 X1 X.heap.size 0 g15 g148 T1 (T.eS e) (B15.al e) (B148.al e) (nsy (aln B15.lt)) (nsy (aln B148.lt)) d15_148
               simp only [hA0, Act.put, e4, e5, e6] at hN
               exact (hST.out _ _ _ _).1 hN
             · refine oI rfl rfl ?_
               refine hK.out _ _ (T.out.alloc _) (fun _ => ?_)
               try simp only [e1, e2, e3, Act.put, e4, e5, e6]
               refine wpAnyH_named (fun X1 e => ?_)
               have T1 := T.al e
               have hN := st_292 X1 X.heap.size 0 g15 g148 T1 (T.eI e) (B15.al e) (B148.al e) (nsy (aln B15.lt)) (nsy (aln B148.lt)) d15_148
               simp only [hA0, Act.put, e4, e5, e6] at hN
               exact (hST.out _ _ _ _).1 hN
            have st_288 : ∀ (X : World) (g153 : Nat) (c153 : Nat) (g15 : Nat) (T : HT w9 X) (R153 : HJ w9 X [] 0 g153 c153) (B15 : HB w9 X 26 g15 nil4) (d153_15 : ¬ g153 = g15), ST 9 #[false, true, true, false, true, false, false, true, true, false, true, true, true, false, true, true, false, false, true, false] ((A0.put (some 153) (.slice (some ⟨g153, 0, none⟩) 0 c153)).put (some 15) (.pointer (some ⟨g15, 0, none⟩))) X := by
             intro X g153 c153 g15 T R153 B15 d153_15
             have hH : Turn (fun _ => False) w9 X := T.out
             refine (hST.out _ _ _ _).2 ?_
             simp only [hA0, Act.put, e4, e5, e6]
             refine wpAnyH_ready (rs := [0, 5]) (by kernel_rfl) (by simp) ?_
             refine AllReadyH.cons rfl (fun K hK => ?_) (AllReadyH.cons rfl (fun K hK => ?_) AllReadyH.nil)
             · refine oS rfl rfl ?_
               refine hK.out _ _ (T.out.alloc _) (fun _ => ?_)
               try simp only [e1, e2, e3, Act.put, e4, e5, e6]
               refine wpAnyH_named (fun X1 e => ?_)
               have T1 := T.al e
               have hN := st_289 X1 X.heap.size 0 g153 c153 g15 T1 (T.eS e) (R153.al e) (B15.al e) (nsy (aln R153.lt)) (nsy (aln B15.lt)) d153_15
               simp only [hA0, Act.put, e4, e5, e6] at hN
               exact (hST.out _ _ _ _).1 hN
             · refine oS1 rfl 147 KK rfl rfl ?_
               refine hK.out _ _ (T.out.alloc _) (fun _ => ?_)
               try simp only [e1, e2, e3, Act.put, e4, e5, e6]
               refine wpAnyH_named (fun X1 e => ?_)
               have T1 := T.al e
               have hN := st_292 X1 g153 c153 g15 X.heap.size T1 (R153.al e) (B15.al e) (T.nw [.string KK] e) d153_15 (aln R153.lt) (aln B15.lt)
               simp only [hA0, Act.put, e4, e5, e6] at hN
               exact (hST.out _ _ _ _).1 hN
            have st_1 : ∀ (X : World) (g143 : Nat) (c143 : Nat) (T : HT w9 X) (R143 : HS w9 X [] 0 g143 c143), ST 10 #[true, true, true, false, true, false, false, true, true, false, false, true, true, false, true, true, false, false, false, false] (A0.put (some 143) (.slice (some ⟨g143, 0, none⟩) 0 c143)) X := by
             intro X g143 c143 T R143
             have hH : Turn (fun _ => False) w9 X := T.out
             refine (hST.out _ _ _ _).2 ?_
             simp only [hA0, Act.put, e4, e5, e6]
             refine wpAnyH_ready (rs := [3, 5, 10, 18]) (by kernel_rfl) (by simp) ?_
             refine AllReadyH.cons rfl (fun K hK => ?_) (AllReadyH.cons rfl (fun K hK => ?_) (AllReadyH.cons rfl (fun K hK => ?_) (AllReadyH.cons rfl (fun K hK => ?_) AllReadyH.nil)))
             · refine sT rfl _ _ rfl [] PA.keys PA.keys g143 c143 0 E1 ka f1 ka HKA.out rfl HKA.out HG146.out rfl rfl T R143 (EA9.out.keys.turn T.out) KKA.out.1 ?_
               intro g146 c146 X1 r ht hg T1
               refine hK.out _ _ T1.out (fun _ => ?_)
               try simp only [e1, e2, e3, Act.put, e4, e5, e6]
               have hN := st_3 X1 (.slice (some ⟨g143, 0, none⟩) 0 c143) g146 c146 T1 r
               simp only [hA0, Act.put, e4, e5, e6] at hN
               exact (hST.out _ _ _ _).1 hN
             · refine oS1 rfl 147 KK rfl rfl ?_
               refine hK.out _ _ (T.out.alloc _) (fun _ => ?_)
               try simp only [e1, e2, e3, Act.put, e4, e5, e6]
               refine wpAnyH_named (fun X1 e => ?_)
               have T1 := T.al e
               have hN := st_5 X1 g143 c143 X.heap.size T1 (R143.al e) (T.nw [.string KK] e) (aln R143.lt)
               simp only [hA0, Act.put, e4, e5, e6] at hN
               exact (hST.out _ _ _ _).1 hN
             · refine oI rfl rfl ?_
               refine hK.out _ _ (T.out.alloc _) (fun _ => ?_)
               try simp only [e1, e2, e3, Act.put, e4, e5, e6]
               refine wpAnyH_named (fun X1 e => ?_)
               have T1 := T.al e
               have hN := st_33 X1 g143 c143 X.heap.size 0 T1 (R143.al e) (T.eI e) (aln R143.lt)
               simp only [hA0, Act.put, e4, e5, e6] at hN
               exact (hST.out _ _ _ _).1 hN
             · refine oA rfl rfl ?_
               refine hK.out _ _ (T.out.alloc _) (fun _ => ?_)
               try simp only [e1, e2, e3, Act.put, e4, e5, e6]
               refine wpAnyH_named (fun X1 e => ?_)
               have T1 := T.al e
               have hN := st_257 X1 g143 c143 X.heap.size T1 (R143.al e) (T.nw nil4 e) (aln R143.lt)
               simp only [hA0, Act.put, e4, e5, e6] at hN
               exact (hST.out _ _ _ _).1 hN
            have st_4 : ∀ (X : World) (g148 : Nat) (T : HT w9 X) (B148 : HB w9 X 9 g148 [.string KK]), ST 10 #[false, true, true, false, true, true, false, true, true, false, false, true, true, false, true, true, false, false, false, false] (A0.put (some 148) (.slice (some ⟨g148, 0, none⟩) 1 1)) X := by
             intro X g148 T B148
             have hH : Turn (fun _ => False) w9 X := T.out
             refine (hST.out _ _ _ _).2 ?_
             simp only [hA0, Act.put, e4, e5, e6]
             refine wpAnyH_ready (rs := [0, 10, 18]) (by kernel_rfl) (by simp) ?_
             refine AllReadyH.cons rfl (fun K hK => ?_) (AllReadyH.cons rfl (fun K hK => ?_) (AllReadyH.cons rfl (fun K hK => ?_) AllReadyH.nil))
             · refine oS rfl rfl ?_
               refine hK.out _ _ (T.out.alloc _) (fun _ => ?_)
               try simp only [e1, e2, e3, Act.put, e4, e5, e6]
               refine wpAnyH_named (fun X1 e => ?_)
               have T1 := T.al e
               have hN := st_5 X1 X.heap.size 0 g148 T1 (T.eS e) (B148.al e) (nsy (aln B148.lt))
               simp only [hA0, Act.put, e4, e5, e6] at hN
               exact (hST.out _ _ _ _).1 hN
             · refine oI rfl rfl ?_
               refine hK.out _ _ (T.out.alloc _) (fun _ => ?_)
               try simp only [e1, e2, e3, Act.put, e4, e5, e6]
               refine wpAnyH_named (fun X1 e => ?_)
               have T1 := T.al e
               have hN := st_36 X1 X.heap.size 0 g148 T1 (T.eI e) (B148.al e) (nsy (aln B148.lt))
               simp only [hA0, Act.put, e4, e5, e6] at hN
               exact (hST.out _ _ _ _).1 hN
             · refine oA rfl rfl ?_
               refine hK.out _ _ (T.out.alloc _) (fun _ => ?_)
               try simp only [e1, e2, e3, Act.put, e4, e5, e6]
               refine wpAnyH_named (fun X1 e => ?_)
               have T1 := T.al e
               have hN := st_260 X1 X.heap.size g148 T1 (T.nw nil4 e) (B148.al e) (nsy (aln B148.lt))
               simp only [hA0, Act.put, e4, e5, e6] at hN
               exact (hST.out _ _ _ _).1 hN
            have st_32 : ∀ (X : World) (g153 : Nat) (c153 : Nat) (T : HT w9 X) (R153 : HJ w9 X [] 0 g153 c153), ST 10 #[false, true, true, false, true, false, false, true, true, false, true, true, true, false, true, true, false, false, false, false] (A0.put (some 153) (.slice (some ⟨g153, 0, none⟩) 0 c153)) X := by
             intro X g153 c153 T R153
             have hH : Turn (fun _ => False) w9 X := T.out
             refine (hST.out _ _ _ _).2 ?_
             simp only [hA0, Act.put, e4, e5, e6]
             refine wpAnyH_ready (rs := [0, 5, 18]) (by kernel_rfl) (by simp) ?_
             refine AllReadyH.cons rfl (fun K hK => ?_) (AllReadyH.cons rfl (fun K hK => ?_) (AllReadyH.cons rfl (fun K hK => ?_) AllReadyH.nil))
             · refine oS rfl rfl ?_
               refine hK.out _ _ (T.out.alloc _) (fun _ => ?_)
               try simp only [e1, e2, e3, Act.put, e4, e5, e6]
               refine wpAnyH_named (fun X1 e => ?_)
               have T1 := T.al e
               have hN := st_33 X1 X.heap.size 0 g153 c153 T1 (T.eS e) (R153.al e) (nsy (aln R153.lt))
               simp only [hA0, Act.put, e4, e5, e6] at hN
               exact (hST.out _ _ _ _).1 hN
             · refine oS1 rfl 147 KK rfl rfl ?_
               refine hK.out _ _ (T.out.alloc _) (fun _ => ?_)
               try simp only [e1, e2, e3, Act.put, e4, e5, e6]
               refine wpAnyH_named (fun X1 e => ?_)
               have T1 := T.al e
               have hN := st_36 X1 g153 c153 X.heap.size T1 (R153.al e) (T.nw [.string KK] e) (aln R153.lt)
               simp only [hA0, Act.put, e4, e5, e6] at hN
               exact (hST.out _ _ _ _).1 hN
             · refine oA rfl rfl ?_
               refine hK.out _ _ (T.out.alloc _) (fun _ => ?_)
               try simp only [e1, e2, e3, Act.put, e4, e5, e6]
               refine wpAnyH_named (fun X1 e => ?_)
               have T1 := T.al e
               have hN := st_288 X1 g153 c153 X.heap.size T1 (R153.al e) (T.nw nil4 e) (aln R153.lt)
               simp only [hA0, Act.put, e4, e5, e6] at hN
               exact (hST.out _ _ _ _).1 hN
            have st_256 : ∀ (X : World) (g15 : Nat) (T : HT w9 X) (B15 : HB w9 X 26 g15 nil4), ST 10 #[false, true, true, false, true, false, false, true, true, false, false, true, true, false, true, true, false, false, true, false] (A0.put (some 15) (.pointer (some ⟨g15, 0, none⟩))) X := by
             intro X g15 T B15
             have hH : Turn (fun _ => False) w9 X := T.out
             refine (hST.out _ _ _ _).2 ?_
             simp only [hA0, Act.put, e4, e5, e6]
             refine wpAnyH_ready (rs := [0, 5, 10]) (by kernel_rfl) (by simp) ?_
             refine AllReadyH.cons rfl (fun K hK => ?_) (AllReadyH.cons rfl (fun K hK => ?_) (AllReadyH.cons rfl (fun K hK => ?_) AllReadyH.nil))
             · refine oS rfl rfl ?_
               refine hK.out _ _ (T.out.alloc _) (fun _ => ?_)
               try simp only [e1, e2, e3, Act.put, e4, e5, e6]
               refine wpAnyH_named (fun X1 e => ?_)
               have T1 := T.al e
               have hN := st_257 X1 X.heap.size 0 g15 T1 (T.eS e) (B15.al e) (nsy (aln B15.lt))
               simp only [hA0, Act.put, e4, e5, e6] at hN
               exact (hST.out _ _ _ _).1 hN
             · refine oS1 rfl 147 KK rfl rfl ?_
               refine hK.out _ _ (T.out.alloc _) (fun _ => ?_)
               try simp only [e1, e2, e3, Act.put, e4, e5, e6]
               refine wpAnyH_named (fun X1 e => ?_)
               have T1 := T.al e
               have hN := st_260 X1 g15 X.heap.size T1 (B15.al e) (T.nw [.string KK] e) (aln B15.lt)
               simp only [hA0, Act.put, e4, e5, e6] at hN
               exact (hST.out _ _ _ _).1 hN
             · refine oI rfl rfl ?_
               refine hK.out _ _ (T.out.alloc _) (fun _ => ?_)
               try simp only [e1, e2, e3, Act.put, e4, e5, e6]
               refine wpAnyH_named (fun X1 e => ?_)
               have T1 := T.al e
               have hN := st_288 X1 X.heap.size 0 g15 T1 (T.eI e) (B15.al e) (nsy (aln B15.lt))
               simp only [hA0, Act.put, e4, e5, e6] at hN
               exact (hST.out _ _ _ _).1 hN
            have st_0 : ∀ (X : World) (T : HT w9 X), ST 11 #[false, true, true, false, true, false, false, true, true, false, false, true, true, false, true, true, false, false, false, false] A0 X := by
             intro X T
             have hH : Turn (fun _ => False) w9 X := T.out
             refine (hST.out _ _ _ _).2 ?_
             simp only [hA0, Act.put, e4, e5, e6]
             refine wpAnyH_ready (rs := [0, 5, 10, 18]) (by kernel_rfl) (by simp) ?_
             refine AllReadyH.cons rfl (fun K hK => ?_) (AllReadyH.cons rfl (fun K hK => ?_) (AllReadyH.cons rfl (fun K hK => ?_) (AllReadyH.cons rfl (fun K hK => ?_) AllReadyH.nil)))
             · refine oS rfl rfl ?_
               refine hK.out _ _ (T.out.alloc _) (fun _ => ?_)
               try simp only [e1, e2, e3, Act.put, e4, e5, e6]
               refine wpAnyH_named (fun X1 e => ?_)
               have T1 := T.al e
               have hN := st_1 X1 X.heap.size 0 T1 (T.eS e)
               simp only [hA0, Act.put, e4, e5, e6] at hN
               exact (hST.out _ _ _ _).1 hN
             · refine oS1 rfl 147 KK rfl rfl ?_
               refine hK.out _ _ (T.out.alloc _) (fun _ => ?_)
               try simp only [e1, e2, e3, Act.put, e4, e5, e6]
               refine wpAnyH_named (fun X1 e => ?_)
               have T1 := T.al e
               have hN := st_4 X1 X.heap.size T1 (T.nw [.string KK] e)
               simp only [hA0, Act.put, e4, e5, e6] at hN
               exact (hST.out _ _ _ _).1 hN
             · refine oI rfl rfl ?_
               refine hK.out _ _ (T.out.alloc _) (fun _ => ?_)
               try simp only [e1, e2, e3, Act.put, e4, e5, e6]
               refine wpAnyH_named (fun X1 e => ?_)
               have T1 := T.al e
               have hN := st_32 X1 X.heap.size 0 T1 (T.eI e)
               simp only [hA0, Act.put, e4, e5, e6] at hN
               exact (hST.out _ _ _ _).1 hN
             · refine oA rfl rfl ?_
               refine hK.out _ _ (T.out.alloc _) (fun _ => ?_)
               try simp only [e1, e2, e3, Act.put, e4, e5, e6]
               refine wpAnyH_named (fun X1 e => ?_)
               have T1 := T.al e
               have hN := st_256 X1 X.heap.size T1 (T.nw nil4 e)
               simp only [hA0, Act.put, e4, e5, e6] at hN
               exact (hST.out _ _ _ _).1 hN
            exact st_0 X0 T0
          case rest =>
            obtain ⟨Z, gC, gD, cC, cD, rfl, hBZ, hRC, hRD, hTX⟩ := hcut
            have hvals : MK.vals = [] := List.eq_nil_of_length_eq_zero HVL.out
            have NW := Lib.hid (show No wc (some ⟨gC, 0, none⟩) cC none 0 (some ⟨gD, 0, none⟩) cD MK from ⟨hRC.sr, by rw [hvals]; exact sr_nil _ _, hRD.nr⟩)
            have NM := Lib.hid (NM9.out.turn hTX)
            have TX := Lib.hid (T9.out.trans hTX)
            have HSA := Lib.hid (refSame_any MK (some ⟨gC, 0, none⟩) cC none 0 (some ⟨gD, 0, none⟩) cD (some ⟨gA, 0, none⟩) cA none 0 (some ⟨gB, 0, none⟩) cB wc NW.out NM.out (by rw [HN77.out]; omega) (by rw [HVL.out]; omega) (by rw [HN93.out, HDL.out]; omega))
            simp only [nv8] at HSA
            rw [HLF.out, HN77.out, HVL.out, HN93.out] at HSA
            have u0 : (wc).cell? ⟨Z, 0, none⟩ = some (.bool false) := hBZ.cell 0
            have u1 : (wc).cell? ⟨Z, 1, none⟩ = some (.slice (some ⟨gC, 0, none⟩) (nk + 1) cC) := hBZ.cell 1
            have u2 : (wc).cell? ⟨Z, 2, none⟩ = some (.slice none 0 0) := hBZ.cell 2
            have u3 : (wc).cell? ⟨Z, 3, none⟩ = some (.slice (some ⟨gD, 0, none⟩) (nd + 1) cD) := hBZ.cell 3
            have m0 : (wc).cell? ⟨Y, 0, none⟩ = some (.bool false) := (BY9.out.turn hTX (fun h => h)).cell 0
            have m1 : (wc).cell? ⟨Y, 1, none⟩ = some (.slice (some ⟨gA, 0, none⟩) (nk + 1) cA) := (BY9.out.turn hTX (fun h => h)).cell 1
            have m2 : (wc).cell? ⟨Y, 2, none⟩ = some (.slice none 0 0) := (BY9.out.turn hTX (fun h => h)).cell 2
            have m3 : (wc).cell? ⟨Y, 3, none⟩ = some (.slice (some ⟨gB, 0, none⟩) (nd + 1) cB) := (BY9.out.turn hTX (fun h => h)).cell 3
            clear hRC hRD hBZ hTX hvals
            go_wp2_with fail
            refine HSA.out.mono ?_
            rintro e w20 ⟨rfl, ht20⟩
            have T20 := Lib.hid (TX.out.trans ht20)
            clear ht20
            go_wp2_with fail
            refine (HLV.out _).mono ?_
            rintro e w21 ⟨rfl, ht21⟩
            have T21 := Lib.hid ((T20.out).trans ht21)
            go_wp2_with fail
            go_ret
            exact ⟨rfl, turn_below8 T21.out⟩
end Go.Proofs.Ytpnnbfojdccfhaa
