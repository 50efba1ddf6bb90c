/- Layer 5: the law's examples (lives). -/
import Derived.Test.YtpccelebidiekaaSltR
namespace Go.Proofs.Ytpccelebidiekaa
open Go.RowKit
set_option linter.unusedVariables false
set_option maxRecDepth 100000

def z109 : ByteArray := ⟨(List.replicate 109 (0 : UInt8)).toArray⟩
def z108 : ByteArray := ⟨(List.replicate 108 (0 : UInt8)).toArray⟩
def z1 : ByteArray := ⟨#[0]⟩
theorem lv5_a : mk5 (raw5 1 5 (pcs5 ⟨#[]⟩)) = [⟨1, 5, true, true, ⟨#[]⟩⟩] ∧ ok5 (raw5 1 5 (pcs5 ⟨#[]⟩)) = true ∧ (raw5 1 5 (pcs5 ⟨#[]⟩)).length = 1 := by
  have h : pcs5 ⟨#[]⟩ = [⟨#[]⟩] := pcs5_last (by decide)
  rw [h]
  exact ⟨by kernel_rfl, by decide +kernel, rfl⟩
theorem lv5_p : pcs5 z109 = [z108, z1] := by
  rw [pcs5_more (by decide +kernel), pcs5_last (by decide +kernel)]
  have h1 : z109.extract 0 108 = z108 := by decide +kernel
  have h2 : z109.extract 108 z109.size = z1 := by decide +kernel
  rw [h1, h2]
theorem lv5_b : mk5 (raw5 1 6 (pcs5 z109)) = [⟨1, 6, true, false, z108⟩, ⟨1, 7, false, true, z1⟩] ∧ ok5 (raw5 1 6 (pcs5 z109)) = true ∧ (raw5 1 6 (pcs5 z109)).length = 2 := by
  rw [lv5_p]
  exact ⟨by kernel_rfl, by decide +kernel, rfl⟩
def lvR : List St := [⟨1, 5, true, true, ⟨#[]⟩⟩, ⟨1, 6, true, false, z108⟩]
theorem lv5_adv : adv5 lvR 0 = true ∧ adv5 lvR 1 = true ∧ adv5 lvR 2 = false := by decide +kernel
theorem lv5_j : jn5 (lvR.take 2) [] [] 5 false = ([⟨5, 6, ⟨#[]⟩⟩], 6) := by kernel_rfl

theorem own_form5 {w : World} {base e size n : Nat} {v : Value} {xs : List Value} (h : w.ownsRow base e size v n xs) (hn : 0 < n) : ∃ b c, v = .slice (some ⟨b, 0, none⟩) n c ∧ base ≤ b ∧ b < w.heap.size ∧ n ≤ c := by
  rcases h.2 with ⟨_, h0⟩ | ⟨g, cap, cur, rfl, hb, hh, hc, _⟩
  · omega
  · exact ⟨g, cap, rfl, hb, (Array.getElem?_eq_some_iff.1 hh).1, hc⟩
theorem own_cells5 {w : World} {base n b c : Nat} {R : List St} (h : w.ownsRow base 23 5 (.slice (some ⟨b, 0, none⟩) n c) n (R.flatMap scells)) (hn : R.length = n) (j : Nat) (s : St) (hs : R[j]? = some s) (i : Nat) (hi : i < 5) : w.cell? ⟨b, j * 5 + i, none⟩ = (scells s)[i]? := by
  rcases h.2 with ⟨h1, h2⟩ | ⟨g, cap, cur, h1, hb, hh, hc, _, _, ht⟩
  · cases h1
  · injection h1 with h1 _ _
    injection h1 with h1
    injection h1 with h1 _
    subst h1
    exact row5_cell hh ht hn j s hs i hi
theorem rc_cells {w : World} {base b c n : Nat} {l : List Rc} (h : w.ownsRow base 53 3 (.slice (some ⟨b, 0, none⟩) n c) n (l.flatMap rcells)) (j : Nat) (hj : j < n * 3) : w.cell? ⟨b, j, none⟩ = (l.flatMap rcells)[j]? := by
  rcases h.2 with ⟨h1, h2⟩ | ⟨g, cap, cur, h1, hb, hh, hc, _, _, ht⟩
  · cases h1
  · injection h1 with h1 _ _
    injection h1 with h1
    injection h1 with h1 _
    subst h1
    have hB : Blk w b 53 cur.toList := by unfold Blk; simpa using hh
    rw [hB.cell, ← ht, List.getElem?_take_of_lt hj]
set_option maxHeartbeats 2000000 in
theorem lives5_any (w : World) : Calls Try.prog 16 #[] w fun e w' => e = .returned (.bool true) ∧ Below w.heap.size w w' := by
  have HA := Lib.hid (cut5_any ⟨#[]⟩ (by decide) 1 5)
  have HB := Lib.hid (cut5_any z109 (by decide +kernel) 1 6)
  have H2 := Lib.hid lv5_b
  have HJ : Hid (∀ (A1 : Option Addr) (c1 : Nat), 2 ≤ c1 → ∀ W, Row5 W (.slice A1 2 c1) lvR → Calls Try.prog 22 #[.slice A1 2 c1] W fun r w' => ∃ v, r = .returned v ∧ ∃ v', v = .tuple #[v', .int .i64 6] ∧ w'.ownsRow W.heap.size 53 3 v' 1 (rcells ⟨5, 6, ⟨#[]⟩⟩) ∧ Below W.heap.size W w') := Lib.hid (fun A1 c1 hc W hr => (join5_some lvR (by decide) A1 c1 hc W hr ⟨1, 5, true, true, ⟨#[]⟩⟩ rfl lv5_adv.1).mono (by
    rintro e w3 ⟨k, J, hk0, hk, ha, hb, hJ, v3, h3, ho3, hb3⟩
    obtain rfl : k = 2 := by
      have h2 : k ≤ 2 := hk
      rcases (by omega : k = 1 ∨ k = 2) with rfl | rfl
      · rw [lv5_adv.2.1] at hb; cases hb
      · rfl
    obtain rfl : J = ([⟨5, 6, ⟨#[]⟩⟩], 6) := hJ.trans lv5_j
    exact ⟨_, h3, v3, rfl, ho3, hb3⟩))
  go_enter Try.func16, Try.ntmps16
  go_wp2_with fail
  refine (HA.out _).mono ?_
  rintro e w1 ⟨hb1, ⟨h0, _⟩ | ⟨_, v1, rfl, ho1⟩⟩
  · rw [lv5_a.2.1] at h0; cases h0
  rw [lv5_a.1, lv5_a.2.2] at ho1
  obtain ⟨b1, c1, rfl, l1, m1, n1⟩ := own_form5 ho1 (by decide)
  have O1 := Lib.hid ho1
  clear ho1
  obtain ⟨Z, hZ⟩ : ∃ Z : Array Value, (bv (List.replicate 109 0)).toArray = Z := ⟨_, rfl⟩
  have mk : (Instr.makeSlice 24 (.int .i64 109) (.int .i64 109)).run Try.prog w1 = .ok (.slice (some ⟨w1.heap.size, 0, none⟩) 109 109) (w1.alloc (.cells Z 5)) := by rw [← hZ]; exact make_bytes5 109 (by decide) w1
  have cv := conv_blk5 (w := w1.alloc (.cells Z 5)) (t := 5) (g := w1.heap.size) (l := List.replicate 109 0) (Z := z109) (by rw [← hZ]; exact Blk.new _ _ _) 109 109 ⟨by decide, rfl⟩
  clear hZ
  have hsz : z109.size = 109 := by decide +kernel
  generalize z109 = s109 at *
  go_wp2_with fail
  refine (HB.out _).mono ?_
  rintro e w2 ⟨hb2, ⟨h0, _⟩ | ⟨_, v2, rfl, ho2⟩⟩
  · rw [H2.out.2.1] at h0; cases h0
  rw [H2.out.1, H2.out.2.2] at ho2
  obtain ⟨b2, c2, rfl, l2, m2, n2⟩ := own_form5 ho2 (by decide)
  have O2 := Lib.hid ho2
  clear ho2 mk cv
  go_wp2_with fail
  have S2 := hb2.size
  rw [World.size_alloc] at S2 hb2
  have e1 : ∀ i, i < 5 → w2.cell? ⟨b1, i, none⟩ = (scells ⟨1, 5, true, true, ⟨#[]⟩⟩)[i]? := fun i hi => by
    have h := own_cells5 O1.out rfl 0 _ rfl i hi
    rw [Nat.zero_mul, Nat.zero_add] at h
    rw [← h]
    exact (hb2.cell (p := ⟨b1, i, none⟩) (by show b1 < _; omega)).trans ((Below.alloc (B := w1.heap.size) (Below.refl _ _) (Nat.le_refl _) _).cell (p := ⟨b1, i, none⟩) m1)
  have e2 : ∀ i, i < 5 → w2.cell? ⟨b2, i, none⟩ = (scells ⟨1, 6, true, false, z108⟩)[i]? := fun i hi => by
    have h := own_cells5 O2.out rfl 0 _ rfl i hi
    rwa [Nat.zero_mul, Nat.zero_add] at h
  have e3 : ∀ i, i < 5 → w2.cell? ⟨b2, 5 + i, none⟩ = (scells ⟨1, 7, false, true, z1⟩)[i]? := fun i hi => by
    have h := own_cells5 O2.out rfl 1 _ rfl i hi
    rwa [Nat.one_mul] at h
  have E1 := Lib.hid e1
  have E2 := Lib.hid e2
  have E3 := Lib.hid e3
  have hz1 : z1.size = 1 := rfl
  have BB : Hid (Below w.heap.size w w2 ∧ w.heap.size ≤ w1.heap.size) := Lib.hid ⟨(hb1.alloc hb1.size _).trans (hb2.mono (by have := hb1.size; omega)), hb1.size⟩
  have HS : Hid (∀ X, Below w2.heap.size w2 X → (∀ i, i < 5 → X.cell? ⟨b1, i, none⟩ = (scells ⟨1, 5, true, true, ⟨#[]⟩⟩)[i]?) ∧ ∀ i, i < 5 → X.cell? ⟨b2, i, none⟩ = (scells ⟨1, 6, true, false, z108⟩)[i]?) := Lib.hid (fun X hX => ⟨fun i hi => (hX.cell (p := ⟨b1, i, none⟩) (by show b1 < _; omega)).trans (e1 i hi), fun i hi => (hX.cell (p := ⟨b2, i, none⟩) m2).trans (e2 i hi)⟩)
  clear e1 e2 e3 hb1 hb2
  have HR : Hid (Row5 (w2.alloc (.cells #[.int .i64 1, .int .i64 5, .bool true, .bool true, .string ⟨#[]⟩, .int .i64 1, .int .i64 6, .bool true, .bool false, .string z108] 23)).drew (.slice (some ⟨w2.heap.size, 0, none⟩) 2 2) lvR) := Lib.hid ⟨_, _, rfl, fun _ => ⟨w2.heap.size, rfl, by show _ < (w2.alloc _).heap.size; rw [World.size_alloc]; exact Nat.lt_succ_self _, fun j s hj i hi => by
    have hB : Blk (w2.alloc (.cells #[.int .i64 1, .int .i64 5, .bool true, .bool true, .string ⟨#[]⟩, .int .i64 1, .int .i64 6, .bool true, .bool false, .string z108] 23)).drew w2.heap.size 23 (lvR.flatMap scells) := (Blk.new w2 23 (lvR.flatMap scells)).drew
    rw [hB.cell, flat_at5 _ _ _ _ hj hi]⟩⟩
  refine wp_region_noPanic ?_
  refine wp_region_held_drew (S := fun X => (∀ i, i < 5 → X.cell? ⟨b1, i, none⟩ = (scells ⟨1, 5, true, true, ⟨#[]⟩⟩)[i]?) ∧ ∀ i, i < 5 → X.cell? ⟨b2, i, none⟩ = (scells ⟨1, 6, true, false, z108⟩)[i]?) (by kernel_rfl) (HS.out _ (Below.refl w2.heap.size w2).drew) (fun hHeld => ?_)
  -- region
  refine wpAnyH_take (i := 0) (v := ?_) rfl (by kernel_rfl) (by kernel_rfl) (by kernel_rfl) (fun _ _ _ h => h) (Or.inl ⟨by rfl, ?_⟩) (by assumption) ?_
  rotate_left 1
  · intro w' hSw
    clear hSw
    go_simp
    all_goals first | with_reducible rfl | (rw [if_neg (by omega)]; done) | (rw [if_neg (by omega)]; with_reducible rfl)
  try simp only [List.getElem_toArray, List.getElem_cons_zero, Act.put, List.setIfInBounds_toArray, List.set_cons_zero, List.set_cons_succ]
  refine wpAnyH_take (i := 1) (v := ?_) rfl (by kernel_rfl) (by kernel_rfl) (by kernel_rfl) (fun _ _ _ h => h) (Or.inl ⟨by rfl, ?_⟩) (by assumption) ?_
  rotate_left 1
  · intro w' hSw
    clear hSw
    go_simp
    all_goals first | with_reducible rfl | (rw [if_neg (by omega)]; done) | (rw [if_neg (by omega)]; with_reducible rfl)
  try simp only [List.getElem_toArray, List.getElem_cons_zero, List.getElem_cons_succ, Act.put, List.setIfInBounds_toArray, List.set_cons_zero, List.set_cons_succ]
  refine wpAnyH_take (i := 2) (v := ?_) rfl (by kernel_rfl) (by kernel_rfl) (by kernel_rfl) (fun _ _ _ h => h) (Or.inl ⟨by rfl, ?_⟩) (by assumption) ?_
  rotate_left 1
  · intro w' hSw
    obtain ⟨e1, e2⟩ := hSw
    have x0 := e1 0 (by decide)
    have x1 := e1 1 (by decide)
    have x2 := e1 2 (by decide)
    have x3 := e1 3 (by decide)
    have x4 := e1 4 (by decide)
    have y0 := e2 0 (by decide)
    have y1 := e2 1 (by decide)
    have y2 := e2 2 (by decide)
    have y3 := e2 3 (by decide)
    have y4 := e2 4 (by decide)
    simp only [scells, List.getElem?_cons_zero, List.getElem?_cons_succ] at x0 x1 x2 x3 x4 y0 y1 y2 y3 y4
    clear e1 e2
    go_simp
    all_goals first | with_reducible rfl | (rw [if_neg (by omega)]; done) | (rw [if_neg (by omega)]; with_reducible rfl)
  try simp only [List.getElem_toArray, List.getElem_cons_zero, List.getElem_cons_succ, Act.put, List.setIfInBounds_toArray, List.set_cons_zero, List.set_cons_succ]
  refine wpAnyH_take (i := 3) (v := ?_) rfl (by kernel_rfl) (by kernel_rfl) (by kernel_rfl) (fun _ _ _ h => h) (Or.inl ⟨by rfl, ?_⟩) (by assumption) ?_
  rotate_left 1
  · intro w' hSw
    clear hSw
    go_simp
    all_goals first | with_reducible rfl | (rw [if_neg (by omega)]; done) | (rw [if_neg (by omega)]; with_reducible rfl)
  try simp only [List.getElem_toArray, List.getElem_cons_zero, List.getElem_cons_succ, Act.put, List.setIfInBounds_toArray, List.set_cons_zero, List.set_cons_succ]
  refine wpAnyH_take (i := 4) (v := ?_) rfl (by kernel_rfl) (by kernel_rfl) (by kernel_rfl) (fun _ _ _ h => h) (Or.inl ⟨by rfl, ?_⟩) (by assumption) ?_
  rotate_left 1
  · intro w' hSw
    clear hSw
    go_simp
    all_goals first | with_reducible rfl | (rw [if_neg (by omega)]; done) | (rw [if_neg (by omega)]; with_reducible rfl)
  try simp only [List.getElem_toArray, List.getElem_cons_zero, List.getElem_cons_succ, Act.put, List.setIfInBounds_toArray, List.set_cons_zero, List.set_cons_succ]
  refine wpAnyH_take (i := 5) (v := ?_) rfl (by kernel_rfl) (by kernel_rfl) (by kernel_rfl) (fun _ _ _ h => h) (Or.inl ⟨by rfl, ?_⟩) (by assumption) ?_
  rotate_left 1
  · intro w' hSw
    obtain ⟨e1, e2⟩ := hSw
    have x0 := e1 0 (by decide)
    have x1 := e1 1 (by decide)
    have x2 := e1 2 (by decide)
    have x3 := e1 3 (by decide)
    have x4 := e1 4 (by decide)
    have y0 := e2 0 (by decide)
    have y1 := e2 1 (by decide)
    have y2 := e2 2 (by decide)
    have y3 := e2 3 (by decide)
    have y4 := e2 4 (by decide)
    simp only [scells, List.getElem?_cons_zero, List.getElem?_cons_succ] at x0 x1 x2 x3 x4 y0 y1 y2 y3 y4
    clear e1 e2
    go_simp
    all_goals first | with_reducible rfl | (rw [if_neg (by omega)]; done) | (rw [if_neg (by omega)]; with_reducible rfl)
  try simp only [List.getElem_toArray, List.getElem_cons_zero, List.getElem_cons_succ, Act.put, List.setIfInBounds_toArray, List.set_cons_zero, List.set_cons_succ]
  refine wpAnyH_ready (rs := [6]) (by kernel_rfl) (by simp) ?_
  refine AllReadyH.cons rfl (fun K hK => ?_) AllReadyH.nil
  go_simp
  refine hK.out _ _ (HS.out _ ((Below.refl w2.heap.size w2).alloc (Nat.le_refl _) _).drew) (fun hHeld => ?_)
  clear hK K
  try simp only [List.getElem_toArray, List.getElem_cons_zero, List.getElem_cons_succ, Act.put, List.setIfInBounds_toArray, List.set_cons_zero, List.set_cons_succ]
  refine wpAnyH_ready (rs := [7]) (by kernel_rfl) (by simp) ?_
  refine AllReadyH.cons rfl (fun K hK => ?_) AllReadyH.nil
  refine step_call rfl 22 Try.f22 _ _ rfl Try.func22 (by kernel_rfl) (by kernel_rfl) _ _ (HJ.out (some ⟨w2.heap.size, 0, none⟩) 2 (by decide) _ HR.out) (by go_simp) ?_
  rintro v w3 ⟨v3, rfl, ho3, hb3⟩
  obtain ⟨b3, c3, rfl, l3, m3, n3⟩ := own_form5 ho3 (by decide)
  have q0 := rc_cells (l := [⟨5, 6, ⟨#[]⟩⟩]) ho3 0 (by decide)
  have q1 := rc_cells (l := [⟨5, 6, ⟨#[]⟩⟩]) ho3 1 (by decide)
  have q2 := rc_cells (l := [⟨5, 6, ⟨#[]⟩⟩]) ho3 2 (by decide)
  simp only [rcells, List.flatMap_cons, List.flatMap_nil, List.append_nil, List.getElem?_cons_zero, List.getElem?_cons_succ] at q0 q1 q2
  have B3 := Lib.hid (((Below.refl w2.heap.size w2).alloc (Nat.le_refl _) _).drew.trans (hb3.mono (by show _ ≤ (w2.alloc _).heap.size; rw [World.size_alloc]; exact Nat.le_succ _)))
  clear ho3 hb3
  refine hK.out _ _ (HS.out _ B3.out) (fun hHeld => ?_)
  clear hK K
  try simp only [List.getElem_toArray, List.getElem_cons_zero, List.getElem_cons_succ, Act.put, List.setIfInBounds_toArray, List.set_cons_zero, List.set_cons_succ]
  refine wpAnyH_take (i := 8) (v := ?_) rfl (by kernel_rfl) (by kernel_rfl) (by kernel_rfl) (fun _ _ _ h => h) (Or.inl ⟨by rfl, ?_⟩) (by assumption) ?_
  rotate_left 1
  · intro w' hSw
    clear hSw
    go_simp
    all_goals first | with_reducible rfl | (rw [if_neg (by omega)]; done) | (rw [if_neg (by omega)]; with_reducible rfl)
  try simp only [List.getElem_toArray, List.getElem_cons_zero, List.getElem_cons_succ, Act.put, List.setIfInBounds_toArray, List.set_cons_zero, List.set_cons_succ]
  refine wpAnyH_take (i := 9) (v := ?_) rfl (by kernel_rfl) (by kernel_rfl) (by kernel_rfl) (fun _ _ _ h => h) (Or.inl ⟨by rfl, ?_⟩) (by assumption) ?_
  rotate_left 1
  · intro w' hSw
    clear hSw
    go_simp
    all_goals first | with_reducible rfl | (rw [if_neg (by omega)]; done) | (rw [if_neg (by omega)]; with_reducible rfl)
  try simp only [List.getElem_toArray, List.getElem_cons_zero, List.getElem_cons_succ, Act.put, List.setIfInBounds_toArray, List.set_cons_zero, List.set_cons_succ]
  refine wpAnyH_take (i := 10) (v := ?_) rfl (by kernel_rfl) (by kernel_rfl) (by kernel_rfl) (fun _ _ _ h => h) (Or.inl ⟨by rfl, ?_⟩) (by assumption) ?_
  rotate_left 1
  · intro w' hSw
    clear hSw
    go_simp
    all_goals first | with_reducible rfl | (rw [if_neg (by omega)]; done) | (rw [if_neg (by omega)]; with_reducible rfl)
  try simp only [List.getElem_toArray, List.getElem_cons_zero, List.getElem_cons_succ, Act.put, List.setIfInBounds_toArray, List.set_cons_zero, List.set_cons_succ]
  refine wpAnyH_take (i := 11) (v := ?_) rfl (by kernel_rfl) (by kernel_rfl) (by kernel_rfl) (fun _ _ _ h => h) (Or.inl ⟨by rfl, ?_⟩) (by assumption) ?_
  rotate_left 1
  · intro w' hSw
    clear hSw
    go_simp
    all_goals first | with_reducible rfl | (rw [if_neg (by omega)]; done) | (rw [if_neg (by omega)]; with_reducible rfl)
  try simp only [List.getElem_toArray, List.getElem_cons_zero, List.getElem_cons_succ, Act.put, List.setIfInBounds_toArray, List.set_cons_zero, List.set_cons_succ]
  refine wpAnyH_take (i := 12) (v := ?_) rfl (by kernel_rfl) (by kernel_rfl) (by kernel_rfl) (fun _ _ _ h => h) (Or.inl ⟨by rfl, ?_⟩) (by assumption) ?_
  rotate_left 1
  · intro w' hSw
    clear hSw
    go_simp
    all_goals first | with_reducible rfl | (rw [if_neg (by omega)]; done) | (rw [if_neg (by omega)]; with_reducible rfl)
  try simp only [List.getElem_toArray, List.getElem_cons_zero, List.getElem_cons_succ, Act.put, List.setIfInBounds_toArray, List.set_cons_zero, List.set_cons_succ]
  -- region end
  refine wpAnyH_done (by kernel_rfl) ?_ _
  refine NoPanic.normal ?_
  have p0 := (HS.out _ B3.out).1 0 (by decide)
  have p1 := (HS.out _ B3.out).1 1 (by decide)
  have p2 := (HS.out _ B3.out).1 2 (by decide)
  have p3 := (HS.out _ B3.out).1 3 (by decide)
  have p4 := (HS.out _ B3.out).1 4 (by decide)
  have r2 := (B3.out.cell (p := ⟨b2, 7, none⟩) m2).trans (E3.out 2 (by decide))
  have r3 := (B3.out.cell (p := ⟨b2, 8, none⟩) m2).trans (E3.out 3 (by decide))
  have r4 := (B3.out.cell (p := ⟨b2, 9, none⟩) m2).trans (E3.out 4 (by decide))
  simp only [scells, List.getElem?_cons_zero, List.getElem?_cons_succ] at p0 p1 p2 p3 p4 r2 r3 r4
  have BE := Lib.hid (BB.out.1.trans (B3.out.mono (by have := BB.out.1.size; omega)))
  clear hHeld
  go_wp2_with fail
  go_ret
  exact ⟨rfl, BE.out⟩
end Go.Proofs.Ytpccelebidiekaa
