/- Layer 7: New, Copy. -/
import Derived.Test.YtjffdekonjejgaaDoorAlG
import Derived.Test.YtjffdekonjejgaaDoorRng
import Derived.Deep.RegionHeld3
import Derived.Deep.MidRow
namespace Go.Proofs.YtjffdekonjejgaaDoor
open Go.RowKit
set_option linter.unusedVariables false
set_option maxRecDepth 100000

theorem info_parts_ {i : Option TypeInfo} {z : Option Value} {s b : Nat} (h : i.map (fun i => (i.zero, i.size, i.bytes)) = some (z, s, b)) : ∃ j, i = some j ∧ j.zero = z ∧ j.size = s ∧ j.bytes = b := by
  cases i with
  | none => cases h
  | some j => simp at h; exact ⟨j, rfl, h.1, h.2.1, h.2.2⟩
theorem info_u64 : (Tryd.prog.info? 62).map (fun i => (i.zero, i.size, i.bytes)) = some (some (.int .u64 0), 1, 8) := by kernel_rfl
theorem make_words (n : Nat) (h1 : n ≤ 257) (w : World) : (Instr.makeSlice 53 (.int .i64 n) (.int .i64 n)).run Tryd.prog w = .ok (.slice (some ⟨w.heap.size, 0, none⟩) n n) (w.alloc (.cells (List.replicate n (.int .u64 0)).toArray 62)) := by
  obtain ⟨i, hi, hz, hs, hb⟩ := info_parts_ info_u64
  have := run_makeSlice (P := Tryd.prog) (w := w) 53 62 i _ Tryd.underlying53 hi hz .i64 .i64 n n (Int.natCast_nonneg _) (Int.le_refl _) (by rw [hs]; simp; omega) (by rw [hb]; omega) (by omega)
  rw [this, hs, Int.toNat_natCast]
  simp only [Value.cells, Nat.mul_one]
  congr 3
  exact madeCells_one _ _
theorem getD_rep (n : Nat) (b : Bool) (j : Nat) (hj : j < n) : (List.replicate n b).getD j false = b := by
  rw [List.getD_eq_getElem?_getD, List.getElem?_replicate, if_pos hj]; rfl
theorem getD_none (n : Nat) (j : Nat) : (List.replicate n false).getD j false = false := by
  rw [List.getD_eq_getElem?_getD, List.getElem?_replicate]; split <;> rfl
theorem wd_none (n k : Nat) : wd (List.replicate n false) k = 0 := by
  apply Nat.eq_of_testBit_eq
  intro j
  rw [wd_bit, getD_none]; simp
theorem words_none (n : Nat) : words (List.replicate n false) = List.replicate (n / 64 + 1) (.int .u64 0) := by
  unfold words
  rw [List.length_replicate]
  simp only [wd_none]
  apply List.ext_getElem (by simp)
  intro k h1 h2
  simp
theorem flip_none (n : Nat) : flip (List.replicate n false) 0 n = List.replicate n true := by
  apply flags_ext (by rw [len_flip]; simp)
  intro j hj
  rw [len_flip, List.length_replicate] at hj
  rw [flip_at _ _ _ _ (by simp), if_pos ⟨Nat.zero_le _, by omega⟩, getD_none, getD_rep _ _ _ hj]; rfl
theorem new7_bad (n : Int) (h : n < 1 ∨ 16384 < n) (w : World) :
    Calls Tryd.prog 8 #[.int .i64 n] w fun r w' => r = .returned (.tuple #[.pointer none, .int .i64 2]) ∧ w' = w := by
  by_cases h1 : n < 1
  · go_enter Tryd.func8, Tryd.ntmps8
    go_wp2
    go_ret2
    exact ⟨rfl, rfl⟩
  · have h2 : 16384 < n := by omega
    clear h
    go_enter Tryd.func8, Tryd.ntmps8
    go_wp2
    go_ret2
    exact ⟨rfl, rfl⟩
set_option maxHeartbeats 1000000 in
theorem new7_ok (n : Nat) (h1 : 1 ≤ n) (h2 : n ≤ 16384) (w : World) (hT : Tb w) :
    Calls Tryd.prog 8 #[.int .i64 n] w fun r w' => ∃ p g, r = .returned (.tuple #[.pointer (some ⟨p, 0, none⟩), .int .i64 0]) ∧ Al w' p g (List.replicate n true) ∧ w.heap.size ≤ p ∧ w.heap.size ≤ g ∧ Turn (fun _ => False) w w' := by
  have hz := hT.lt
  have hAl : Al ((w.alloc (.cells (List.replicate (n / 64 + 1) (.int .u64 0)).toArray 62)).alloc (.cells #[.int .i64 n, .slice (some ⟨w.heap.size, 0, none⟩) (n / 64 + 1) (n / 64 + 1)] 55)) (w.heap.size + 1) w.heap.size (List.replicate n false) := by
    refine ⟨n / 64 + 1, [], ?_, ?_, by simp; omega, by simp; omega, by omega, by omega, by omega, ?_, by simp, by unfold maxLen; omega⟩
    · rw [List.length_replicate]
      exact Blk.new_ _ 55 [.int .i64 n, .slice (some ⟨w.heap.size, 0, none⟩) (n / 64 + 1) (n / 64 + 1)] (by rw [World.size_alloc])
    · rw [words_none, List.append_nil]
      exact (Blk.new w 62 (List.replicate (n / 64 + 1) (.int .u64 0))).alloc _
    · exact hT.turn (((Turn.refl (fun _ => False) w).alloc _).alloc _) (fun h => h)
  have HU := Lib.hid (turn7 hAl 0 n (by simp))
  have HF := Lib.hid (flip_none n)
  have HT1 := Lib.hid (((Turn.refl (fun _ => False) w).alloc (.cells (List.replicate (n / 64 + 1) (.int .u64 0)).toArray 62)).alloc (.cells #[.int .i64 n, .slice (some ⟨w.heap.size, 0, none⟩) (n / 64 + 1) (n / 64 + 1)] 55))
  clear hAl hT
  have h1i : (1 : Int) ≤ (n : Int) := by omega
  have h2i : (n : Int) ≤ 16384 := by omega
  obtain ⟨m, hme⟩ : ∃ m, m = n / 64 + 1 := ⟨_, rfl⟩
  rw [← hme] at HU HT1
  have hm257 : m ≤ 257 := by omega
  have hm := fun w => make_words m hm257 w
  have e4 := wrap_of ((n : Int) / 64 + 1) (by omega) (by omega)
  have e5 : (n : Int) / 64 + 1 = (m : Int) := by omega
  clear hme e4
  go_enter Tryd.func8, Tryd.ntmps8
  go_wp2_with (go_at_call 23; refine HU.out.mono ?_; rintro e w' ⟨⟨v, rfl⟩, ha, ht⟩)
  go_ret2
  refine ⟨w.heap.size + 1, w.heap.size, rfl, ?_, ?_, ?_, HT1.out.trans_new ht (fun k hk h => by omega)⟩
  · rw [← HF.out]; exact ha
  · omega
  · omega
theorem own_new {w : World} {t s : Nat} : (w.alloc (.cells #[] t)).ownsRow w.heap.size t s (.slice (some ⟨w.heap.size, 0, none⟩) 0 0) 0 [] :=
  ⟨by simp, .inr ⟨_, 0, #[], rfl, Nat.le_refl _, heap_alloc_new w _, Nat.le_refl _, by simp [maxLen], by simp, by simp⟩⟩
set_option maxRecDepth 100000 in
theorem clone_words (g n c : Nat) (xs rest : List Value) (w : World) (hn : 0 < n) (hn2 : n ≤ 257) (hx : xs.length = n) (h1 : ∀ u ∈ xs, u.oneCell' = true) (h : Blk w g 62 (xs ++ rest)) :
    Calls Tryd.prog 31 #[.slice (some ⟨g, 0, none⟩) n c] w fun e w' => ∃ g' c' r, e = .returned (.slice (some ⟨g', 0, none⟩) n c') ∧ Blk w' g' 62 (xs ++ r) ∧ w.heap.size ≤ g' ∧ n ≤ c' ∧ c' ≤ maxLen ∧ Turn (fun _ => False) w w' := by
  obtain ⟨i, hi, hz, hs, hb⟩ := info_parts_ info_u64
  have HI := Lib.hid hi
  have HZ := Lib.hid hz
  have HS := Lib.hid hs
  have HB := Lib.hid hb
  have HN : Hid (∀ (j : Nat) (u : Value), xs[j]? = some u → (w.alloc (.cells #[] 62)).cell? ((⟨g, 0, none⟩ : Addr).add j) = some u) := Lib.hid (fun j u hu => by
    rw [Addr.add_mid, Nat.zero_add, (h.alloc _).cell, List.getElem?_append_left (List.getElem?_eq_some_iff.1 hu).1]
    exact hu)
  have heq := fun w => Lib.run_eql_slice_nil (P := Tryd.prog) w 53 62 (some ⟨g, 0, none⟩) n c 0 0 Tryd.underlying53
  clear h hi hz hs hb
  go_enter Tryd.func31, Tryd.ntmps31
  go_wp2_with (at_builtin; refine wpList_append_own_at _ rfl _ _ 53 rfl w.heap.size 62 i _ 1 8 Tryd.underlying53 HI.out HZ.out HS.out HB.out (by rfl) (by decide) (.slice (some ⟨w.heap.size, 0, none⟩) 0 0) 0 [] rfl own_new ⟨g, 0, none⟩ n c xs rfl (by omega) HN.out h1 (by unfold maxLen; omega) (by omega) (by simp) ?_; intro v5 w5 ho5 hg5 hv5 hl5)
  go_wp2
  go_ret
  simp only [Nat.zero_add, List.nil_append] at ho5
  have tn : Turn (fun _ => False) w w5 := by
    have t1 : Turn (fun _ => False) w (w.alloc (.cells #[] 62)) := (Turn.refl _ _).alloc _
    exact t1.trans_new (T := fun k => w.heap.size = k) ⟨hg5.os, hg5.tape, hg5.output, hg5.size, fun k hk hne => hg5.block k hk (fun e => hne (by simp [Value.ownBlock] at e; exact e.symm))⟩ (fun k hk e => by omega)
  obtain ⟨_, ⟨_, h0⟩ | ⟨g', c', cur, e, hB, hh, hnc, hm, hs, ht⟩⟩ := ho5
  · omega
  · subst e
    refine ⟨g', c', cur.toList.drop n, rfl, ?_, hB, hnc, hm, tn⟩
    unfold Blk
    rw [Nat.mul_one] at ht
    rw [← ht, List.take_append_drop]
    exact hh
theorem copy7_no {w : World} {v : Value} (h : Noa w v) :
    Calls Tryd.prog 19 #[v] w fun r w' => r = .returned (.pointer none) ∧ w' = w := by
  have HM := Lib.hid (made7_no h)
  clear h
  go_enter Tryd.func19, Tryd.ntmps19
  go_wp2_with (go_at_call 27; refine HM.out.mono ?_; rintro e w' ⟨rfl, rfl⟩)
  go_ret
  exact ⟨rfl, rfl⟩
set_option maxHeartbeats 2000000 in
theorem copy7 {w : World} {p g : Nat} {l : List Bool} (h : Al w p g l) :
    Calls Tryd.prog 19 #[.pointer (some ⟨p, 0, none⟩)] w fun r w' => ∃ p' g', r = .returned (.pointer (some ⟨p', 0, none⟩)) ∧ Al w' p' g' l ∧ w.heap.size ≤ p' ∧ w.heap.size ≤ g' ∧ Turn (fun _ => False) w w' := by
  have HM := Lib.hid (made7 h)
  have HA := Lib.hid h
  have hle := h.le
  obtain ⟨c, rest, h1, h2, h3, h4, h5⟩ := h
  have H1 := Lib.hid h1
  have HC : Hid (∀ X, Turn (fun _ => False) w X → Calls Tryd.prog 31 #[.slice (some ⟨g, 0, none⟩) (l.length / 64 + 1) c] X fun e w' => ∃ v, e = .returned v ∧ ∃ g' c' r, v = .slice (some ⟨g', 0, none⟩) (l.length / 64 + 1) c' ∧ Blk w' g' 62 (words l ++ r) ∧ X.heap.size ≤ g' ∧ l.length / 64 + 1 ≤ c' ∧ c' ≤ maxLen ∧ Turn (fun _ => False) X w') := Lib.hid (fun X hX =>
    (clone_words g (l.length / 64 + 1) c (words l) rest X (by omega) (by omega) (len_words l) (fun u hu => by unfold words at hu; obtain ⟨k, _, rfl⟩ := List.mem_map.1 hu; rfl) (h2.turn hX (fun h => h))).mono (fun e w' h => by
      obtain ⟨g', c', r, he, hr⟩ := h
      exact ⟨_, he, g', c', r, rfl, hr⟩))
  clear h1 h2 h5
  obtain ⟨N, hN⟩ : ∃ N, N = l.length / 64 + 1 := ⟨_, rfl⟩
  have HN := Lib.hid hN
  rw [← hN] at HC H1
  clear hN
  obtain ⟨LL, hLL⟩ : ∃ L : Nat, L = l.length := ⟨_, rfl⟩
  have HLL := Lib.hid hLL
  rw [← hLL] at H1
  clear hLL
  go_enter Tryd.func19, Tryd.ntmps19
  go_wp2_with (go_at_call 27; refine HM.out.mono ?_; rintro e w' ⟨rfl, rfl⟩)
  refine wp_region_noPanic ?_
  refine wp_region_held_drew (S := fun X => X.cell? ⟨p, 0, none⟩ = some (.int .i64 (LL : Int)) ∧ X.cell? ⟨p, 1, none⟩ = some (.slice (some ⟨g, 0, none⟩) N c)) (by kernel_rfl) ⟨H1.out.drew.cell 0, H1.out.drew.cell 1⟩ (fun hHeld => ?_)
  -- region
  refine wpAnyH_take (i := 0) (v := ?_) rfl (by kernel_rfl) (by kernel_rfl) (by kernel_rfl) (fun _ _ _ h => h) (Or.inl ⟨by rfl, ?_⟩) (by assumption) ?_
  rotate_left 1
  · intro w' hSw
    go_simp
    all_goals first | with_reducible rfl | (rw [if_neg (by omega)]; done) | (rw [if_pos (by omega)]; done) | (rw [if_neg (by omega)]; with_reducible rfl) | (rw [if_pos (by omega)]; with_reducible rfl)
  try simp only [List.getElem_toArray, List.getElem_cons_zero, Act.put, List.setIfInBounds_toArray, List.set_cons_zero, List.set_cons_succ]
  refine wpAnyH_take (i := 1) (v := ?_) rfl (by kernel_rfl) (by kernel_rfl) (by kernel_rfl) (fun _ _ _ h => h) (Or.inl ⟨by rfl, ?_⟩) (by assumption) ?_
  rotate_left 1
  · intro w' hSw
    go_simp
    all_goals first | with_reducible rfl | (rw [if_neg (by omega)]; done) | (rw [if_pos (by omega)]; done) | (rw [if_neg (by omega)]; with_reducible rfl) | (rw [if_pos (by omega)]; with_reducible rfl)
  try simp only [List.getElem_toArray, List.getElem_cons_zero, List.getElem_cons_succ, Act.put, List.setIfInBounds_toArray, List.set_cons_zero, List.set_cons_succ]
  refine wpAnyH_take (i := 2) (v := ?_) rfl (by kernel_rfl) (by kernel_rfl) (by kernel_rfl) (fun _ _ _ h => h) (Or.inl ⟨by rfl, ?_⟩) (by assumption) ?_
  rotate_left 1
  · intro w' hSw
    go_simp
    all_goals first | with_reducible rfl | (rw [if_neg (by omega)]; done) | (rw [if_pos (by omega)]; done) | (rw [if_neg (by omega)]; with_reducible rfl) | (rw [if_pos (by omega)]; with_reducible rfl)
  try simp only [List.getElem_toArray, List.getElem_cons_zero, List.getElem_cons_succ, Act.put, List.setIfInBounds_toArray, List.set_cons_zero, List.set_cons_succ]
  refine wpAnyH_take (i := 3) (v := ?_) rfl (by kernel_rfl) (by kernel_rfl) (by kernel_rfl) (fun _ _ _ h => h) (Or.inl ⟨by rfl, ?_⟩) (by assumption) ?_
  rotate_left 1
  · intro w' hSw
    obtain ⟨p0, p1⟩ := hSw
    go_simp
    all_goals first | with_reducible rfl | (rw [if_neg (by omega)]; done) | (rw [if_pos (by omega)]; done) | (rw [if_neg (by omega)]; with_reducible rfl) | (rw [if_pos (by omega)]; with_reducible rfl)
  try simp only [List.getElem_toArray, List.getElem_cons_zero, List.getElem_cons_succ, Act.put, List.setIfInBounds_toArray, List.set_cons_zero, List.set_cons_succ]
  refine wpAnyH_take (i := 4) (v := ?_) rfl (by kernel_rfl) (by kernel_rfl) (by kernel_rfl) (fun _ _ _ h => h) (Or.inl ⟨by rfl, ?_⟩) (by assumption) ?_
  rotate_left 1
  · intro w' hSw
    go_simp
    all_goals first | with_reducible rfl | (rw [if_neg (by omega)]; done) | (rw [if_pos (by omega)]; done) | (rw [if_neg (by omega)]; with_reducible rfl) | (rw [if_pos (by omega)]; with_reducible rfl)
  try simp only [List.getElem_toArray, List.getElem_cons_zero, List.getElem_cons_succ, Act.put, List.setIfInBounds_toArray, List.set_cons_zero, List.set_cons_succ]
  refine wpAnyH_take (i := 5) (v := ?_) rfl (by kernel_rfl) (by kernel_rfl) (by kernel_rfl) (fun _ _ _ h => h) (Or.inl ⟨by rfl, ?_⟩) (by assumption) ?_
  rotate_left 1
  · intro w' hSw
    go_simp
    all_goals first | with_reducible rfl | (rw [if_neg (by omega)]; done) | (rw [if_pos (by omega)]; done) | (rw [if_neg (by omega)]; with_reducible rfl) | (rw [if_pos (by omega)]; with_reducible rfl)
  try simp only [List.getElem_toArray, List.getElem_cons_zero, List.getElem_cons_succ, Act.put, List.setIfInBounds_toArray, List.set_cons_zero, List.set_cons_succ]
  refine wpAnyH_take (i := 6) (v := ?_) rfl (by kernel_rfl) (by kernel_rfl) (by kernel_rfl) (fun _ _ _ h => h) (Or.inl ⟨by rfl, ?_⟩) (by assumption) ?_
  rotate_left 1
  · intro w' hSw
    go_simp
    all_goals first | with_reducible rfl | (rw [if_neg (by omega)]; done) | (rw [if_pos (by omega)]; done) | (rw [if_neg (by omega)]; with_reducible rfl) | (rw [if_pos (by omega)]; with_reducible rfl)
  try simp only [List.getElem_toArray, List.getElem_cons_zero, List.getElem_cons_succ, Act.put, List.setIfInBounds_toArray, List.set_cons_zero, List.set_cons_succ]
  refine wpAnyH_take (i := 7) (v := ?_) rfl (by kernel_rfl) (by kernel_rfl) (by kernel_rfl) (fun _ _ _ h => h) (Or.inl ⟨by rfl, ?_⟩) (by assumption) ?_
  rotate_left 1
  · intro w' hSw
    obtain ⟨p0, p1⟩ := hSw
    go_simp
    all_goals first | with_reducible rfl | (rw [if_neg (by omega)]; done) | (rw [if_pos (by omega)]; done) | (rw [if_neg (by omega)]; with_reducible rfl) | (rw [if_pos (by omega)]; with_reducible rfl)
  try simp only [List.getElem_toArray, List.getElem_cons_zero, List.getElem_cons_succ, Act.put, List.setIfInBounds_toArray, List.set_cons_zero, List.set_cons_succ]
  refine wpAnyH_ready (rs := [8]) (by kernel_rfl) (by simp) ?_
  refine AllReadyH.cons rfl (fun K hK => ?_) AllReadyH.nil
  refine step_call rfl 31 Tryd.f31 _ _ rfl Tryd.func31 (by kernel_rfl) (by kernel_rfl) _ _ (HC.out _ ((Turn.refl _ _).drew)) (by go_simp) ?_
  rintro v8 w8 ⟨g', c', r, rfl, hb8, hg8, hnc, hcm, ht8⟩
  have T8 := Lib.hid ((Turn.refl (fun _ => False) w').drew.trans ht8)
  have B8 := Lib.hid hb8
  have P8 := Lib.hid (H1.out.drew.turn ht8 (fun h => h))
  clear hb8 ht8
  refine hK.out _ _ ⟨P8.out.cell 0, P8.out.cell 1⟩ (fun hHeld => ?_)
  clear hK K
  try simp only [List.getElem_toArray, List.getElem_cons_zero, List.getElem_cons_succ, Act.put, List.setIfInBounds_toArray, List.set_cons_zero, List.set_cons_succ]
  refine wpAnyH_take (i := 9) (v := ?_) rfl (by kernel_rfl) (by kernel_rfl) (by kernel_rfl) (fun _ _ _ h => h) (Or.inl ⟨by rfl, ?_⟩) (by assumption) ?_
  rotate_left 1
  · intro w' hSw
    go_simp
    all_goals first | with_reducible rfl | (rw [if_neg (by omega)]; done) | (rw [if_pos (by omega)]; done) | (rw [if_neg (by omega)]; with_reducible rfl) | (rw [if_pos (by omega)]; with_reducible rfl)
  try simp only [List.getElem_toArray, List.getElem_cons_zero, List.getElem_cons_succ, Act.put, List.setIfInBounds_toArray, List.set_cons_zero, List.set_cons_succ]
  refine wpAnyH_ready (rs := [10]) (by kernel_rfl) (by simp) ?_
  refine AllReadyH.cons rfl (fun K hK => ?_) AllReadyH.nil
  go_simp
  have NB := Lib.hid (Blk.new w8 55 [.int .i64 (LL : Int), .slice (some ⟨g', 0, none⟩) N c'])
  have TB := Lib.hid (T8.out.alloc (.cells #[.int .i64 (LL : Int), .slice (some ⟨g', 0, none⟩) N c'] 55))
  have GB := Lib.hid hg8
  have PB := Lib.hid (T8.out.size)
  have AB : Hid (Al (w8.alloc (.cells #[.int .i64 (LL : Int), .slice (some ⟨g', 0, none⟩) N c'] 55)) w8.heap.size g' l) := Lib.hid (by
    have hp0 := HA.out.ltp
    have hs8 := T8.out.size
    have hgl := B8.out.lt
    refine ⟨c', r, ?_, B8.out.alloc _, HA.out.pos, HA.out.le, by omega, ?_, by omega, HA.out.tb.turn TB.out (fun h => h), by rw [← HN.out]; exact hnc, hcm⟩
    · rw [← HN.out, ← HLL.out]; exact NB.out
    · have : w'.heap.size ≤ g' := hg8
      omega)
  refine hK.out _ _ ⟨(P8.out.alloc _).cell 0, (P8.out.alloc _).cell 1⟩ (fun hHeld => ?_)
  clear hK K
  try simp only [List.getElem_toArray, List.getElem_cons_zero, List.getElem_cons_succ, Act.put, List.setIfInBounds_toArray, List.set_cons_zero, List.set_cons_succ]
  refine wpAnyH_take (i := 11) (v := ?_) rfl (by kernel_rfl) (by kernel_rfl) (by kernel_rfl) (fun _ _ _ h => h) (Or.inl ⟨by rfl, ?_⟩) (by assumption) ?_
  rotate_left 1
  · intro w' hSw
    go_simp
    all_goals first | with_reducible rfl | (rw [if_neg (by omega)]; done) | (rw [if_pos (by omega)]; done) | (rw [if_neg (by omega)]; with_reducible rfl) | (rw [if_pos (by omega)]; with_reducible rfl)
  try simp only [List.getElem_toArray, List.getElem_cons_zero, List.getElem_cons_succ, Act.put, List.setIfInBounds_toArray, List.set_cons_zero, List.set_cons_succ]
  refine wpAnyH_done (by kernel_rfl) ?_ _
  refine NoPanic.normal ?_
  -- region end
  go_wp2
  go_ret
  exact ⟨w8.heap.size, g', rfl, AB.out, PB.out, GB.out, TB.out⟩
end Go.Proofs.YtjffdekonjejgaaDoor
