/- Layer 7: New, Copy. -/
import Derived.Test.YtmedljnbcpdoeaaDoorAlG
import Derived.Test.YtmedljnbcpdoeaaDoorRng
import Derived.Deep.RegionHeld3
import Derived.Deep.MidRow
namespace Go.Proofs.YtmedljnbcpdoeaaDoor
open Go.RowKit
set_option linter.unusedVariables false
set_option maxRecDepth 100000

theorem info_parts_ {i : Option TypeInfo} {z : Option Value} {s b : Nat} (h : i.map (fun i => (i.zero, i.size, i.bytes)) = some (z, s, b)) : ∃ j, i = some j ∧ j.zero = z ∧ j.size = s ∧ j.bytes = b := by
  cases i with
  | none => cases h
  | some j => simp at h; exact ⟨j, rfl, h.1, h.2.1, h.2.2⟩
theorem info_u64 : (Tryd.prog.info? 117).map (fun i => (i.zero, i.size, i.bytes)) = some (some (.int .u64 0), 1, 8) := by kernel_rfl
theorem make_words (n : Nat) (h1 : n ≤ 257) (w : World) : (Instr.makeSlice 104 (.int .i64 n) (.int .i64 n)).run Tryd.prog w = .ok (.slice (some ⟨w.heap.size, 0, none⟩) n n) (w.alloc (.cells (List.replicate n (.int .u64 0)).toArray 117)) := by
  obtain ⟨i, hi, hz, hs, hb⟩ := info_parts_ info_u64
  have := run_makeSlice (P := Tryd.prog) (w := w) 104 117 i _ Tryd.underlying104 hi hz .i64 .i64 n n (Int.natCast_nonneg _) (Int.le_refl _) (by rw [hs]; simp; omega) (by rw [hb]; omega) (by omega)
  rw [this, hs, Int.toNat_natCast]
  simp only [Value.cells, Nat.mul_one]
  congr 3
  exact madeCells_one _ _
theorem getD_rep (n : Nat) (b : Bool) (j : Nat) (hj : j < n) : (List.replicate n b).getD j false = b := by
  rw [List.getD_eq_getElem?_getD, List.getElem?_replicate, if_pos hj]; rfl
theorem getD_none (n : Nat) (j : Nat) : (List.replicate n false).getD j false = false := by
  rw [List.getD_eq_getElem?_getD, List.getElem?_replicate]; split <;> rfl
theorem wd_none (n k : Nat) : wd (List.replicate n false) k = 0 := by
  apply Nat.eq_of_testBit_eq
  intro j
  rw [wd_bit, getD_none]; simp
theorem words_none (n : Nat) : words (List.replicate n false) = List.replicate (n / 64 + 1) (.int .u64 0) := by
  unfold words
  rw [List.length_replicate]
  simp only [wd_none]
  apply List.ext_getElem (by simp)
  intro k h1 h2
  simp
theorem flip_none (n : Nat) : flip (List.replicate n false) 0 n = List.replicate n true := by
  apply flags_ext (by rw [len_flip]; simp)
  intro j hj
  rw [len_flip, List.length_replicate] at hj
  rw [flip_at _ _ _ _ (by simp), if_pos ⟨Nat.zero_le _, by omega⟩, getD_none, getD_rep _ _ _ hj]; rfl
theorem new7_bad (n : Int) (h : n < 1 ∨ 16384 < n) (w : World) :
    Calls Tryd.prog 34 #[.int .i64 n] w fun r w' => r = .returned (.tuple #[.pointer none, .int .i64 2]) ∧ w' = w := by
  by_cases h1 : n < 1
  · go_enter Tryd.func34, Tryd.ntmps34
    go_wp2
    go_ret2
    exact ⟨rfl, rfl⟩
  · have h2 : 16384 < n := by omega
    clear h
    go_enter Tryd.func34, Tryd.ntmps34
    go_wp2
    go_ret2
    exact ⟨rfl, rfl⟩
set_option maxHeartbeats 1000000 in
theorem new7_ok (n : Nat) (h1 : 1 ≤ n) (h2 : n ≤ 16384) (w : World) (hT : Tb w) :
    Calls Tryd.prog 34 #[.int .i64 n] w fun r w' => ∃ p g, r = .returned (.tuple #[.pointer (some ⟨p, 0, none⟩), .int .i64 0]) ∧ Al w' p g (List.replicate n true) ∧ w.heap.size ≤ p ∧ w.heap.size ≤ g ∧ Turn (fun _ => False) w w' := by
  have hz := hT.lt
  have hAl : Al ((w.alloc (.cells (List.replicate (n / 64 + 1) (.int .u64 0)).toArray 117)).alloc (.cells #[.int .i64 n, .slice (some ⟨w.heap.size, 0, none⟩) (n / 64 + 1) (n / 64 + 1)] 106)) (w.heap.size + 1) w.heap.size (List.replicate n false) := by
    refine ⟨n / 64 + 1, [], ?_, ?_, by simp; omega, by simp; omega, by omega, by omega, by omega, ?_, by simp, by unfold maxLen; omega⟩
    · rw [List.length_replicate]
      exact Blk.new_ _ 106 [.int .i64 n, .slice (some ⟨w.heap.size, 0, none⟩) (n / 64 + 1) (n / 64 + 1)] (by rw [World.size_alloc])
    · rw [words_none, List.append_nil]
      exact (Blk.new w 117 (List.replicate (n / 64 + 1) (.int .u64 0))).alloc _
    · exact hT.turn (((Turn.refl (fun _ => False) w).alloc _).alloc _) (fun h => h)
  have HU := Lib.hid (turn7 hAl 0 n (by simp))
  have HF := Lib.hid (flip_none n)
  have HT1 := Lib.hid (((Turn.refl (fun _ => False) w).alloc (.cells (List.replicate (n / 64 + 1) (.int .u64 0)).toArray 117)).alloc (.cells #[.int .i64 n, .slice (some ⟨w.heap.size, 0, none⟩) (n / 64 + 1) (n / 64 + 1)] 106))
  clear hAl hT
  have h1i : (1 : Int) ≤ (n : Int) := by omega
  have h2i : (n : Int) ≤ 16384 := by omega
  obtain ⟨m, hme⟩ : ∃ m, m = n / 64 + 1 := ⟨_, rfl⟩
  rw [← hme] at HU HT1
  have hm257 : m ≤ 257 := by omega
  have hm := fun w => make_words m hm257 w
  have e4 := wrap_of ((n : Int) / 64 + 1) (by omega) (by omega)
  have e5 : (n : Int) / 64 + 1 = (m : Int) := by omega
  clear hme e4
  go_enter Tryd.func34, Tryd.ntmps34
  go_wp2_with (go_at_call 60; refine HU.out.mono ?_; rintro e w' ⟨⟨v, rfl⟩, ha, ht⟩)
  go_ret2
  refine ⟨w.heap.size + 1, w.heap.size, rfl, ?_, ?_, ?_, HT1.out.trans_new ht (fun k hk h => by omega)⟩
  · rw [← HF.out]; exact ha
  · omega
  · omega
theorem own_new {w : World} {t s : Nat} : (w.alloc (.cells #[] t)).ownsRow w.heap.size t s (.slice (some ⟨w.heap.size, 0, none⟩) 0 0) 0 [] :=
  ⟨by simp, .inr ⟨_, 0, #[], rfl, Nat.le_refl _, heap_alloc_new w _, Nat.le_refl _, by simp [maxLen], by simp, by simp⟩⟩
end Go.Proofs.YtmedljnbcpdoeaaDoor
