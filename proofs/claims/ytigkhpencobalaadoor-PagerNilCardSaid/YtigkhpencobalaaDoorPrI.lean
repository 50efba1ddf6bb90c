/- Layer 9: New; every call of no pager. -/
import Derived.Test.YtigkhpencobalaaDoorPrH
namespace Go.Proofs.YtigkhpencobalaaDoor
open Go.RowKit
set_option linter.unusedVariables false
set_option linter.unusedSimpArgs false
set_option maxRecDepth 100000

theorem info_state9 : (Tryd.prog.info? 91).map (fun i => (i.zero, i.size, i.bytes)) = some (some (.int .i64 0), 1, 8) := by kernel_rfl
theorem make_states9 (n : Nat) (h1 : n ≤ 16384) (w : World) : (Instr.makeSlice 76 (.int .i64 n) (.int .i64 n)).run Tryd.prog w = .ok (.slice (some ⟨w.heap.size, 0, none⟩) n n) (w.alloc (.cells ((List.replicate n 0).map sv9).toArray 91)) := by
  obtain ⟨i, hi, hz, hs, hb⟩ := info_parts_ info_state9
  have := run_makeSlice (P := Tryd.prog) (w := w) 76 91 i _ Tryd.underlying76 hi hz .i64 .i64 n n (Int.natCast_nonneg _) (Int.le_refl _) (by rw [hs]; simp; omega) (by rw [hb]; omega) (by omega)
  rw [this, hs, Int.toNat_natCast, Nat.mul_one, show (Value.int .i64 0).cells = (List.replicate 1 (Value.int .i64 0)).toArray from rfl, made_same 1 _ _ (by decide)]
  simp [sv9]
theorem new9_nod {w : World} {v : Value} (h : Nod w v) (fr n : Int) :
    Calls Tryd.prog 12 #[v, .int .i64 fr, .int .i64 n] w fun r w' => r = .returned (.tuple #[.pointer none, .int .i64 1]) ∧ w' = w := by
  have HS := Lib.hid (size_nod h)
  clear h
  go_enter Tryd.func12, Tryd.ntmps12
  go_wp2_with fail
  refine HS.out.mono ?_
  rintro e w1 ⟨rfl, rfl⟩
  go_wp2_with fail
  exact bodyPost_ret (v := .tuple #[.pointer none, .int .i64 1]) (by simp [results, Tryd.results12, go_sem]) rfl ⟨rfl, rfl⟩
theorem bits9_free (n : Nat) : bits9 (List.replicate n 0) = List.replicate n true := by unfold bits9; rw [List.map_replicate]; rfl
set_option maxHeartbeats 1000000 in
theorem new9_ok {w : World} {SD : Nat → Prop} {pd : Nat} {D : Dsk} (hD : Dq SD w pd D) (h0 : ∀ k, SD k → k ≠ 0) (hT : Tb w) (fr n : Nat) (hn : 1 ≤ n) (hr : fr + 8 * n ≤ D.kept.length) :
    Calls Tryd.prog 12 #[.pointer (some ⟨pd, 0, none⟩), .int .i64 fr, .int .i64 n] w fun r w' => ∃ p S, r = .returned (.tuple #[.pointer (some ⟨p, 0, none⟩), .int .i64 0]) ∧ Pq S w' p pd fr (List.replicate n 0) D ∧ (∀ k, S k → SD k ∨ w.heap.size ≤ k) ∧ w.heap.size ≤ p ∧ Turn (fun _ => False) w w' := by
  have hkm : D.kept.length ≤ 16384 := hD.1.most
  have HSZ := Lib.hid (size_dq hD)
  have HDD := Lib.hid hD
  have H0 := Lib.hid h0
  have HT0 := hT.lt
  have HAN := Lib.hid (fun (W : World) (hW : Tb W) => new7_ok n hn (by omega) W hW)
  have HTB := Lib.hid hT
  have HMK := Lib.hid (fun W => make_states9 n (by omega) W)
  have hmk := HMK.out
  have HRO := Lib.hid hr
  obtain ⟨K, hK⟩ : ∃ K, D.kept.length = K := ⟨_, rfl⟩
  rw [hK] at HSZ hr hkm
  have z0 : ((K : Int) == 0) = false := by simp; omega
  have z1 : ¬ (fr : Int) < 0 := by omega
  have z2 := wrap_of ((K : Int) - (fr : Int)) (by omega) (by omega)
  have z3 : ¬ ((K : Int) - (fr : Int)) / 8 < (n : Int) := by omega
  have z4 : (0 : Int) ≤ (K : Int) - (fr : Int) := by omega
  clear hD h0 hT hK hmk
  go_enter Tryd.func12, Tryd.ntmps12
  go_wp2_with fail
  refine HSZ.out.mono ?_
  rintro e w1 ⟨rfl, rfl⟩
  go_wp2_with fail
  refine (HAN.out _ HTB.out).mono ?_
  rintro e w2 ⟨pa, ga, rfl, hal, hpa, hga, ht⟩
  have AL := Lib.hid hal
  have TT := Lib.hid ht
  have hz := ht.size
  have hmk2 := HMK.out w2
  have l1 := hal.ltp
  have l2 := hal.ltg
  clear hal ht
  go_wp2_with fail
  have hrow := Blk.new w2 91 ((List.replicate n 0).map sv9)
  rw [show ((List.replicate n 0).map sv9).toArray = Array.replicate n (sv9 0) by simp] at hrow
  have hbx := Blk.new (w2.alloc (.cells (Array.replicate n (sv9 0)) 91)) 80 [.pointer (some ⟨pd, 0, none⟩), .int .i64 fr, .pointer (some ⟨pa, 0, none⟩), .slice (some ⟨w2.heap.size, 0, none⟩) n n]
  rw [show (w2.alloc (.cells (Array.replicate n (sv9 0)) 91)).heap.size = w2.heap.size + 1 by simp] at hbx
  have ta := ((Turn.refl (fun _ => False) w2).alloc (.cells (Array.replicate n (sv9 0)) 91)).alloc (.cells #[.pointer (some ⟨pd, 0, none⟩), .int .i64 fr, .pointer (some ⟨pa, 0, none⟩), .slice (some ⟨w2.heap.size, 0, none⟩) n n] 80)
  have hlt := HDD.out.lt
  refine bodyPost_ret (v := .tuple #[.pointer (some ⟨w2.heap.size + 1, 0, none⟩), .int .i64 0]) (by simp [results, Tryd.results12, go_sem]) rfl ⟨w2.heap.size + 1, Pown (w2.heap.size + 1) pa ga w2.heap.size SD, rfl, ⟨pa, ga, w2.heap.size, SD, ⟨?_, hrow.alloc _, by rw [bits9_free]; exact AL.out.still ta, by rw [len_bits9], by omega, by omega, by omega, by omega, by omega, by omega, by omega⟩, HDD.out.still (TT.out.trans ta), fun k hk => ?_, rfl, by rw [List.length_replicate]; exact HRO.out⟩, fun k hk => ?_, by omega, TT.out.trans ta⟩
  · rw [List.length_replicate]; exact hbx
  · have h5 := hlt k hk
    exact ⟨by omega, by omega, by omega, by omega, H0.out k hk⟩
  · rcases hk with h | h | h | h | h
    · exact .inr (by omega)
    · exact .inr (by omega)
    · exact .inr (by omega)
    · exact .inr (by omega)
    · exact .inl h
/-- Every call of no pager. -/
theorem write9_no {w : World} {v : Value} (h : Nop w v) (b : Value) :
    Calls Tryd.prog 31 #[v, b] w fun r w' => r = .returned (.tuple #[.int .i64 0, .int .i64 1]) ∧ w' = w := by
  have HM := Lib.hid (made9_no h)
  clear h
  go_enter Tryd.func31, Tryd.ntmps31
  go_wp2_with fail
  refine HM.out.mono ?_
  rintro e w1 ⟨rfl, rfl⟩
  go_wp2_with fail
  exact bodyPost_ret (v := .tuple #[.int .i64 0, .int .i64 1]) (by simp [results, Tryd.results31, go_sem]) rfl ⟨rfl, rfl⟩
theorem read9_no {w : World} {v : Value} (h : Nop w v) (i : Int) :
    Calls Tryd.prog 25 #[v, .int .i64 i] w fun r w' => r = .returned (.tuple #[.slice none 0 0, .int .i64 1]) ∧ w' = w := by
  have HM := Lib.hid (made9_no h)
  clear h
  go_enter Tryd.func25, Tryd.ntmps25
  go_wp2_with fail
  refine HM.out.mono ?_
  rintro e w1 ⟨rfl, rfl⟩
  go_wp2_with fail
  exact bodyPost_ret (v := .tuple #[.slice none 0 0, .int .i64 1]) (by simp [results, Tryd.results25, go_sem]) rfl ⟨rfl, rfl⟩
theorem pages9_no {w : World} {v : Value} (h : Nop w v) :
    Calls Tryd.prog 36 #[v] w fun r w' => r = .returned (.tuple #[.slice none 0 0, .slice none 0 0, .slice none 0 0]) ∧ w' = w := by
  have HM := Lib.hid (made9_no h)
  clear h
  go_enter Tryd.func36, Tryd.ntmps36
  go_wp2_with fail
  refine HM.out.mono ?_
  rintro e w1 ⟨rfl, rfl⟩
  go_wp2_with fail
  exact bodyPost_ret (v := .tuple #[.slice none 0 0, .slice none 0 0, .slice none 0 0]) (by simp [results, Tryd.results36, go_sem]) rfl ⟨rfl, rfl⟩
theorem rewrite9_no {w : World} {v : Value} (h : Nop w v) (i : Int) (b : Value) :
    Calls Tryd.prog 15 #[v, .int .i64 i, b] w fun r w' => r = .returned (.int .i64 1) ∧ w' = w := by
  have HM := Lib.hid (made9_no h)
  clear h
  go_enter Tryd.func15, Tryd.ntmps15
  go_wp2_with fail
  refine HM.out.mono ?_
  rintro e w1 ⟨rfl, rfl⟩
  go_wp2_with fail
  go_ret
  exact ⟨rfl, rfl⟩
theorem release9_no {w : World} {v : Value} (h : Nop w v) (i : Int) :
    Calls Tryd.prog 17 #[v, .int .i64 i] w fun r w' => r = .returned (.int .i64 1) ∧ w' = w := by
  have HM := Lib.hid (made9_no h)
  clear h
  go_enter Tryd.func17, Tryd.ntmps17
  go_wp2_with fail
  refine HM.out.mono ?_
  rintro e w1 ⟨rfl, rfl⟩
  go_wp2_with fail
  go_ret
  exact ⟨rfl, rfl⟩
theorem settle9_no {w : World} {v : Value} (h : Nop w v) :
    Calls Tryd.prog 19 #[v] w fun r w' => r = .returned (.int .i64 1) ∧ w' = w := by
  have HM := Lib.hid (made9_no h)
  clear h
  go_enter Tryd.func19, Tryd.ntmps19
  go_wp2_with fail
  refine HM.out.mono ?_
  rintro e w1 ⟨rfl, rfl⟩
  go_wp2_with fail
  go_ret
  exact ⟨rfl, rfl⟩
theorem undo9_no {w : World} {v : Value} (h : Nop w v) :
    Calls Tryd.prog 21 #[v] w fun r w' => r = .returned (.int .i64 1) ∧ w' = w := by
  have HM := Lib.hid (made9_no h)
  clear h
  go_enter Tryd.func21, Tryd.ntmps21
  go_wp2_with fail
  refine HM.out.mono ?_
  rintro e w1 ⟨rfl, rfl⟩
  go_wp2_with fail
  go_ret
  exact ⟨rfl, rfl⟩
theorem keep9_no {w : World} {v : Value} (h : Nop w v) (b : Value) :
    Calls Tryd.prog 23 #[v, b] w fun r w' => r = .returned (.int .i64 1) ∧ w' = w := by
  have HM := Lib.hid (made9_no h)
  clear h
  go_enter Tryd.func23, Tryd.ntmps23
  go_wp2_with fail
  refine HM.out.mono ?_
  rintro e w1 ⟨rfl, rfl⟩
  go_wp2_with fail
  go_ret
  exact ⟨rfl, rfl⟩
theorem free9_no {w : World} {v : Value} (h : Nop w v) :
    Calls Tryd.prog 38 #[v] w fun r w' => r = .returned (.int .i64 0) ∧ w' = w := by
  have HM := Lib.hid (made9_no h)
  clear h
  go_enter Tryd.func38, Tryd.ntmps38
  go_wp2_with fail
  refine HM.out.mono ?_
  rintro e w1 ⟨rfl, rfl⟩
  go_wp2_with fail
  go_ret
  exact ⟨rfl, rfl⟩
end Go.Proofs.YtigkhpencobalaaDoor
