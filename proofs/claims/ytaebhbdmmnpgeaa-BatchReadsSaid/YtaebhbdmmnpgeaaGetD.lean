/- The contracts of package field's readers, fourth part: NewReader, Text. -/
import Derived.Test.YtaebhbdmmnpgeaaGetC
import Derived.Lib.SliceRun
namespace Go.Proofs.Ytaebhbdmmnpgeaa
open Go.RowKit
set_option linter.unusedVariables false

set_option maxHeartbeats 400000 in
theorem clone_nil (w : World) : Calls Try.prog 103 #[.slice none 0 0] w fun e w' => e = .returned (.slice none 0 0) ∧ w = w' := by
  have qT : ∀ (w : World) (a : Option Addr) (n c n' c' : Nat), (binOp .eql 95 (.slice a n c) (.slice none n' c')).run Try.prog w = .ok (.bool a.isNone) w := fun w a n c n' c' => Lib.run_eql_slice_nil w _ _ a n c n' c' Try.underlying95
  go_enter Try.func103, Try.ntmps103
  go_wp2
  go_ret
  exact ⟨rfl, rfl⟩

set_option maxHeartbeats 400000 in
theorem clone_some (B : Nat) (ad : Addr) (cap : Nat) (l : List UInt8) (w : World) (hA : Rd w B (some ad) l) (hB : B ≤ w.heap.size) (hl : l.length ≤ 140737488355000) :
    Calls Try.prog 103 #[.slice (some ad) l.length cap] w fun e w' => ∃ v, e = .returned v ∧ w'.ownsRow w.heap.size 5 1 v l.length (bv l) ∧ Below w.heap.size w w' := by
  obtain ⟨i0, hi, hz0, hz1, hz2⟩ := info_parts Try.info5
  have hc : ∀ j u, (bv l)[j]? = some u → (w.alloc (.cells #[] 5)).cell? (ad.add j) = some u := fun j u hu => by
    have hj : j < l.length := by
      rcases Nat.lt_or_ge j l.length with h | h
      · exact h
      · rw [bv_at, List.getElem?_eq_none h] at hu; cases hu
    obtain ⟨ad', e, _, hb, hcc⟩ := hA (by omega)
    obtain rfl : ad = ad' := by injection e
    have h2 := rd_cells hcc j u hu
    have h3 := cell_lt h2
    rw [World.cell?_alloc_lt _ _ _ h3]; exact h2
  have HC := Lib.hid hc
  have HE := Lib.hid (own_empty w w.heap.size 5 (Nat.le_refl _))
  clear hc hA
  have qT : ∀ (w : World) (a : Option Addr) (n c n' c' : Nat), (binOp .eql 95 (.slice a n c) (.slice none n' c')).run Try.prog w = .ok (.bool a.isNone) w := fun w a n c n' c' => Lib.run_eql_slice_nil w _ _ a n c n' c' Try.underlying95
  go_enter Try.func103, Try.ntmps103
  go_wp2_with (at_builtin; refine wpList_append_own _ rfl _ _ 95 rfl w.heap.size 5 i0 (.int .u8 0) 1 1 Try.underlying95 hi hz0 hz1 hz2 rfl (by decide) _ 0 (bv []) rfl HE.out ad l.length cap (bv l) rfl (by simp [len_bv]) HC.out (bv_one l) (by unfold maxLen; omega) (by omega) (by simp) ?_; intro v' w2 ho2 hg2 _; have HO := Lib.hid ho2; clear ho2)
  have hb2 := ((Below.refl w.heap.size w).alloc (Nat.le_refl _) (.cells #[] 5)).trans (grown_below hg2 HE.out (by simp))
  have HB := Lib.hid hb2
  clear hb2 hg2
  go_ret
  have := HO.out
  rw [Nat.zero_add, show bv [] ++ bv l = bv l from rfl] at this
  exact ⟨_, rfl, this, HB.out⟩

theorem clone_any (B : Nat) (v : Value) (l : List UInt8) (w : World) (hA : Sl w B v l) (hB : B ≤ w.heap.size) (hl : l.length ≤ 140737488355000) :
    Calls Try.prog 103 #[v] w fun e w' => ∃ v, e = .returned v ∧ w'.ownsRow w.heap.size 5 1 v l.length (bv l) ∧ Below w.heap.size w w' := by
  obtain ⟨A, cap, rfl, hr, hm, hn, _⟩ := hA
  cases A with
  | none =>
    obtain ⟨rfl, rfl⟩ := hn rfl
    refine (clone_nil w).mono ?_
    rintro e w' ⟨rfl, rfl⟩
    exact ⟨_, rfl, ⟨rfl, .inl ⟨rfl, rfl⟩⟩, Below.refl _ _⟩
  | some ad => exact clone_some B ad cap l w hr hB hl

theorem newReader_any (B : Nat) (v : Value) (l : List UInt8) (w : World) (hA : Sl w B v l) (hB : B ≤ w.heap.size) (hl : l.length ≤ 140737488355000) :
    Calls Try.prog 45 #[v] w fun e w' => ∃ p, e = .returned (.pointer (some ⟨p, 0, none⟩)) ∧ Rdr w' p l 0 0 ∧ w.heap.size ≤ p ∧ Below w.heap.size w w' := by
  have HA := Lib.hid hA
  clear hA
  go_enter Try.func45, Try.ntmps45
  go_wp2_with (go_at_call 103; refine (clone_any B v l _ HA.out hB hl).mono ?_; rintro e w1 ⟨v1, rfl, ho, hb⟩; obtain ⟨A1, cap1, rfl, hr1, _, _, hle1⟩ := rd_of_own ho; have HR := Lib.hid hr1; have hz := hb.size; clear ho hr1)
  go_ret
  refine ⟨_, rfl, ⟨A1, cap1, hle1, Blk.new _ _ _, (HR.out.below ((Below.refl _ _).alloc (Nat.le_refl _) _)), by omega, hl⟩, hz, hb.alloc hz _⟩

end Go.Proofs.Ytaebhbdmmnpgeaa
