/- Layer 9: begun, few. -/
import Derived.Test.YtmedljnbcpdoeaaDoorPrP
import Derived.Test.YtmedljnbcpdoeaaDoorPrL
namespace Go.Proofs.YtmedljnbcpdoeaaDoor
open Go.RowKit
set_option linter.unusedVariables false
set_option linter.unusedSimpArgs false
set_option maxRecDepth 100000

theorem len_wr9 (fr : Nat) (st : List Nat) (D : Dsk) (b : List UInt8) : (wr9 fr st D b).1.length = st.length ∧ (wr9 fr st D b).2.1.pend.length ≤ D.pend.length + 8 := by
  unfold wr9
  split
  · exact ⟨rfl, by show D.pend.length ≤ _; omega⟩
  · split
    · exact ⟨rfl, by show D.pend.length ≤ _; omega⟩
    · rename_i i _
      have h := (putk_len 8 D ((fr + 8 * i : Nat) : Int) b).2
      split
      · exact ⟨by simp, h⟩
      · exact ⟨rfl, h⟩
theorem len_keep9 (st : List Nat) (zs : List Int) : (keep9 st zs).1.length = st.length := by
  unfold keep9
  split
  · split
    · rfl
    · exact len_tr9 _ _ _
  · rfl
theorem len_rwr9 (fr : Nat) (st : List Nat) (D : Dsk) (i : Int) (b : List UInt8) : (rwr9 fr st D i b).1.pend.length ≤ D.pend.length + 8 := by
  unfold rwr9
  split
  · show D.pend.length ≤ _; omega
  · split
    · exact (putk_len 8 D _ b).2
    · show D.pend.length ≤ _; omega
theorem len_pl9 (fr : Nat) (st : List Nat) (D : Dsk) (a : Acv) : (pl9 fr st D a).1.length = st.length ∧ (pl9 fr st D a).2.pend.length ≤ D.pend.length + 8 := by
  unfold pl9
  split
  · exact ⟨rfl, len_rwr9 _ _ _ _ _⟩
  split
  · exact ⟨len_rel9 _ _, by show D.pend.length ≤ _; omega⟩
  split
  · exact ⟨by show (trn9 3 0 (trn9 2 1 st)).length = _; rw [len_trn9, len_trn9], by show D.pend.length ≤ _; omega⟩
  split
  · exact ⟨by show (trn9 3 1 (trn9 2 0 st)).length = _; rw [len_trn9, len_trn9], by show D.pend.length ≤ _; omega⟩
  split
  · exact ⟨len_keep9 _ _, by show D.pend.length ≤ _; omega⟩
  split
  · exact ⟨rfl, by show D.pend.length ≤ _; omega⟩
  split
  · exact ⟨rfl, by show (D.crashed a.zs).pend.length ≤ _; rw [(crash_len D a.zs).2]; simp⟩
  · exact len_wr9 _ _ _ _
/-- Calls, one behind the other. -/
def run9 (fr : Nat) (st : List Nat) (D : Dsk) (qs : List Acv) : List Nat × Dsk := qs.foldl (fun x a => pl9 fr x.1 x.2 a) (st, D)
theorem run9_snoc (fr : Nat) (st : List Nat) (D : Dsk) (qs : List Acv) (a : Acv) : run9 fr st D (qs ++ [a]) = pl9 fr (run9 fr st D qs).1 (run9 fr st D qs).2 a := by unfold run9; rw [List.foldl_append]; rfl
theorem run9_len (fr : Nat) (st : List Nat) (D : Dsk) (qs : List Acv) : (run9 fr st D qs).1.length = st.length ∧ (run9 fr st D qs).2.pend.length ≤ D.pend.length + 8 * qs.length := by
  revert qs
  refine snoc_ind ⟨rfl, Nat.le_refl _⟩ fun qs a ih => ?_
  rw [run9_snoc]
  have h := len_pl9 fr (run9 fr st D qs).1 (run9 fr st D qs).2 a
  rw [List.length_append, List.length_singleton]
  exact ⟨by rw [h.1]; exact ih.1, by omega⟩
/-- A pager and its disk, all made since w. -/
structure Mk9 (w : World) (S : Nat → Prop) (X : World) (p pd fr : Nat) (st : List Nat) (D : Dsk) : Prop where
  q : Pq S X p pd fr st D
  new : ∀ k, S k → w.heap.size ≤ k
  tn : Turn (fun _ => False) w X
variable {w X X' : World} {S S' : Nat → Prop} {p pd fr : Nat} {st st' : List Nat} {D D' : Dsk}
theorem Mk9.go (h : Mk9 w S X p pd fr st D) (hq : Pq S' X' p pd fr st' D') (hs : Stp S X S' X') : Mk9 w S' X' p pd fr st' D' := by
  have hz := h.tn.size
  refine ⟨hq, fun k hk => ?_, h.tn.trans_new hs.1 (fun k hk hs2 => by have := h.new k hs2; omega)⟩
  rcases hs.2 k hk with h1 | h1
  · exact h.new k h1
  · omega
theorem Mk9.still (h : Mk9 w S X p pd fr st D) (ht : Turn (fun _ => False) X X') : Mk9 w S X' p pd fr st D := ⟨h.q.still ht, h.new, h.tn.trans ht⟩
def few9 (qs : List Acv) : Bool := decide (qs.length ≤ 100) && qs.all (fun a => decide (a.s.size ≤ 5000) && decide (a.zs.length ≤ 100))
set_option maxHeartbeats 1000000 in
theorem few9_any (B : Nat) (v : Value) (qs : List Acv) (w : World) (hv : Acts B w v qs) :
    Calls Tryd.prog 4 #[v] w fun e w' => e = .returned (.bool (few9 qs)) ∧ w' = w := by
  obtain ⟨A, c, rfl, hlen, hrow⟩ := hv
  have HA := Lib.hid hrow
  obtain ⟨R, hR⟩ : ∃ R, few9 qs = R := ⟨_, rfl⟩
  rw [hR]
  have HR := Lib.hid hR
  obtain ⟨n, hn⟩ : ∃ n, qs.length = n := ⟨_, rfl⟩
  have HN := Lib.hid hn
  rw [hn] at hlen ⊢
  clear hrow hR hn
  by_cases hbig : 100 < n
  · have hl : (100 : Int) < (n : Int) := by omega
    have HRf : Hid (R = false) := Lib.hid (by rw [← HR.out]; unfold few9; rw [decide_eq_false (by have := HN.out; omega)]; rfl)
    go_enter Tryd.func4, Tryd.ntmps4
    go_wp2_with fail
    go_ret
    exact ⟨by rw [HRf.out]; rfl, rfl⟩
  · have hl : ¬ (100 : Int) < (n : Int) := by omega
    have HR2 : Hid (qs.all (fun a => decide (a.s.size ≤ 5000) && decide (a.zs.length ≤ 100)) = R) := Lib.hid (by have := HR.out; unfold few9 at this; rw [decide_eq_true (by have := HN.out; omega), Bool.true_and] at this; exact this)
    go_enter Tryd.func4, Tryd.ntmps4
    go_wp2_with fail
    go_loopw [3] (fun v3 wr => ∃ j : Nat, j ≤ n ∧ v3 = .int .i64 j ∧ Hid ((qs.drop j).all (fun a => decide (a.s.size ≤ 5000) && decide (a.zs.length ≤ 100)) = R) ∧ wr = w) (fun v3 _ => n - (intOf v3).toNat)
    case atStart => exact ⟨0, Nat.zero_le _, rfl, Lib.hid (by rw [List.drop_zero]; exact HR2.out), rfl⟩
    case round =>
      obtain ⟨j, hj, rfl, HD, rfl⟩ := hrel
      by_cases hlt : j < n
      · have hl1 : (j : Int) < (n : Int) := by omega
        have hl0 : (0 : Int) ≤ (j : Int) := by omega
        have hq := wrap_of ((j : Int) + 1) (by omega) (by omega)
        have hjL : j < qs.length := by rw [HN.out]; exact hlt
        obtain ⟨a, ha⟩ : ∃ a, qs[j]? = some a := ⟨_, List.getElem?_eq_getElem hjL⟩
        obtain ⟨b, o, rfl, hb, hcs⟩ := HA.out (by omega)
        obtain ⟨⟨k0, k1, k2, k3⟩, hiv, _, _⟩ := hcs j a ha
        have HE : Hid (((decide (a.s.size ≤ 5000) && decide (a.zs.length ≤ 100)) && (qs.drop (j + 1)).all (fun a => decide (a.s.size ≤ 5000) && decide (a.zs.length ≤ 100))) = R) := Lib.hid (by
          have := HD.out
          rw [List.drop_eq_getElem_cons hjL] at this
          rw [List.getElem?_eq_getElem hjL] at ha
          injection ha with ha
          rw [ha, List.all_cons] at this; exact this)
        obtain ⟨ak, ai, as_, av, azs⟩ := a
        obtain ⟨A3, c3, e3, _⟩ := hiv
        simp only at k0 k1 k2 k3 HE e3
        subst e3
        obtain ⟨m, hm⟩ : ∃ m, as_.size = m := ⟨_, rfl⟩
        obtain ⟨q, hqq⟩ : ∃ q, azs.length = q := ⟨_, rfl⟩
        have HM := Lib.hid hm
        rw [hm, hqq] at HE
        rw [hqq] at k3
        clear hcs ha hjL hqq HD
        by_cases h5 : m ≤ 5000
        · have g5 : ¬ (5000 : Int) < (m : Int) := by omega
          by_cases h6 : q ≤ 100
          · have g6 : ¬ (100 : Int) < (q : Int) := by omega
            have HE2 : Hid ((qs.drop (j + 1)).all (fun a => decide (a.s.size ≤ 5000) && decide (a.zs.length ≤ 100)) = R) := Lib.hid (by have := HE.out; rw [decide_eq_true h5, decide_eq_true h6] at this; simpa using this)
            go_wp2_with fail
            go_roundw
            case rel => exact ⟨j + 1, by omega, by simp [hq], HE2, by first | trivial | rfl⟩
            case measure => simp [intOf, hq]; omega
          · have g6 : (100 : Int) < (q : Int) := by omega
            have HRf : Hid (R = false) := Lib.hid (by have := HE.out; rw [decide_eq_false h6] at this; simpa using this.symm)
            go_wp2_with fail
            go_ret
            exact ⟨by rw [HRf.out]; rfl, rfl⟩
        · have g5 : (5000 : Int) < (m : Int) := by omega
          have HRf : Hid (R = false) := Lib.hid (by have := HE.out; rw [decide_eq_false h5] at this; simpa using this.symm)
          go_wp2_with fail
          go_ret
          exact ⟨by rw [HRf.out]; rfl, rfl⟩
      · obtain rfl : j = n := by omega
        have HRt : Hid (R = true) := Lib.hid (by
          have := HD.out
          rw [List.drop_eq_nil_of_le (by rw [HN.out]; exact Nat.le_refl _)] at this
          exact this.symm)
        go_wp2_with fail
        go_ret
        exact ⟨by rw [HRt.out]; rfl, rfl⟩
end Go.Proofs.YtmedljnbcpdoeaaDoor
/- Layer 9: what stands behind Undo, plain. -/
namespace Go.Proofs.YtmedljnbcpdoeaaDoor
open Go.RowKit
set_option linter.unusedVariables false
set_option linter.unusedSimpArgs false
set_option maxRecDepth 100000

/-- Each page is one of four things. -/
def In4 (st : List Nat) : Prop := ∀ j, st.getD j 0 ≤ 3
theorem In4.set {st : List Nat} (h : In4 st) (i s : Nat) (hs : s ≤ 3) : In4 (st.set i s) := fun j => by
  by_cases hi : i < st.length
  · rw [getD_set9 _ _ _ _ hi]; split; exact hs; exact h j
  · rw [List.set_eq_of_length_le (by omega)]; exact h j
theorem In4.trn {st : List Nat} (h : In4 st) (a b : Nat) (hb : b ≤ 3) : In4 (trn9 a b st) := fun j => by
  by_cases hj : j < st.length
  · rw [trn9_at _ _ _ _ hj]; split; exact hb; exact h j
  · rw [List.getD_eq_getElem?_getD, List.getElem?_eq_none (by rw [len_trn9]; omega)]; exact Nat.zero_le _
theorem In4.tr {st : List Nat} (h : In4 st) (L : List Int) : In4 (tr9 1 st L) := by
  revert L
  refine snoc_ind h fun L x ih => ?_
  rw [tr9_snoc]; exact ih.set _ _ (by decide)
theorem In4.pl {st : List Nat} (h : In4 st) (fr : Nat) (D : Dsk) (a : Acv) : In4 (pl9 fr st D a).1 := by
  unfold pl9
  split
  · exact h
  split
  · show In4 (rel9 st a.i).1
    unfold rel9
    split
    · split
      · exact h.set _ _ (by decide)
      · split
        · exact h.set _ _ (by decide)
        · exact h
    · exact h
  split
  · exact (h.trn 2 1 (by decide)).trn 3 0 (by decide)
  split
  · exact (h.trn 2 0 (by decide)).trn 3 1 (by decide)
  split
  · show In4 (keep9 st a.zs).1
    unfold keep9
    split
    · split
      · exact h
      · exact h.tr _
    · exact h
  split
  · exact h
  split
  · exact h
  · show In4 (wr9 fr st D a.s.data.toList).1
    unfold wr9
    split
    · exact h
    · split
      · exact h
      · split
        · exact h.set _ _ (by decide)
        · exact h
theorem In4.run (fr : Nat) (st : List Nat) (D : Dsk) (h : In4 st) (qs : List Acv) : In4 (run9 fr st D qs).1 := by
  revert qs
  refine snoc_ind h fun qs a ih => ?_
  rw [run9_snoc]; exact ih.pl _ _ _
theorem in4_none (n : Nat) : In4 (List.replicate n 0) := fun j => by
  rw [List.getD_eq_getElem?_getD, List.getElem?_replicate]
  split <;> exact Nat.zero_le _
/-- Behind Settle each page is free or settled. -/
theorem settle9_at {st : List Nat} (h : In4 st) (j : Nat) : (settle9 st).getD j 0 = 0 ∨ (settle9 st).getD j 0 = 1 := by
  by_cases hj : j < st.length
  · unfold settle9
    rw [trn9_at _ _ _ _ (by rw [len_trn9]; exact hj), trn9_at _ _ _ _ hj]
    have := h j
    generalize st.getD j 0 = x at *
    by_cases h2 : x = 2
    · subst h2; simp
    · rw [if_neg h2]
      by_cases h3 : x = 3
      · subst h3; simp
      · rw [if_neg h3]; omega
  · rw [List.getD_eq_getElem?_getD, List.getElem?_eq_none (by unfold settle9; rw [len_trn9, len_trn9]; omega)]; exact .inl rfl
theorem pk9_none {s : Nat} {st : List Nat} (h : ∀ j, j < st.length → st.getD j 0 ≠ s) : pk9 s st = [] := by
  apply List.eq_nil_iff_forall_not_mem.2
  intro z hz
  obtain ⟨i, _, h1, h2⟩ := (pkTo_mem s st st.length z).1 hz
  exact h i h1 h2
/-- Since Settle: settled pages are settled or old, free ones free or fresh. -/
def Sin (s1 st : List Nat) : Prop := st.length = s1.length ∧ ∀ j, j < s1.length → (s1.getD j 0 = 1 ∧ (st.getD j 0 = 1 ∨ st.getD j 0 = 3)) ∨ (s1.getD j 0 = 0 ∧ (st.getD j 0 = 0 ∨ st.getD j 0 = 2))
theorem Sin.refl {s1 : List Nat} (h : ∀ j, s1.getD j 0 = 0 ∨ s1.getD j 0 = 1) : Sin s1 s1 := ⟨rfl, fun j _ => by rcases h j with e | e; exact .inr ⟨e, .inl e⟩; exact .inl ⟨e, .inl e⟩⟩
theorem Sin.undo {s1 st : List Nat} (h : Sin s1 st) : undo9 st = s1 := by
  apply list_ext9 (by unfold undo9; rw [len_trn9, len_trn9]; exact h.1)
  intro j hj
  have hj : j < st.length := by unfold undo9 at hj; rwa [len_trn9, len_trn9] at hj
  unfold undo9
  rw [trn9_at _ _ _ _ (by rw [len_trn9]; exact hj), trn9_at _ _ _ _ hj]
  rcases h.2 j (by rw [← h.1]; exact hj) with ⟨e, e2 | e2⟩ | ⟨e, e2 | e2⟩ <;> (rw [e, e2]; simp)
theorem Sin.set {s1 st : List Nat} (h : Sin s1 st) (i s : Nat) (hi : i < st.length) (hs : (s1.getD i 0 = 1 ∧ (s = 1 ∨ s = 3)) ∨ (s1.getD i 0 = 0 ∧ (s = 0 ∨ s = 2))) : Sin s1 (st.set i s) := by
  refine ⟨by rw [List.length_set]; exact h.1, fun j hj => ?_⟩
  rw [getD_set9 _ _ _ _ hi]
  by_cases e : j = i
  · subst e; rw [if_pos rfl]; exact hs
  · rw [if_neg e]; exact h.2 j hj
theorem Sin.pl {s1 st : List Nat} (h1 : ∀ j, s1.getD j 0 = 0 ∨ s1.getD j 0 = 1) (h : Sin s1 st) (fr : Nat) (D : Dsk) (a : Acv) (hk : a.k ≠ 3) (hk5 : a.k ≠ 5) : Sin s1 (pl9 fr st D a).1 := by
  revert hk hk5
  unfold pl9
  intro hk hk5
  by_cases g1 : a.k = 1
  · rw [if_pos g1]; exact h
  rw [if_neg g1]
  by_cases g2 : a.k = 2
  · rw [if_pos g2]
    show Sin s1 (rel9 st a.i).1
    unfold rel9
    split
    · split
      · rename_i h2
        obtain ⟨k, e, hk, hs⟩ := is9_iff h2
        rw [e, Int.toNat_natCast]
        refine h.set k 0 hk ?_
        rcases h.2 k (by rw [← h.1]; exact hk) with ⟨_, e2 | e2⟩ | ⟨e1, _⟩
        · rw [hs] at e2; cases e2
        · rw [hs] at e2; cases e2
        · exact .inr ⟨e1, .inl rfl⟩
      · split
        · rename_i h2
          obtain ⟨k, e, hk, hs⟩ := is9_iff h2
          rw [e, Int.toNat_natCast]
          refine h.set k 3 hk ?_
          rcases h.2 k (by rw [← h.1]; exact hk) with ⟨e1, _⟩ | ⟨_, e2 | e2⟩
          · exact .inl ⟨e1, .inr rfl⟩
          · rw [hs] at e2; cases e2
          · rw [hs] at e2; cases e2
        · exact h
    · exact h
  rw [if_neg g2, if_neg hk]
  by_cases g4 : a.k = 4
  · rw [if_pos g4]
    show Sin s1 (undo9 st)
    rw [h.undo]; exact Sin.refl h1
  rw [if_neg g4, if_neg hk5]
  split
  · exact h
  split
  · exact h
  · show Sin s1 (wr9 fr st D a.s.data.toList).1
    unfold wr9
    split
    · exact h
    · split
      · exact h
      · rename_i i hf
        obtain ⟨f1, f2, _⟩ := fst9_some hf
        split
        · refine h.set i 2 f1 ?_
          rcases h.2 i (by rw [← h.1]; exact f1) with ⟨_, e2 | e2⟩ | ⟨e1, _⟩
          · rw [f2] at e2; cases e2
          · rw [f2] at e2; cases e2
          · exact .inr ⟨e1, .inr rfl⟩
        · exact h
theorem free9_q {S : Nat → Prop} {w : World} {p pd fr : Nat} {st : List Nat} {D : Dsk} (h : Pq S w p pd fr st D) :
    Calls Tryd.prog 58 #[.pointer (some ⟨p, 0, none⟩)] w fun r w' => r = .returned (.int .i64 (free7 (bits9 st))) ∧ w' = w := by
  obtain ⟨pa, ga, gr, SD, hP, hD, hap, rfl, hroom⟩ := h
  exact free9_any hP
end Go.Proofs.YtmedljnbcpdoeaaDoor
