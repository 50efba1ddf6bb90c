/- Layer 9: what settled and old pages have, plain. -/
import Derived.Test.YtinnpbabkbppmaaDoorPrR
namespace Go.Proofs.YtinnpbabkbppmaaDoor
open Go.RowKit
set_option linter.unusedVariables false
set_option linter.unusedSimpArgs false
set_option maxRecDepth 100000

/-- No write of a sector is pending. -/
def Qt (D : Dsk) (i : Nat) : Prop := ∀ x ∈ D.pend, x.1 ≠ i
theorem overw_quiet (i : Nat) (s : List UInt8) (l : List (Nat × List UInt8)) : (∀ x ∈ l, x.1 ≠ i) → overw l i s = s := by
  revert l
  refine snoc_ind (fun _ => rfl) fun l x ih h => ?_
  rw [overw_snoc, if_neg (h x (by simp))]
  exact ih (fun y hy => h y (by simp [hy]))
theorem has_quiet {D : Dsk} {i : Nat} (h : Qt D i) : D.has i = D.kept.getD i [] := overw_quiet i _ D.pend h
theorem burnt_good {D : Dsk} (h : Good D) : D.burnt = D := by
  obtain ⟨h1, h2⟩ := h
  unfold Dsk.burnt; rw [h2, if_neg (by decide), if_neg (by decide)]
theorem putk_quiet : ∀ (n : Nat) (D : Dsk) (s : Nat) (b : List UInt8), Good D → s + n ≤ D.kept.length → ∀ i, (i < s ∨ s + n ≤ i) → Qt D i → Qt (putk n D (s : Int) b).1 i ∧ (putk n D (s : Int) b).1.kept = D.kept
  | 0, D, s, b, _, _, i, _, h => ⟨h, rfl⟩
  | n + 1, D, s, b, hg, hr, i, hi, h => by
    have hw := write_good hg s (by omega) (b.take 128) (by rw [List.length_take]; omega)
    rw [putk, hw, if_pos rfl]
    have hk : (D.wrote s (b.take 128)).kept = D.kept := by unfold Dsk.wrote; rw [burnt_good hg]
    have hq : Qt (D.wrote s (b.take 128)) i := fun x hx => by
      unfold Dsk.wrote at hx
      rcases List.mem_append.1 hx with h2 | h2
      · exact h x h2
      · rw [List.mem_singleton.1 h2]; show s ≠ i; omega
    have := putk_quiet n (D.wrote s (b.take 128)) (s + 1) (b.drop 128) (wrote_good hg s _) (by rw [hk]; omega) i (by omega) hq
    exact ⟨this.1, this.2.trans hk⟩
/-- A disk that is well, and has all pages. -/
def Gd (fr : Nat) (st : List Nat) (D : Dsk) : Prop := Good D ∧ fr + 8 * st.length ≤ D.kept.length
theorem crashed_good (D : Dsk) (zs : List Int) : Good (D.crashed zs) := ⟨rfl, rfl⟩
theorem Gd.pl {fr : Nat} {st : List Nat} {D : Dsk} (h : Gd fr st D) (a : Acv) : Gd fr (pl9 fr st D a).1 (pl9 fr st D a).2 := by
  have hl := (len_pl9 fr st D a).1
  refine ⟨?_, ?_⟩
  · unfold pl9
    split
    · show Good (rwr9 fr st D a.i a.s.data.toList).1
      unfold rwr9
      split
      · exact h.1
      · split
        · rename_i h2
          obtain ⟨k, e, hk, _⟩ := is9_iff h2
          rw [e, Int.toNat_natCast]
          exact (putk_good 8 D (fr + 8 * k) _ h.1 (by have := h.2; omega)).2
        · exact h.1
    split
    · exact h.1
    split
    · exact h.1
    split
    · exact h.1
    split
    · exact h.1
    split
    · exact h.1
    split
    · exact crashed_good D a.zs
    · show Good (wr9 fr st D a.s.data.toList).2.1
      unfold wr9
      split
      · exact h.1
      · split
        · exact h.1
        · rename_i i hf
          obtain ⟨f1, _, _⟩ := fst9_some hf
          have hg := (putk_good 8 D (fr + 8 * i) a.s.data.toList h.1 (by have := h.2; omega)).2
          split
          · exact hg
          · exact hg
  · rw [hl]
    have hk : (pl9 fr st D a).2.kept.length = D.kept.length := by
      unfold pl9
      split
      · show (rwr9 fr st D a.i a.s.data.toList).1.kept.length = _
        unfold rwr9
        split
        · rfl
        · split
          · exact (putk_len 8 D _ _).1
          · rfl
      split
      · rfl
      split
      · rfl
      split
      · rfl
      split
      · rfl
      split
      · rfl
      split
      · exact (crash_len D a.zs).1
      · show (wr9 fr st D a.s.data.toList).2.1.kept.length = _
        unfold wr9
        split
        · rfl
        · split
          · rfl
          · rename_i i hf
            have hg := (putk_len 8 D ((fr + 8 * i : Nat) : Int) a.s.data.toList).1
            split
            · exact hg
            · exact hg
    rw [hk]; exact h.2
theorem Gd.run (fr : Nat) (st : List Nat) (D : Dsk) (h : Gd fr st D) (qs : List Acv) : Gd fr (run9 fr st D qs).1 (run9 fr st D qs).2 := by
  revert qs
  refine snoc_ind h fun qs a ih => ?_
  rw [run9_snoc]; exact ih.pl a
/-- The pages of L are settled or old, and have what they had on another disk; nothing of theirs is pending. -/
structure Ks (fr : Nat) (L : List Int) (D1 : Dsk) (st : List Nat) (D : Dsk) : Prop where
  gd : Gd fr st D
  pg : ∀ k : Nat, (k : Int) ∈ L → k < st.length ∧ (st.getD k 0 = 1 ∨ st.getD k 0 = 3) ∧ ∀ q, q < 8 → Qt D (fr + 8 * k + q) ∧ D.has (fr + 8 * k + q) = D1.has (fr + 8 * k + q)
theorem Ks.disk {fr : Nat} {L : List Int} {D1 D D' : Dsk} {st : List Nat} (h : Ks fr L D1 st D) (i : Nat) (hi : i < st.length) (hn : st.getD i 0 ≠ 1 ∧ st.getD i 0 ≠ 3) (b : List UInt8) (hD : D' = (putk 8 D ((fr + 8 * i : Nat) : Int) b).1) (k : Nat) (hk : (k : Int) ∈ L) (q : Nat) (hq : q < 8) :
    Qt D' (fr + 8 * k + q) ∧ D'.has (fr + 8 * k + q) = D1.has (fr + 8 * k + q) := by
  obtain ⟨h1, h2, h3⟩ := h.pg k hk
  have hne : k ≠ i := fun e => by subst e; rcases h2 with h2 | h2; exact hn.1 h2; exact hn.2 h2
  obtain ⟨q1, q2⟩ := h3 q hq
  have hp := putk_quiet 8 D (fr + 8 * i) b h.gd.1 (by have := h.gd.2; omega) (fr + 8 * k + q) (by omega) q1
  subst hD
  refine ⟨hp.1, ?_⟩
  rw [has_quiet hp.1, hp.2, ← has_quiet q1]
  exact q2
theorem Ks.pl {fr : Nat} {L : List Int} {D1 D : Dsk} {st : List Nat} (h : Ks fr L D1 st D) (ok : ∀ k : Nat, (k : Int) ∈ L → ∀ q, q < 8 → fr + 8 * k + q < D.kept.length) (a : Acv) (hk3 : a.k ≠ 3) : Ks fr L D1 (pl9 fr st D a).1 (pl9 fr st D a).2 := by
  refine ⟨h.gd.pl a, fun k hk => ?_⟩
  obtain ⟨h1, h2, h3⟩ := h.pg k hk
  have same : k < st.length ∧ (st.getD k 0 = 1 ∨ st.getD k 0 = 3) ∧ ∀ q, q < 8 → Qt D (fr + 8 * k + q) ∧ D.has (fr + 8 * k + q) = D1.has (fr + 8 * k + q) := ⟨h1, h2, h3⟩
  unfold pl9
  by_cases g1 : a.k = 1
  · rw [if_pos g1]
    show k < st.length ∧ (st.getD k 0 = 1 ∨ st.getD k 0 = 3) ∧ ∀ q, q < 8 → Qt (rwr9 fr st D a.i a.s.data.toList).1 (fr + 8 * k + q) ∧ (rwr9 fr st D a.i a.s.data.toList).1.has (fr + 8 * k + q) = D1.has (fr + 8 * k + q)
    refine ⟨h1, h2, ?_⟩
    unfold rwr9
    split
    · exact h3
    · split
      · rename_i i2
        obtain ⟨i, e, hi, hs⟩ := is9_iff i2
        rw [e, Int.toNat_natCast]
        exact fun q hq => h.disk i hi (by rw [hs]; decide) _ rfl k hk q hq
      · exact h3
  rw [if_neg g1]
  by_cases g2 : a.k = 2
  · rw [if_pos g2]
    show k < (rel9 st a.i).1.length ∧ ((rel9 st a.i).1.getD k 0 = 1 ∨ (rel9 st a.i).1.getD k 0 = 3) ∧ _
    refine ⟨by rw [len_rel9]; exact h1, ?_, h3⟩
    unfold rel9
    split
    · split
      · rename_i i2
        obtain ⟨i, e, hi, hs⟩ := is9_iff i2
        rw [e, Int.toNat_natCast]
        show (st.set i 0).getD k 0 = 1 ∨ (st.set i 0).getD k 0 = 3
        rw [getD_set9 _ _ _ _ hi]
        by_cases e2 : k = i
        · subst e2; rcases h2 with h2 | h2 <;> (rw [hs] at h2; cases h2)
        · rw [if_neg e2]; exact h2
      · split
        · rename_i i2
          obtain ⟨i, e, hi, hs⟩ := is9_iff i2
          rw [e, Int.toNat_natCast]
          show (st.set i 3).getD k 0 = 1 ∨ (st.set i 3).getD k 0 = 3
          rw [getD_set9 _ _ _ _ hi]
          by_cases e2 : k = i
          · rw [if_pos e2]; exact .inr rfl
          · rw [if_neg e2]; exact h2
        · exact h2
    · exact h2
  rw [if_neg g2, if_neg hk3]
  by_cases g4 : a.k = 4
  · rw [if_pos g4]
    show k < (undo9 st).length ∧ ((undo9 st).getD k 0 = 1 ∨ (undo9 st).getD k 0 = 3) ∧ _
    refine ⟨by unfold undo9; rw [len_trn9, len_trn9]; exact h1, ?_, h3⟩
    unfold undo9
    rw [trn9_at _ _ _ _ (by rw [len_trn9]; exact h1), trn9_at _ _ _ _ h1]
    rcases h2 with h2 | h2 <;> (rw [h2]; simp)
  rw [if_neg g4]
  by_cases g5 : a.k = 5
  · rw [if_pos g5]
    show k < (keep9 st a.zs).1.length ∧ ((keep9 st a.zs).1.getD k 0 = 1 ∨ (keep9 st a.zs).1.getD k 0 = 3) ∧ _
    refine ⟨by rw [len_keep9]; exact h1, ?_, h3⟩
    unfold keep9
    split
    · rename_i hap
      split
      · exact h2
      · obtain ⟨_, hin⟩ := ap9_spec st.length a.zs _ List.length_replicate hap
        show (tr9 1 st a.zs).getD k 0 = 1 ∨ (tr9 1 st a.zs).getD k 0 = 3
        rw [tr9_at 1 a.zs st k (fun z hz => ⟨(hin z hz).1, (hin z hz).2.1⟩)]
        split
        · exact .inl rfl
        · exact h2
    · exact h2
  rw [if_neg g5]
  by_cases g6 : a.k = 6 ∨ a.k = 7
  · rw [if_pos g6]; exact same
  rw [if_neg g6]
  by_cases g8 : a.k = 8
  · rw [if_pos g8]
    refine ⟨h1, h2, fun q hq => ?_⟩
    obtain ⟨q1, q2⟩ := h3 q hq
    have hp : (D.crashed a.zs).pend = [] := (crash_len D a.zs).2
    have hq0 : Qt (D.crashed a.zs) (fr + 8 * k + q) := fun x hx => by rw [hp] at hx; cases hx
    refine ⟨hq0, ?_⟩
    show (D.crashed a.zs).has (fr + 8 * k + q) = _
    rw [has_quiet hq0]
    have hkk : (D.crashed a.zs).kept = (D.keepAll (sel D.pend (isIn a.zs))).kept := rfl
    rw [hkk, keepAll_at _ _ _ (ok k hk q hq), overw_quiet _ _ _ (fun x hx => q1 x (sel_mem hx)), ← has_quiet q1]
    exact q2
  rw [if_neg g8]
  show k < (wr9 fr st D a.s.data.toList).1.length ∧ ((wr9 fr st D a.s.data.toList).1.getD k 0 = 1 ∨ (wr9 fr st D a.s.data.toList).1.getD k 0 = 3) ∧ ∀ q, q < 8 → Qt (wr9 fr st D a.s.data.toList).2.1 (fr + 8 * k + q) ∧ (wr9 fr st D a.s.data.toList).2.1.has (fr + 8 * k + q) = D1.has (fr + 8 * k + q)
  refine ⟨by rw [(len_wr9 _ _ _ _).1]; exact h1, ?_, ?_⟩
  · unfold wr9
    split
    · exact h2
    · split
      · exact h2
      · rename_i i hf
        obtain ⟨f1, f2, _⟩ := fst9_some hf
        split
        · show (st.set i 2).getD k 0 = 1 ∨ (st.set i 2).getD k 0 = 3
          rw [getD_set9 _ _ _ _ f1]
          by_cases e2 : k = i
          · subst e2; rcases h2 with h2 | h2 <;> (rw [f2] at h2; cases h2)
          · rw [if_neg e2]; exact h2
        · exact h2
  · unfold wr9
    split
    · exact h3
    · split
      · exact h3
      · rename_i i hf
        obtain ⟨f1, f2, _⟩ := fst9_some hf
        split
        · exact fun q hq => h.disk i f1 (by rw [f2]; decide) _ rfl k hk q hq
        · exact fun q hq => h.disk i f1 (by rw [f2]; decide) _ rfl k hk q hq
theorem pgs9_same {D D1 : Dsk} (s : Nat) : ∀ n, (∀ q, q < n → D.has (s + q) = D1.has (s + q)) → pgs9 D s n = pgs9 D1 s n
  | 0, _ => rfl
  | n + 1, h => by rw [pgs9, pgs9, pgs9_same s n (fun q hq => h q (by omega)), h n (by omega)]
end Go.Proofs.YtinnpbabkbppmaaDoor
