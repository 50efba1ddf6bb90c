/- Layer 9: what settled and old pages have, plain. -/
import Derived.Test.YtmedljnbcpdoeaaDoorPrR
import Derived.Test.YtmedljnbcpdoeaaDoorPrA
namespace Go.Proofs.YtmedljnbcpdoeaaDoor
open Go.RowKit
set_option linter.unusedVariables false
set_option linter.unusedSimpArgs false
set_option maxRecDepth 100000

/-- No write of a sector is pending. -/
def Qt (D : Dsk) (i : Nat) : Prop := ∀ x ∈ D.pend, x.1 ≠ i
theorem overw_quiet (i : Nat) (s : List UInt8) (l : List (Nat × List UInt8)) : (∀ x ∈ l, x.1 ≠ i) → overw l i s = s := by
  revert l
  refine snoc_ind (fun _ => rfl) fun l x ih h => ?_
  rw [overw_snoc, if_neg (h x (by simp))]
  exact ih (fun y hy => h y (by simp [hy]))
theorem has_quiet {D : Dsk} {i : Nat} (h : Qt D i) : D.has i = D.kept.getD i [] := overw_quiet i _ D.pend h
theorem burnt_good {D : Dsk} (h : Good D) : D.burnt = D := by
  obtain ⟨h1, h2⟩ := h
  unfold Dsk.burnt; rw [h2, if_neg (by decide), if_neg (by decide)]
theorem putk_quiet : ∀ (n : Nat) (D : Dsk) (s : Nat) (b : List UInt8), Good D → s + n ≤ D.kept.length → ∀ i, (i < s ∨ s + n ≤ i) → Qt D i → Qt (putk n D (s : Int) b).1 i ∧ (putk n D (s : Int) b).1.kept = D.kept
  | 0, D, s, b, _, _, i, _, h => ⟨h, rfl⟩
  | n + 1, D, s, b, hg, hr, i, hi, h => by
    have hw := write_good hg s (by omega) (b.take 128) (by rw [List.length_take]; omega)
    rw [putk, hw, if_pos rfl]
    have hk : (D.wrote s (b.take 128)).kept = D.kept := by unfold Dsk.wrote; rw [burnt_good hg]
    have hq : Qt (D.wrote s (b.take 128)) i := fun x hx => by
      unfold Dsk.wrote at hx
      rcases List.mem_append.1 hx with h2 | h2
      · exact h x h2
      · rw [List.mem_singleton.1 h2]; show s ≠ i; omega
    have := putk_quiet n (D.wrote s (b.take 128)) (s + 1) (b.drop 128) (wrote_good hg s _) (by rw [hk]; omega) i (by omega) hq
    exact ⟨this.1, this.2.trans hk⟩
/-- A disk that is well, and has all pages. -/
def Gd (fr : Nat) (st : List Nat) (D : Dsk) : Prop := Good D ∧ fr + 8 * st.length ≤ D.kept.length
theorem crashed_good (D : Dsk) (zs : List Int) : Good (D.crashed zs) := ⟨rfl, rfl⟩
theorem Gd.pl {fr : Nat} {st : List Nat} {D : Dsk} (h : Gd fr st D) (a : Acv) : Gd fr (pl9 fr st D a).1 (pl9 fr st D a).2 := by
  have hl := (len_pl9 fr st D a).1
  refine ⟨?_, ?_⟩
  · unfold pl9
    split
    · show Good (rwr9 fr st D a.i a.s.data.toList).1
      unfold rwr9
      split
      · exact h.1
      · split
        · rename_i h2
          obtain ⟨k, e, hk, _⟩ := is9_iff h2
          rw [e, Int.toNat_natCast]
          exact (putk_good 8 D (fr + 8 * k) _ h.1 (by have := h.2; omega)).2
        · exact h.1
    split
    · exact h.1
    split
    · exact h.1
    split
    · exact h.1
    split
    · exact h.1
    split
    · exact h.1
    split
    · exact crashed_good D a.zs
    · show Good (wr9 fr st D a.s.data.toList).2.1
      unfold wr9
      split
      · exact h.1
      · split
        · exact h.1
        · rename_i i hf
          obtain ⟨f1, _, _⟩ := fst9_some hf
          have hg := (putk_good 8 D (fr + 8 * i) a.s.data.toList h.1 (by have := h.2; omega)).2
          split
          · exact hg
          · exact hg
  · rw [hl]
    have hk : (pl9 fr st D a).2.kept.length = D.kept.length := by
      unfold pl9
      split
      · show (rwr9 fr st D a.i a.s.data.toList).1.kept.length = _
        unfold rwr9
        split
        · rfl
        · split
          · exact (putk_len 8 D _ _).1
          · rfl
      split
      · rfl
      split
      · rfl
      split
      · rfl
      split
      · rfl
      split
      · rfl
      split
      · exact (crash_len D a.zs).1
      · show (wr9 fr st D a.s.data.toList).2.1.kept.length = _
        unfold wr9
        split
        · rfl
        · split
          · rfl
          · rename_i i hf
            have hg := (putk_len 8 D ((fr + 8 * i : Nat) : Int) a.s.data.toList).1
            split
            · exact hg
            · exact hg
    rw [hk]; exact h.2
theorem Gd.run (fr : Nat) (st : List Nat) (D : Dsk) (h : Gd fr st D) (qs : List Acv) : Gd fr (run9 fr st D qs).1 (run9 fr st D qs).2 := by
  revert qs
  refine snoc_ind h fun qs a ih => ?_
  rw [run9_snoc]; exact ih.pl a
/-- The pages of L are settled or old, and have what they had on another disk; nothing of theirs is pending. -/
structure Ks (fr : Nat) (L : List Int) (D1 : Dsk) (st : List Nat) (D : Dsk) : Prop where
  gd : Gd fr st D
  pg : ∀ k : Nat, (k : Int) ∈ L → k < st.length ∧ (st.getD k 0 = 1 ∨ st.getD k 0 = 3) ∧ ∀ q, q < 8 → Qt D (fr + 8 * k + q) ∧ D.has (fr + 8 * k + q) = D1.has (fr + 8 * k + q)
theorem Ks.disk {fr : Nat} {L : List Int} {D1 D D' : Dsk} {st : List Nat} (h : Ks fr L D1 st D) (i : Nat) (hi : i < st.length) (hn : st.getD i 0 ≠ 1 ∧ st.getD i 0 ≠ 3) (b : List UInt8) (hD : D' = (putk 8 D ((fr + 8 * i : Nat) : Int) b).1) (k : Nat) (hk : (k : Int) ∈ L) (q : Nat) (hq : q < 8) :
    Qt D' (fr + 8 * k + q) ∧ D'.has (fr + 8 * k + q) = D1.has (fr + 8 * k + q) := by
  obtain ⟨h1, h2, h3⟩ := h.pg k hk
  have hne : k ≠ i := fun e => by subst e; rcases h2 with h2 | h2; exact hn.1 h2; exact hn.2 h2
  obtain ⟨q1, q2⟩ := h3 q hq
  have hp := putk_quiet 8 D (fr + 8 * i) b h.gd.1 (by have := h.gd.2; omega) (fr + 8 * k + q) (by omega) q1
  subst hD
  refine ⟨hp.1, ?_⟩
  rw [has_quiet hp.1, hp.2, ← has_quiet q1]
  exact q2
theorem Ks.pl {fr : Nat} {L : List Int} {D1 D : Dsk} {st : List Nat} (h : Ks fr L D1 st D) (ok : ∀ k : Nat, (k : Int) ∈ L → ∀ q, q < 8 → fr + 8 * k + q < D.kept.length) (a : Acv) (hk3 : a.k ≠ 3) : Ks fr L D1 (pl9 fr st D a).1 (pl9 fr st D a).2 := by
  refine ⟨h.gd.pl a, fun k hk => ?_⟩
  obtain ⟨h1, h2, h3⟩ := h.pg k hk
  have same : k < st.length ∧ (st.getD k 0 = 1 ∨ st.getD k 0 = 3) ∧ ∀ q, q < 8 → Qt D (fr + 8 * k + q) ∧ D.has (fr + 8 * k + q) = D1.has (fr + 8 * k + q) := ⟨h1, h2, h3⟩
  unfold pl9
  by_cases g1 : a.k = 1
  · rw [if_pos g1]
    show k < st.length ∧ (st.getD k 0 = 1 ∨ st.getD k 0 = 3) ∧ ∀ q, q < 8 → Qt (rwr9 fr st D a.i a.s.data.toList).1 (fr + 8 * k + q) ∧ (rwr9 fr st D a.i a.s.data.toList).1.has (fr + 8 * k + q) = D1.has (fr + 8 * k + q)
    refine ⟨h1, h2, ?_⟩
    unfold rwr9
    split
    · exact h3
    · split
      · rename_i i2
        obtain ⟨i, e, hi, hs⟩ := is9_iff i2
        rw [e, Int.toNat_natCast]
        exact fun q hq => h.disk i hi (by rw [hs]; decide) _ rfl k hk q hq
      · exact h3
  rw [if_neg g1]
  by_cases g2 : a.k = 2
  · rw [if_pos g2]
    show k < (rel9 st a.i).1.length ∧ ((rel9 st a.i).1.getD k 0 = 1 ∨ (rel9 st a.i).1.getD k 0 = 3) ∧ _
    refine ⟨by rw [len_rel9]; exact h1, ?_, h3⟩
    unfold rel9
    split
    · split
      · rename_i i2
        obtain ⟨i, e, hi, hs⟩ := is9_iff i2
        rw [e, Int.toNat_natCast]
        show (st.set i 0).getD k 0 = 1 ∨ (st.set i 0).getD k 0 = 3
        rw [getD_set9 _ _ _ _ hi]
        by_cases e2 : k = i
        · subst e2; rcases h2 with h2 | h2 <;> (rw [hs] at h2; cases h2)
        · rw [if_neg e2]; exact h2
      · split
        · rename_i i2
          obtain ⟨i, e, hi, hs⟩ := is9_iff i2
          rw [e, Int.toNat_natCast]
          show (st.set i 3).getD k 0 = 1 ∨ (st.set i 3).getD k 0 = 3
          rw [getD_set9 _ _ _ _ hi]
          by_cases e2 : k = i
          · rw [if_pos e2]; exact .inr rfl
          · rw [if_neg e2]; exact h2
        · exact h2
    · exact h2
  rw [if_neg g2, if_neg hk3]
  by_cases g4 : a.k = 4
  · rw [if_pos g4]
    show k < (undo9 st).length ∧ ((undo9 st).getD k 0 = 1 ∨ (undo9 st).getD k 0 = 3) ∧ _
    refine ⟨by unfold undo9; rw [len_trn9, len_trn9]; exact h1, ?_, h3⟩
    unfold undo9
    rw [trn9_at _ _ _ _ (by rw [len_trn9]; exact h1), trn9_at _ _ _ _ h1]
    rcases h2 with h2 | h2 <;> (rw [h2]; simp)
  rw [if_neg g4]
  by_cases g5 : a.k = 5
  · rw [if_pos g5]
    show k < (keep9 st a.zs).1.length ∧ ((keep9 st a.zs).1.getD k 0 = 1 ∨ (keep9 st a.zs).1.getD k 0 = 3) ∧ _
    refine ⟨by rw [len_keep9]; exact h1, ?_, h3⟩
    unfold keep9
    split
    · rename_i hap
      split
      · exact h2
      · obtain ⟨_, hin⟩ := ap9_spec st.length a.zs _ List.length_replicate hap
        show (tr9 1 st a.zs).getD k 0 = 1 ∨ (tr9 1 st a.zs).getD k 0 = 3
        rw [tr9_at 1 a.zs st k (fun z hz => ⟨(hin z hz).1, (hin z hz).2.1⟩)]
        split
        · exact .inl rfl
        · exact h2
    · exact h2
  rw [if_neg g5]
  by_cases g6 : a.k = 6 ∨ a.k = 7
  · rw [if_pos g6]; exact same
  rw [if_neg g6]
  by_cases g8 : a.k = 8
  · rw [if_pos g8]
    refine ⟨h1, h2, fun q hq => ?_⟩
    obtain ⟨q1, q2⟩ := h3 q hq
    have hp : (D.crashed a.zs).pend = [] := (crash_len D a.zs).2
    have hq0 : Qt (D.crashed a.zs) (fr + 8 * k + q) := fun x hx => by rw [hp] at hx; cases hx
    refine ⟨hq0, ?_⟩
    show (D.crashed a.zs).has (fr + 8 * k + q) = _
    rw [has_quiet hq0]
    have hkk : (D.crashed a.zs).kept = (D.keepAll (sel D.pend (isIn a.zs))).kept := rfl
    rw [hkk, keepAll_at _ _ _ (ok k hk q hq), overw_quiet _ _ _ (fun x hx => q1 x (sel_mem hx)), ← has_quiet q1]
    exact q2
  rw [if_neg g8]
  show k < (wr9 fr st D a.s.data.toList).1.length ∧ ((wr9 fr st D a.s.data.toList).1.getD k 0 = 1 ∨ (wr9 fr st D a.s.data.toList).1.getD k 0 = 3) ∧ ∀ q, q < 8 → Qt (wr9 fr st D a.s.data.toList).2.1 (fr + 8 * k + q) ∧ (wr9 fr st D a.s.data.toList).2.1.has (fr + 8 * k + q) = D1.has (fr + 8 * k + q)
  refine ⟨by rw [(len_wr9 _ _ _ _).1]; exact h1, ?_, ?_⟩
  · unfold wr9
    split
    · exact h2
    · split
      · exact h2
      · rename_i i hf
        obtain ⟨f1, f2, _⟩ := fst9_some hf
        split
        · show (st.set i 2).getD k 0 = 1 ∨ (st.set i 2).getD k 0 = 3
          rw [getD_set9 _ _ _ _ f1]
          by_cases e2 : k = i
          · subst e2; rcases h2 with h2 | h2 <;> (rw [f2] at h2; cases h2)
          · rw [if_neg e2]; exact h2
        · exact h2
  · unfold wr9
    split
    · exact h3
    · split
      · exact h3
      · rename_i i hf
        obtain ⟨f1, f2, _⟩ := fst9_some hf
        split
        · exact fun q hq => h.disk i f1 (by rw [f2]; decide) _ rfl k hk q hq
        · exact fun q hq => h.disk i f1 (by rw [f2]; decide) _ rfl k hk q hq
theorem pgs9_same {D D1 : Dsk} (s : Nat) : ∀ n, (∀ q, q < n → D.has (s + q) = D1.has (s + q)) → pgs9 D s n = pgs9 D1 s n
  | 0, _ => rfl
  | n + 1, h => by rw [pgs9, pgs9, pgs9_same s n (fun q hq => h q (by omega)), h n (by omega)]
end Go.Proofs.YtmedljnbcpdoeaaDoor
/- Layer 9: rows of numbers and of texts grow; Flush; Read of a page that stays. -/
namespace Go.Proofs.YtmedljnbcpdoeaaDoor
open Go.RowKit
set_option linter.unusedVariables false
set_option linter.unusedSimpArgs false
set_option maxRecDepth 100000

theorem one_iq9 (L : List Int) : ∀ u ∈ L.map (Value.int .i64), u.oneCell' = true := fun u hu => by
  obtain ⟨z, _, rfl⟩ := List.mem_map.1 hu; rfl
theorem turn_grown9 {w w' : World} {v : Value} (h3 : w.grownBy w' v.ownBlock) : Turn (fun k => v.ownBlock = some k) w w' := ⟨h3.os, h3.tape, h3.output, h3.size, fun k hk hn => h3.block k hk (fun e => hn e.symm)⟩
theorem appI9 (w : World) (B : Nat) (ty : TypeId) (v : Value) (L m : List Int) (A : Option Addr) (n c : Nat) (hown : w.ownsRow B 3 1 v L.length (L.map (Value.int .i64))) (hm : Ir w A m) (hn : m.length = n) (hnil : A = none → n = 0 ∧ c = 0) (hb : L.length + n ≤ 90000) (hB : B ≤ w.heap.size) :
    ∃ v' w', (Builtin.append_ #[38, 38] ty #[v, .slice A n c]).run Tryd.prog w = .ok v' w' ∧ w'.ownsRow B 3 1 v' (L ++ m).length ((L ++ m).map (Value.int .i64)) ∧ Turn (fun k => v.ownBlock = some k) w w' := by
  obtain ⟨i, hi, hz, hs, hby⟩ := info_parts Tryd.info3q
  cases A with
  | none =>
    obtain ⟨h0, h1⟩ := hnil rfl
    subst h0 h1
    have hm0 : m = [] := List.eq_nil_of_length_eq_zero hn
    subst hm0
    have hrun := run_append_owned_none (P := Tryd.prog) (w := w) B 38 ty 3 i 1 Tryd.underlying38 hi v L.length (L.map (Value.int .i64)) hown
    exact ⟨v, w, hrun, by simpa using hown, Turn.refl _ _⟩
  | some ad =>
    have hc : ∀ j u, (m.map (Value.int .i64))[j]? = some u → w.cell? (ad.add j) = some u := fun j u hu => by
      rw [List.getElem?_map] at hu
      cases hj : m[j]? with
      | none => rw [hj] at hu; cases hu
      | some z =>
        rw [hj] at hu; cases hu
        obtain ⟨b, e, _, h4⟩ := hm j z hj
        injection e with e
        subst e
        rw [Addr.add_mid, Nat.zero_add]; exact h4
    obtain ⟨v', w', hrun, h2, h3, _, h5⟩ := run_append_own_at (P := Tryd.prog) w B 38 ty 3 i (.int .i64 0) 1 8 Tryd.underlying38 hi hz hs hby rfl (by decide) v L.length (L.map (Value.int .i64)) hown ad n c (m.map (Value.int .i64)) (by simp [hn]) hc (one_iq9 m) (by unfold maxLen; omega) (by omega) hB
    exact ⟨v', w', hrun, by rw [List.length_append, List.map_append, hn]; exact h2, turn_grown9 h3⟩
theorem wpList_appI9 {w : World} {ops : Array Oper} {rest : List Oper} {o : Oper} {a : Act} {Q : Exit → Act → World → Prop} (hgd : o.guard = none) (x y : Operand)
    (ho : o.op = .call { callee := .builtin .append, args := #[x, y], argTypes := #[38, 38] })
    (B : Nat) (v : Value) (L m : List Int) (A : Option Addr) (n c : Nat) (hx : a.eval x = v) (hy : a.eval y = .slice A n c) (hown : w.ownsRow B 3 1 v L.length (L.map (Value.int .i64))) (hm : Ir w A m) (hn : m.length = n) (hnil : A = none → n = 0 ∧ c = 0) (hb : L.length + n ≤ 90000) (hB : B ≤ w.heap.size)
    (h : ∀ v' w', w'.ownsRow B 3 1 v' (L ++ m).length ((L ++ m).map (Value.int .i64)) → Turn (fun k => v.ownBlock = some k) w w' → wpList Tryd.prog ops Q rest (a.put o.dst v') w') : wpList Tryd.prog ops Q (o :: rest) a w :=
  wpList_plain hgd fun K hK => by
    obtain ⟨v', w', hr, h2, h3⟩ := appI9 w B o.type v L m A n c hown hm hn hnil hb hB
    unfold Oper.wp execOp
    simp only [ho, resolve, invoke, builtin, Sem.run_bind, Sem.run_pure, Result.andThen_ok, List.map_toArray, List.map_cons, List.map_nil, hx, hy, hr]
    exact hK _ _ (h v' w' h2 h3)
theorem info_str9 : (Tryd.prog.info? 9).map (fun i => (i.zero, i.size, i.bytes)) = some (some (.string ByteArray.empty), 1, 16) := by kernel_rfl
theorem one_sq9 (L : List ByteArray) : ∀ u ∈ L.map Value.string, u.oneCell' = true := fun u hu => by
  obtain ⟨z, _, rfl⟩ := List.mem_map.1 hu; rfl
theorem wpList_app1S9 {w : World} {ops : Array Oper} {rest : List Oper} {o : Oper} {a : Act} {Q : Exit → Act → World → Prop} (hgd : o.guard = none) (x y : Operand)
    (ho : o.op = .call { callee := .builtin .append, args := #[x, y], argTypes := #[29, 29] })
    (B : Nat) (v : Value) (L : List ByteArray) (s : ByteArray) (q : Nat) (hx : a.eval x = v) (hy : a.eval y = .slice (some ⟨q, 0, none⟩) 1 1) (hown : w.ownsRow B 9 1 v L.length (L.map Value.string)) (hq : Blk w q 9 [.string s]) (hb : L.length ≤ 90000) (hB : B ≤ w.heap.size)
    (h : ∀ v' w', w'.ownsRow B 9 1 v' (L.length + 1) ((L ++ [s]).map Value.string) → Turn (fun k => v.ownBlock = some k) w w' → wpList Tryd.prog ops Q rest (a.put o.dst v') w') : wpList Tryd.prog ops Q (o :: rest) a w :=
  wpList_plain hgd fun K hK => by
    obtain ⟨i, hi, hz, hs, hby⟩ := info_parts info_str9
    have hc : ∀ j u, ([s].map Value.string)[j]? = some u → w.cell? ((⟨q, 0, none⟩ : Addr).add j) = some u := fun j u hu => by
      rw [Addr.add_mid, Nat.zero_add, hq.cell j]; exact hu
    obtain ⟨v', w', hr, h2, h3, _, h5⟩ := run_append_own_at (P := Tryd.prog) w B 29 o.type 9 i (.string ByteArray.empty) 1 16 Tryd.underlying29 hi hz hs hby rfl (by decide) v L.length (L.map Value.string) hown ⟨q, 0, none⟩ 1 1 ([s].map Value.string) (by simp) hc (one_sq9 [s]) (by unfold maxLen; omega) (by omega) hB
    unfold Oper.wp execOp
    simp only [ho, resolve, invoke, builtin, Sem.run_bind, Sem.run_pure, Result.andThen_ok, List.map_toArray, List.map_cons, List.map_nil, hx, hy, hr]
    exact hK _ _ (h v' w' (by rw [List.map_append]; exact h2) (turn_grown9 h3))
theorem flush_good {D : Dsk} (h : Good D) : D.flush.2 = 0 ∧ Good D.flush.1 ∧ D.flush.1.pend = [] := by
  have hb := burnt_good h
  obtain ⟨h1, h2⟩ := h
  unfold Dsk.flush
  rw [h1, h2, if_neg (by decide), if_neg (by decide)]
  obtain ⟨k1, k2, k3, k4⟩ := keepAll_same D.pend D
  refine ⟨rfl, ⟨?_, ?_⟩, rfl⟩
  · show ((D.burnt.keepAll D.pend).lost).dead = false
    rw [hb]; exact k3.trans h1
  · show ((D.burnt.keepAll D.pend).lost).fuse = -1
    rw [hb]; exact k2.trans h2
theorem Ks.start {fr : Nat} {D : Dsk} {st : List Nat} (h : Gd fr st D) (hp : D.pend = []) : Ks fr (pk9 1 st ++ pk9 3 st) D st D := ⟨h, fun k hk => by
  have hq : ∀ i, Qt D i := fun i x hx => by rw [hp] at hx; cases hx
  rcases List.mem_append.1 hk with h1 | h1
  · obtain ⟨i, e, h2, h3⟩ := (pkTo_mem 1 st st.length _).1 h1
    have : k = i := by omega
    subst this
    exact ⟨h2, .inl h3, fun q _ => ⟨hq _, rfl⟩⟩
  · obtain ⟨i, e, h2, h3⟩ := (pkTo_mem 3 st st.length _).1 h1
    have : k = i := by omega
    subst this
    exact ⟨h2, .inr h3, fun q _ => ⟨hq _, rfl⟩⟩⟩
/-- A page that stays reads as it did. -/
theorem read9_k {S : Nat → Prop} {w : World} {p pd fr : Nat} {st : List Nat} {D D1 : Dsk} {L : List Int} (h : Pq S w p pd fr st D) (hk : Ks fr L D1 st D) (k : Nat) (hkL : (k : Int) ∈ L) :
    Calls Tryd.prog 21 #[.pointer (some ⟨p, 0, none⟩), .int .i64 k] w fun r w' => ∃ A c, r = .returned (.tuple #[.slice A 1024 c, .int .i64 0]) ∧ Sl w' w'.heap.size (.slice A 1024 c) (pgs9 D1 (fr + 8 * k) 8) ∧ Turn (fun _ => False) w w' := by
  obtain ⟨h1, h2, h3⟩ := hk.pg k hkL
  have hn : is9 st (k : Int) 0 = false := by
    unfold is9
    rw [Int.toNat_natCast]
    rcases h2 with h2 | h2 <;> (rw [h2]; simp)
  have hs := pgs9_same (D := D) (D1 := D1) (fr + 8 * k) 8 (fun q hq => (h3 q hq).2)
  have hl : (pgs9 D1 (fr + 8 * k) 8).length = 1024 := by
    rw [← hs]
    obtain ⟨_, _, _, _, _, hD, _, _, hroom⟩ := h
    exact len_pgs9 hD.1 (fr + 8 * k) 8 (by omega)
  refine (read9_ok h k h1 hn hk.gd.1.1).mono fun e w' ⟨v, h4, h5, h6⟩ => ?_
  rw [hs] at h5
  have h7 := Sl.of_own h5
  rw [hl] at h5
  obtain ⟨A, c, rfl⟩ := own_slice9 h5
  exact ⟨A, c, h4, h7, h6⟩
/-- Texts that a slice holds, apart from a set of blocks. -/
def Rks (S : Nat → Prop) (w : World) (A : Option Addr) (L : List ByteArray) : Prop := ∀ j s, L[j]? = some s → ∃ b, A = some ⟨b, 0, none⟩ ∧ b < w.heap.size ∧ ¬ S b ∧ w.cell? ⟨b, j, none⟩ = some (.string s)
theorem Rks.step {S S' : Nat → Prop} {w w' : World} {A : Option Addr} {L : List ByteArray} (h : Rks S w A L) (hs : Stp S w S' w') : Rks S' w' A L := fun j s hj => by
  obtain ⟨b, h1, h2, h3, h4⟩ := h j s hj
  exact ⟨b, h1, Nat.lt_of_lt_of_le h2 hs.1.size, fun h => by rcases hs.2 b h with h | h; exact h3 h; omega, (World.cell?_of_block (w := w) (a := ⟨b, j, none⟩) (hs.1.block b h2 h3)).trans h4⟩
theorem rks_of {S : Nat → Prop} {B : Nat} {w : World} {A : Option Addr} {n c : Nat} {L : List ByteArray} (h : w.ownsRow B 9 1 (.slice A n c) n (L.map Value.string)) (hS : ∀ k, S k → k < B) : Rks S w A L := fun j s hj => by
  obtain ⟨g, h1, h2, h3, h4⟩ := own_at9 h j (.string s) (by rw [List.getElem?_map, hj]; rfl)
  exact ⟨g, h1, h3, fun h => by have := hS g h; omega, h4⟩
end Go.Proofs.YtmedljnbcpdoeaaDoor
/- Layer 9: counting pages, plain (for PagerCounts). -/
namespace Go.Proofs.YtmedljnbcpdoeaaDoor
open Go.RowKit
set_option linter.unusedVariables false

/-- The pages that are something are told in order. -/
theorem pkTo_lt (s : Nat) (st : List Nat) : ∀ (n i : Nat) (a b : Int), (pkTo s st n)[i]? = some a → (pkTo s st n)[i + 1]? = some b → a < b
  | 0, i, a, b, h, _ => by simp [pkTo] at h
  | n + 1, i, a, b, h1, h2 => by
    rw [pkTo_succ] at h1 h2
    split at h1
    · rename_i hs
      rw [if_pos hs] at h2
      rcases Nat.lt_or_ge (i + 1) (pkTo s st n).length with hlt | hge
      · rw [List.getElem?_append_left (by omega)] at h1 h2
        exact pkTo_lt s st n i a b h1 h2
      · rcases Nat.eq_or_lt_of_le hge with he | hl
        · rw [List.getElem?_append_left (by omega)] at h1
          rw [List.getElem?_append_right (by omega), ← he] at h2
          simp at h2
          obtain ⟨k, e, h3, _⟩ := (pkTo_mem s st n a).1 (List.mem_of_getElem? h1)
          omega
        · rw [List.getElem?_append_right (by omega)] at h2
          have h4 : (([(n : Int)] : List Int)).length ≤ i + 1 - (pkTo s st n).length := by simp; omega
          rw [List.getElem?_eq_none h4] at h2
          cases h2
    · rename_i hs
      rw [if_neg hs] at h2
      exact pkTo_lt s st n i a b h1 h2
theorem pk9_lt (s : Nat) (st : List Nat) (i : Nat) (a b : Int) (h1 : (pk9 s st)[i]? = some a) (h2 : (pk9 s st)[i + 1]? = some b) : a < b := pkTo_lt s st _ i a b h1 h2
/-- How often each page is told in a list. -/
def Tk9 (T : List Int) (L : List Int) : Prop := T.length = 8 ∧ ∀ j : Nat, j < 8 → T.getD j 0 = if (j : Int) ∈ L then 1 else 0
theorem tk9_nil : Tk9 (List.replicate 8 0) [] := ⟨by simp, fun j hj => by
  rw [if_neg (by simp)]
  rcases (show j = 0 ∨ j = 1 ∨ j = 2 ∨ j = 3 ∨ j = 4 ∨ j = 5 ∨ j = 6 ∨ j = 7 by omega) with rfl | rfl | rfl | rfl | rfl | rfl | rfl | rfl <;> rfl⟩
theorem tk9_snoc {T L : List Int} (h : Tk9 T L) (k : Nat) (hk : k < 8) (hn : (k : Int) ∉ L) : T.getD k 0 = 0 ∧ Tk9 (T.set k 1) (L ++ [(k : Int)]) := by
  have h0 := h.2 k hk
  rw [if_neg hn] at h0
  refine ⟨h0, by rw [List.length_set]; exact h.1, fun j hj => ?_⟩
  by_cases e : j = k
  · subst e
    rw [if_pos (by simp), List.getD_eq_getElem?_getD, List.getElem?_set, if_pos rfl, if_pos (by rw [h.1]; exact hj)]; rfl
  · rw [List.getD_eq_getElem?_getD, List.getElem?_set, if_neg (fun e2 => e e2.symm), ← List.getD_eq_getElem?_getD, h.2 j hj]
    have : ((j : Int) ∈ L ++ [(k : Int)]) ↔ (j : Int) ∈ L := by
      rw [List.mem_append, List.mem_singleton]
      exact ⟨fun h => h.elim id (fun h => by omega), Or.inl⟩
    by_cases hm : (j : Int) ∈ L
    · rw [if_pos hm, if_pos (this.2 hm)]
    · rw [if_neg hm, if_neg (fun h => hm (this.1 h))]
/-- All three lists of Pages, in the order that they are walked. -/
def all9 (st : List Nat) : List Int := pk9 1 st ++ pk9 2 st ++ pk9 3 st
theorem pk9_mem (s : Nat) (st : List Nat) (j : Nat) : (j : Int) ∈ pk9 s st ↔ j < st.length ∧ st.getD j 0 = s := by
  unfold pk9
  rw [pkTo_mem]
  constructor
  · rintro ⟨i, e, h1, h2⟩
    obtain rfl : j = i := by omega
    exact ⟨h1, h2⟩
  · rintro ⟨h1, h2⟩; exact ⟨j, rfl, h1, h2⟩
theorem all9_mem (st : List Nat) (hin : ∀ j, st.getD j 0 ≤ 3) (j : Nat) (hj : j < st.length) : (j : Int) ∈ all9 st ↔ st.getD j 0 ≠ 0 := by
  unfold all9
  rw [List.mem_append, List.mem_append, pk9_mem, pk9_mem, pk9_mem]
  have := hin j
  constructor
  · rintro ((⟨_, h⟩ | ⟨_, h⟩) | ⟨_, h⟩) <;> omega
  · intro h
    rcases Nat.lt_or_ge (st.getD j 0) 2 with h1 | h1
    · exact .inl (.inl ⟨hj, by omega⟩)
    · rcases Nat.lt_or_ge (st.getD j 0) 3 with h2 | h2
      · exact .inl (.inr ⟨hj, by omega⟩)
      · exact .inr ⟨hj, by omega⟩
/-- A page stands in no list but its own, and there once. -/
theorem pk9_other (s t : Nat) (st : List Nat) (hst : s ≠ t) (z : Int) (h : z ∈ pk9 s st) : z ∉ pk9 t st := fun h2 => by
  obtain ⟨i, rfl, h3, h4⟩ := (pkTo_mem s st _ z).1 h
  have := ((pk9_mem t st i).1 h2).2
  omega
theorem pk9_once (s : Nat) (st : List Nat) (n : Nat) (z : Int) (h : (pk9 s st)[n]? = some z) : z ∉ (pk9 s st).take n := fun h2 => by
  obtain ⟨m, hm⟩ := List.getElem?_of_mem h2
  rw [List.getElem?_take] at hm
  split at hm
  · rename_i hlt
    have hnd := pkTo_nodup s st st.length
    have h5 := (List.getElem?_inj (show m < (pkTo s st st.length).length by have := (List.getElem?_eq_some_iff.1 hm).1; exact this) hnd).1 (hm.trans h.symm)
    omega
  · cases hm
/-- The lists of Pages that lie ahead of one of them. -/
def pre9 (st : List Nat) : Nat → List Int
  | 0 => []
  | k + 1 => pre9 st k ++ pk9 (k + 1) st
theorem pre9_three (st : List Nat) : pre9 st 3 = all9 st := by simp [pre9, all9]
theorem pre9_mem (st : List Nat) : ∀ (k : Nat) (z : Int), z ∈ pre9 st k → ∃ s, s ≤ k ∧ z ∈ pk9 s st
  | 0, z, h => by simp [pre9] at h
  | k + 1, z, h => by
    rw [pre9, List.mem_append] at h
    rcases h with h | h
    · obtain ⟨s, h1, h2⟩ := pre9_mem st k z h
      exact ⟨s, by omega, h2⟩
    · exact ⟨k + 1, Nat.le_refl _, h⟩
theorem pre9_new (st : List Nat) (k n : Nat) (z : Int) (h : (pk9 (k + 1) st)[n]? = some z) : z ∉ pre9 st k ++ (pk9 (k + 1) st).take n := fun h2 => by
  rw [List.mem_append] at h2
  rcases h2 with h2 | h2
  · obtain ⟨s, h3, h4⟩ := pre9_mem st k z h2
    exact pk9_other s (k + 1) st (by omega) z h4 (List.mem_of_getElem? h)
  · exact pk9_once (k + 1) st n z h h2
/-- The least free page, and how many there are, from a place on. -/
def from9 (st : List Nat) : Nat → Nat → Int × Nat
  | 0, _ => (-1, 0)
  | n + 1, k => if st.getD k 0 = 0 then ((k : Int), (from9 st n (k + 1)).2 + 1) else from9 st n (k + 1)
theorem from9_le (st : List Nat) : ∀ (n k : Nat), (from9 st n k).2 ≤ n
  | 0, k => Nat.le_refl _
  | n + 1, k => by
    have := from9_le st n (k + 1)
    rw [from9]
    split
    · simp only; omega
    · omega
theorem from9_cnt (st : List Nat) : ∀ (n k : Nat), k + n ≤ st.length → (from9 st n k).2 = ((List.range' k n).filter (fun i => st.getD i 0 == 0)).length
  | 0, k, _ => by simp [from9]
  | n + 1, k, h => by
    have := from9_cnt st n (k + 1) (by omega)
    rw [from9, List.range'_succ, List.filter_cons]
    split
    · rename_i h0
      rw [if_pos (by rw [h0]; rfl), List.length_cons, ← this]
    · rename_i h0
      rw [if_neg (by simpa using h0), ← this]
theorem from9_fst (st : List Nat) : ∀ (n k : Nat), (from9 st n k).1 = match (List.range' k n).find? (fun i => st.getD i 0 == 0) with | some i => (i : Int) | none => -1
  | 0, k => by simp [from9]
  | n + 1, k => by
    have := from9_fst st n (k + 1)
    rw [from9, List.range'_succ, List.find?_cons]
    split
    · rename_i h0
      rw [show (st.getD k 0 == 0) = true by rw [h0]; rfl]
    · rename_i h0
      rw [show (st.getD k 0 == 0) = false by simpa using h0]
      exact this
theorem from9_all (st : List Nat) : (from9 st st.length 0).1 = match fst9 st with | some i => (i : Int) | none => -1 := by
  rw [from9_fst, fst9, List.range_eq_range']
theorem cnt_range (l : List Bool) : ∀ b : Nat, cnt l 0 b = ((List.range b).filter (fun i => l.getD i false)).length
  | 0 => rfl
  | b + 1 => by
    rw [cnt, cnt_range l b, List.range_succ, List.filter_append, List.length_append, Nat.zero_add, List.filter_cons, List.filter_nil]
    split <;> rfl
/-- How many are free: what Free answers. -/
theorem from9_free (st : List Nat) : (from9 st st.length 0).2 = free7 (bits9 st) := by
  rw [from9_cnt st st.length 0 (by omega), free7, cnt_range, len_bits9, ← List.range_eq_range']
  congr 1
  apply List.filter_congr
  intro i hi
  exact (bits9_at st i (List.mem_range.1 hi)).symm
/-- One more page from behind: what the second loop makes. -/
theorem from9_step (st : List Nat) (n k : Nat) : from9 st (n + 1) k = if st.getD k 0 = 0 then ((k : Int), (from9 st n (k + 1)).2 + 1) else from9 st n (k + 1) := rfl
end Go.Proofs.YtmedljnbcpdoeaaDoor
/- Layer 9: a page that is written reads so, with noughts behind; the free ones are one less: plain. -/
namespace Go.Proofs.YtmedljnbcpdoeaaDoor
open Go.RowKit
set_option linter.unusedVariables false
set_option linter.unusedSimpArgs false
set_option maxRecDepth 100000

theorem has_wrote9 {D : Dsk} (h : Good D) (s i : Nat) (l : List UInt8) : (D.wrote s l).has i = if s = i then full l else D.has i := by
  unfold Dsk.has Dsk.wrote
  rw [burnt_good h]
  show overw (D.pend ++ [(s, full l)]) i (D.kept.getD i []) = _
  rw [overw_snoc]
theorem wrote_kept9 {D : Dsk} (h : Good D) (s : Nat) (l : List UInt8) : (D.wrote s l).kept = D.kept := by unfold Dsk.wrote; rw [burnt_good h]
theorem putk_step9 {D : Dsk} (hg : Good D) (n s : Nat) (b : List UInt8) (hr : s < D.kept.length) : putk (n + 1) D (s : Int) b = putk n (D.wrote s (b.take 128)) ((s + 1 : Nat) : Int) (b.drop 128) := by
  rw [putk, write_good hg s hr (b.take 128) (by rw [List.length_take]; omega), if_pos rfl]; rfl
theorem has_putk9 : ∀ (n : Nat) (D : Dsk) (s : Nat) (b : List UInt8), Good D → s + n ≤ D.kept.length → ∀ i, (i < s ∨ s + n ≤ i) → (putk n D (s : Int) b).1.has i = D.has i
  | 0, D, s, b, _, _, i, _ => rfl
  | n + 1, D, s, b, hg, hr, i, hi => by
    rw [putk_step9 hg n s b (by omega), has_putk9 n (D.wrote s (b.take 128)) (s + 1) (b.drop 128) (wrote_good hg s _) (by rw [wrote_kept9 hg]; omega) i (by omega), has_wrote9 hg, if_neg (by omega)]
theorem pgs9_front (D : Dsk) (s : Nat) : ∀ n, pgs9 D s (n + 1) = D.has s ++ pgs9 D (s + 1) n
  | 0 => by simp [pgs9]
  | n + 1 => by rw [pgs9, pgs9_front D s n, pgs9, List.append_assoc, show s + (n + 1) = s + 1 + n by omega]
theorem pgs9_putk : ∀ (n : Nat) (D : Dsk) (s : Nat) (b : List UInt8), Good D → s + n ≤ D.kept.length → b.length ≤ 128 * n → pgs9 (putk n D (s : Int) b).1 s n = b ++ List.replicate (128 * n - b.length) 0
  | 0, D, s, b, _, _, hb => by
    obtain rfl := List.eq_nil_of_length_eq_zero (show b.length = 0 by omega)
    simp [pgs9]
  | n + 1, D, s, b, hg, hr, hb => by
    have ih := pgs9_putk n (D.wrote s (b.take 128)) (s + 1) (b.drop 128) (wrote_good hg s _) (by rw [wrote_kept9 hg]; omega) (by rw [List.length_drop]; omega)
    have hs := has_putk9 n (D.wrote s (b.take 128)) (s + 1) (b.drop 128) (wrote_good hg s _) (by rw [wrote_kept9 hg]; omega) s (by omega)
    rw [has_wrote9 hg, if_pos rfl] at hs
    rw [pgs9_front, putk_step9 hg n s b (by omega), hs, ih]
    unfold full
    rcases Nat.le_total 128 b.length with h | h
    · rw [List.length_take, Nat.min_eq_left h, Nat.sub_self, List.replicate_zero, List.append_nil, ← List.append_assoc, List.take_append_drop, List.length_drop]
      congr 2; omega
    · rw [List.take_of_length_le h, List.drop_eq_nil_of_le h, List.append_assoc, List.nil_append, List.length_nil, List.replicate_append_replicate]
      congr 2; omega
theorem free_fst9 {st : List Nat} {i : Nat} (h : fst9 st = some i) : free7 (bits9 (st.set i 2)) + 1 = free7 (bits9 st) := by
  obtain ⟨h1, h2, _⟩ := fst9_some h
  have hb : (bits9 st).getD i false = true := by rw [bits9_at st i h1, h2]; rfl
  have h3 := cnt_set (bits9 st) i (bits9 st).length (by rw [len_bits9]; exact h1) hb
  rw [if_pos (by rw [len_bits9]; exact h1)] at h3
  rw [bits9_set]
  unfold free7
  rw [List.length_set]
  exact h3
theorem ba_own9 {S : Nat → Prop} {B : Nat} {w : World} {v : Value} {l : List UInt8} (h : w.ownsRow B 5 1 v l.length (bv l)) (hS : ∀ k, S k → k < B) : ∃ A c, v = .slice A l.length c ∧ Ba S w A c l := by
  obtain ⟨A, c, rfl, hr, hm, hn, hle⟩ := Sl.of_own h
  refine ⟨A, c, rfl, hle, hm, fun e => (hn e).1, fun ad e hp => ?_⟩
  subst e
  have hall : ∀ j u, l[j]? = some u → ∃ g, some ad = some ⟨g, 0, none⟩ ∧ B ≤ g ∧ g < w.heap.size ∧ w.cell? ⟨g, j, none⟩ = some (u8v u) := fun j u hj => own_at9 h j (u8v u) (by unfold bv; rw [List.getElem?_map, hj]; rfl)
  obtain ⟨g, e, h1, h2, _⟩ := hall 0 l[0] (List.getElem?_eq_getElem hp)
  injection e with e
  subst e
  refine ⟨h2, fun h => by have := hS _ h; simp at this; omega, fun j u hj => ?_⟩
  obtain ⟨g2, e2, _, _, h4⟩ := hall j u hj
  injection e2 with e2
  injection e2 with e2
  subst e2
  rw [Addr.add_mid, Nat.zero_add]; exact h4
theorem is9_set (st : List Nat) (i s t : Nat) (hi : i < st.length) : is9 (st.set i s) (i : Int) t = (s == t) := by
  unfold is9 has9
  rw [List.length_set, Int.toNat_natCast, List.getD_eq_getElem?_getD, List.getElem?_set, if_pos rfl, if_pos hi]
  have h1 : decide ((0 : Int) ≤ (i : Int)) = true := by simp
  have h2 : decide ((i : Int) < (st.length : Int)) = true := by simpa using hi
  rw [h1, h2]; rfl
/-- What Write answers, and what then stands: by the three cases. -/
theorem write9_m {w : World} {S : Nat → Prop} {X : World} {p pd fr : Nat} {st : List Nat} {D : Dsk} (h : Mk9 w S X p pd fr st D) (hg : Gd fr st D) (hp : D.pend.length ≤ 800) {A : Option Addr} {c : Nat} {bl : List UInt8} (hB : Ba S X A c bl) (n : Nat) (hn : bl.length = n) :
    Calls Tryd.prog 27 #[.pointer (some ⟨p, 0, none⟩), .slice A n c] X fun r w' => r = .returned (.tuple #[.int .i64 ((wr9 fr st D bl).2.2.1 : Nat), .int .i64 (wr9 fr st D bl).2.2.2]) ∧ ∃ S', Mk9 w S' w' p pd fr (wr9 fr st D bl).1 (wr9 fr st D bl).2.1 := by
  subst hn
  exact (write9_any h.q (fun _ => hB) (by omega)).mono fun e w' ⟨h1, S', h2, h3⟩ => ⟨h1, S', h.go h2 h3⟩
/-- A page reads as it was written just now. -/
theorem read9_m {w : World} {S : Nat → Prop} {X : World} {p pd fr : Nat} {st : List Nat} {D : Dsk} {bl : List UInt8} {i : Nat} (hf : fst9 st = some i) (hg : Gd fr st D) (h : Mk9 w S X p pd fr (st.set i 2) (putk 8 D ((fr + 8 * i : Nat) : Int) bl).1) (hb : bl.length ≤ 1024) :
    Calls Tryd.prog 21 #[.pointer (some ⟨p, 0, none⟩), .int .i64 i] X fun r w' => ∃ A c, r = .returned (.tuple #[.slice A 1024 c, .int .i64 0]) ∧ Sl w' w'.heap.size (.slice A 1024 c) (bl ++ List.replicate (1024 - bl.length) 0) ∧ Mk9 w S w' p pd fr (st.set i 2) (putk 8 D ((fr + 8 * i : Nat) : Int) bl).1 := by
  obtain ⟨f1, f2, _⟩ := fst9_some hf
  have hr : fr + 8 * i + 8 ≤ D.kept.length := by have := hg.2; omega
  have hgd := (putk_good 8 D (fr + 8 * i) bl hg.1 hr).2
  have hpg := pgs9_putk 8 D (fr + 8 * i) bl hg.1 hr (by omega)
  refine (read9_ok h.q i (by rw [List.length_set]; exact f1) (by rw [is9_set _ _ _ _ f1]; rfl) hgd.1).mono fun e w' ⟨v, h4, h5, h6⟩ => ?_
  rw [hpg] at h5
  have h7 := Sl.of_own h5
  have hl : (bl ++ List.replicate (128 * 8 - bl.length) (0 : UInt8)).length = 1024 := by rw [List.length_append, List.length_replicate]; omega
  rw [hl] at h5
  obtain ⟨A, c, rfl⟩ := own_slice9 h5
  exact ⟨A, c, h4, h7, h.still h6⟩
theorem wr9_big {fr : Nat} {st : List Nat} {D : Dsk} {b : List UInt8} (hb : 1024 < b.length) : wr9 fr st D b = (st, D, 0, 5) := by unfold wr9; rw [if_pos hb]
theorem wr9_no {fr : Nat} {st : List Nat} {D : Dsk} {b : List UInt8} (hb : ¬ 1024 < b.length) (h : fst9 st = none) : wr9 fr st D b = (st, D, 0, 10) := by unfold wr9; rw [if_neg hb, h]
theorem wr9_yes {fr : Nat} {st : List Nat} {D : Dsk} {b : List UInt8} {i : Nat} (hb : ¬ 1024 < b.length) (h : fst9 st = some i) (hg : Gd fr st D) : wr9 fr st D b = (st.set i 2, (putk 8 D ((fr + 8 * i : Nat) : Int) b).1, i, 0) := by
  obtain ⟨f1, _, _⟩ := fst9_some h
  have h0 := (putk_good 8 D (fr + 8 * i) b hg.1 (by have := hg.2; omega)).1
  unfold wr9; rw [if_neg hb, h]
  simp only [h0, if_true]
theorem write9_big {w : World} {S : Nat → Prop} {X : World} {p pd fr : Nat} {st : List Nat} {D : Dsk} (h : Mk9 w S X p pd fr st D) (hg : Gd fr st D) (hp : D.pend.length ≤ 800) {A : Option Addr} {c : Nat} {bl : List UInt8} (hB : Ba S X A c bl) (n : Nat) (hn : bl.length = n) (hb : 1024 < bl.length) :
    Calls Tryd.prog 27 #[.pointer (some ⟨p, 0, none⟩), .slice A n c] X fun r w' => r = .returned (.tuple #[.int .i64 0, .int .i64 5]) ∧ ∃ S', Mk9 w S' w' p pd fr st D := by
  have h2 := write9_m h hg hp hB n hn
  rw [wr9_big hb] at h2
  exact h2
theorem write9_none {w : World} {S : Nat → Prop} {X : World} {p pd fr : Nat} {st : List Nat} {D : Dsk} (h : Mk9 w S X p pd fr st D) (hg : Gd fr st D) (hp : D.pend.length ≤ 800) {A : Option Addr} {c : Nat} {bl : List UInt8} (hB : Ba S X A c bl) (n : Nat) (hn : bl.length = n) (hb : ¬ 1024 < bl.length) (hf : fst9 st = none) :
    Calls Tryd.prog 27 #[.pointer (some ⟨p, 0, none⟩), .slice A n c] X fun r w' => r = .returned (.tuple #[.int .i64 0, .int .i64 10]) ∧ ∃ S', Mk9 w S' w' p pd fr st D := by
  have h2 := write9_m h hg hp hB n hn
  rw [wr9_no hb hf] at h2
  exact h2
theorem write9_some {w : World} {S : Nat → Prop} {X : World} {p pd fr : Nat} {st : List Nat} {D : Dsk} (h : Mk9 w S X p pd fr st D) (hg : Gd fr st D) (hp : D.pend.length ≤ 800) {A : Option Addr} {c : Nat} {bl : List UInt8} (hB : Ba S X A c bl) (n : Nat) (hn : bl.length = n) (hb : ¬ 1024 < bl.length) {i : Nat} (hf : fst9 st = some i) :
    Calls Tryd.prog 27 #[.pointer (some ⟨p, 0, none⟩), .slice A n c] X fun r w' => r = .returned (.tuple #[.int .i64 i, .int .i64 0]) ∧ ∃ S', Mk9 w S' w' p pd fr (st.set i 2) (putk 8 D ((fr + 8 * i : Nat) : Int) bl).1 := by
  have h2 := write9_m h hg hp hB n hn
  rw [wr9_yes hb hf hg] at h2
  exact h2
theorem info_u9 : (Tryd.prog.info? 5).map (fun i => (i.zero, i.size, i.bytes)) = some (some (.int .u8 0), 1, 1) := by kernel_rfl
theorem make_bytes9 (n : Nat) (h1 : n ≤ 1000000) (w : World) : (Instr.makeSlice 47 (.int .i64 n) (.int .i64 n)).run Tryd.prog w = .ok (.slice (some ⟨w.heap.size, 0, none⟩) n n) (w.alloc (.cells (bv (List.replicate n 0)).toArray 5)) := by
  obtain ⟨i, hi, hz, hs, hb⟩ := info_parts_ info_u9
  have := run_makeSlice (P := Tryd.prog) (w := w) 47 5 i _ Tryd.underlying47 hi hz .i64 .i64 n n (Int.natCast_nonneg _) (Int.le_refl _) (by rw [hs]; simp; omega) (by rw [hb]; omega) (by omega)
  rw [this, hs, Int.toNat_natCast, Nat.mul_one, show (Value.int .u8 0).cells = (List.replicate 1 (Value.int .u8 0)).toArray from rfl, made_same 1 _ _ (by decide)]
  simp [bv]
  rfl
end Go.Proofs.YtmedljnbcpdoeaaDoor
