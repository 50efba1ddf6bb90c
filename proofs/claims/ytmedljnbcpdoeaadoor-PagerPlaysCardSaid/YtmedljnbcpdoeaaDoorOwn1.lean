/- A row of numbers of its own that may be nil grows by one. -/
import Derived.Test.YtmedljnbcpdoeaaDoorKern
import Derived.Maps.AppendAt
import Derived.Deep.MidRow
namespace Go.Proofs.YtmedljnbcpdoeaaDoor
open Go.RowKit
set_option linter.unusedVariables false
set_option maxRecDepth 100000

theorem own_slice9 {w : World} {base e size n : Nat} {v : Value} {xs : List Value} (h : w.ownsRow base e size v n xs) : ∃ A c, v = .slice A n c := by
  obtain ⟨_, h | ⟨g, c, cur, e, _⟩⟩ := h
  · exact ⟨none, 0, by rw [h.1, h.2]⟩
  · exact ⟨_, _, e⟩
theorem Tryd.info3q : (Tryd.prog.info? 3).map (fun i => (i.zero, i.size, i.bytes)) = some (some (.int .i64 0), 1, 8) := by kernel_rfl
theorem one_iq (L : List Int) : ∀ u ∈ L.map (Value.int .i64), u.oneCell' = true := fun u hu => by obtain ⟨s, _, rfl⟩ := List.mem_map.1 hu; rfl
theorem app1I9 (w : World) (B : Nat) (ty : TypeId) (v : Value) (L : List Int) (s : Int) (q : Nat) (hown : w.ownsRow B 3 1 v L.length (L.map (Value.int .i64))) (hq : Blk w q 3 [.int .i64 s]) (hb : L.length ≤ 90000) (hB : B ≤ w.heap.size) :
    ∃ v' w', (Builtin.append_ #[38, 38] ty #[v, .slice (some ⟨q, 0, none⟩) 1 1]).run Tryd.prog w = .ok v' w' ∧ w'.ownsRow B 3 1 v' (L.length + 1) ((L ++ [s]).map (Value.int .i64)) ∧ Turn (fun k => v.ownBlock = some k) w w' ∧ (v'.ownBlock = v.ownBlock ∨ v'.ownBlock = some w.heap.size) := by
  obtain ⟨i, hi, hz, hs, hby⟩ := info_parts Tryd.info3q
  have hc : ∀ j u, ([s].map (Value.int .i64))[j]? = some u → w.cell? ((⟨q, 0, none⟩ : Addr).add j) = some u := fun j u hu => by
    rw [Addr.add_mid, Nat.zero_add, hq.cell j]; exact hu
  obtain ⟨v', w', hrun, h2, h3, _, h5⟩ := run_append_own_at (P := Tryd.prog) w B 38 ty 3 i (.int .i64 0) 1 8 Tryd.underlying38 hi hz hs hby rfl (by decide) v L.length (L.map (Value.int .i64)) hown ⟨q, 0, none⟩ 1 1 ([s].map (Value.int .i64)) (by simp) hc (one_iq [s]) (by unfold maxLen; omega) (by omega) hB
  exact ⟨v', w', hrun, by rw [List.map_append]; exact h2, ⟨h3.os, h3.tape, h3.output, h3.size, fun k hk hn => h3.block k hk (fun e => hn e.symm)⟩, h5⟩
theorem step_app1I9 {w : World} {ops : Array Oper} {o : Oper} {a : Act} {K : Act → World → Prop} {Q : Exit → Act → World → Prop} {E : Prop} (hw : Region.wanted o (yielded ops a.tmps) = true) (x y : Operand)
    (ho : o.op = .call { callee := .builtin .append, args := #[x, y], argTypes := #[38, 38] })
    (B : Nat) (v : Value) (L : List Int) (s : Int) (q : Nat) (hx : a.eval x = v) (hy : a.eval y = .slice (some ⟨q, 0, none⟩) 1 1) (hown : w.ownsRow B 3 1 v L.length (L.map (Value.int .i64))) (hq : Blk w q 3 [.int .i64 s]) (hb : L.length ≤ 90000) (hB : B ≤ w.heap.size)
    (h : ∀ v' w', w'.ownsRow B 3 1 v' (L.length + 1) ((L ++ [s]).map (Value.int .i64)) → Turn (fun k => v.ownBlock = some k) w w' → (v'.ownBlock = v.ownBlock ∨ v'.ownBlock = some w.heap.size) → K (a.put o.dst v') w') : if Region.wanted o (yielded ops a.tmps) = true then Oper.wp Tryd.prog o a w K Q else E := by
  rw [if_pos hw]
  obtain ⟨v', w', hr, h2, h3, h4⟩ := app1I9 w B o.type v L s q hown hq hb hB
  unfold Oper.wp execOp
  simp only [ho, resolve, invoke, builtin, Sem.run_bind, Sem.run_pure, Result.andThen_ok, List.map_toArray, List.map_cons, List.map_nil, hx, hy, hr]
  exact h v' w' h2 h3 h4
theorem wpList_app1I9 {w : World} {ops : Array Oper} {rest : List Oper} {o : Oper} {a : Act} {Q : Exit → Act → World → Prop} (hgd : o.guard = none) (x y : Operand)
    (ho : o.op = .call { callee := .builtin .append, args := #[x, y], argTypes := #[38, 38] })
    (B : Nat) (v : Value) (L : List Int) (s : Int) (q : Nat) (hx : a.eval x = v) (hy : a.eval y = .slice (some ⟨q, 0, none⟩) 1 1) (hown : w.ownsRow B 3 1 v L.length (L.map (Value.int .i64))) (hq : Blk w q 3 [.int .i64 s]) (hb : L.length ≤ 90000) (hB : B ≤ w.heap.size)
    (h : ∀ v' w', w'.ownsRow B 3 1 v' (L.length + 1) ((L ++ [s]).map (Value.int .i64)) → Turn (fun k => v.ownBlock = some k) w w' → (v'.ownBlock = v.ownBlock ∨ v'.ownBlock = some w.heap.size) → wpList Tryd.prog ops Q rest (a.put o.dst v') w') : wpList Tryd.prog ops Q (o :: rest) a w :=
  wpList_plain hgd fun K hK => by
    obtain ⟨v', w', hr, h2, h3, h4⟩ := app1I9 w B o.type v L s q hown hq hb hB
    unfold Oper.wp execOp
    simp only [ho, resolve, invoke, builtin, Sem.run_bind, Sem.run_pure, Result.andThen_ok, List.map_toArray, List.map_cons, List.map_nil, hx, hy, hr]
    exact hK _ _ (h v' w' h2 h3 h4)
/-- A row that may be nil stays where another block turns. -/
theorem own_far9 {w w' : World} {B t s n : Nat} {v : Value} {xs : List Value} {S : Nat → Prop} (h : w.ownsRow B t s v n xs) (ht : Turn S w w') (hn : ∀ k, v.ownBlock = some k → ¬ S k) : w'.ownsRow B t s v n xs := by
  obtain ⟨hx, ⟨e, hz⟩ | ⟨g, c, cur, e, hB, hr, hh⟩⟩ := h
  · exact ⟨hx, .inl ⟨e, hz⟩⟩
  · refine ⟨hx, .inr ⟨g, c, cur, e, hB, ?_, hh⟩⟩
    have hg : g < w.heap.size := by
      rcases Nat.lt_or_ge g w.heap.size with h1 | h1
      · exact h1
      · rw [Array.getElem?_eq_none h1] at hr; cases hr
    exact (ht.block g hg (hn g (by rw [e]; rfl))).trans hr
theorem own_blk9 {w : World} {B t s n : Nat} {v : Value} {xs : List Value} (h : w.ownsRow B t s v n xs) : ∀ k, v.ownBlock = some k → B ≤ k ∧ k < w.heap.size := fun k hk => by
  obtain ⟨hx, ⟨e, hz⟩ | ⟨g, c, cur, e, hB, hr, hh⟩⟩ := h
  · rw [e] at hk; cases hk
  · have : g = k := by rw [e] at hk; simpa [Value.ownBlock] using hk
    subst this
    refine ⟨hB, ?_⟩
    rcases Nat.lt_or_ge g w.heap.size with h1 | h1
    · exact h1
    · rw [Array.getElem?_eq_none h1] at hr; cases hr
theorem own_nil9 (w : World) (B t : Nat) : w.ownsRow B t 1 (.slice none 0 0) 0 [] := ⟨rfl, .inl ⟨rfl, rfl⟩⟩
end Go.Proofs.YtmedljnbcpdoeaaDoor
