/- Layer 8: rows of texts: append, Grow, Concat. -/
import Derived.Test.YtcmghbglnkfbaaaPgN
namespace Go.Proofs.Ytcmghbglnkfbaaa
open Go.RowKit
set_option linter.unusedVariables false
set_option maxRecDepth 100000

theorem Try.info9 : (Try.prog.info? 9).map (fun i => (i.zero, i.size, i.bytes)) = some (some (.string ByteArray.empty), 1, 16) := by kernel_rfl
theorem one_sv (L : List ByteArray) : ∀ u ∈ L.map Value.string, u.oneCell' = true := fun u hu => by obtain ⟨s, _, rfl⟩ := List.mem_map.1 hu; rfl
theorem run_app_strs (w : World) (base : Nat) (ty : TypeId) (v : Value) (l m : List ByteArray) (hown : w.ownsRow base 9 1 v l.length (l.map Value.string)) (A : Option Addr) (c : Nat) (hx : Sr w A m) (hcp : Cp A m.length c) (hb : l.length + m.length ≤ 100000) (hbase : base ≤ w.heap.size) :
    ∃ v' w', (Builtin.append_ #[23, 23] ty #[v, .slice A m.length c]).run Try.prog w = .ok v' w' ∧ w'.ownsRow base 9 1 v' (l ++ m).length ((l ++ m).map Value.string) ∧ w.grownBy w' v.ownBlock := by
  obtain ⟨i, hi, hz, hs, hby⟩ := info_parts Try.info9
  cases A with
  | none =>
    have hc0 := hcp.nil rfl
    have hm0 : m.length = 0 := by have := hcp.le; omega
    have hm : m = [] := List.eq_nil_of_length_eq_zero hm0
    subst hm hc0
    have hrun := run_append_owned_none (P := Try.prog) (w := w) base 23 ty 9 i 1 Try.underlying23 hi v l.length (l.map Value.string) hown
    exact ⟨v, w, hrun, by simpa using hown, ⟨rfl, rfl, rfl, Nat.le_refl _, fun _ _ _ => rfl⟩⟩
  | some ad =>
    have hc : ∀ j u, (m.map Value.string)[j]? = some u → w.cell? (ad.add j) = some u := fun j u hu => by
      rw [List.getElem?_map] at hu
      cases hj : m[j]? with
      | none => rw [hj] at hu; cases hu
      | some s =>
        rw [hj] at hu; cases hu
        have hp : 0 < m.length := by
          rcases Nat.eq_zero_or_pos m.length with h0 | h0
          · rw [List.eq_nil_of_length_eq_zero h0] at hj; cases hj
          · exact h0
        obtain ⟨b, o, e, hb, hcc⟩ := hx hp
        injection e with e
        subst e
        rw [Addr.add_mid]
        exact hcc w (Turn.refl _ w) j s hj
    obtain ⟨v', w', hrun, h2, h3, _⟩ := run_append_own (P := Try.prog) w base 23 ty 9 i (.string ByteArray.empty) 1 16 Try.underlying23 hi hz hs hby rfl (by decide) v l.length (l.map Value.string) hown ad m.length c (m.map Value.string) (by simp) hc (one_sv m) (by unfold maxLen; omega) (by omega) hbase
    exact ⟨v', w', hrun, by rw [List.length_append, List.map_append]; exact h2, h3⟩
theorem wpList_app_strs {w : World} {ops : Array Oper} {rest : List Oper} {o : Oper} {a : Act} {Q : Exit → Act → World → Prop} (hgd : o.guard = none) (s y : Operand)
    (ho : o.op = .call { callee := .builtin .append, args := #[s, y], argTypes := #[23, 23] })
    (base : Nat) (v : Value) (l m : List ByteArray) (A : Option Addr) (n c : Nat) (hn : m.length = n) (hs : a.eval s = v) (hy : a.eval y = .slice A n c) (hown : w.ownsRow base 9 1 v l.length (l.map Value.string)) (hx : Sr w A m) (hcp : Cp A n c) (hb : l.length + m.length ≤ 100000) (hbase : base ≤ w.heap.size)
    (h : ∀ v' w', w'.ownsRow base 9 1 v' (l ++ m).length ((l ++ m).map Value.string) → w.grownBy w' v.ownBlock → wpList Try.prog ops Q rest (a.put o.dst v') w') : wpList Try.prog ops Q (o :: rest) a w :=
  wpList_plain hgd fun K hK => by
    subst hn
    obtain ⟨v', w', hr, h2, h3⟩ := run_app_strs w base o.type v l m hown A c hx hcp hb hbase
    unfold Oper.wp execOp
    simp only [ho, resolve, invoke, builtin, Sem.run_bind, Sem.run_pure, Result.andThen_ok, List.map_toArray, List.map_cons, List.map_nil, hs, hy, hr]
    exact hK _ _ (h v' w' h2 h3)
theorem run_app_nilz (w : World) (ty : TypeId) (n : Nat) (h0 : 0 < n) (hn : n ≤ 100000) :
    ∃ C cap, n ≤ cap ∧ cap ≤ maxLen ∧ C.size = cap ∧ (Builtin.append_ #[23, 3] ty #[.slice none 0 0, .int .i64 n]).run Try.prog w = .ok (.slice (some ⟨w.heap.size, 0, none⟩) n cap) (w.drew.alloc (.cells C 9)) := by
  obtain ⟨i, hi, hz, hs, hby⟩ := info_parts Try.info9
  have hr := Lib.run_append_grow_zeros (P := Try.prog) w 23 3 ty 9 i (.string ByteArray.empty) .i64 .i64 Try.underlying23 Try.underlying3 hi hz none 0 0 [] (run_firstCells_none _ _ _ _ _) n h0 (by omega) (by omega) (by omega) (by rw [hby]; omega) (by rw [hby]; exact growslice_fits (by omega) (by omega))
  have hge := grownCap_ge w (0 + n) 0 9
  have hcm := grownCap_le_maxLen w (0 + n) 0 9 (by unfold maxLen; omega)
  rw [Nat.zero_add] at *
  refine ⟨_, _, hge, hcm, ?_, hr⟩
  have hz1 : (Value.string ByteArray.empty).cells.size = 1 := rfl
  simp only [Array.size_append, size_zeroCells, hz1, List.size_toArray, List.length_nil]
  omega
theorem wpList_app_nilz {w : World} {ops : Array Oper} {rest : List Oper} {o : Oper} {a : Act} {Q : Exit → Act → World → Prop} (hgd : o.guard = none) (s y : Operand)
    (ho : o.op = .call { callee := .builtin .append, args := #[s, y], argTypes := #[23, 3] })
    (n : Nat) (h0 : 0 < n) (hn : n ≤ 100000) (hs : a.eval s = .slice none 0 0) (hy : a.eval y = .int .i64 n)
    (h : ∀ C cap, n ≤ cap → cap ≤ maxLen → C.size = cap → wpList Try.prog ops Q rest (a.put o.dst (.slice (some ⟨w.heap.size, 0, none⟩) n cap)) (w.drew.alloc (.cells C 9))) : wpList Try.prog ops Q (o :: rest) a w :=
  wpList_plain hgd fun K hK => by
    obtain ⟨C, cap, h1, h2, h3, hr⟩ := run_app_nilz w o.type n h0 hn
    unfold Oper.wp execOp
    simp only [ho, resolve, invoke, builtin, Sem.run_bind, Sem.run_pure, Result.andThen_ok, List.map_toArray, List.map_cons, List.map_nil, hs, hy, hr]
    exact hK _ _ (h C cap h1 h2 h3)
end Go.Proofs.Ytcmghbglnkfbaaa
