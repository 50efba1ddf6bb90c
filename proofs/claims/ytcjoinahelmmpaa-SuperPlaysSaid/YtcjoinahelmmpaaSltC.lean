/- Layer 5: append of noughts to an own row; Bytes. -/
import Derived.Test.YtcjoinahelmmpaaSltB
import Derived.Test.YtcjoinahelmmpaaPutB
import Derived.Maps.AppendAt
import Derived.Lib.AppendZerosOnto
namespace Go.Proofs.Ytcjoinahelmmpaa
open Go.RowKit
set_option linter.unusedVariables false
set_option maxRecDepth 100000

theorem zeroCells_u8 (k : Nat) : Builtin.zeroCells (Value.int .u8 0).cells k = (bv (List.replicate k 0)).toArray := by
  unfold Builtin.zeroCells
  have hs : (Value.int .u8 0).cells = #[.int .u8 0] := rfl
  rw [hs]
  apply Array.ext
  · simp [bv]
  · intro i h1 h2; simp [bv, u8v, Nat.mod_one]
section
variable {P : Program} {w : World}
/-- append of k noughts to an own row that is not empty. -/
theorem run_app_zeros_ (base : Nat) (t tn ty e : TypeId) (i : TypeInfo) (ht : P.underlying t = some (.slice e)) (htn : P.underlying tn = some (.int .i64)) (hi : P.info? e = some i) (hz : i.zero = some (.int .u8 0)) (hsize : i.size = 1) (hby : i.bytes = 1)
    (v : Value) (l : List UInt8) (h0 : 0 < l.length) (hown : w.ownsRow base e 1 v l.length (bv l)) (k : Nat) (hb : l.length + k ≤ 140737488355328) (hbase : base ≤ w.heap.size) :
    ∃ v' w', (Builtin.append_ #[t, tn] ty #[v, .int .i64 (k : Int)]).run P w = .ok v' w' ∧ w'.ownsRow base e 1 v' (l ++ List.replicate k 0).length (bv (l ++ List.replicate k 0)) ∧ w.grownBy w' v.ownBlock := by
  have hw : IntKind.i64.wrap (k : Int) = k := by rw [IntKind.wrap_i64]; omega
  have hneg : ¬ ((k : Int) < 0) := by omega
  have h48i : ¬ (281474976710656 < (k : Int)) := by omega
  have hlen : (bv (l ++ List.replicate k 0)).length = (l ++ List.replicate k 0).length * 1 := by simp [len_bv]
  obtain ⟨g, cap, rfl, hg, hrow, hcm⟩ : ∃ g cap, v = .slice (some ⟨g, 0, none⟩) l.length cap ∧ base ≤ g ∧ Row w e g cap l ∧ cap ≤ maxLen := by
    obtain ⟨_, ⟨_, h⟩ | ⟨g, cap, cur, hv, hB, hh, hn, hc, hs, ht'⟩⟩ := hown
    · omega
    · refine ⟨g, cap, hv, hB, ⟨cur.toList.drop l.length, ?_, ?_⟩, hc⟩
      · unfold Blk; rw [hh, ← ht']; simp
      · simp; omega
  obtain ⟨r, hblk, hrl⟩ := hrow
  by_cases hroom : l.length + k ≤ cap
  · by_cases hk : k = 0
    · subst hk
      refine ⟨.slice (some ⟨g, 0, none⟩) l.length cap, w, ?_, by simpa using hown, ⟨rfl, rfl, rfl, Nat.le_refl _, fun _ _ _ => rfl⟩⟩
      have hle : l.length ≤ cap := by omega
      simp [Builtin.append_, run_underlying ht, run_underlying htn, sizeOf, typeInfo, hi, hsize, hby, asInt, asIntOf, hw, hle, storeCells, IntKind.wrap_i64]
    · have hns : ¬ (k * i.size = 0) := by rw [hsize]; omega
      have hst := run_storeCells_at P g l.length e (bv (List.replicate k 0)) 0 (bv l ++ r).toArray w hblk (by simp [len_bv]; omega) (fun u hu => bv_one _ u hu)
      simp only [Nat.add_zero] at hst
      refine ⟨.slice (some ⟨g, 0, none⟩) (l.length + k) cap, w.setRow g (((bv l ++ r).toArray.toList.take l.length ++ bv (List.replicate k 0) ++ (bv l ++ r).toArray.toList.drop (l.length + (bv (List.replicate k 0)).length)).toArray), ?_, ?_, ⟨rfl, rfl, rfl, by simp, fun k _ hk => setRow_other w g k _ (fun e => hk (by simp [Value.ownBlock, e]))⟩⟩
      · simp [Builtin.append_, run_underlying ht, run_underlying htn, sizeOf, typeInfo, hi, hz, hsize, hby, zeroValue, asInt, asIntOf, hw, hneg, h48i, hroom, hk, zeroCells_u8, Addr.add_lit, hst]
      · refine ⟨by simpa using hlen, .inr ⟨g, cap, _, by simp, hg, setRow_heap w g _ _ e _ hblk, by simpa using hroom, hcm, ?_, ?_⟩⟩
        · simp [len_bv]; omega
        · have e1 : ((bv l ++ r).toArray.toList.take l.length) = bv l := by simp [← len_bv l]
          rw [e1]
          simp only [List.append_assoc]
          have e2 : (l ++ List.replicate k 0).length * 1 = (bv l ++ bv (List.replicate k 0)).length := by simp [len_bv]
          rw [e2, ← List.append_assoc, bv_app]
          simp only [List.append_assoc, List.length_append]
          rw [← List.length_append, ← List.append_assoc]
          exact List.take_left
  · have hk : 0 < k := by omega
    have holds : ∀ j u, (bv l)[j]? = some u → w.cell? ((⟨g, 0, none⟩ : Addr).add j) = some u := hown.cells (g := g) rfl
    have hfo := run_firstCells_some (P := P) w.drew i.size l.length ⟨g, 0, none⟩ l.length cap (bv l) (by rw [hsize]; simp [len_bv]) (by simpa using holds)
    have hr := Lib.run_append_grow_zeros (P := P) w t tn ty e i (.int .u8 0) .i64 .i64 ht htn hi hz (some ⟨g, 0, none⟩) l.length cap (bv l) hfo k hk (by omega) (by omega) (by omega) (by rw [hby]; omega) (by rw [hby]; exact growslice_fits (by omega) (by omega))
    have hge := grownCap_ge w (l.length + k) cap e
    have hcm2 : grownCap w (l.length + k) cap e ≤ maxLen := grownCap_le_maxLen w (l.length + k) cap e (by unfold maxLen; omega)
    refine ⟨_, _, hr, ⟨hlen, .inr ⟨w.heap.size, _, _, by simp, hbase, heap_alloc_new w.drew _, by simpa using hge, hcm2, ?_, ?_⟩⟩, ⟨rfl, rfl, rfl, by simp, fun k hk _ => heap_alloc_old w.drew _ hk⟩⟩
    · rw [zeroCells_u8, zeroCells_u8]
      simp [len_bv]; omega
    · rw [zeroCells_u8, zeroCells_u8]
      have e2 : (l ++ List.replicate k 0).length * 1 = (bv l ++ bv (List.replicate k 0)).length := by simp [len_bv]
      rw [e2, bv_app]
      simp only [Array.toList_append, List.append_assoc, List.length_append]
      rw [← List.length_append, ← List.append_assoc]
      exact List.take_left
theorem wpList_app_zeros_ {ops : Array Oper} {rest : List Oper} {o : Oper} {a : Act} {Q : Exit → Act → World → Prop} (hgd : o.guard = none) (s y : Operand) (t tn : TypeId)
    (ho : o.op = .call { callee := .builtin .append, args := #[s, y], argTypes := #[t, tn] })
    (base : Nat) (e : TypeId) (i : TypeInfo) (ht : P.underlying t = some (.slice e)) (htn : P.underlying tn = some (.int .i64)) (hi : P.info? e = some i) (hz : i.zero = some (.int .u8 0)) (hsize : i.size = 1) (hby : i.bytes = 1)
    (v : Value) (l : List UInt8) (h0 : 0 < l.length) (k : Nat) (z : Int) (hzk : z = k) (hs : a.eval s = v) (hy : a.eval y = .int .i64 z) (hown : w.ownsRow base e 1 v l.length (bv l)) (hb : l.length + k ≤ 140737488355328) (hbase : base ≤ w.heap.size)
    (h : ∀ v' w', w'.ownsRow base e 1 v' (l ++ List.replicate k 0).length (bv (l ++ List.replicate k 0)) → w.grownBy w' v.ownBlock → wpList P ops Q rest (a.put o.dst v') w') : wpList P ops Q (o :: rest) a w :=
  wpList_plain hgd fun K hK => by
    subst hzk
    obtain ⟨v', w', hr, h2, h3⟩ := run_app_zeros_ (P := P) (w := w) base t tn o.type e i ht htn hi hz hsize hby v l h0 hown k hb hbase
    unfold Oper.wp execOp
    simp only [ho, resolve, invoke, builtin, Sem.run_bind, Sem.run_pure, Result.andThen_ok, List.map_toArray, List.map_cons, List.map_nil, hs, hy, hr]
    exact hK _ _ (h v' w' h2 h3)
end
end Go.Proofs.Ytcjoinahelmmpaa
