/- Layer 4: rows of calls that came in, and a disk behind them ('begun'). -/
import Derived.Test.YtmedljnbcpdoeaaDoorBlkP
namespace Go.Proofs.YtmedljnbcpdoeaaDoor
open Go.RowKit Go.Maps
set_option linter.unusedVariables false

/-- Whole numbers that are read below block B. -/
def IvB (B : Nat) (w : World) (v : Value) (zs : List Int) : Prop := ∃ A cap, v = .slice A zs.length cap ∧ zs.length ≤ 9223372036854775807 ∧ (0 < zs.length → ∃ b o, A = some ⟨b, o, none⟩ ∧ b < B ∧ ∀ j z, zs[j]? = some z → w.cell? ⟨b, o + j, none⟩ = some (.int .i64 z))
theorem IvB.below {B B' : Nat} {w w' : World} {v : Value} {zs : List Int} (h : IvB B w v zs) (hb : Below B' w w') (hB : B ≤ B') : IvB B w' v zs := by
  obtain ⟨A, cap, e, hm, hr⟩ := h
  refine ⟨A, cap, e, hm, fun hp => ?_⟩
  obtain ⟨b, o, ea, hlt, hc⟩ := hr hp
  exact ⟨b, o, ea, hlt, fun j z hj => (hb.cell (p := ⟨b, o + j, none⟩) (Nat.lt_of_lt_of_le hlt hB)).trans (hc j z hj)⟩
theorem IvB.iv {B : Nat} {w : World} {v : Value} {zs : List Int} {S : Nat → Prop} (h : IvB B w v zs) (hB : B ≤ w.heap.size) (hS : ∀ k, S k → B ≤ k) : Iv S w v zs := by
  obtain ⟨A, cap, e, hm, hr⟩ := h
  refine ⟨A, cap, e, fun hp => ?_⟩
  obtain ⟨b, o, ea, hlt, hc⟩ := hr hp
  exact ⟨b, o, ea, by omega, fun h => by have := hS b h; omega, hc⟩
theorem IvB.len {B : Nat} {w : World} {v : Value} {zs : List Int} (h : IvB B w v zs) : zs.length ≤ 9223372036854775807 := by
  obtain ⟨A, cap, e, hm, hr⟩ := h; exact hm
/-- A call that came in. -/
structure Acv where
  k : Int
  i : Int
  s : ByteArray
  v : Value
  zs : List Int
def Acts (B : Nat) (w : World) (v : Value) (qs : List Acv) : Prop := ∃ A cap, v = .slice A qs.length cap ∧ qs.length ≤ 9223372036854775807 ∧ (0 < qs.length → ∃ b o, A = some ⟨b, o, none⟩ ∧ b < B ∧ ∀ j a, qs[j]? = some a →
  (w.cell? ⟨b, o + j * 4, none⟩ = some (.int .i64 a.k) ∧ w.cell? ⟨b, o + j * 4 + 1, none⟩ = some (.int .i64 a.i) ∧ w.cell? ⟨b, o + j * 4 + 2, none⟩ = some (.string a.s) ∧ w.cell? ⟨b, o + j * 4 + 3, none⟩ = some a.v) ∧ IvB B w a.v a.zs ∧ -9223372036854775808 ≤ a.i ∧ a.i ≤ 9223372036854775807)
theorem Acts.below {B B' : Nat} {w w' : World} {v : Value} {qs : List Acv} (h : Acts B w v qs) (hb : Below B' w w') (hB : B ≤ B') : Acts B w' v qs := by
  obtain ⟨A, cap, e, hm, hr⟩ := h
  refine ⟨A, cap, e, hm, fun hp => ?_⟩
  obtain ⟨b, o, ea, hlt, hc⟩ := hr hp
  refine ⟨b, o, ea, hlt, fun j a hj => ?_⟩
  obtain ⟨⟨h0, h1, h2, h3⟩, h4, h5⟩ := hc j a hj
  have hx : ∀ q, w'.cell? ⟨b, q, none⟩ = w.cell? ⟨b, q, none⟩ := fun q => hb.cell (p := ⟨b, q, none⟩) (Nat.lt_of_lt_of_le hlt hB)
  exact ⟨⟨(hx _).trans h0, (hx _).trans h1, (hx _).trans h2, (hx _).trans h3⟩, h4.below hb hB, h5⟩
/-- Bytes of a text, qs a conversion lays them. -/
theorem by_conv {S : Nat → Prop} (w : World) (hS : ∀ k, S k → k < w.heap.size) (s : ByteArray) (c d : Nat) (fr : Nat × Nat) :
    By S (w.drew.alloc (.cells (bytesRow s d) 5 fr)) (.slice (some ⟨w.heap.size, 0, none⟩) s.size c) s.data.toList := by
  have e : s.data.toList.length = s.size := by simp
  rw [← e]
  refine ⟨_, _, rfl, fun _ => ⟨_, rfl, by simp, fun h => absurd (hS _ h) (by simp), fun j x hj => ?_⟩⟩
  rw [Addr.add_mid, Nat.zero_add]
  have hjs : j < s.data.size := by
    rcases Nat.lt_or_ge j s.data.size with h | h
    · exact h
    · rw [List.getElem?_eq_none (by simpa using h)] at hj; cases hj
  have h1 : (w.drew.alloc (.cells (bytesRow s d) 5 fr)).heap[w.heap.size]? = some (.cells (bytesRow s d) 5 fr) := heap_alloc_new w.drew _
  rw [cell_of_row _ _ j _ _ _ h1]
  unfold bytesRow
  rw [Array.getElem?_append_left (by simpa using hjs), Array.getElem?_map, ← Array.getElem?_toList, hj]; rfl
/-- A text's bytes, as a conversion lays them, at the operation. -/
theorem wpList_conv_by {w : World} {ops : Array Oper} {rest : List Oper} {o : Oper} {a : Act} {Q : Exit → Act → World → Prop} (hw : Region.wanted o (yielded ops a.tmps) = true) (x : Operand) (ho : o.op = .convert 9 47 x) (S : Nat → Prop) (s : ByteArray) (hx : a.eval x = .string s) (hS : ∀ k, S k → k < w.heap.size)
    (h : ∀ v w', By S w' v s.data.toList → Turn (fun _ => False) w w' → wpList Tryd.prog ops Q rest (a.put o.dst v) w') : wpList Tryd.prog ops Q (o :: rest) a w :=
  wpList_step fun K hK => by
    rw [if_pos hw]
    have hr := run_bytes_of_string (P := Tryd.prog) w 9 47 5 s Tryd.underlying9 Tryd.underlying47 Tryd.underlying5
    unfold Oper.wp execOp
    simp only [ho, hx, Sem.run_bind, hr, Result.andThen_ok]
    exact hK _ _ (h _ _ (by_conv w hS s _ _ _) ((Turn.refl _ _).drew.alloc _))
/-! What each call leaves of lengths. -/
theorem write_len (D : Dsk) (i : Int) (l : List UInt8) : (D.write i l).1.kept.length = D.kept.length ∧ (D.write i l).1.pend.length ≤ D.pend.length + 1 := by
  obtain ⟨e1, e2⟩ := burnt_kept D
  unfold Dsk.write
  split
  · exact ⟨rfl, Nat.le_succ _⟩
  · split
    · exact ⟨rfl, Nat.le_succ _⟩
    · split
      · exact ⟨rfl, Nat.le_succ _⟩
      · split
        · simp only [e1, e2]; exact ⟨trivial, Nat.le_succ _⟩
        · simp [Dsk.wrote, e1]
theorem flush_len (D : Dsk) : D.flush.1.kept.length = D.kept.length ∧ D.flush.1.pend.length ≤ D.pend.length := by
  obtain ⟨e1, e2⟩ := burnt_kept D
  unfold Dsk.flush
  split
  · exact ⟨rfl, Nat.le_refl _⟩
  · split
    · simp only [e1, e2]; exact ⟨trivial, Nat.le_refl _⟩
    · obtain ⟨_, _, _, h4⟩ := keepAll_same D.pend D.burnt
      refine ⟨?_, by simp [Dsk.flushed, Dsk.lost]⟩
      show (D.burnt.keepAll D.pend).kept.length = _
      rw [h4, e1]
theorem crash_len (D : Dsk) (zs : List Int) : (D.crashed zs).kept.length = D.kept.length ∧ (D.crashed zs).pend = [] := by
  obtain ⟨_, _, _, h4⟩ := keepAll_same (sel D.pend (isIn zs)) D
  exact ⟨h4, rfl⟩
theorem arm_len (D : Dsk) (n : Int) : (D.arm n).1.kept = D.kept ∧ (D.arm n).1.pend = D.pend := by
  unfold Dsk.arm; split <;> exact ⟨rfl, rfl⟩
end Go.Proofs.YtmedljnbcpdoeaaDoor
