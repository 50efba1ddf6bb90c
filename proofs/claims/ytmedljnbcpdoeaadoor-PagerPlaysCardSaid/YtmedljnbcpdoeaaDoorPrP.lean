/- Layer 9: a call by play, whatever its kind. -/
import Derived.Test.YtmedljnbcpdoeaaDoorPrO
namespace Go.Proofs.YtmedljnbcpdoeaaDoor
open Go.RowKit
set_option linter.unusedVariables false
set_option linter.unusedSimpArgs false
set_option maxRecDepth 100000

theorem ba_conv {S : Nat → Prop} (w : World) (hS : ∀ k, S k → k < w.heap.size) (s : ByteArray) (d : Nat) (fr : Nat × Nat) (hd : s.size ≤ d) (hm : d ≤ maxLen) :
    Ba S (w.drew.alloc (.cells (bytesRow s d) 5 fr)) (some ⟨w.heap.size, 0, none⟩) d s.data.toList := by
  have e : s.data.toList.length = s.size := by simp
  refine ⟨by rw [e]; exact hd, hm, (fun h => by cases h), fun ad he hp => ?_⟩
  injection he with he
  subst he
  refine ⟨by simp, fun h => absurd (hS _ h) (by simp), fun j x hj => ?_⟩
  rw [Addr.add_mid, Nat.zero_add]
  have hjs : j < s.data.size := by
    rcases Nat.lt_or_ge j s.data.size with h | h
    · exact h
    · rw [List.getElem?_eq_none (by simpa using h)] at hj; cases hj
  have h1 : (w.drew.alloc (.cells (bytesRow s d) 5 fr)).heap[w.heap.size]? = some (.cells (bytesRow s d) 5 fr) := heap_alloc_new w.drew _
  rw [cell_of_row _ _ j _ _ _ h1]
  unfold bytesRow
  rw [Array.getElem?_append_left (by simpa using hjs), Array.getElem?_map, ← Array.getElem?_toList, hj]; rfl
theorem wpList_conv_ba {w : World} {ops : Array Oper} {rest : List Oper} {o : Oper} {a : Act} {Q : Exit → Act → World → Prop} (hw : Region.wanted o (yielded ops a.tmps) = true) (x : Operand) (ho : o.op = .convert 9 47 x) (S : Nat → Prop) (s : ByteArray) (hx : a.eval x = .string s) (hS : ∀ k, S k → k < w.heap.size)
    (h : ∀ g c w', (s.data.toList.length ≤ 1024 → Ba S w' (some ⟨g, 0, none⟩) c s.data.toList) → Turn (fun _ => False) w w' → wpList Tryd.prog ops Q rest (a.put o.dst (.slice (some ⟨g, 0, none⟩) s.data.toList.length c)) w') : wpList Tryd.prog ops Q (o :: rest) a w :=
  wpList_step fun K hK => by
    rw [if_pos hw]
    have hr := run_bytes_of_string (P := Tryd.prog) w 9 47 5 s Tryd.underlying9 Tryd.underlying47 Tryd.underlying5
    unfold Oper.wp execOp
    simp only [ho, hx, Sem.run_bind, hr, Result.andThen_ok]
    have e : s.data.toList.length = s.size := by simp
    rw [← e] at hr ⊢
    exact hK _ _ (h _ _ _ (fun hl => ba_conv w hS s _ _ (by rw [e]; exact grownCap_ge _ _ _ _) (grownCap_le_maxLen _ _ _ _ (by unfold maxLen; omega))) ((Turn.refl _ _).drew.alloc _))
theorem read9_q {S : Nat → Prop} {w : World} {p pd fr : Nat} {st : List Nat} {D : Dsk} (h : Pq S w p pd fr st D) (i : Int) :
    Calls Tryd.prog 21 #[.pointer (some ⟨p, 0, none⟩), .int .i64 i] w fun r w' => ∃ v, r = .returned (.tuple #[v, .int .i64 (rd9 fr st D i).2]) ∧ w'.ownsRow w.heap.size 5 1 v (rd9 fr st D i).1.length (bv (rd9 fr st D i).1) ∧ Turn (fun _ => False) w w' := by
  have hnil : ∀ W : World, W.ownsRow w.heap.size 5 1 (.slice none 0 0) ([] : List UInt8).length (bv []) := fun W => ⟨rfl, .inl ⟨rfl, rfl⟩⟩
  by_cases he : has9 st i = false ∨ is9 st i 0 = true
  · have hr : (rd9 fr st D i).1 = [] := by
      unfold rd9
      rcases he with he | he
      · rw [he]; rfl
      · cases hh : has9 st i <;> simp [he]
    rw [hr]
    exact (read9_err h i he).mono fun e w' ⟨h1, h2⟩ => ⟨_, h1, hnil _, by rw [h2]; exact Turn.refl _ _⟩
  · have hh : has9 st i = true := by cases hh : has9 st i; exact absurd (.inl hh) he; rfl
    have h0 : is9 st i 0 = false := by cases h0 : is9 st i 0; rfl; exact absurd (.inr h0) he
    have hi : 0 ≤ i ∧ i < st.length := by unfold has9 at hh; simpa using hh
    obtain ⟨k, rfl⟩ : ∃ k : Nat, i = k := ⟨i.toNat, by omega⟩
    cases hd : D.dead with
    | true =>
      rw [show rd9 fr st D (k : Int) = ([], 20) by unfold rd9; rw [hh, h0, hd]; rfl]
      exact (read9_dead h k (by omega) h0 hd).mono fun e w' ⟨h1, h2⟩ => ⟨_, h1, hnil _, h2⟩
    | false =>
      rw [show rd9 fr st D (k : Int) = (pgs9 D (fr + 8 * k) 8, 0) by unfold rd9; rw [hh, h0, hd, Int.toNat_natCast]; rfl]
      exact (read9_ok h k (by omega) h0 hd).mono fun e w' ⟨v, h1, h2, h3⟩ => ⟨v, h1, h2, h3⟩
theorem crash9_q {S : Nat → Prop} {w : World} {p pd fr : Nat} {st : List Nat} {D : Dsk} (h : Pq S w p pd fr st D) (v : Value) (zs : List Int) (hz : Iv S w v zs) (hzl : zs.length ≤ 9223372036854775807) (hpn : D.pend.length < 1000000000) :
    Calls Tryd.prog 25 #[.pointer (some ⟨pd, 0, none⟩), v] w fun r w' => r = .returned (.int .i64 0) ∧ ∃ S', Pq S' w' p pd fr st (D.crashed zs) ∧ Stp S w S' w' := by
  obtain ⟨pa, ga, gr, SD, hP, hD, hap, rfl, hroom⟩ := h
  refine (crash_dq hD hpn v zs hzl (by
    obtain ⟨A, c, e, hr⟩ := hz
    exact ⟨A, c, e, fun hp => by obtain ⟨b, o, h1, h2, h3, h4⟩ := hr hp; exact ⟨b, o, h1, h2, fun h => h3 (.inr (.inr (.inr (.inr h)))), h4⟩⟩)).mono fun e w' ⟨h1, S', h2, h3⟩ => ⟨h1, ?_⟩
  exact Pq.mk (SD := SD) (hP.turn h3.1 (fun h => (hap _ h).1 rfl) (fun h => (hap _ h).2.1 rfl) (fun h => (hap _ h).2.2.1 rfl) (fun h => (hap _ h).2.2.2.1 rfl) (fun h => (hap _ h).2.2.2.2 rfl)) h2 hap ⟨hP.bx.lt, hP.al.ltp, hP.al.ltg, hP.row.lt⟩ h3.2 (h3.1.mono (fun k _ hk => .inr (.inr (.inr (.inr hk))))) (by rw [(crash_len D zs).1]; exact hroom)
/-- What a call does, by its kind. -/
def pl9 (fr : Nat) (st : List Nat) (D : Dsk) (a : Acv) : List Nat × Dsk :=
  if a.k = 1 then (st, (rwr9 fr st D a.i a.s.data.toList).1)
  else if a.k = 2 then ((rel9 st a.i).1, D)
  else if a.k = 3 then (settle9 st, D)
  else if a.k = 4 then (undo9 st, D)
  else if a.k = 5 then ((keep9 st a.zs).1, D)
  else if a.k = 6 ∨ a.k = 7 then (st, D)
  else if a.k = 8 then (st, D.crashed a.zs)
  else ((wr9 fr st D a.s.data.toList).1, (wr9 fr st D a.s.data.toList).2.1)
theorem Stp.al {S S' : Nat → Prop} {w w' : World} {o : Obj} (h : Stp S (w.alloc o) S' w') : Stp S w S' w' := (Stp.quiet ((Turn.refl _ _).alloc o)).trans h
end Go.Proofs.YtmedljnbcpdoeaaDoor
