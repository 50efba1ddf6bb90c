/- Layer 9: the document's pager, a value: its small calls. -/
import Derived.Test.YtmedljnbcpdoeaaDoorPrU
import Derived.Test.YtmedljnbcpdoeaaDoorBlkW
import Derived.Laws.DeepStrings4
namespace Go.Proofs.YtmedljnbcpdoeaaDoor
open Go.RowKit
set_option linter.unusedVariables false
set_option linter.unusedSimpArgs false
set_option maxRecDepth 100000

/-- Numbers that the document's pager holds, apart from a set of blocks. -/
structure Rd9 (S : Nat → Prop) (w : World) (v : Value) (L : List Int) : Prop where
  own : Rw9 0 w v L
  far : ∀ b, v.ownBlock = some b → ¬ S b
theorem Rd9.still {S : Nat → Prop} {w w' : World} {v : Value} {L : List Int} (h : Rd9 S w v L) (ht : Turn (fun _ => False) w w') : Rd9 S w' v L := ⟨h.own.still ht, h.far⟩
theorem Rd9.stp {S S' : Nat → Prop} {w w' : World} {v : Value} {L : List Int} (h : Rd9 S w v L) (hs : Stp S w S' w') : Rd9 S' w' v L :=
  ⟨own_far9 h.own hs.1 (fun k hk hs => h.far k hk hs), fun b hb h' => by
    rcases hs.2 b h' with h1 | h1
    · exact h.far b hb h1
    · have := (own_blk9 h.own b hb).2; omega⟩
theorem Rd9.new {S : Nat → Prop} {w w' : World} {v : Value} {L : List Int} (hS : ∀ k, S k → k < w.heap.size) (h : Rw9 w.heap.size w' v L) : Rd9 S w' v L :=
  ⟨h.base (Nat.zero_le _), fun b hb hs => by have := (own_blk9 h b hb).1; have := hS b hs; omega⟩
theorem Rd9.ir {S : Nat → Prop} {w : World} {v : Value} {L : List Int} (h : Rd9 S w v L) : ∃ A c, v = .slice A L.length c ∧ Ir w A L ∧ (A = none → L.length = 0 ∧ c = 0) := by
  obtain ⟨A, c, rfl, hi⟩ := h.own.ir
  refine ⟨A, c, rfl, hi, fun e => ?_⟩
  subst e
  obtain ⟨_, ⟨e, hz⟩ | ⟨g, c2, cur, e, _⟩⟩ := h.own
  · injection e with _ _ e; exact ⟨hz, e⟩
  · injection e with e; cases e
theorem own_set9 {w : World} {b t n : Nat} {A : Option Addr} {c : Nat} {xs : List Value} (h : w.ownsRow b t 1 (.slice A n c) n xs) {k : Nat} (hk : k < n) (u : Value) :
    ∃ g, A = some ⟨g, 0, none⟩ ∧ (∃ v, w.cell? ⟨g, k, none⟩ = some v) ∧ w.frozen? ⟨g, k, none⟩ = false ∧ b ≤ g ∧ (w.setCell ⟨g, k, none⟩ u).ownsRow b t 1 (.slice A n c) n (xs.set k u) := by
  obtain ⟨hx, ⟨e, h0⟩ | ⟨g, c', cur, e, hB, hh, hnc, hm, hs, ht⟩⟩ := h
  · omega
  · injection e with e1 e2 e3
    subst e3
    have hb : Blk w g t cur.toList := hh
    have hp := hb.put k u
    have hks : k < cur.toList.length := by rw [Array.length_toList]; omega
    refine ⟨g, e1, ⟨_, (hb.cell k).trans (List.getElem?_eq_getElem hks)⟩, hb.free k, hB, by simpa using hx, .inr ⟨g, c, (cur.toList.set k u).toArray, by rw [e1], hB, hp, hnc, hm, by simpa using hs, ?_⟩⟩
    rw [Nat.mul_one] at ht ⊢
    rw [← ht]
    rw [List.take_set]
theorem there_d (fr : Int) (A : Option Addr) (n c : Nat) (i : Int) (w : World) :
    Calls Tryd.prog 35 #[.agg #[.int .i64 fr, .slice A n c], .int .i64 i] w fun r w' => r = .returned (.bool (decide (0 ≤ i) && decide (i < n))) ∧ Turn (fun _ => False) w w' := by
  have HB := Lib.hid (Blk.new w 40 [.int .i64 fr, .slice A n c])
  have c0 := HB.out.cell 0
  have c1 := HB.out.cell 1
  simp only [List.getElem?_cons_zero, List.getElem?_cons_succ] at c0 c1
  by_cases h0 : (0 : Int) ≤ i
  · have e0 : decide ((0 : Int) ≤ i) = true := by simpa using h0
    rw [e0, Bool.true_and]
    go_enter Tryd.func35, Tryd.ntmps35
    go_wp2_with fail
    go_ret
    exact ⟨rfl, (Turn.refl _ _).alloc _⟩
  · have e0 : decide ((0 : Int) ≤ i) = false := by simpa using h0
    rw [e0, Bool.false_and]
    go_enter Tryd.func35, Tryd.ntmps35
    go_wp2_with fail
    go_ret
    exact ⟨rfl, (Turn.refl _ _).alloc _⟩
set_option maxHeartbeats 1000000 in
theorem with_d {S : Nat → Prop} {w : World} {v : Value} {L : List Int} (hS : ∀ k, S k → k < w.heap.size) (h : Rd9 S w v L) (fr : Int) (i : Nat) (hi : i < L.length) (hl : L.length ≤ 16384) (s : Int) :
    Calls Tryd.prog 40 #[.agg #[.int .i64 fr, v], .int .i64 i, .int .i64 s] w fun r w' => ∃ v', r = .returned (.agg #[.int .i64 fr, v']) ∧ Rd9 S w' v' (L.set i s) ∧ Turn (fun _ => False) w w' := by
  obtain ⟨A, c, rfl, hir, hnil⟩ := h.ir
  obtain ⟨n, hn⟩ : ∃ n, L.length = n := ⟨_, rfl⟩
  rw [hn] at hi hl hnil ⊢
  have HN := Lib.hid hn
  have HI := Lib.hid hir
  have HZ := Lib.hid hnil
  have HS := Lib.hid hS
  have hi1 : (i : Int) < (n : Int) := by omega
  have hi0 : ¬ (i : Int) < 0 := by omega
  clear hn hir hnil h hS
  obtain ⟨W1, hW1⟩ : ∃ W, w.alloc (.cells #[.int .i64 fr, .slice A n c] 40) = W := ⟨_, rfl⟩
  have B1 : Hid (Blk W1 w.heap.size 40 [.int .i64 fr, .slice A n c]) := Lib.hid (hW1 ▸ Blk.new _ _ _)
  have T1 : Hid (Turn (fun _ => False) w W1) := Lib.hid (hW1 ▸ (Turn.refl _ _).alloc _)
  obtain ⟨W2, hW2⟩ : ∃ W, W1.alloc (.cells #[.int .i64 0, .slice none 0 0] 40) = W := ⟨_, rfl⟩
  have C2 : Hid (Blk W2 W1.heap.size 40 [.int .i64 0, .slice none 0 0]) := Lib.hid (hW2 ▸ Blk.new _ _ _)
  have B2 : Hid (Blk W2 w.heap.size 40 [.int .i64 fr, .slice A n c]) := Lib.hid (hW2 ▸ B1.out.alloc _)
  have T2 : Hid (Turn (fun _ => False) w W2) := Lib.hid (hW2 ▸ T1.out.alloc _)
  obtain ⟨W3, hW3⟩ : ∃ W, W2.alloc (.cells #[] 3) = W := ⟨_, rfl⟩
  have C3 : Hid (Blk W3 W1.heap.size 40 [.int .i64 0, .slice none 0 0]) := Lib.hid (hW3 ▸ C2.out.alloc _)
  have B3 : Hid (Blk W3 w.heap.size 40 [.int .i64 fr, .slice A n c]) := Lib.hid (hW3 ▸ B2.out.alloc _)
  have T3 : Hid (Turn (fun _ => False) w W3) := Lib.hid (hW3 ▸ T2.out.alloc _)
  have O3 : Hid (W3.ownsRow W2.heap.size 3 1 (.slice (some ⟨W2.heap.size, 0, none⟩) 0 0) 0 []) := Lib.hid (hW3 ▸ own_new)
  have hb2 := C2.out.lt
  have hb1 := B1.out.lt
  have hb3 : W2.heap.size ≤ W3.heap.size := by rw [← hW3]; simp
  have c1 := B3.out.cell 1
  simp only [List.getElem?_cons_zero, List.getElem?_cons_succ] at c1
  go_enter Tryd.func40, Tryd.ntmps40
  go_wp2_with (at_builtin; refine wpList_appI9 rfl _ _ rfl W2.heap.size (.slice (some ⟨W2.heap.size, 0, none⟩) 0 0) [] L A n c rfl rfl O3.out (HI.out.still T3.out) HN.out HZ.out (by simp; omega) hb3 ?_; intro v5 w5 ho5 ht5)
  simp only [List.nil_append] at ho5
  have hl5 := (own_blk9 ho5)
  obtain ⟨_, ⟨_, h0⟩ | ⟨g5, c5, cur, e5, hB5, hh5, hnc5, hm5, hsz5, hta5⟩⟩ := id ho5
  · have := HN.out; omega
  subst e5
  have T5 := Lib.hid (T3.out.trans_new ht5 (fun k hk e => by simp [Value.ownBlock] at e; have := T2.out.size; omega))
  have C5 := Lib.hid (C3.out.turn ht5 (by simp [Value.ownBlock]; omega))
  have B5 := Lib.hid (B3.out.turn ht5 (by simp [Value.ownBlock]; omega))
  obtain ⟨g0, e0, ⟨u0, hc0⟩, hf0, hB0, ho6⟩ := own_set9 ho5 (k := i) (by rw [HN.out]; exact hi) (.int .i64 s)
  injection e0 with e0; injection e0 with e0; subst e0
  rw [HN.out]
  have O6 := Lib.hid ho6
  have hg5 := (hl5 g5 rfl).2
  have T6 := Lib.hid ((Turn.refl (fun k => k = g5) w5).setCell (p := ⟨g5, i, none⟩) (.inl rfl) (.int .i64 s))
  have C6 := Lib.hid (C5.out.turn T6.out (by omega))
  have B6 := Lib.hid (B5.out.turn T6.out (by omega))
  obtain ⟨W6, hW6⟩ : ∃ W, w5.setCell ⟨g5, i, none⟩ (.int .i64 s) = W := ⟨_, rfl⟩
  rw [hW6] at O6 T6 C6 B6
  have b0 := B6.out.cell 0
  have k0 := C6.out.cell 0
  have k1 := C6.out.cell 1
  have z0 := C6.out.free 0
  have z1 := C6.out.free 1
  simp only [List.getElem?_cons_zero, List.getElem?_cons_succ] at b0 k0 k1
  clear ho5 hl5 hh5 hta5 hsz5 hW1 hW2 hW3 ho6 ht5
  go_wp2_with fail
  have TS : Turn (fun k => k = W1.heap.size) W6 ((W6.setCell ⟨W1.heap.size, 0, none⟩ (.int .i64 fr)).setCell ⟨W1.heap.size, 1, none⟩ (.slice (some ⟨g5, 0, none⟩) n c5)) := ((Turn.refl (fun k => k = W1.heap.size) W6).setCell (p := ⟨W1.heap.size, 0, none⟩) (.inl rfl) _).setCell (p := ⟨W1.heap.size, 1, none⟩) (.inl rfl) _
  have TW : Turn (fun _ => False) w W6 := T5.out.trans_new T6.out (fun k hk e => by omega)
  have OW := own_far9 O6.out TS (fun k hk e => by simp [Value.ownBlock] at hk; omega)
  have hR : Rw9 w.heap.size ((W6.setCell ⟨W1.heap.size, 0, none⟩ (.int .i64 fr)).setCell ⟨W1.heap.size, 1, none⟩ (.slice (some ⟨g5, 0, none⟩) n c5)) (.slice (some ⟨g5, 0, none⟩) n c5) (L.set i s) := by
    refine Rw9.base (C := W2.heap.size) ?_ (by omega)
    have h9 := OW
    rw [HN.out] at h9
    unfold Rw9
    rw [List.length_set, HN.out, List.map_set]
    exact h9
  have CZ := (C6.out.put 0 (.int .i64 fr)).put 1 (.slice (some ⟨g5, 0, none⟩) n c5)
  have r0 := CZ.cell 0
  have r1 := CZ.cell 1
  simp only [List.set_cons_zero, List.set_cons_succ, List.getElem?_cons_zero, List.getElem?_cons_succ] at r0 r1
  exact bodyPost_ret (v := .agg #[.int .i64 fr, .slice (some ⟨g5, 0, none⟩) n c5]) (by simp [results, Tryd.results40, go_sem, r0, r1]) rfl ⟨_, rfl, Rd9.new HS.out hR, TW.trans_new TS (fun k hk e => by omega)⟩
/-- What pages are, as the document's pager has it. -/
def il9 (st : List Nat) : List Int := st.map (fun (x : Nat) => (x : Int))
theorem len_il9 (st : List Nat) : (il9 st).length = st.length := by simp [il9]
theorem il9_at (st : List Nat) (i : Nat) (h : i < st.length) : (il9 st)[i]? = some ((st.getD i 0 : Nat) : Int) := by
  unfold il9
  rw [List.getElem?_map, List.getElem?_eq_getElem h, List.getD_eq_getElem?_getD, List.getElem?_eq_getElem h]; rfl
theorem il9_set (st : List Nat) (i s : Nat) : (il9 st).set i (s : Int) = il9 (st.set i s) := by unfold il9; rw [List.map_set]
set_option maxHeartbeats 1000000 in
theorem those_d {S : Nat → Prop} {w : World} {v : Value} {st : List Nat} (h : Rd9 S w v (il9 st)) (hl : st.length ≤ 16384) (fr : Int) (s : Nat) :
    Calls Tryd.prog 57 #[.agg #[.int .i64 fr, v], .int .i64 s] w fun r w' => ∃ v', r = .returned v' ∧ Rw9 w.heap.size w' v' (pk9 s st) ∧ Turn (fun _ => False) w w' := by
  obtain ⟨A, c, rfl, hir, hnil⟩ := h.ir
  rw [len_il9]
  have HI := Lib.hid hir
  obtain ⟨n, hn⟩ : ∃ n, st.length = n := ⟨_, rfl⟩
  have HN := Lib.hid hn
  have hpk : Hid (pk9 s st = pkTo s st n) := Lib.hid (by rw [← hn]; rfl)
  unfold Rw9
  rw [hpk.out]
  rw [hn] at hl ⊢
  obtain ⟨W1, hW1⟩ : ∃ W, w.alloc (.cells #[.int .i64 fr, .slice A n c] 40) = W := ⟨_, rfl⟩
  have B1 : Hid (Blk W1 w.heap.size 40 [.int .i64 fr, .slice A n c]) := Lib.hid (hW1 ▸ Blk.new _ _ _)
  have T1 : Hid (Turn (fun _ => False) w W1) := Lib.hid (hW1 ▸ (Turn.refl _ _).alloc _)
  clear hn hpk hir hnil h
  go_enter Tryd.func57, Tryd.ntmps57
  go_wp2_with fail
  clear hW1
  go_loopw [5, 6] (fun v5 v6 wr => ∃ (i : Nat), i ≤ n ∧ v6 = .int .i64 i ∧ wr.ownsRow w.heap.size 3 1 v5 (pkTo s st i).length ((pkTo s st i).map (Value.int .i64)) ∧ Turn (fun _ => False) W1 wr ∧ Hid (∀ k, v5.ownBlock = some k → W1.heap.size ≤ k)) (fun _ v6 _ => n - (intOf v6).toNat)
  case atStart => exact ⟨0, Nat.zero_le _, rfl, own_nil9 _ _ _, Turn.refl _ _, Lib.hid (fun k h => by cases h)⟩
  case round =>
    obtain ⟨i, hi, rfl, ho, ht, hf⟩ := hrel
    obtain ⟨A5, c5, rfl⟩ := own_slice9 ho
    have HO := Lib.hid ho
    have HT := Lib.hid ht
    have hb := pkTo_le s st i
    have c1 := (B1.out.turn ht (fun h => h)).cell 1
    simp only [List.getElem?_cons_zero, List.getElem?_cons_succ] at c1
    clear ho ht
    by_cases hlt : i < n
    · have hl1 : (i : Int) < (n : Int) := by omega
      have hl0 : (0 : Int) ≤ (i : Int) := by omega
      have hq := wrap_of ((i : Int) + 1) (by omega) (by omega)
      obtain ⟨b, rfl, hbl, c0⟩ := (HI.out.still (T1.out.trans HT.out)) i _ (il9_at st i (by rw [HN.out]; exact hlt))
      have HS := Lib.hid (pkTo_succ s st i)
      by_cases he : st.getD i 0 = s
      · rw [he] at c0
        have HS2 : Hid (pkTo s st (i + 1) = pkTo s st i ++ [(i : Int)]) := Lib.hid (by rw [HS.out, he]; simp)
        have hee : ((s : Int) == (s : Int)) = true := by simp
        clear he HS
        go_wp2_with (at_builtin; refine wpList_app1I9 rfl _ _ rfl w.heap.size (.slice A5 (pkTo s st i).length c5) (pkTo s st i) (i : Int) wr.heap.size rfl rfl (own_far9 HO.out ((Turn.refl (fun _ => False) wr).alloc _) (fun _ _ h => h)) (Blk.new wr 3 [.int .i64 (i : Int)]) (by omega) (by have := HT.out.size; have := T1.out.size; rw [World.size_alloc]; omega) ?_; intro v' X ho ht hv; obtain ⟨A2, c2, rfl⟩ := own_slice9 ho; have HO2 := Lib.hid ho; have HT2 := Lib.hid ((HT.out.alloc (.cells #[.int .i64 (i : Int)] 3)).trans_new ht (fun k hk h => by have := hf.out _ h; omega)); have HV := Lib.hid hv; clear ho ht hv)
        have hsz := HT.out.size
        go_roundw
        case rel => exact ⟨i + 1, by omega, by simp [hq], by rw [HS2.out]; have := HO2.out; simpa using this, HT2.out, Lib.hid (fun k hk => by rcases HV.out with e | e; exact hf.out k (e ▸ hk); rw [hk] at e; injection e with e; rw [e, World.size_alloc]; omega)⟩
        case measure => simp [intOf, hq]; omega
      · have HS2 : Hid (pkTo s st (i + 1) = pkTo s st i) := Lib.hid (by rw [HS.out, if_neg (by simpa using he)])
        have hne : (((st.getD i 0 : Nat) : Int) == (s : Int)) = false := beq_eq_false_iff_ne.2 (fun h => he (Int.ofNat.inj h))
        clear he HS
        generalize st.getD i 0 = X at *
        go_wp2_with fail
        go_roundw
        case rel => exact ⟨i + 1, by omega, by simp [hq], by rw [HS2.out]; exact HO.out, HT.out, hf⟩
        case measure => simp [intOf, hq]; omega
    · obtain rfl : i = n := by omega
      go_wp2_with fail
      go_ret
      exact ⟨_, rfl, HO.out, T1.out.trans HT.out⟩
/-- Fresh pages become one thing, old ones another. -/
def tn9 (a b : Nat) (st : List Nat) : List Nat := st.map (fun x => if x = 2 then a else if x = 3 then b else x)
/-- So far: ahead of a place it is done, behind it not yet. -/
def Tn9 (a b : Nat) (st : List Nat) (k : Nat) (cur : List Nat) : Prop := cur.length = st.length ∧ ∀ j, cur.getD j 0 = if j < k then (tn9 a b st).getD j 0 else st.getD j 0
theorem tn9_at (a b : Nat) (st : List Nat) (j : Nat) (h : j < st.length) : (tn9 a b st).getD j 0 = if st.getD j 0 = 2 then a else if st.getD j 0 = 3 then b else st.getD j 0 := by
  unfold tn9
  simp [List.getD_eq_getElem?_getD, h]
theorem Tn9.start (a b : Nat) (st : List Nat) : Tn9 a b st 0 st := ⟨rfl, fun j => by rw [if_neg (by omega)]⟩
theorem Tn9.end_ {a b : Nat} {st cur : List Nat} (h : Tn9 a b st st.length cur) : cur = tn9 a b st := by
  apply List.ext_getElem?
  intro j
  rcases Nat.lt_or_ge j st.length with hj | hj
  · have h1 := h.2 j
    rw [if_pos hj] at h1
    have h2 : j < cur.length := by rw [h.1]; exact hj
    have h3 : j < (tn9 a b st).length := by simp [tn9]; exact hj
    rw [List.getD_eq_getElem?_getD, List.getD_eq_getElem?_getD, List.getElem?_eq_getElem h2, List.getElem?_eq_getElem h3] at h1
    rw [List.getElem?_eq_getElem h2, List.getElem?_eq_getElem h3]
    simpa using h1
  · rw [List.getElem?_eq_none (by rw [h.1]; exact hj), List.getElem?_eq_none (by simp [tn9]; exact hj)]
theorem Tn9.next {a b : Nat} {st cur : List Nat} {k : Nat} (h : Tn9 a b st k cur) (hk : k < st.length) (s : Nat) (hs : s = (tn9 a b st).getD k 0) : Tn9 a b st (k + 1) (cur.set k s) := ⟨by rw [List.length_set]; exact h.1, fun j => by
  by_cases e : j = k
  · subst e
    rw [if_pos (by omega), List.getD_eq_getElem?_getD, List.getElem?_set, if_pos rfl, if_pos (by rw [h.1]; exact hk), hs]; rfl
  · rw [List.getD_eq_getElem?_getD, List.getElem?_set, if_neg (fun e2 => e e2.symm), ← List.getD_eq_getElem?_getD, h.2 j]
    by_cases h2 : j < k
    · rw [if_pos h2, if_pos (by omega)]
    · rw [if_neg h2, if_neg (by omega)]⟩
theorem Tn9.skip {a b : Nat} {st cur : List Nat} {k : Nat} (h : Tn9 a b st k cur) (hk : k < st.length) (h2 : st.getD k 0 ≠ 2) (h3 : st.getD k 0 ≠ 3) : Tn9 a b st (k + 1) cur := ⟨h.1, fun j => by
  by_cases e : j = k
  · subst e
    rw [h.2 j, if_neg (by omega), if_pos (by omega), tn9_at _ _ _ _ hk, if_neg h2, if_neg h3]
  · rw [h.2 j]
    by_cases h4 : j < k
    · rw [if_pos h4, if_pos (by omega)]
    · rw [if_neg h4, if_neg (by omega)]⟩
set_option maxHeartbeats 2000000 in
theorem turned_d {S : Nat → Prop} {w : World} {v : Value} {st : List Nat} (hS : ∀ k, S k → k < w.heap.size) (h : Rd9 S w v (il9 st)) (hl : st.length ≤ 16384) (fr : Int) (a b : Nat) :
    Calls Tryd.prog 43 #[.agg #[.int .i64 fr, v], .int .i64 a, .int .i64 b] w fun r w' => ∃ v', r = .returned (.agg #[.int .i64 fr, v']) ∧ Rd9 S w' v' (il9 (tn9 a b st)) ∧ Turn (fun _ => False) w w' := by
  have HS := Lib.hid hS
  have H0 := Lib.hid h
  obtain ⟨n, hn⟩ : ∃ n, st.length = n := ⟨_, rfl⟩
  have HN := Lib.hid hn
  rw [hn] at hl
  obtain ⟨W1, hW1⟩ : ∃ W, w.alloc (.cells #[.int .i64 fr, v] 40) = W := ⟨_, rfl⟩
  have B1 : Hid (Blk W1 w.heap.size 40 [.int .i64 fr, v]) := Lib.hid (hW1 ▸ Blk.new _ _ _)
  have T1 : Hid (Turn (fun _ => False) w W1) := Lib.hid (hW1 ▸ (Turn.refl _ _).alloc _)
  obtain ⟨W2, hW2⟩ : ∃ W, W1.alloc (.cells #[.int .i64 0, .slice none 0 0] 40) = W := ⟨_, rfl⟩
  have C2 : Hid (Blk W2 W1.heap.size 40 [.int .i64 0, .slice none 0 0]) := Lib.hid (hW2 ▸ Blk.new _ _ _)
  have B2 : Hid (Blk W2 w.heap.size 40 [.int .i64 fr, v]) := Lib.hid (hW2 ▸ B1.out.alloc _)
  have T2 : Hid (Turn (fun _ => False) w W2) := Lib.hid (hW2 ▸ T1.out.alloc _)
  have hb2 := C2.out.lt
  have hb1 := B1.out.lt
  have R2 : Hid (Rd9 (fun k => S k ∨ k = w.heap.size ∨ k = W1.heap.size) W2 v (il9 st)) := Lib.hid ⟨(h.still T2.out).own, fun b hb e => by
    have h7 := (own_blk9 h.own b hb).2
    rcases e with e | e | e
    · exact h.far b hb e
    · omega
    · omega⟩
  clear hn h hS
  obtain ⟨q, hq⟩ : ∃ q, w.heap.size = q := ⟨_, rfl⟩
  obtain ⟨q2, hq2⟩ : ∃ q, W1.heap.size = q := ⟨_, rfl⟩
  rw [hq] at hb1 B1 B2 R2
  rw [hq2] at hb2 C2 hb1 R2
  have HQ := Lib.hid hq
  have HQ2 := Lib.hid hq2
  go_enter Tryd.func43, Tryd.ntmps43
  go_wp2_with fail
  clear hW1 hW2 hq hq2
  go_loopw [7] (fun v7 wr => ∃ (i : Nat) (cur : List Nat) (u : Value), i ≤ n ∧ v7 = .int .i64 i ∧ Hid (Tn9 a b st i cur) ∧ Hid (Rd9 (fun k => S k ∨ k = q ∨ k = q2) wr u (il9 cur)) ∧ Hid (Blk wr q 40 [.int .i64 fr, u]) ∧ Hid (Turn (fun k => k = q) W2 wr)) (fun v7 _ => n - (intOf v7).toNat)
  case atStart => exact ⟨0, st, v, Nat.zero_le _, rfl, Lib.hid (Tn9.start a b st), R2, B2, Lib.hid (Turn.refl _ _)⟩
  case round =>
    obtain ⟨i, cur, u, hi, rfl, HT, HR, HB, HX⟩ := hrel
    obtain ⟨wx, rfl⟩ : ∃ W, W = wr := ⟨_, rfl⟩
    have hlc : cur.length = n := by have := HT.out.1; have := HN.out; omega
    have HLC := Lib.hid hlc
    obtain ⟨A, c, hu, hir, _⟩ := HR.out.ir
    rw [len_il9, hlc] at hu
    subst hu
    have HI := Lib.hid hir
    have hsz := HX.out.size
    have b0 := HB.out.cell 0
    have b1 := HB.out.cell 1
    simp only [List.getElem?_cons_zero, List.getElem?_cons_succ] at b0 b1
    clear hlc hir
    by_cases hlt : i < n
    · have hl1 : (i : Int) < (n : Int) := by omega
      have hl0 : (0 : Int) ≤ (i : Int) := by omega
      have hq := wrap_of ((i : Int) + 1) (by omega) (by omega)
      obtain ⟨g, rfl, hbl, c0⟩ := HI.out i _ (il9_at cur i (by rw [HLC.out]; exact hlt))
      have HAT : Hid (cur.getD i 0 = st.getD i 0) := Lib.hid (by have := HT.out.2 i; rw [if_neg (by omega)] at this; exact this)
      have hist : Hid (i < st.length) := Lib.hid (by rw [HN.out]; exact hlt)
      have HSK : Hid (∀ k, (S k ∨ k = q ∨ k = q2) → k < wx.heap.size) := Lib.hid (fun k hk => by have := T2.out.size; have := HQ.out; rcases hk with h | h | h; have := HS.out k h; omega; omega; omega)
      have HWD := Lib.hid (fun (s : Nat) => with_d HSK.out HR.out fr i (by rw [len_il9, HLC.out]; exact hlt) (by rw [len_il9, HLC.out]; exact hl) (s : Int))
      have step : ∀ (s : Nat) (v' : Value) (w2 : World), s = (tn9 a b st).getD i 0 → Rd9 (fun k => S k ∨ k = q ∨ k = q2) w2 v' ((il9 cur).set i (s : Int)) → Turn (fun _ => False) wx w2 →
          Hid (Tn9 a b st (i + 1) (cur.set i s)) ∧ Hid (Rd9 (fun k => S k ∨ k = q ∨ k = q2) ((w2.setCell ⟨q, 0, none⟩ (.int .i64 fr)).setCell ⟨q, 1, none⟩ v') v' (il9 (cur.set i s))) ∧ Hid (Blk ((w2.setCell ⟨q, 0, none⟩ (.int .i64 fr)).setCell ⟨q, 1, none⟩ v') q 40 [.int .i64 fr, v']) ∧ Hid (Turn (fun k => k = q) W2 ((w2.setCell ⟨q, 0, none⟩ (.int .i64 fr)).setCell ⟨q, 1, none⟩ v')) := fun s v' w2 hs hr ht => by
        have TS : Turn (fun k => k = q) w2 ((w2.setCell ⟨q, 0, none⟩ (.int .i64 fr)).setCell ⟨q, 1, none⟩ v') := ((Turn.refl (fun k => k = q) w2).setCell (p := ⟨q, 0, none⟩) (.inl rfl) _).setCell (p := ⟨q, 1, none⟩) (.inl rfl) _
        rw [il9_set] at hr
        refine ⟨Lib.hid (HT.out.next hist.out s hs), Lib.hid (hr.stp ⟨TS.mono (fun k _ e => .inr (.inl e)), fun k hk => .inl hk⟩), Lib.hid ?_, Lib.hid (HX.out.trans ((ht.mono (fun _ _ h => h.elim)).trans TS))⟩
        have := ((HB.out.turn ht (fun h => h)).put 0 (.int .i64 fr)).put 1 v'
        simpa only [List.set_cons_zero, List.set_cons_succ] using this
      have STEP := Lib.hid step
      have BW : Hid (∀ w2, Turn (fun _ => False) wx w2 → (w2.cell? ⟨q, 0, none⟩ = some (.int .i64 fr) ∧ w2.cell? ⟨q, 1, none⟩ = some (.slice (some ⟨g, 0, none⟩) n c)) ∧ w2.frozen? ⟨q, 0, none⟩ = false ∧ w2.frozen? ⟨q, 1, none⟩ = false) := Lib.hid (fun w2 ht => by
        have hb := HB.out.turn ht (fun h => h)
        have x0 := hb.cell 0
        have x1 := hb.cell 1
        simp only [List.getElem?_cons_zero, List.getElem?_cons_succ] at x0 x1
        exact ⟨⟨x0, x1⟩, hb.free 0, hb.free 1⟩)
      clear step
      rw [HAT.out] at c0
      by_cases h2 : st.getD i 0 = 2
      · rw [h2] at c0
        have HV : Hid (a = (tn9 a b st).getD i 0) := Lib.hid (by rw [tn9_at _ _ _ _ hist.out, if_pos h2])
        clear h2
        go_wp2_with fail
        refine (HWD.out a).mono ?_
        rintro e w2 ⟨v', rfl, hr, ht⟩
        obtain ⟨A2, c2, hv, _⟩ := hr.ir
        rw [List.length_set, len_il9, HLC.out] at hv
        subst hv
        obtain ⟨⟨x0, x1⟩, f0, f1⟩ := BW.out w2 ht
        have ST := Lib.hid (STEP.out a _ w2 HV.out hr ht)
        clear hr ht
        go_wp2_with fail
        go_roundw
        case rel => exact ⟨i + 1, cur.set i a, _, by omega, by simp [hq], ST.out.1, ST.out.2.1, ST.out.2.2.1, ST.out.2.2.2⟩
        case measure => simp [intOf, hq]; omega
      · by_cases h3 : st.getD i 0 = 3
        · rw [h3] at c0
          have HV : Hid (b = (tn9 a b st).getD i 0) := Lib.hid (by rw [tn9_at _ _ _ _ hist.out, if_neg h2, if_pos h3])
          clear h2 h3
          go_wp2_with fail
          refine (HWD.out b).mono ?_
          rintro e w2 ⟨v', rfl, hr, ht⟩
          obtain ⟨A2, c2, hv, _⟩ := hr.ir
          rw [List.length_set, len_il9, HLC.out] at hv
          subst hv
          obtain ⟨⟨x0, x1⟩, f0, f1⟩ := BW.out w2 ht
          have ST := Lib.hid (STEP.out b _ w2 HV.out hr ht)
          clear hr ht
          go_wp2_with fail
          go_roundw
          case rel => exact ⟨i + 1, cur.set i b, _, by omega, by simp [hq], ST.out.1, ST.out.2.1, ST.out.2.2.1, ST.out.2.2.2⟩
          case measure => simp [intOf, hq]; omega
        · have HTK := Lib.hid (HT.out.skip hist.out h2 h3)
          have e2 : (((st.getD i 0 : Nat) : Int) == (2 : Int)) = false := beq_eq_false_iff_ne.2 (fun h => h2 (by omega))
          have e3 : (((st.getD i 0 : Nat) : Int) == (3 : Int)) = false := beq_eq_false_iff_ne.2 (fun h => h3 (by omega))
          have n2 : ¬ ((st.getD i 0 : Nat) : Int) = (2 : Int) := fun h => h2 (by omega)
          have n3 : ¬ ((st.getD i 0 : Nat) : Int) = (3 : Int) := fun h => h3 (by omega)
          clear h2 h3
          generalize st.getD i 0 = X at *
          go_wp2_with fail
          go_roundw
          case rel => exact ⟨i + 1, cur, _, by omega, by simp [hq], HTK, HR, HB, HX⟩
          case measure => simp [intOf, hq]; omega
    · obtain rfl : i = n := by omega
      have hcur : cur = tn9 a b st := by have := HT.out; rw [← HN.out] at this; exact this.end_
      have k2 := C2.out.turn HX.out (by omega)
      have z0 := k2.free 0
      have z1 := k2.free 1
      have k0 := k2.cell 0
      have k1 := k2.cell 1
      simp only [List.getElem?_cons_zero, List.getElem?_cons_succ] at k0 k1
      go_wp2_with fail
      have TS : Turn (fun k => k = q2) wx ((wx.setCell ⟨q2, 0, none⟩ (.int .i64 fr)).setCell ⟨q2, 1, none⟩ (.slice A i c)) := ((Turn.refl (fun k => k = q2) wx).setCell (p := ⟨q2, 0, none⟩) (.inl rfl) _).setCell (p := ⟨q2, 1, none⟩) (.inl rfl) _
      have CZ := (k2.put 0 (.int .i64 fr)).put 1 (.slice A i c)
      have r0 := CZ.cell 0
      have r1 := CZ.cell 1
      simp only [List.set_cons_zero, List.set_cons_succ, List.getElem?_cons_zero, List.getElem?_cons_succ] at r0 r1
      have HSQ := HS.out
      have hr1 := T1.out.size
      have HR2 : Rd9 S ((wx.setCell ⟨q2, 0, none⟩ (.int .i64 fr)).setCell ⟨q2, 1, none⟩ (.slice A i c)) (.slice A i c) (il9 (tn9 a b st)) := by
        have hR := HR.out
        rw [hcur] at hR
        exact ⟨own_far9 hR.own TS (fun k hk e => hR.far k hk (.inr (.inr e))), fun b hb hs => hR.far b hb (.inl hs)⟩
      exact bodyPost_ret (v := .agg #[.int .i64 fr, .slice A i c]) (by simp [results, Tryd.results43, go_sem, r0, r1]) rfl ⟨_, rfl, HR2, (T2.out.trans_new HX.out (fun k hk e => by have := HQ.out; omega)).trans_new TS (fun k hk e => by have := HQ2.out; omega)⟩
end Go.Proofs.YtmedljnbcpdoeaaDoor
/- Layer 9: the document's pager: Settle, Undo, Release. -/
namespace Go.Proofs.YtmedljnbcpdoeaaDoor
open Go.RowKit
set_option linter.unusedVariables false
set_option linter.unusedSimpArgs false
set_option maxRecDepth 100000

theorem tn9_settle (st : List Nat) : tn9 1 0 st = settle9 st := by
  unfold tn9 settle9 trn9
  rw [List.map_map]
  apply List.map_congr_left
  intro x _
  show _ = (if (if x = 2 then 1 else x) = 3 then 0 else (if x = 2 then 1 else x))
  by_cases h : x = 2
  · rw [if_pos h, if_pos h, if_neg (by decide)]
  · rw [if_neg h, if_neg h]
theorem tn9_undo (st : List Nat) : tn9 0 1 st = undo9 st := by
  unfold tn9 undo9 trn9
  rw [List.map_map]
  apply List.map_congr_left
  intro x _
  show _ = (if (if x = 2 then 0 else x) = 3 then 1 else (if x = 2 then 0 else x))
  by_cases h : x = 2
  · rw [if_pos h, if_pos h, if_neg (by decide)]
  · rw [if_neg h, if_neg h]
/-- A box of two cells is filled. -/
theorem box2 {W : World} {q t : Nat} {u0 u1 : Value} (h : Blk W q t [u0, u1]) (x0 x1 : Value) : Blk ((W.setCell ⟨q, 0, none⟩ x0).setCell ⟨q, 1, none⟩ x1) q t [x0, x1] ∧ Turn (fun k => k = q) W ((W.setCell ⟨q, 0, none⟩ x0).setCell ⟨q, 1, none⟩ x1) ∧ ((W.setCell ⟨q, 0, none⟩ x0).setCell ⟨q, 1, none⟩ x1).cell? ⟨q, 0, none⟩ = some x0 ∧ ((W.setCell ⟨q, 0, none⟩ x0).setCell ⟨q, 1, none⟩ x1).cell? ⟨q, 1, none⟩ = some x1 := by
  have CZ := (h.put 0 x0).put 1 x1
  have r0 := CZ.cell 0
  have r1 := CZ.cell 1
  simp only [List.set_cons_zero, List.set_cons_succ, List.getElem?_cons_zero, List.getElem?_cons_succ] at CZ r0 r1
  exact ⟨CZ, ((Turn.refl (fun k => k = q) W).setCell (p := ⟨q, 0, none⟩) (.inl rfl) _).setCell (p := ⟨q, 1, none⟩) (.inl rfl) _, r0, r1⟩
theorem cells2 {W : World} {q t : Nat} {u0 u1 : Value} (h : Blk W q t [u0, u1]) : W.cell? ⟨q, 0, none⟩ = some u0 ∧ W.cell? ⟨q, 1, none⟩ = some u1 ∧ W.frozen? ⟨q, 0, none⟩ = false ∧ W.frozen? ⟨q, 1, none⟩ = false := by
  have r0 := h.cell 0
  have r1 := h.cell 1
  simp only [List.getElem?_cons_zero, List.getElem?_cons_succ] at r0 r1
  exact ⟨r0, r1, h.free 0, h.free 1⟩
/-- The pager's own box and the one of the answer. -/
theorem boxes9 {S : Nat → Prop} {w : World} {v : Value} {L : List Int} (hS : ∀ k, S k → k < w.heap.size) (h : Rd9 S w v L) (fr : Int) : ∃ W1 W2, w.alloc (.cells #[.int .i64 fr, v] 40) = W1 ∧ W1.alloc (.cells #[.int .i64 0, .slice none 0 0] 40) = W2 ∧ w.heap.size < W1.heap.size ∧ Hid (Blk W2 w.heap.size 40 [.int .i64 fr, v]) ∧ Hid (Blk W2 W1.heap.size 40 [.int .i64 0, .slice none 0 0]) ∧ Hid (Turn (fun _ => False) w W2) ∧ Hid (Rd9 (fun k => S k ∨ k = w.heap.size ∨ k = W1.heap.size) W2 v L) ∧ Hid (∀ W, Turn (fun _ => False) W2 W → ∀ k, (S k ∨ k = w.heap.size ∨ k = W1.heap.size) → k < W.heap.size) := by
  have B1 := Blk.new w 40 [.int .i64 fr, v]
  have T1 := (Turn.refl (fun _ => False) w).alloc (.cells #[.int .i64 fr, v] 40)
  have C2 := Blk.new (w.alloc (.cells #[.int .i64 fr, v] 40)) 40 [.int .i64 0, .slice none 0 0]
  have T2 := T1.alloc (.cells #[.int .i64 0, .slice none 0 0] 40)
  have hb1 := B1.lt
  have hb2 := C2.lt
  refine ⟨_, _, rfl, rfl, hb1, Lib.hid (B1.alloc _), Lib.hid C2, Lib.hid T2, Lib.hid ⟨(h.still T2).own, fun b hb e => ?_⟩, Lib.hid (fun W hW k hk => ?_)⟩
  · have h7 := (own_blk9 h.own b hb).2
    rcases e with e | e | e
    · exact h.far b hb e
    · omega
    · omega
  · have h7 := hW.size
    have h8 := T2.size
    have h9 : k < (w.alloc (.cells #[.int .i64 fr, v] 40)).heap.size + 1 := by
      rcases hk with h | h | h
      · have := hS k h; omega
      · omega
      · omega
    have h10 : ((w.alloc (.cells #[.int .i64 fr, v] 40)).alloc (.cells #[.int .i64 0, .slice none 0 0] 40)).heap.size = (w.alloc (.cells #[.int .i64 fr, v] 40)).heap.size + 1 := by simp
    omega
set_option maxHeartbeats 1000000 in
theorem settle_d {S : Nat → Prop} {w : World} {v : Value} {st : List Nat} (hS : ∀ k, S k → k < w.heap.size) (h : Rd9 S w v (il9 st)) (hl : st.length ≤ 16384) (fr : Int) :
    Calls Tryd.prog 14 #[.agg #[.int .i64 fr, v]] w fun r w' => ∃ v', r = .returned (.agg #[.int .i64 fr, v']) ∧ Rd9 S w' v' (il9 (settle9 st)) ∧ Turn (fun _ => False) w w' := by
  obtain ⟨A, c, rfl, _, _⟩ := h.ir
  rw [len_il9] at h ⊢
  obtain ⟨W1, W2, hW1, hW2, h12, BP, BC, T2, R2, HSK⟩ := boxes9 hS h fr
  have HS := Lib.hid hS
  have HT := Lib.hid (turned_d (HSK.out W2 (Turn.refl _ _)) R2.out hl fr 1 0)
  rw [tn9_settle] at HT
  obtain ⟨b0, b1, _, _⟩ := cells2 BP.out
  have hl2 : (settle9 st).length = st.length := by unfold settle9; rw [len_trn9, len_trn9]
  have HLL := Lib.hid hl2
  obtain ⟨n, hn⟩ : ∃ n, st.length = n := ⟨_, rfl⟩
  rw [hn] at b1 hW1 HT HLL ⊢
  clear h hS hl2 hn BP R2 hl
  go_enter Tryd.func14, Tryd.ntmps14
  go_wp2_with fail
  refine HT.out.mono ?_
  rintro e w2 ⟨v', rfl, hr, ht⟩
  obtain ⟨A2, c2, rfl, _, _⟩ := hr.ir
  have RR := Lib.hid hr
  have TT := Lib.hid ht
  obtain ⟨k0, k1, z0, z1⟩ := cells2 (BC.out.turn ht (fun h => h))
  have HZ := Lib.hid (box2 (BC.out.turn ht (fun h => h)) (.int .i64 fr) (.slice A2 (il9 (settle9 st)).length c2))
  clear hr ht hW1 hW2 b0 b1
  go_wp2_with fail
  obtain ⟨CZ, TS, r0, r1⟩ := HZ.out
  have HR2 : Rd9 S _ _ (il9 (settle9 st)) := ⟨own_far9 RR.out.own TS (fun k hk e => RR.out.far k hk (.inr (.inr e))), fun b hb hs => RR.out.far b hb (.inl hs)⟩
  exact bodyPost_ret (v := .agg #[.int .i64 fr, .slice A2 (il9 (settle9 st)).length c2]) (by simp [results, Tryd.results14, go_sem, r0, r1]) rfl ⟨_, rfl, HR2, (T2.out.trans TT.out).trans_new TS (fun k hk e => by omega)⟩
set_option maxHeartbeats 1000000 in
theorem undo_d {S : Nat → Prop} {w : World} {v : Value} {st : List Nat} (hS : ∀ k, S k → k < w.heap.size) (h : Rd9 S w v (il9 st)) (hl : st.length ≤ 16384) (fr : Int) :
    Calls Tryd.prog 16 #[.agg #[.int .i64 fr, v]] w fun r w' => ∃ v', r = .returned (.agg #[.int .i64 fr, v']) ∧ Rd9 S w' v' (il9 (undo9 st)) ∧ Turn (fun _ => False) w w' := by
  obtain ⟨A, c, rfl, _, _⟩ := h.ir
  rw [len_il9] at h ⊢
  obtain ⟨W1, W2, hW1, hW2, h12, BP, BC, T2, R2, HSK⟩ := boxes9 hS h fr
  have HS := Lib.hid hS
  have HT := Lib.hid (turned_d (HSK.out W2 (Turn.refl _ _)) R2.out hl fr 0 1)
  rw [tn9_undo] at HT
  obtain ⟨b0, b1, _, _⟩ := cells2 BP.out
  have hl2 : (undo9 st).length = st.length := by unfold undo9; rw [len_trn9, len_trn9]
  have HLL := Lib.hid hl2
  obtain ⟨n, hn⟩ : ∃ n, st.length = n := ⟨_, rfl⟩
  rw [hn] at b1 hW1 HT HLL ⊢
  clear h hS hl2 hn BP R2 hl
  go_enter Tryd.func16, Tryd.ntmps16
  go_wp2_with fail
  refine HT.out.mono ?_
  rintro e w2 ⟨v', rfl, hr, ht⟩
  obtain ⟨A2, c2, rfl, _, _⟩ := hr.ir
  have RR := Lib.hid hr
  have TT := Lib.hid ht
  obtain ⟨k0, k1, z0, z1⟩ := cells2 (BC.out.turn ht (fun h => h))
  have HZ := Lib.hid (box2 (BC.out.turn ht (fun h => h)) (.int .i64 fr) (.slice A2 (il9 (undo9 st)).length c2))
  clear hr ht hW1 hW2 b0 b1
  go_wp2_with fail
  obtain ⟨CZ, TS, r0, r1⟩ := HZ.out
  have HR2 : Rd9 S _ _ (il9 (undo9 st)) := ⟨own_far9 RR.out.own TS (fun k hk e => RR.out.far k hk (.inr (.inr e))), fun b hb hs => RR.out.far b hb (.inl hs)⟩
  exact bodyPost_ret (v := .agg #[.int .i64 fr, .slice A2 (il9 (undo9 st)).length c2]) (by simp [results, Tryd.results16, go_sem, r0, r1]) rfl ⟨_, rfl, HR2, (T2.out.trans TT.out).trans_new TS (fun k hk e => by omega)⟩
set_option maxHeartbeats 2000000 in
theorem release_d {S : Nat → Prop} {w : World} {v : Value} {st : List Nat} (hS : ∀ k, S k → k < w.heap.size) (h : Rd9 S w v (il9 st)) (hl : st.length ≤ 16384) (fr : Int) (i : Int) :
    Calls Tryd.prog 12 #[.agg #[.int .i64 fr, v], .int .i64 i] w fun r w' => ∃ v', r = .returned (.tuple #[.agg #[.int .i64 fr, v'], .int .i64 (rel9 st i).2]) ∧ Rd9 S w' v' (il9 (rel9 st i).1) ∧ Turn (fun _ => False) w w' := by
  obtain ⟨A, c, rfl, hir, _⟩ := h.ir
  rw [len_il9] at h ⊢
  obtain ⟨W1, W2, hW1, hW2, h12, BP, BC, T2, R2, HSK⟩ := boxes9 hS h fr
  have HS := Lib.hid hS
  have HI := Lib.hid hir
  obtain ⟨n, hn⟩ : ∃ n, st.length = n := ⟨_, rfl⟩
  have HN := Lib.hid hn
  rw [hn] at hl hW1 BP R2 ⊢
  have HT := Lib.hid (there_d fr A n c i W2)
  have hth : Hid ((decide ((0 : Int) ≤ i) && decide (i < (n : Int))) = has9 st i) := Lib.hid (by unfold has9; rw [hn])
  rw [hth.out] at HT
  obtain ⟨b0, b1, _, _⟩ := cells2 BP.out
  have FIN : Hid (∀ (W w3 : World) (A2 : Option Addr) (c2 : Nat) (L : List Int), Turn (fun _ => False) W2 W → Turn (fun _ => False) W w3 → Rd9 (fun k => S k ∨ k = w.heap.size ∨ k = W1.heap.size) w3 (.slice A2 n c2) L →
      w3.cell? ⟨W1.heap.size, 0, none⟩ = some (.int .i64 0) ∧ w3.cell? ⟨W1.heap.size, 1, none⟩ = some (.slice none 0 0) ∧ w3.frozen? ⟨W1.heap.size, 0, none⟩ = false ∧ w3.frozen? ⟨W1.heap.size, 1, none⟩ = false ∧
      ((w3.setCell ⟨W1.heap.size, 0, none⟩ (.int .i64 fr)).setCell ⟨W1.heap.size, 1, none⟩ (.slice A2 n c2)).cell? ⟨W1.heap.size, 0, none⟩ = some (.int .i64 fr) ∧ ((w3.setCell ⟨W1.heap.size, 0, none⟩ (.int .i64 fr)).setCell ⟨W1.heap.size, 1, none⟩ (.slice A2 n c2)).cell? ⟨W1.heap.size, 1, none⟩ = some (.slice A2 n c2) ∧
      Hid (Rd9 S ((w3.setCell ⟨W1.heap.size, 0, none⟩ (.int .i64 fr)).setCell ⟨W1.heap.size, 1, none⟩ (.slice A2 n c2)) (.slice A2 n c2) L) ∧ Hid (Turn (fun _ => False) w ((w3.setCell ⟨W1.heap.size, 0, none⟩ (.int .i64 fr)).setCell ⟨W1.heap.size, 1, none⟩ (.slice A2 n c2)))) := Lib.hid (fun W w3 A2 c2 L h1 h2 hr => by
    have hb := BC.out.turn (h1.trans h2) (fun h => h)
    obtain ⟨k0, k1, z0, z1⟩ := cells2 hb
    obtain ⟨CZ, TS, r0, r1⟩ := box2 hb (.int .i64 fr) (.slice A2 n c2)
    exact ⟨k0, k1, z0, z1, r0, r1, Lib.hid ⟨own_far9 hr.own TS (fun k hk e => hr.far k hk (.inr (.inr e))), fun b hb hs => hr.far b hb (.inl hs)⟩, Lib.hid ((T2.out.trans (h1.trans h2)).trans_new TS (fun k hk e => by omega))⟩)
  have BPW : Hid (∀ W, Turn (fun _ => False) W2 W → W.cell? ⟨w.heap.size, 0, none⟩ = some (.int .i64 fr) ∧ W.cell? ⟨w.heap.size, 1, none⟩ = some (.slice A n c)) := Lib.hid (fun W hW => by obtain ⟨x0, x1, _, _⟩ := cells2 (BP.out.turn hW (fun h => h)); exact ⟨x0, x1⟩)
  clear h hS hn hir BP hth
  cases hh : has9 st i with
  | false =>
    have HV : Hid (rel9 st i = (st, 6)) := Lib.hid (by unfold rel9; rw [hh]; rfl)
    rw [hh] at HT
    rw [HV.out]
    clear hh
    go_enter Tryd.func12, Tryd.ntmps12
    go_wp2_with fail
    refine HT.out.mono ?_
    rintro e w3 ⟨rfl, ht⟩
    obtain ⟨x0, x1⟩ := BPW.out w3 ht
    obtain ⟨k0, k1, z0, z1, r0, r1, hR, hTW⟩ := FIN.out w3 w3 A c _ ht (Turn.refl _ _) (R2.out.still ht)
    clear ht b0 b1
    go_wp2_with fail
    exact bodyPost_ret (v := .tuple #[.agg #[.int .i64 fr, .slice A n c], .int .i64 6]) (by simp [results, Tryd.results12, go_sem, r0, r1]) rfl ⟨_, rfl, hR.out, hTW.out⟩
  | true =>
    rw [hh] at HT
    obtain ⟨k, rfl⟩ : ∃ k : Nat, i = k := ⟨i.toNat, by unfold has9 at hh; simp at hh; omega⟩
    have hk : k < n := by unfold has9 at hh; have := HN.out; simp at hh; omega
    have hk1 : (k : Int) < (n : Int) := by omega
    have hk0 : (0 : Int) ≤ (k : Int) := by omega
    have hks : k < st.length := by rw [HN.out]; exact hk
    obtain ⟨g, rfl, hgl, cg⟩ := HI.out k _ (il9_at st k hks)
    have HV : Hid (rel9 st (k : Int) = if st.getD k 0 = 2 then (st.set k 0, 0) else if st.getD k 0 = 1 then (st.set k 3, 0) else (st, 7)) := Lib.hid (by
      unfold rel9 is9
      rw [hh, Int.toNat_natCast]
      simp)
    have HCG : Hid (∀ W, Turn (fun _ => False) W2 W → W.cell? ⟨g, k, none⟩ = some (.int .i64 ((st.getD k 0 : Nat) : Int))) := Lib.hid (fun W hW => (World.cell?_of_block (w := w) (a := ⟨g, k, none⟩) ((T2.out.trans hW).block g hgl (fun h => h))).trans cg)
    have HWD : Hid (∀ (W : World) (s : Nat), Turn (fun _ => False) W2 W → Calls Tryd.prog 40 #[.agg #[.int .i64 fr, .slice (some ⟨g, 0, none⟩) n c], .int .i64 k, .int .i64 s] W fun r w' => ∃ A' c', r = .returned (.agg #[.int .i64 fr, .slice A' n c']) ∧ Rd9 (fun k => S k ∨ k = w.heap.size ∨ k = W1.heap.size) w' (.slice A' n c') (il9 (st.set k s)) ∧ Turn (fun _ => False) W w') := Lib.hid (fun W s hW => by
      refine (with_d (HSK.out W hW) (R2.out.still hW) fr k (by rw [len_il9]; exact hks) (by rw [len_il9, HN.out]; exact hl) (s : Int)).mono fun e w' ⟨v', h1, h2, h3⟩ => ?_
      rw [il9_set] at h2
      obtain ⟨A', c', rfl, _, _⟩ := h2.ir
      rw [len_il9, List.length_set, HN.out] at h1 h2
      exact ⟨A', c', h1, h2, h3⟩)
    rw [HV.out]
    clear hh cg hgl
    by_cases h2 : st.getD k 0 = 2
    · rw [if_pos h2]
      rw [h2] at HCG
      clear h2
      go_enter Tryd.func12, Tryd.ntmps12
      go_wp2_with fail
      refine HT.out.mono ?_
      rintro e w3 ⟨rfl, ht⟩
      obtain ⟨x0, x1⟩ := BPW.out w3 ht
      have cg := HCG.out w3 ht
      have T3 := Lib.hid ht
      clear ht b0 b1
      go_wp2_with fail
      refine (HWD.out w3 0 T3.out).mono ?_
      rintro e w4 ⟨A', c', rfl, hr, ht⟩
      obtain ⟨k0, k1, z0, z1, r0, r1, hR, hTW⟩ := FIN.out w3 w4 A' c' _ T3.out ht hr
      clear hr ht cg x0 x1
      go_wp2_with fail
      exact bodyPost_ret (v := .tuple #[.agg #[.int .i64 fr, .slice A' n c'], .int .i64 0]) (by simp [results, Tryd.results12, go_sem, r0, r1]) rfl ⟨_, rfl, hR.out, hTW.out⟩
    · rw [if_neg h2]
      have e2 : (((st.getD k 0 : Nat) : Int) == (2 : Int)) = false := beq_eq_false_iff_ne.2 (fun h => h2 (by omega))
      have n2 : ¬ ((st.getD k 0 : Nat) : Int) = (2 : Int) := fun h => h2 (by omega)
      by_cases h1 : st.getD k 0 = 1
      · rw [if_pos h1]
        rw [h1] at HCG
        clear h2 h1 e2 n2
        go_enter Tryd.func12, Tryd.ntmps12
        go_wp2_with fail
        refine HT.out.mono ?_
        rintro e w3 ⟨rfl, ht⟩
        obtain ⟨x0, x1⟩ := BPW.out w3 ht
        have cg := HCG.out w3 ht
        have T3 := Lib.hid ht
        clear ht b0 b1
        go_wp2_with fail
        refine (HWD.out w3 3 T3.out).mono ?_
        rintro e w4 ⟨A', c', rfl, hr, ht⟩
        obtain ⟨k0, k1, z0, z1, r0, r1, hR, hTW⟩ := FIN.out w3 w4 A' c' _ T3.out ht hr
        clear hr ht cg x0 x1
        go_wp2_with fail
        exact bodyPost_ret (v := .tuple #[.agg #[.int .i64 fr, .slice A' n c'], .int .i64 0]) (by simp [results, Tryd.results12, go_sem, r0, r1]) rfl ⟨_, rfl, hR.out, hTW.out⟩
      · rw [if_neg h1]
        have e1 : (((st.getD k 0 : Nat) : Int) == (1 : Int)) = false := beq_eq_false_iff_ne.2 (fun h => h1 (by omega))
        have n1 : ¬ ((st.getD k 0 : Nat) : Int) = (1 : Int) := fun h => h1 (by omega)
        clear h2 h1
        generalize st.getD k 0 = X at *
        go_enter Tryd.func12, Tryd.ntmps12
        go_wp2_with fail
        refine HT.out.mono ?_
        rintro e w3 ⟨rfl, ht⟩
        obtain ⟨x0, x1⟩ := BPW.out w3 ht
        have cg := HCG.out w3 ht
        obtain ⟨k0, k1, z0, z1, r0, r1, hR, hTW⟩ := FIN.out w3 w3 _ c _ ht (Turn.refl _ _) (R2.out.still ht)
        clear ht b0 b1
        go_wp2_with fail
        exact bodyPost_ret (v := .tuple #[.agg #[.int .i64 fr, .slice (some ⟨g, 0, none⟩) n c], .int .i64 7]) (by simp [results, Tryd.results12, go_sem, r0, r1]) rfl ⟨_, rfl, hR.out, hTW.out⟩
end Go.Proofs.YtmedljnbcpdoeaaDoor
/- Layer 9: the document's pager: New, Read. -/
namespace Go.Proofs.YtmedljnbcpdoeaaDoor
open Go.RowKit Go.Maps
set_option linter.unusedVariables false
set_option linter.unusedSimpArgs false
set_option maxRecDepth 100000

/-- A sector that is written short is written padded. -/
theorem write_full9 (D : Dsk) (i : Int) (l : List UInt8) (h : l.length ≤ 128) : D.write i (full l) = D.write i l := by
  have h1 := len_full h
  unfold Dsk.write
  have e : full (full l) = full l := full_full h1
  by_cases hd : D.dead = true
  · rw [if_pos hd, if_pos hd]
  · rw [if_neg hd, if_neg hd]
    by_cases hi : i < 0 ∨ (D.kept.length : Int) ≤ i
    · rw [if_pos hi, if_pos hi]
    · rw [if_neg hi, if_neg hi, if_neg (show ¬ 128 < (full l).length by omega), if_neg (show ¬ 128 < l.length by omega)]
      by_cases hf : D.fuse = 0
      · rw [if_pos hf, if_pos hf]
      · rw [if_neg hf, if_neg hf]
        unfold Dsk.wrote
        rw [e]
theorem putk_full9 : ∀ (n : Nat) (D : Dsk) (s : Int) (b : List UInt8) (m : Nat), b.length + m = 128 * n → putk n D s (b ++ List.replicate m 0) = putk n D s b
  | 0, D, s, b, m, h => rfl
  | n + 1, D, s, b, m, h => by
    have hw : D.write s ((b ++ List.replicate m (0 : UInt8)).take 128) = D.write s (b.take 128) := by
      rcases Nat.le_total 128 b.length with h1 | h1
      · rw [List.take_append_of_le_length h1]
      · have e : (b ++ List.replicate m (0 : UInt8)).take 128 = full (b.take 128) := by
          rw [List.take_append, List.take_of_length_le h1, List.take_replicate]
          unfold full
          congr 2; omega
        rw [e, write_full9 _ _ _ (by rw [List.length_take]; omega)]
    have hdr : ∃ m2, (b ++ List.replicate m (0 : UInt8)).drop 128 = b.drop 128 ++ List.replicate m2 0 ∧ (b.drop 128).length + m2 = 128 * n := by
      refine ⟨m - (128 - b.length), ?_, ?_⟩
      · rw [List.drop_append, List.drop_replicate]
      · rw [List.length_drop]; omega
    obtain ⟨m2, hd, hm⟩ := hdr
    rw [putk, putk, hw, hd]
    split
    · exact putk_full9 n _ _ _ m2 hm
    · rfl
theorem cells5 {W : World} {q t : Nat} {u0 u1 u2 u3 u4 : Value} (h : Blk W q t [u0, u1, u2, u3, u4]) : W.cell? ⟨q, 0, none⟩ = some u0 ∧ W.cell? ⟨q, 1, none⟩ = some u1 ∧ W.cell? ⟨q, 2, none⟩ = some u2 ∧ W.cell? ⟨q, 3, none⟩ = some u3 ∧ W.cell? ⟨q, 4, none⟩ = some u4 := by
  have r0 := h.cell 0
  have r1 := h.cell 1
  have r2 := h.cell 2
  have r3 := h.cell 3
  have r4 := h.cell 4
  simp only [List.getElem?_cons_zero, List.getElem?_cons_succ] at r0 r1 r2 r3 r4
  exact ⟨r0, r1, r2, r3, r4⟩
set_option maxHeartbeats 2000000 in
theorem read_d {S : Nat → Prop} {w : World} {v : Value} {st : List Nat} {D : Dsk} {ks : List (List UInt8)} {A B : Option Addr} {c d : Nat} (h : Rd9 S w v (il9 st)) (g : Rg S w D ks A c B d) (ok : D.Ok) (hp : D.pend.length ≤ 1000000) (fr : Nat) (hfr : fr + 8 * st.length ≤ D.kept.length) (i : Int) :
    Calls Tryd.prog 20 #[.agg #[.int .i64 fr, v], rd D ks A c B d, .int .i64 i] w fun r w' => r = .returned (.tuple #[sv (rd9 fr st D i).1, .int .i64 (rd9 fr st D i).2]) ∧ Turn (fun _ => False) w w' := by
  obtain ⟨AP, cP, rfl, hir, _⟩ := h.ir
  rw [len_il9] at h ⊢
  have hkm : D.kept.length ≤ 16384 := ok.most
  have HI := Lib.hid hir
  obtain ⟨n, hn⟩ : ∃ n, st.length = n := ⟨_, rfl⟩
  have HN := Lib.hid hn
  rw [hn] at hfr ⊢
  obtain ⟨W1, hW1⟩ : ∃ W, w.alloc (.cells #[.int .i64 fr, .slice AP n cP] 40) = W := ⟨_, rfl⟩
  have B1 : Hid (Blk W1 w.heap.size 40 [.int .i64 fr, .slice AP n cP]) := Lib.hid (hW1 ▸ Blk.new _ _ _)
  have T1 : Hid (Turn (fun _ => False) w W1) := Lib.hid (hW1 ▸ (Turn.refl _ _).alloc _)
  obtain ⟨W2, hW2⟩ : ∃ W, W1.alloc (.cells #[.int .i64 (D.kept.length : Int), .slice A ks.length c, .slice B D.pend.length d, .int .i64 D.fuse, .bool D.dead] 32) = W := ⟨_, rfl⟩
  have C2 : Hid (Blk W2 W1.heap.size 32 [.int .i64 (D.kept.length : Int), .slice A ks.length c, .slice B D.pend.length d, .int .i64 D.fuse, .bool D.dead]) := Lib.hid (hW2 ▸ Blk.new _ _ _)
  have B2 : Hid (Blk W2 w.heap.size 40 [.int .i64 fr, .slice AP n cP]) := Lib.hid (hW2 ▸ B1.out.alloc _)
  have T2 : Hid (Turn (fun _ => False) w W2) := Lib.hid (hW2 ▸ T1.out.alloc _)
  have BPW : Hid (∀ W, Turn (fun _ => False) W2 W → W.cell? ⟨w.heap.size, 0, none⟩ = some (.int .i64 fr) ∧ W.cell? ⟨w.heap.size, 1, none⟩ = some (.slice AP n cP)) := Lib.hid (fun W hW => by obtain ⟨x0, x1, _, _⟩ := cells2 (B2.out.turn hW (fun h => h)); exact ⟨x0, x1⟩)
  have BDW : Hid (∀ W, Turn (fun _ => False) W2 W → W.cell? ⟨W1.heap.size, 0, none⟩ = some (.int .i64 (D.kept.length : Int)) ∧ W.cell? ⟨W1.heap.size, 1, none⟩ = some (.slice A ks.length c) ∧ W.cell? ⟨W1.heap.size, 2, none⟩ = some (.slice B D.pend.length d) ∧ W.cell? ⟨W1.heap.size, 3, none⟩ = some (.int .i64 D.fuse) ∧ W.cell? ⟨W1.heap.size, 4, none⟩ = some (.bool D.dead)) := Lib.hid (fun W hW => cells5 (C2.out.turn hW (fun h => h)))
  have HT := Lib.hid (there_d fr AP n cP i W2)
  have hth : Hid ((decide ((0 : Int) ≤ i) && decide (i < (n : Int))) = has9 st i) := Lib.hid (by unfold has9; rw [hn])
  rw [hth.out] at HT
  have HH : Hid (∀ W, Turn (fun _ => False) W2 W → ∀ j, j < D.kept.length → Calls Tryd.prog 49 #[.agg #[.int .i64 (D.kept.length : Int), .slice A ks.length c, .slice B D.pend.length d, .int .i64 D.fuse, .bool D.dead], .int .i64 j] W fun e w' => e = .returned (sv (D.has j)) ∧ Turn (fun _ => False) W w') := Lib.hid (fun W hW j hj => has_r ((g.m.still T2.out).still hW) j hj (by omega) _ _ _)
  have HLN := Lib.hid (fun s k (hk : s + k ≤ D.kept.length) => len_pgs9 ok s k hk)
  have HHL := Lib.hid (fun k (hk : k < D.kept.length) => ok.has_len hk)
  have hb12 := B1.out.lt
  obtain ⟨kd, hkd⟩ : ∃ k, D.kept.length = k := ⟨_, rfl⟩
  unfold rd
  rw [hkd] at hkm hfr HH HLN HHL BDW hW2 ⊢
  clear hir h g ok hn hth B1 T1 C2 B2 hkd
  cases hh : has9 st i with
  | false =>
    have HV : Hid (rd9 fr st D i = ([], 6)) := Lib.hid (by unfold rd9; rw [hh]; rfl)
    rw [hh] at HT
    rw [HV.out]
    obtain ⟨b0, b1⟩ := BPW.out W2 (Turn.refl _ _)
    clear hh
    go_enter Tryd.func20, Tryd.ntmps20
    go_wp2_with fail
    refine HT.out.mono ?_
    rintro e w3 ⟨rfl, ht⟩
    have T3 := Lib.hid (T2.out.trans ht)
    clear ht b0 b1
    go_wp2_with fail
    exact bodyPost_ret (v := .tuple #[sv [], .int .i64 6]) (by simp [results, Tryd.results20, go_sem]) rfl ⟨rfl, T3.out⟩
  | true =>
    rw [hh] at HT
    obtain ⟨k, rfl⟩ : ∃ k : Nat, i = k := ⟨i.toNat, by unfold has9 at hh; simp at hh; omega⟩
    have hk : k < n := by unfold has9 at hh; have := HN.out; simp at hh; omega
    have hk1 : (k : Int) < (n : Int) := by omega
    have hk0 : (0 : Int) ≤ (k : Int) := by omega
    have hks : k < st.length := by rw [HN.out]; exact hk
    obtain ⟨g, rfl, hgl, cg⟩ := HI.out k _ (il9_at st k hks)
    have HV : Hid (rd9 fr st D (k : Int) = if st.getD k 0 = 0 then ([], 7) else if D.dead then ([], 20) else (pgs9 D (fr + 8 * k) 8, 0)) := Lib.hid (by
      unfold rd9 is9
      rw [hh, Int.toNat_natCast]
      simp)
    have HCG : Hid (∀ W, Turn (fun _ => False) W2 W → W.cell? ⟨g, k, none⟩ = some (.int .i64 ((st.getD k 0 : Nat) : Int))) := Lib.hid (fun W hW => (World.cell?_of_block (w := w) (a := ⟨g, k, none⟩) ((T2.out.trans hW).block g hgl (fun h => h))).trans cg)
    rw [HV.out]
    obtain ⟨b0, b1⟩ := BPW.out W2 (Turn.refl _ _)
    clear hh cg hgl hks
    by_cases h2 : st.getD k 0 = 0
    · rw [if_pos h2]
      rw [h2] at HCG
      clear h2
      go_enter Tryd.func20, Tryd.ntmps20
      go_wp2_with fail
      refine HT.out.mono ?_
      rintro e w3 ⟨rfl, ht⟩
      obtain ⟨x0, x1⟩ := BPW.out w3 ht
      have cg := HCG.out w3 ht
      have T3 := Lib.hid (T2.out.trans ht)
      clear ht b0 b1
      go_wp2_with fail
      exact bodyPost_ret (v := .tuple #[sv [], .int .i64 7]) (by simp [results, Tryd.results20, go_sem]) rfl ⟨rfl, T3.out⟩
    · rw [if_neg h2]
      have e2 : (((st.getD k 0 : Nat) : Int) == (0 : Int)) = false := beq_eq_false_iff_ne.2 (fun h => h2 (by omega))
      have n2 : ¬ ((st.getD k 0 : Nat) : Int) = (0 : Int) := fun h => h2 (by omega)
      clear h2
      generalize st.getD k 0 = X at *
      cases hd : D.dead with
      | true =>
        rw [if_pos rfl]
        rw [hd] at BDW hW2 HH
        go_enter Tryd.func20, Tryd.ntmps20
        go_wp2_with fail
        refine HT.out.mono ?_
        rintro e w3 ⟨rfl, ht⟩
        obtain ⟨x0, x1⟩ := BPW.out w3 ht
        obtain ⟨y0, y1, y2, y3, y4⟩ := BDW.out w3 ht
        have cg := HCG.out w3 ht
        have T3 := Lib.hid (T2.out.trans ht)
        clear ht b0 b1
        go_wp2_with fail
        exact bodyPost_ret (v := .tuple #[sv [], .int .i64 20]) (by simp [results, Tryd.results20, go_sem]) rfl ⟨rfl, T3.out⟩
      | false =>
        rw [if_neg (by decide)]
        rw [hd] at BDW hW2 HH
        have HD := Lib.hid hd
        clear hd
        obtain ⟨s, hs⟩ : ∃ s, fr + 8 * k = s := ⟨_, rfl⟩
        have m1 := wrap_of ((8 : Int) * (k : Int)) (by omega) (by omega)
        have m2 := (wrap_of ((fr : Int) + (8 : Int) * (k : Int)) (by omega) (by omega)).trans (show (fr : Int) + (8 : Int) * (k : Int) = (s : Int) by omega)
        have hsk : s + 8 ≤ kd := by omega
        rw [hs]
        go_enter Tryd.func20, Tryd.ntmps20
        go_wp2_with fail
        refine HT.out.mono ?_
        rintro e w3 ⟨rfl, ht⟩
        obtain ⟨x0, x1⟩ := BPW.out w3 ht
        obtain ⟨y0, y1, y2, y3, y4⟩ := BDW.out w3 ht
        have cg := HCG.out w3 ht
        have T3 := Lib.hid ht
        clear ht b0 b1
        go_wp2_with fail
        go_loopw [8, 9] (fun v8 v9 wr => ∃ j : Nat, j ≤ 8 ∧ v9 = .int .i64 j ∧ v8 = sv (pgs9 D s j) ∧ Turn (fun _ => False) W2 wr) (fun _ v9 _ => 8 - (intOf v9).toNat)
        case atStart => exact ⟨0, by omega, rfl, rfl, T3.out⟩
        case round =>
          obtain ⟨j, hj, rfl, rfl, htj⟩ := hrel
          have TJ := Lib.hid htj
          clear htj cg
          by_cases hlt : j < 8
          · have hl1 : (j : Int) < 8 := by omega
            have hq := wrap_of ((j : Int) + 1) (by omega) (by omega)
            have m3 := wrap_of ((s : Int) + (j : Int)) (by omega) (by omega)
            obtain ⟨x0, x1⟩ := BPW.out wr TJ.out
            obtain ⟨y0, y1, y2, y3, y4⟩ := BDW.out wr TJ.out
            have HC := Lib.hid (HH.out wr TJ.out (s + j) (by omega))
            rw [show ((s + j : Nat) : Int) = (s : Int) + (j : Int) by omega] at HC
            have hz1 : (pgs9 D s j).length = 128 * j := HLN.out s j (by omega)
            have hz2 : (D.has (s + j)).length = 128 := HHL.out (s + j) (by omega)
            have HNX : Hid (pgs9 D s (j + 1) = pgs9 D s j ++ D.has (s + j)) := Lib.hid rfl
            unfold sv at HC ⊢
            obtain ⟨SP, hSP⟩ : ∃ x : ByteArray, (⟨(pgs9 D s j).toArray⟩ : ByteArray) = x := ⟨_, rfl⟩
            obtain ⟨SH, hSH⟩ : ∃ x : ByteArray, (⟨(D.has (s + j)).toArray⟩ : ByteArray) = x := ⟨_, rfl⟩
            have s1 : SP.size = 128 * j := by rw [← hSP]; exact hz1
            have s2 : SH.size = 128 := by rw [← hSH]; exact hz2
            have HCAT : Hid (SP ++ SH = (⟨(pgs9 D s (j + 1)).toArray⟩ : ByteArray)) := Lib.hid (by rw [HNX.out, ← hSP, ← hSH]; apply ByteArray.ext; simp)
            rw [hSP]
            rw [hSH] at HC
            clear hSP hSH hz1 hz2 HNX
            go_wp2_with fail
            refine HC.out.mono ?_
            rintro e w4 ⟨rfl, ht⟩
            have T4 := Lib.hid (TJ.out.trans ht)
            clear ht y0 y1 y2 y3 y4 x0 x1
            go_wp2_with fail
            all_goals try rw [if_neg (by omega)]
            go_wp2_with fail
            go_roundw
            case rel => exact ⟨j + 1, by omega, by simp [hq], by rw [← HCAT.out], T4.out⟩
            case measure => simp [intOf, hq]; omega
          · obtain rfl : j = 8 := by omega
            go_wp2_with fail
            exact bodyPost_ret (v := .tuple #[sv (pgs9 D s 8), .int .i64 0]) (by simp [results, Tryd.results20, go_sem]) rfl ⟨rfl, T2.out.trans TJ.out⟩
end Go.Proofs.YtmedljnbcpdoeaaDoor
/- Layer 9: the document's pager: a page's sectors are written. -/
namespace Go.Proofs.YtmedljnbcpdoeaaDoor
open Go.RowKit Go.Maps
set_option linter.unusedVariables false
set_option linter.unusedSimpArgs false
set_option maxRecDepth 100000

/-- The cells of the document's disk. -/
def rdc (D : Dsk) (ks : List (List UInt8)) (A : Option Addr) (c : Nat) (B : Option Addr) (d : Nat) : List Value := [.int .i64 (D.kept.length : Int), .slice A ks.length c, .slice B D.pend.length d, .int .i64 D.fuse, .bool D.dead]
theorem wpAnyH_named9 {P : Program} {md : Region.Mode} {ops : Array Oper} {Q : Exit → Act → World → Prop} {S : World → Prop} {fuel : Nat} {listed : Array Bool} {a : Act} {w : World} (h : ∀ X, X = w → wpAnyH P md ops Q S fuel listed a X) : wpAnyH P md ops Q S fuel listed a w := h w rfl
theorem cells5f {W : World} {q t : Nat} {u0 u1 u2 u3 u4 : Value} (h : Blk W q t [u0, u1, u2, u3, u4]) : W.cell? ⟨q, 0, none⟩ = some u0 ∧ W.cell? ⟨q, 1, none⟩ = some u1 ∧ W.cell? ⟨q, 2, none⟩ = some u2 ∧ W.cell? ⟨q, 3, none⟩ = some u3 ∧ W.cell? ⟨q, 4, none⟩ = some u4 ∧ W.frozen? ⟨q, 0, none⟩ = false ∧ W.frozen? ⟨q, 1, none⟩ = false ∧ W.frozen? ⟨q, 2, none⟩ = false ∧ W.frozen? ⟨q, 3, none⟩ = false ∧ W.frozen? ⟨q, 4, none⟩ = false := by
  obtain ⟨r0, r1, r2, r3, r4⟩ := cells5 h
  exact ⟨r0, r1, r2, r3, r4, h.free 0, h.free 1, h.free 2, h.free 3, h.free 4⟩
theorem put5d {W : World} {q t : Nat} {u0 u1 u2 u3 u4 : Value} (h : Blk W q t [u0, u1, u2, u3, u4]) (x0 x1 x2 x3 x4 : Value) : Blk (((((W.setCell ⟨q, 0, none⟩ x0).setCell ⟨q, 1, none⟩ x1).setCell ⟨q, 2, none⟩ x2).setCell ⟨q, 3, none⟩ x3).setCell ⟨q, 4, none⟩ x4) q t [x0, x1, x2, x3, x4] ∧ Turn (fun k => k = q) W (((((W.setCell ⟨q, 0, none⟩ x0).setCell ⟨q, 1, none⟩ x1).setCell ⟨q, 2, none⟩ x2).setCell ⟨q, 3, none⟩ x3).setCell ⟨q, 4, none⟩ x4) :=
  ⟨((((h.put 0 x0).put 1 x1).put 2 x2).put 3 x3).put 4 x4, ((((((Turn.refl (fun k => k = q) W).setCell (p := ⟨q, 0, none⟩) (.inl rfl) x0).setCell (p := ⟨q, 1, none⟩) (.inl rfl) x1).setCell (p := ⟨q, 2, none⟩) (.inl rfl) x2).setCell (p := ⟨q, 3, none⟩) (.inl rfl) x3).setCell (p := ⟨q, 4, none⟩) (.inl rfl) x4)⟩
theorem Rg.plus9 {S : Nat → Prop} {w : World} {D : Dsk} {ks : List (List UInt8)} {A B : Option Addr} {c d : Nat} (h : Rg S w D ks A c B d) {x : Nat} (hx : w.heap.size ≤ x) : Rg (fun k => S k ∨ k = x) w D ks A c B d :=
  ⟨h.m, fun b hb hs => by have := own_lt_ h.m.kept b hb; rcases hs with h1 | h1; exact h.k b hb h1; omega, fun b hb hs => by have := own_lt_ h.m.pend b hb; rcases hs with h1 | h1; exact h.p b hb h1; omega⟩
theorem Rg.less9 {S P : Nat → Prop} {w : World} {D : Dsk} {ks : List (List UInt8)} {A B : Option Addr} {c d : Nat} (h : Rg (fun k => S k ∨ P k) w D ks A c B d) : Rg S w D ks A c B d := ⟨h.m, fun b hb hs => h.k b hb (.inl hs), fun b hb hs => h.p b hb (.inl hs)⟩
theorem write_Ok9 {D : Dsk} (ok : D.Ok) (i : Int) (l : List UInt8) : (D.write i l).1.Ok := by
  unfold Dsk.write
  by_cases h1 : D.dead = true
  · rw [if_pos h1]; exact ok
  · rw [if_neg h1]
    by_cases h2 : i < 0 ∨ (D.kept.length : Int) ≤ i
    · rw [if_pos h2]; exact ok
    · rw [if_neg h2]
      by_cases h3 : 128 < l.length
      · rw [if_pos h3]; exact ok
      · rw [if_neg h3]
        by_cases h4 : D.fuse = 0
        · rw [if_pos h4]; exact ok.burnt
        · rw [if_neg h4]; exact ok.wrote (by omega) (by omega)
def FW (X : World) (q : Nat) (D : Dsk) (ks : List (List UInt8)) (A : Option Addr) (c : Nat) (B : Option Addr) (d : Nat) : World := ((((X.setCell ⟨q, 0, none⟩ (.int .i64 (D.kept.length : Int))).setCell ⟨q, 1, none⟩ (.slice A ks.length c)).setCell ⟨q, 2, none⟩ (.slice B D.pend.length d)).setCell ⟨q, 3, none⟩ (.int .i64 D.fuse)).setCell ⟨q, 4, none⟩ (.bool D.dead)
set_option maxHeartbeats 4000000 in
theorem over_d {S : Nat → Prop} {w : World} {AP : Option Addr} {n cP : Nat} {D : Dsk} {ks : List (List UInt8)} {A B : Option Addr} {c d : Nat} (hS : ∀ k, S k → k < w.heap.size) (g : Rg S w D ks A c B d) (ok : D.Ok) (hp : D.pend.length ≤ 900000) (fr i : Nat) (hfr : fr + 8 * i + 8 ≤ D.kept.length) (s : ByteArray) (hs : s.size ≤ 1024) :
    Calls Tryd.prog 36 #[.agg #[.int .i64 fr, .slice AP n cP], rd D ks A c B d, .int .i64 i, .string s] w fun r w' => ∃ B' d', r = .returned (.tuple #[rd (putk 8 D ((fr + 8 * i : Nat) : Int) s.data.toList).1 ks A c B' d', .int .i64 (putk 8 D ((fr + 8 * i : Nat) : Int) s.data.toList).2]) ∧ Rg S w' (putk 8 D ((fr + 8 * i : Nat) : Int) s.data.toList).1 ks A c B' d' ∧ Turn (fun _ => False) w w' := by
  have hkm : D.kept.length ≤ 16384 := ok.most
  obtain ⟨W1, hW1⟩ : ∃ W, w.alloc (.cells #[.int .i64 fr, .slice AP n cP] 40) = W := ⟨_, rfl⟩
  have B1 : Hid (Blk W1 w.heap.size 40 [.int .i64 fr, .slice AP n cP]) := Lib.hid (hW1 ▸ Blk.new _ _ _)
  have T1 : Hid (Turn (fun _ => False) w W1) := Lib.hid (hW1 ▸ (Turn.refl _ _).alloc _)
  obtain ⟨W2, hW2⟩ : ∃ W, W1.alloc (.cells #[.int .i64 (D.kept.length : Int), .slice A ks.length c, .slice B D.pend.length d, .int .i64 D.fuse, .bool D.dead] 32) = W := ⟨_, rfl⟩
  have C2 : Hid (Blk W2 W1.heap.size 32 (rdc D ks A c B d)) := Lib.hid (hW2 ▸ Blk.new _ _ _)
  have B2 : Hid (Blk W2 w.heap.size 40 [.int .i64 fr, .slice AP n cP]) := Lib.hid (hW2 ▸ B1.out.alloc _)
  have T2 : Hid (Turn (fun _ => False) w W2) := Lib.hid (hW2 ▸ T1.out.alloc _)
  obtain ⟨W3, hW3⟩ : ∃ W, W2.alloc (.cells #[.int .i64 0, .slice none 0 0, .slice none 0 0, .int .i64 0, .bool false] 32) = W := ⟨_, rfl⟩
  have E3 : Hid (Blk W3 W2.heap.size 32 [.int .i64 0, .slice none 0 0, .slice none 0 0, .int .i64 0, .bool false]) := Lib.hid (hW3 ▸ Blk.new _ _ _)
  have C3 : Hid (Blk W3 W1.heap.size 32 (rdc D ks A c B d)) := Lib.hid (hW3 ▸ C2.out.alloc _)
  have B3 : Hid (Blk W3 w.heap.size 40 [.int .i64 fr, .slice AP n cP]) := Lib.hid (hW3 ▸ B2.out.alloc _)
  have T3 : Hid (Turn (fun _ => False) w W3) := Lib.hid (hW3 ▸ T2.out.alloc _)
  obtain ⟨mz, hmz⟩ : ∃ m, 1024 - s.size = m := ⟨_, rfl⟩
  have hmk := make_bytes_ mz (by omega) W3
  obtain ⟨W4, hW4⟩ : ∃ W, W3.alloc (.cells (bv (List.replicate mz 0)).toArray 5) = W := ⟨_, rfl⟩
  have Z4 : Hid (Blk W4 W3.heap.size 5 (bv (List.replicate mz 0))) := Lib.hid (hW4 ▸ Blk.new _ _ _)
  have E4 : Hid (Blk W4 W2.heap.size 32 [.int .i64 0, .slice none 0 0, .slice none 0 0, .int .i64 0, .bool false]) := Lib.hid (hW4 ▸ E3.out.alloc _)
  have C4 : Hid (Blk W4 W1.heap.size 32 (rdc D ks A c B d)) := Lib.hid (hW4 ▸ C3.out.alloc _)
  have B4 : Hid (Blk W4 w.heap.size 40 [.int .i64 fr, .slice AP n cP]) := Lib.hid (hW4 ▸ B3.out.alloc _)
  have T4 : Hid (Turn (fun _ => False) w W4) := Lib.hid (hW4 ▸ T3.out.alloc _)
  have hb1 := B1.out.lt
  have hb2 := C2.out.lt
  have hb3 := E3.out.lt
  have hb4 := Z4.out.lt
  rw [hW4] at hmk
  obtain ⟨SZ, hSZ⟩ : ∃ x : ByteArray, (⟨(List.replicate mz (0 : UInt8)).toArray⟩ : ByteArray) = x := ⟨_, rfl⟩
  have hzZ : SZ.size = mz := by rw [← hSZ]; show (List.replicate mz (0 : UInt8)).toArray.size = mz; simp
  have hcv : (convert 47 9 (.slice (some ⟨W3.heap.size, 0, none⟩) mz mz)).run Tryd.prog W4 = .ok (.string SZ) W4 := by
    rw [← hSZ]; exact sl_conv (sl_blk9 Z4.out (by simp) (by unfold maxLen; omega))
  have hsub := (wrap_of ((1024 : Int) - (s.size : Int)) (by omega) (by omega)).trans (show (1024 : Int) - (s.size : Int) = (mz : Int) by omega)
  have hS3 : (s ++ SZ).size = 1024 := by rw [ByteArray.size_append]; omega
  have hPK : Hid (putk 8 D ((fr + 8 * i : Nat) : Int) (s ++ SZ).data.toList = putk 8 D ((fr + 8 * i : Nat) : Int) s.data.toList) := Lib.hid (by
    have h9 : (s ++ SZ).data.toList = s.data.toList ++ List.replicate mz 0 := by rw [← hSZ]; simp
    have hls : s.data.toList.length = s.size := Array.length_toList
    rw [h9, putk_full9 8 D _ _ mz (by omega)])
  rw [← hPK.out]
  obtain ⟨q, hq⟩ : ∃ q, w.heap.size = q := ⟨_, rfl⟩
  obtain ⟨q1, hq1⟩ : ∃ q, W1.heap.size = q := ⟨_, rfl⟩
  obtain ⟨q2, hq2⟩ : ∃ q, W2.heap.size = q := ⟨_, rfl⟩
  have HG4 : Hid (Rg (fun k => S k ∨ k = q1 ∨ k = q2) W4 D ks A c B d) := Lib.hid ⟨g.m.still T4.out, fun b hb hs => by
    have h7 := own_lt_ g.m.kept b hb
    rcases hs with h | h | h
    · exact g.k b hb h
    · omega
    · omega, fun b hb hs => by
    have h7 := own_lt_ g.m.pend b hb
    rcases hs with h | h | h
    · exact g.p b hb h
    · omega
    · omega⟩
  have HSZ : Hid (∀ W : World, W4.heap.size ≤ W.heap.size → ∀ k, (S k ∨ k = q1 ∨ k = q2) → k < W.heap.size) := Lib.hid (fun W hW k hk => by
    rcases hk with h | h | h
    · have := hS k h; omega
    · omega
    · omega)
  obtain ⟨r, hr⟩ : ∃ r, fr + 8 * i = r := ⟨_, rfl⟩
  rw [hr] at hfr ⊢
  obtain ⟨R, hR⟩ : ∃ R, putk 8 D (r : Int) (s ++ SZ).data.toList = R := ⟨_, rfl⟩
  have HR := Lib.hid hR
  have HOK := Lib.hid ok
  have HPE := Lib.hid hp
  have HQ := Lib.hid hq
  have HQ1 := Lib.hid hq1
  have HQ2 := Lib.hid hq2
  unfold rd at *
  rw [hR]
  rw [hq] at hb1 B4
  rw [hq1] at hb1 hb2 C4
  rw [hq2] at hb2 hb3 E4
  clear hPK hSZ hq hq1 hq2 B1 T1 C2 B2 T2 E3 C3 B3 T3 Z4 g ok hS hR
  have FIN : Hid (∀ (X : World) (Dx : Dsk) (Bx : Option Addr) (dx : Nat), Blk X q1 32 (rdc Dx ks A c Bx dx) → Rg (fun k => S k ∨ k = q1 ∨ k = q2) X Dx ks A c Bx dx → Turn (fun k => k = q1) W4 X →
      (X.cell? ⟨q2, 0, none⟩ = some (.int .i64 0) ∧ X.cell? ⟨q2, 1, none⟩ = some (.slice none 0 0) ∧ X.cell? ⟨q2, 2, none⟩ = some (.slice none 0 0) ∧ X.cell? ⟨q2, 3, none⟩ = some (.int .i64 0) ∧ X.cell? ⟨q2, 4, none⟩ = some (.bool false) ∧ X.frozen? ⟨q2, 0, none⟩ = false ∧ X.frozen? ⟨q2, 1, none⟩ = false ∧ X.frozen? ⟨q2, 2, none⟩ = false ∧ X.frozen? ⟨q2, 3, none⟩ = false ∧ X.frozen? ⟨q2, 4, none⟩ = false) ∧
      (X.cell? ⟨q1, 0, none⟩ = some (.int .i64 (Dx.kept.length : Int)) ∧ X.cell? ⟨q1, 1, none⟩ = some (.slice A ks.length c) ∧ X.cell? ⟨q1, 2, none⟩ = some (.slice Bx Dx.pend.length dx) ∧ X.cell? ⟨q1, 3, none⟩ = some (.int .i64 Dx.fuse) ∧ X.cell? ⟨q1, 4, none⟩ = some (.bool Dx.dead)) ∧
      ((FW X q2 Dx ks A c Bx dx).cell? ⟨q2, 0, none⟩ = some (.int .i64 (Dx.kept.length : Int)) ∧ (FW X q2 Dx ks A c Bx dx).cell? ⟨q2, 1, none⟩ = some (.slice A ks.length c) ∧ (FW X q2 Dx ks A c Bx dx).cell? ⟨q2, 2, none⟩ = some (.slice Bx Dx.pend.length dx) ∧ (FW X q2 Dx ks A c Bx dx).cell? ⟨q2, 3, none⟩ = some (.int .i64 Dx.fuse) ∧ (FW X q2 Dx ks A c Bx dx).cell? ⟨q2, 4, none⟩ = some (.bool Dx.dead)) ∧
      Hid (Rg S (FW X q2 Dx ks A c Bx dx) Dx ks A c Bx dx) ∧ Hid (Turn (fun _ => False) w (FW X q2 Dx ks A c Bx dx))) := Lib.hid (fun X Dx Bx dx hB hG hT => by
    have h2 := E4.out.turn hT (by omega)
    obtain ⟨hb, ht⟩ := put5d h2 (.int .i64 (Dx.kept.length : Int)) (.slice A ks.length c) (.slice Bx Dx.pend.length dx) (.int .i64 Dx.fuse) (.bool Dx.dead)
    exact ⟨cells5f h2, cells5 hB, cells5 hb, Lib.hid ((hG.stp ⟨ht.mono (fun _ _ h => .inr (.inr h)), fun _ h => .inl h⟩).less9), Lib.hid ((T4.out.trans_new hT (fun k hk e => by have := HQ.out; omega)).trans_new ht (fun k hk e => by have := HQ.out; omega))⟩)
  unfold FW at FIN
  go_enter Tryd.func36, Tryd.ntmps36
  go_wp2_with fail
  all_goals try rw [if_neg (by omega)]
  go_wp2_with fail
  generalize hS3e : s ++ SZ = S3 at *
  clear hW1 hW2 hW3 hW4 hmk hcv hsub hS3e
  rw [HQ.out, HQ1.out, HQ2.out]
  go_loopw [10, 11, 12] (fun v10 v11 v12 wr => ∃ (k : Nat) (Dk : Dsk) (Bk : Option Addr) (dk : Nat), k ≤ 8 ∧ v10 = .int .i64 k ∧ Hid (Blk wr q1 32 (rdc Dk ks A c Bk dk)) ∧ Hid (Rg (fun k => S k ∨ k = q1 ∨ k = q2) wr Dk ks A c Bk dk) ∧ Hid Dk.Ok ∧ Dk.kept.length = D.kept.length ∧ Hid (Dk.pend.length ≤ D.pend.length + k) ∧ Hid (putk (8 - k) Dk ((r : Int) + k) (S3.data.toList.drop (128 * k)) = R) ∧ Hid (Turn (fun k => k = q1) W4 wr)) (fun v10 _ _ _ => 8 - (intOf v10).toNat)
  case atStart => exact ⟨0, D, B, d, by omega, rfl, C4, HG4, HOK, rfl, Lib.hid (Nat.le_refl _), Lib.hid (by have := HR.out; simpa using this), Lib.hid (Turn.refl _ _)⟩
  case round =>
    obtain ⟨k, Dk, Bk, dk, hk, rfl, HB, HG, HO, hkl, HPK, HRK, HTK⟩ := hrel
    obtain ⟨wx, rfl⟩ : ∃ W, W = wr := ⟨_, rfl⟩
    have HKL := Lib.hid hkl
    clear hkl
    have hsz := HTK.out.size
    by_cases hlt : k < 8
    · have hl1 : (k : Int) < 8 := by omega
      have hq := wrap_of ((k : Int) + 1) (by omega) (by omega)
      have m1 := wrap_of ((8 : Int) * (i : Int)) (by omega) (by omega)
      have m2 := (wrap_of ((fr : Int) + (8 : Int) * (i : Int)) (by omega) (by omega)).trans (show (fr : Int) + (8 : Int) * (i : Int) = (r : Int) by omega)
      have m3 := wrap_of ((r : Int) + (k : Int)) (by omega) (by omega)
      have m4 := wrap_of ((128 : Int) * (k : Int)) (by omega) (by omega)
      have m6 := (wrap_of ((128 : Int) * ((k : Int) + 1)) (by omega) (by omega)).trans (show (128 : Int) * ((k : Int) + 1) = (128 : Int) * (k : Int) + 128 by omega)
      have b0 := (cells2 (B4.out.turn HTK.out (by omega))).1
      have HFW : Hid (∀ X, Turn (fun _ => False) wx X → X.cell? ⟨q, 0, none⟩ = some (.int .i64 fr)) := Lib.hid (fun X hX => (cells2 ((B4.out.turn HTK.out (by omega)).turn hX (fun h => h))).1)
      have HBW : Hid (∀ X, Turn (fun _ => False) wx X → X.cell? ⟨q1, 0, none⟩ = some (.int .i64 (Dk.kept.length : Int)) ∧ X.cell? ⟨q1, 1, none⟩ = some (.slice A ks.length c) ∧ X.cell? ⟨q1, 2, none⟩ = some (.slice Bk Dk.pend.length dk) ∧ X.cell? ⟨q1, 3, none⟩ = some (.int .i64 Dk.fuse) ∧ X.cell? ⟨q1, 4, none⟩ = some (.bool Dk.dead)) := Lib.hid (fun X hX => cells5 (HB.out.turn hX (fun h => h)))
      obtain ⟨l, hl⟩ : ∃ l, S3.extract (128 * k) (128 * k + 128) = l := ⟨_, rfl⟩
      have hw1 := write_Ok9 HO.out ((r : Int) + k) l.data.toList
      have hw2 := write_len Dk ((r : Int) + k) l.data.toList
      have hw3 : if (Dk.write ((r : Int) + k) l.data.toList).2 = 0 then putk (8 - (k + 1)) (Dk.write ((r : Int) + k) l.data.toList).1 ((r : Int) + (k + 1 : Nat)) (S3.data.toList.drop (128 * (k + 1))) = R else Dk.write ((r : Int) + k) l.data.toList = R := by
        have h1 := HRK.out
        rw [show 8 - k = (8 - (k + 1)) + 1 by omega, putk] at h1
        have h2 : (S3.data.toList.drop (128 * k)).take 128 = l.data.toList := by
          rw [← hl]; simp [ByteArray.data_extract, List.take_drop]
        rw [h2, List.drop_drop, show 128 * k + 128 = 128 * (k + 1) by omega, show (r : Int) + (k : Int) + 1 = (r : Int) + ((k + 1 : Nat) : Int) by omega] at h1
        split at h1
        · rename_i h0; rw [if_pos h0]; exact h1
        · rename_i h0; rw [if_neg h0]; exact h1
      have HWR : Hid (∀ (S' : Nat → Prop) (X : World), Turn (fun _ => False) wx X → Rg S' X Dk ks A c Bk dk → (∀ j, S' j → j < X.heap.size) → Calls Tryd.prog 61 #[rd Dk ks A c Bk dk, .int .i64 ((r : Int) + k), .string l] X fun e w' => ∃ v, e = .returned v ∧ ∃ B' d', v = .tuple #[rd (Dk.write ((r : Int) + k) l.data.toList).1 ks A c B' d', .int .i64 (Dk.write ((r : Int) + k) l.data.toList).2] ∧ Rg S' w' (Dk.write ((r : Int) + k) l.data.toList).1 ks A c B' d' ∧ Turn (fun _ => False) X w') := Lib.hid (fun S' X hX hg hS => (write_rg hS hg HO.out (by have := HPK.out; have := HPE.out; omega) ((r : Int) + k) l).mono (by rintro e w' ⟨B', d', rfl, h1, h2⟩; exact ⟨_, rfl, B', d', rfl, h1, h2⟩))
      obtain ⟨D1, hD1⟩ : ∃ x, (Dk.write ((r : Int) + k) l.data.toList).1 = x := ⟨_, rfl⟩
      obtain ⟨E, hE1⟩ : ∃ x, (Dk.write ((r : Int) + k) l.data.toList).2 = x := ⟨_, rfl⟩
      have hDE : Dk.write ((r : Int) + k) l.data.toList = (D1, E) := by rw [← hD1, ← hE1]
      rw [hDE] at hw1 hw2 hw3 HWR
      have HO1 : Hid D1.Ok := Lib.hid hw1
      have HL1 : Hid (D1.kept.length = Dk.kept.length ∧ D1.pend.length ≤ Dk.pend.length + 1) := Lib.hid hw2
      have HST : Hid (if E = 0 then putk (8 - (k + 1)) D1 ((r : Int) + (k + 1 : Nat)) (S3.data.toList.drop (128 * (k + 1))) = R else (D1, E) = R) := Lib.hid hw3
      have HW : Hid (∀ (S' : Nat → Prop) (X : World), Turn (fun _ => False) wx X → Rg S' X Dk ks A c Bk dk → (∀ j, S' j → j < X.heap.size) → Calls Tryd.prog 61 #[.agg #[.int .i64 (Dk.kept.length : Int), .slice A ks.length c, .slice Bk Dk.pend.length dk, .int .i64 Dk.fuse, .bool Dk.dead], .int .i64 ((r : Int) + k), .string l] X fun e w' => ∃ v, e = .returned v ∧ ∃ B' d', v = .tuple #[.agg #[.int .i64 (D1.kept.length : Int), .slice A ks.length c, .slice B' D1.pend.length d', .int .i64 D1.fuse, .bool D1.dead], .int .i64 E] ∧ Rg S' w' D1 ks A c B' d' ∧ Turn (fun _ => False) X w') := HWR
      have HSLC : Hid (∀ X : World, (Instr.slice 9 (.string S3) (some (.int .i64 ((128 : Int) * (k : Int)))) (some (.int .i64 ((128 : Int) * (k : Int) + 128))) none).run Tryd.prog X = .ok (.string l) X) := Lib.hid (fun X => by
        have h3 := run_slice_string_if (P := Tryd.prog) X 9 S3 .i64 .i64 ((128 : Int) * (k : Int)) ((128 : Int) * (k : Int) + 128) Tryd.underlying9
        rw [if_pos (by rw [hS3]; omega), if_pos (by omega)] at h3
        rw [show ((128 : Int) * (k : Int)).toNat = 128 * k from by omega, show ((128 : Int) * (k : Int) + 128).toNat = 128 * k + 128 from by omega, hl] at h3
        exact h3)
      obtain ⟨y0, y1, y2, y3, y4⟩ := cells5 HB.out
      clear hw1 hw2 hw3 HWR hD1 hE1 hDE hl
      go_wp2_with fail
      refine wp_region_noPanic ?_
      refine wp_region_held_drew (S := fun X => Turn (fun _ => False) wx X) (by kernel_rfl) ((Turn.refl (fun _ => False) wx).drew) (fun hHeld => ?_)
      refine wpAnyH_named9 (fun X0 hX0 => ?_)
      have T0 : Hid (Turn (fun _ => False) wx X0) := Lib.hid (by rw [hX0]; exact (Turn.refl (fun _ => False) wx).drew)
      have hH0 := T0.out
      clear hHeld hX0 y0 y1 y2 y3 y4 b0
      -- r5
      refine wpAnyH_take (i := 0) (v := ?_) rfl (by kernel_rfl) (by kernel_rfl) (by kernel_rfl) (fun _ _ _ h => h) (Or.inl ⟨by rfl, ?_⟩) (by assumption) ?_
      rotate_left 1
      · intro w' hSw
        obtain ⟨y0, y1, y2, y3, y4⟩ := HBW.out _ hSw
        go_simp
        all_goals first | with_reducible rfl | (rw [if_neg (by omega)]; done) | (rw [if_neg (by omega)]; with_reducible rfl)
      try simp only [List.getElem_toArray, List.getElem_cons_zero, List.getElem_cons_succ, Act.put, List.setIfInBounds_toArray, List.set_cons_zero, List.set_cons_succ]
      refine wpAnyH_take (i := 1) (v := ?_) rfl (by kernel_rfl) (by kernel_rfl) (by kernel_rfl) (fun _ _ _ h => h) (Or.inl ⟨by rfl, ?_⟩) (by assumption) ?_
      rotate_left 1
      · intro w' hSw
        go_simp
        all_goals first | with_reducible rfl | (rw [if_neg (by omega)]; done) | (rw [if_neg (by omega)]; with_reducible rfl)
      try simp only [List.getElem_toArray, List.getElem_cons_zero, List.getElem_cons_succ, Act.put, List.setIfInBounds_toArray, List.set_cons_zero, List.set_cons_succ]
      refine wpAnyH_take (i := 2) (v := ?_) rfl (by kernel_rfl) (by kernel_rfl) (by kernel_rfl) (fun _ _ _ h => h) (Or.inl ⟨by rfl, ?_⟩) (by assumption) ?_
      rotate_left 1
      · intro w' hSw
        have b0 := HFW.out _ hSw
        go_simp
        all_goals first | with_reducible rfl | (rw [if_neg (by omega)]; done) | (rw [if_neg (by omega)]; with_reducible rfl)
      try simp only [List.getElem_toArray, List.getElem_cons_zero, List.getElem_cons_succ, Act.put, List.setIfInBounds_toArray, List.set_cons_zero, List.set_cons_succ]
      refine wpAnyH_take (i := 3) (v := ?_) rfl (by kernel_rfl) (by kernel_rfl) (by kernel_rfl) (fun _ _ _ h => h) (Or.inl ⟨by rfl, ?_⟩) (by assumption) ?_
      rotate_left 1
      · intro w' hSw
        go_simp
        all_goals first | with_reducible rfl | (rw [if_neg (by omega)]; done) | (rw [if_neg (by omega)]; with_reducible rfl)
      try simp only [List.getElem_toArray, List.getElem_cons_zero, List.getElem_cons_succ, Act.put, List.setIfInBounds_toArray, List.set_cons_zero, List.set_cons_succ]
      refine wpAnyH_take (i := 4) (v := ?_) rfl (by kernel_rfl) (by kernel_rfl) (by kernel_rfl) (fun _ _ _ h => h) (Or.inl ⟨by rfl, ?_⟩) (by assumption) ?_
      rotate_left 1
      · intro w' hSw
        go_simp
        all_goals first | with_reducible rfl | (rw [if_neg (by omega)]; done) | (rw [if_neg (by omega)]; with_reducible rfl)
      try simp only [List.getElem_toArray, List.getElem_cons_zero, List.getElem_cons_succ, Act.put, List.setIfInBounds_toArray, List.set_cons_zero, List.set_cons_succ]
      refine wpAnyH_take (i := 5) (v := ?_) rfl (by kernel_rfl) (by kernel_rfl) (by kernel_rfl) (fun _ _ _ h => h) (Or.inl ⟨by rfl, ?_⟩) (by assumption) ?_
      rotate_left 1
      · intro w' hSw
        go_simp
        all_goals first | with_reducible rfl | (rw [if_neg (by omega)]; done) | (rw [if_neg (by omega)]; with_reducible rfl)
      try simp only [List.getElem_toArray, List.getElem_cons_zero, List.getElem_cons_succ, Act.put, List.setIfInBounds_toArray, List.set_cons_zero, List.set_cons_succ]
      refine wpAnyH_take (i := 6) (v := ?_) rfl (by kernel_rfl) (by kernel_rfl) (by kernel_rfl) (fun _ _ _ h => h) (Or.inl ⟨by rfl, ?_⟩) (by assumption) ?_
      rotate_left 1
      · intro w' hSw
        go_simp
        all_goals first | with_reducible rfl | (rw [if_neg (by omega)]; done) | (rw [if_neg (by omega)]; with_reducible rfl)
      try simp only [List.getElem_toArray, List.getElem_cons_zero, List.getElem_cons_succ, Act.put, List.setIfInBounds_toArray, List.set_cons_zero, List.set_cons_succ]
      refine wpAnyH_take (i := 7) (v := ?_) rfl (by kernel_rfl) (by kernel_rfl) (by kernel_rfl) (fun _ _ _ h => h) (Or.inl ⟨by rfl, ?_⟩) (by assumption) ?_
      rotate_left 1
      · intro w' hSw
        go_simp
        all_goals first | with_reducible rfl | (rw [if_neg (by omega)]; done) | (rw [if_neg (by omega)]; with_reducible rfl)
      try simp only [List.getElem_toArray, List.getElem_cons_zero, List.getElem_cons_succ, Act.put, List.setIfInBounds_toArray, List.set_cons_zero, List.set_cons_succ]
      refine wpAnyH_take (i := 8) (v := ?_) rfl (by kernel_rfl) (by kernel_rfl) (by kernel_rfl) (fun _ _ _ h => h) (Or.inl ⟨by rfl, ?_⟩) (by assumption) ?_
      rotate_left 1
      · intro w' hSw
        go_simp
        all_goals first | with_reducible rfl | (rw [if_neg (by omega)]; done) | (rw [if_neg (by omega)]; with_reducible rfl)
      try simp only [List.getElem_toArray, List.getElem_cons_zero, List.getElem_cons_succ, Act.put, List.setIfInBounds_toArray, List.set_cons_zero, List.set_cons_succ]
      refine wpAnyH_take (i := 9) (v := ?_) rfl (by kernel_rfl) (by kernel_rfl) (by kernel_rfl) (fun _ _ _ h => h) (Or.inl ⟨by rfl, ?_⟩) (by assumption) ?_
      rotate_left 1
      · intro w' hSw
        go_simp
        all_goals first | with_reducible rfl | (rw [if_neg (by omega)]; done) | (rw [if_neg (by omega)]; with_reducible rfl)
      try simp only [List.getElem_toArray, List.getElem_cons_zero, List.getElem_cons_succ, Act.put, List.setIfInBounds_toArray, List.set_cons_zero, List.set_cons_succ]
      refine wpAnyH_take (i := 10) (v := ?_) rfl (by kernel_rfl) (by kernel_rfl) (by kernel_rfl) (fun _ _ _ h => h) (Or.inl ⟨by rfl, ?_⟩) (by assumption) ?_
      rotate_left 1
      · intro w' hSw
        go_simp
        all_goals first | with_reducible rfl | (rw [if_neg (by omega)]; done) | (rw [if_neg (by omega)]; with_reducible rfl)
      try simp only [List.getElem_toArray, List.getElem_cons_zero, List.getElem_cons_succ, Act.put, List.setIfInBounds_toArray, List.set_cons_zero, List.set_cons_succ]
      refine wpAnyH_take (i := 11) (v := ?_) rfl (by kernel_rfl) (by kernel_rfl) (by kernel_rfl) (fun _ _ _ h => h) (Or.inl ⟨by rfl, ?_⟩) (by assumption) ?_
      rotate_left 1
      · intro w' hSw
        go_simp
        all_goals first | with_reducible rfl | (rw [if_neg (by omega)]; done) | (rw [if_neg (by omega)]; with_reducible rfl)
      try simp only [List.getElem_toArray, List.getElem_cons_zero, List.getElem_cons_succ, Act.put, List.setIfInBounds_toArray, List.set_cons_zero, List.set_cons_succ]
      refine wpAnyH_take (i := 12) (v := ?_) rfl (by kernel_rfl) (by kernel_rfl) (by kernel_rfl) (fun _ _ _ h => h) (Or.inl ⟨by rfl, ?_⟩) (by assumption) ?_
      rotate_left 1
      · intro w' hSw
        go_simp
        all_goals first | with_reducible rfl | (rw [if_neg (by omega)]; done) | (rw [if_neg (by omega)]; with_reducible rfl)
      try simp only [List.getElem_toArray, List.getElem_cons_zero, List.getElem_cons_succ, Act.put, List.setIfInBounds_toArray, List.set_cons_zero, List.set_cons_succ]
      refine wpAnyH_take (i := 13) (v := ?_) rfl (by kernel_rfl) (by kernel_rfl) (by kernel_rfl) (fun _ _ _ h => h) (Or.inl ⟨by rfl, ?_⟩) (by assumption) ?_
      rotate_left 1
      · intro w' hSw
        go_simp
        all_goals first | with_reducible rfl | (rw [if_neg (by omega)]; done) | (rw [if_neg (by omega)]; with_reducible rfl)
      try simp only [List.getElem_toArray, List.getElem_cons_zero, List.getElem_cons_succ, Act.put, List.setIfInBounds_toArray, List.set_cons_zero, List.set_cons_succ]
      refine wpAnyH_take (i := 14) (v := ?_) rfl (by kernel_rfl) (by kernel_rfl) (by kernel_rfl) (fun _ _ _ h => h) (Or.inl ⟨by rfl, ?_⟩) (by assumption) ?_
      rotate_left 1
      · intro w' hSw
        have y9 := HSLC.out w'
        go_simp
        all_goals first | with_reducible rfl | (rw [if_neg (by omega)]; done) | (rw [if_neg (by omega)]; with_reducible rfl)
      try simp only [List.getElem_toArray, List.getElem_cons_zero, List.getElem_cons_succ, Act.put, List.setIfInBounds_toArray, List.set_cons_zero, List.set_cons_succ]
      refine wpAnyH_ready (rs := [15, 19]) (by kernel_rfl) (by simp) ?_
      refine AllReadyH.cons rfl (fun K hK => ?_) (AllReadyH.cons rfl (fun K hK => ?_) AllReadyH.nil)
      · refine step_call rfl 61 Tryd.f61 _ _ rfl Tryd.func61 (by kernel_rfl) (by kernel_rfl) _ _ (HW.out (fun j => S j ∨ j = q1 ∨ j = q2) _ T0.out (HG.out.still T0.out) (fun j hj => HSZ.out _ (by have := T0.out.size; omega) j hj)) (by go_simp) ?_
        rintro v5 w5 ⟨B5, d5, rfl, hg5, ht5⟩
        have G5a := Lib.hid hg5
        have T5 := Lib.hid (T0.out.trans ht5)
        clear hg5 ht5
        refine hK.out _ _ T5.out (fun hHeld => ?_)
        clear hK K hHeld
        try simp only [List.getElem_toArray, List.getElem_cons_zero, List.getElem_cons_succ, Act.put, List.setIfInBounds_toArray, List.set_cons_zero, List.set_cons_succ]
        refine wpAnyH_take (i := 16) (v := ?_) rfl (by kernel_rfl) (by kernel_rfl) (by kernel_rfl) (fun _ _ _ h => h) (Or.inl ⟨by rfl, ?_⟩) (by assumption) ?_
        rotate_left 1
        · intro w' hSw
          go_simp
          all_goals first | with_reducible rfl | (rw [if_neg (by omega)]; done) | (rw [if_neg (by omega)]; with_reducible rfl)
        try simp only [List.getElem_toArray, List.getElem_cons_zero, List.getElem_cons_succ, Act.put, List.setIfInBounds_toArray, List.set_cons_zero, List.set_cons_succ]
        refine wpAnyH_take (i := 17) (v := ?_) rfl (by kernel_rfl) (by kernel_rfl) (by kernel_rfl) (fun _ _ _ h => h) (Or.inl ⟨by rfl, ?_⟩) (by assumption) ?_
        rotate_left 1
        · intro w' hSw
          go_simp
          all_goals first | with_reducible rfl | (rw [if_neg (by omega)]; done) | (rw [if_neg (by omega)]; with_reducible rfl)
        try simp only [List.getElem_toArray, List.getElem_cons_zero, List.getElem_cons_succ, Act.put, List.setIfInBounds_toArray, List.set_cons_zero, List.set_cons_succ]
        refine wpAnyH_take (i := 18) (v := ?_) rfl (by kernel_rfl) (by kernel_rfl) (by kernel_rfl) (fun _ _ _ h => h) (Or.inl ⟨by rfl, ?_⟩) (by assumption) ?_
        rotate_left 1
        · intro w' hSw
          go_simp
          all_goals first | with_reducible rfl | (rw [if_neg (by omega)]; done) | (rw [if_neg (by omega)]; with_reducible rfl)
        try simp only [List.getElem_toArray, List.getElem_cons_zero, List.getElem_cons_succ, Act.put, List.setIfInBounds_toArray, List.set_cons_zero, List.set_cons_succ]
        refine wpAnyH_ready (rs := [19]) (by kernel_rfl) (by simp) ?_
        refine AllReadyH.cons rfl (fun K hK => ?_) AllReadyH.nil
        go_simp
        refine hK.out _ _ (T5.out.alloc _) (fun hHeld => ?_)
        refine wpAnyH_named9 (fun X6 e6 => ?_)
        have T6 : Hid (Turn (fun _ => False) wx X6) := Lib.hid (by rw [e6]; exact T5.out.alloc _)
        have NX : Hid (Blk X6 w5.heap.size 32 [.int .i64 0, .slice none 0 0, .slice none 0 0, .int .i64 0, .bool false]) := Lib.hid (by rw [e6]; exact Blk.new _ _ _)
        have G5 : Hid (Rg (fun j => (S j ∨ j = q1 ∨ j = q2) ∨ j = w5.heap.size) X6 D1 ks A c B5 d5) := Lib.hid (by rw [e6]; exact (G5a.out.plus9 (Nat.le_refl _)).still ((Turn.refl _ _).alloc _))
        have N5 := NX
        have hx5 := N5.out.lt
        have hx0 : wx.heap.size ≤ w5.heap.size := T5.out.size
        have hHn := T6.out
        clear hK K hHeld e6
        try simp only [List.getElem_toArray, List.getElem_cons_zero, List.getElem_cons_succ, Act.put, List.setIfInBounds_toArray, List.set_cons_zero, List.set_cons_succ]
        refine wpAnyH_ready (rs := [20]) (by kernel_rfl) (by simp) ?_
        refine AllReadyH.cons rfl (fun K hK => ?_) AllReadyH.nil
        obtain ⟨r0, r1, r2, r3, r4, f0, f1, f2, f3, f4⟩ := cells5f N5.out
        obtain ⟨hbx, htx⟩ := put5d N5.out (.int .i64 (D1.kept.length : Int)) (.slice A ks.length c) (.slice B5 D1.pend.length d5) (.int .i64 D1.fuse) (.bool D1.dead)
        have hS7 := T6.out.trans_new htx (fun j hj e => by omega)
        go_simp
        refine hK.out _ _ hS7 (fun hHeld => ?_)
        refine wpAnyH_named9 (fun X7 e7 => ?_)
        have T7 : Hid (Turn (fun _ => False) wx X7) := Lib.hid (by rw [e7]; exact hS7)
        have N7 : Hid (Blk X7 (w5.heap.size) 32 (rdc D1 ks A c B5 d5)) := Lib.hid (by rw [e7]; exact hbx)
        have G7 : Hid (Rg (fun j => S j ∨ j = q1 ∨ j = q2) X7 D1 ks A c B5 d5) := Lib.hid (by rw [e7]; exact (G5.out.stp ⟨htx.mono (fun _ _ h => .inr h), fun _ h => .inl h⟩).less9)
        have hHm := T7.out
        clear hK K hHeld e7 hS7 hbx htx r0 r1 r2 r3 r4 f0 f1 f2 f3 f4
        try simp only [List.getElem_toArray, List.getElem_cons_zero, List.getElem_cons_succ, Act.put, List.setIfInBounds_toArray, List.set_cons_zero, List.set_cons_succ]
        refine wpAnyH_take (i := 21) (v := ?_) rfl (by kernel_rfl) (by kernel_rfl) (by kernel_rfl) (fun _ _ _ h => h) (Or.inl ⟨by rfl, ?_⟩) (by assumption) ?_
        rotate_left 1
        · intro w' hSw
          go_simp
          all_goals first | with_reducible rfl | (rw [if_neg (by omega)]; done) | (rw [if_neg (by omega)]; with_reducible rfl)
        try simp only [List.getElem_toArray, List.getElem_cons_zero, List.getElem_cons_succ, Act.put, List.setIfInBounds_toArray, List.set_cons_zero, List.set_cons_succ]
        refine wpAnyH_done (by kernel_rfl) ?_ _
        refine NoPanic.normal ?_
        obtain ⟨xb, hxb⟩ : ∃ xb, w5.heap.size = xb := ⟨_, rfl⟩
        rw [hxb] at N7 hx0 ⊢
        clear hxb
        have hqx : ¬ xb = q1 := by have := HB.out.lt; omega
        obtain ⟨p0, p1, p2, p3, p4⟩ := cells5 N7.out
        have HB7 := Lib.hid (HB.out.turn T7.out (fun h => h))
        obtain ⟨s0, s1, s2, s3, s4, f0, f1, f2, f3, f4⟩ := cells5f HB7.out
        obtain ⟨hb8, ht8⟩ := put5d HB7.out (.int .i64 (D1.kept.length : Int)) (.slice A ks.length c) (.slice B5 D1.pend.length d5) (.int .i64 D1.fuse) (.bool D1.dead)
        obtain ⟨X8, hX8⟩ : ∃ W, ((((X7.setCell ⟨q1, 0, none⟩ (.int .i64 (D1.kept.length : Int))).setCell ⟨q1, 1, none⟩ (.slice A ks.length c)).setCell ⟨q1, 2, none⟩ (.slice B5 D1.pend.length d5)).setCell ⟨q1, 3, none⟩ (.int .i64 D1.fuse)).setCell ⟨q1, 4, none⟩ (.bool D1.dead) = W := ⟨_, rfl⟩
        rw [hX8] at hb8 ht8
        have HB8 : Hid (Blk X8 q1 32 (rdc D1 ks A c B5 d5)) := Lib.hid hb8
        have T8 : Hid (Turn (fun k => k = q1) W4 X8) := Lib.hid (HTK.out.trans ((T7.out.mono (fun _ _ h => h.elim)).trans ht8))
        have G8 : Hid (Rg (fun k => S k ∨ k = q1 ∨ k = q2) X8 D1 ks A c B5 d5) := Lib.hid (G7.out.stp ⟨ht8.mono (fun _ _ h => .inr (.inl h)), fun _ h => .inl h⟩)
        clear hb8 ht8 HB7
        by_cases hE : E = 0
        · subst hE
          have hRN := HST.out
          rw [if_pos rfl] at hRN
          have HRN := Lib.hid hRN
          clear hRN
          go_wp2_with fail
          go_roundw
          case rel => exact ⟨k + 1, D1, B5, d5, by omega, by simp [hq], HB8, G8, HO1, by have := HL1.out.1; have := HKL.out; omega, Lib.hid (by have := HL1.out.2; have := HPK.out; omega), HRN, T8⟩
          case measure => simp [intOf, hq]; omega
        · have hRN := HST.out
          rw [if_neg hE] at hRN
          subst hRN
          have hE2 : (E != 0) = true := by simpa using hE
          obtain ⟨⟨z0, z1, z2, z3, z4, g0, g1, g2, g3, g4⟩, ⟨v0, v1, v2, v3, v4⟩, ht5, hRF, hTF⟩ := FIN.out X8 D1 B5 d5 HB8.out G8.out T8.out
          have HT5 := Lib.hid ht5
          clear ht5
          go_wp2_with fail
          obtain ⟨t0, t1, t2, t3, t4⟩ := HT5.out
          exact bodyPost_ret (v := .tuple #[.agg #[.int .i64 (D1.kept.length : Int), .slice A ks.length c, .slice B5 D1.pend.length d5, .int .i64 D1.fuse, .bool D1.dead], .int .i64 E]) (by simp [results, Tryd.results36, go_sem, t0, t1, t2, t3, t4]) rfl ⟨B5, d5, rfl, hRF.out, hTF.out⟩
      · go_simp
        refine hK.out _ _ (T0.out.alloc _) (fun hHeld => ?_)
        refine wpAnyH_named9 (fun X6 e6 => ?_)
        have T6 : Hid (Turn (fun _ => False) wx X6) := Lib.hid (by rw [e6]; exact T0.out.alloc _)
        have NX : Hid (Blk X6 X0.heap.size 32 [.int .i64 0, .slice none 0 0, .slice none 0 0, .int .i64 0, .bool false]) := Lib.hid (by rw [e6]; exact Blk.new _ _ _)
        have GX : Hid (Rg (fun j => (S j ∨ j = q1 ∨ j = q2) ∨ j = X0.heap.size) X6 Dk ks A c Bk dk) := Lib.hid (by rw [e6]; exact ((HG.out.still T0.out).plus9 (Nat.le_refl _)).still ((Turn.refl _ _).alloc _))
        have hx6 := NX.out.lt
        have hx0 : wx.heap.size ≤ X0.heap.size := T0.out.size
        have hHn := T6.out
        clear hK K hHeld e6
        try simp only [List.getElem_toArray, List.getElem_cons_zero, List.getElem_cons_succ, Act.put, List.setIfInBounds_toArray, List.set_cons_zero, List.set_cons_succ]
        refine wpAnyH_ready (rs := [15]) (by kernel_rfl) (by simp) ?_
        refine AllReadyH.cons rfl (fun K hK => ?_) AllReadyH.nil
        refine step_call rfl 61 Tryd.f61 _ _ rfl Tryd.func61 (by kernel_rfl) (by kernel_rfl) _ _ (HW.out (fun j => (S j ∨ j = q1 ∨ j = q2) ∨ j = X0.heap.size) _ T6.out GX.out (fun j hj => by rcases hj with h | h; exact HSZ.out _ (by have := T6.out.size; omega) j h; omega)) (by go_simp) ?_
        rintro v5 w5 ⟨B5, d5, rfl, hg5, ht5⟩
        have G5 := Lib.hid hg5
        have T5 := Lib.hid (T6.out.trans ht5)
        have N5 := Lib.hid (NX.out.turn ht5 (fun h => h))
        have hx5 := N5.out.lt
        clear hg5 ht5
        refine hK.out _ _ T5.out (fun hHeld => ?_)
        clear hK K hHeld
        try simp only [List.getElem_toArray, List.getElem_cons_zero, List.getElem_cons_succ, Act.put, List.setIfInBounds_toArray, List.set_cons_zero, List.set_cons_succ]
        refine wpAnyH_take (i := 16) (v := ?_) rfl (by kernel_rfl) (by kernel_rfl) (by kernel_rfl) (fun _ _ _ h => h) (Or.inl ⟨by rfl, ?_⟩) (by assumption) ?_
        rotate_left 1
        · intro w' hSw
          go_simp
          all_goals first | with_reducible rfl | (rw [if_neg (by omega)]; done) | (rw [if_neg (by omega)]; with_reducible rfl)
        try simp only [List.getElem_toArray, List.getElem_cons_zero, List.getElem_cons_succ, Act.put, List.setIfInBounds_toArray, List.set_cons_zero, List.set_cons_succ]
        refine wpAnyH_take (i := 17) (v := ?_) rfl (by kernel_rfl) (by kernel_rfl) (by kernel_rfl) (fun _ _ _ h => h) (Or.inl ⟨by rfl, ?_⟩) (by assumption) ?_
        rotate_left 1
        · intro w' hSw
          go_simp
          all_goals first | with_reducible rfl | (rw [if_neg (by omega)]; done) | (rw [if_neg (by omega)]; with_reducible rfl)
        try simp only [List.getElem_toArray, List.getElem_cons_zero, List.getElem_cons_succ, Act.put, List.setIfInBounds_toArray, List.set_cons_zero, List.set_cons_succ]
        refine wpAnyH_take (i := 18) (v := ?_) rfl (by kernel_rfl) (by kernel_rfl) (by kernel_rfl) (fun _ _ _ h => h) (Or.inl ⟨by rfl, ?_⟩) (by assumption) ?_
        rotate_left 1
        · intro w' hSw
          go_simp
          all_goals first | with_reducible rfl | (rw [if_neg (by omega)]; done) | (rw [if_neg (by omega)]; with_reducible rfl)
        try simp only [List.getElem_toArray, List.getElem_cons_zero, List.getElem_cons_succ, Act.put, List.setIfInBounds_toArray, List.set_cons_zero, List.set_cons_succ]
        refine wpAnyH_ready (rs := [20]) (by kernel_rfl) (by simp) ?_
        refine AllReadyH.cons rfl (fun K hK => ?_) AllReadyH.nil
        obtain ⟨r0, r1, r2, r3, r4, f0, f1, f2, f3, f4⟩ := cells5f N5.out
        obtain ⟨hbx, htx⟩ := put5d N5.out (.int .i64 (D1.kept.length : Int)) (.slice A ks.length c) (.slice B5 D1.pend.length d5) (.int .i64 D1.fuse) (.bool D1.dead)
        have hS7 := T5.out.trans_new htx (fun j hj e => by omega)
        go_simp
        refine hK.out _ _ hS7 (fun hHeld => ?_)
        refine wpAnyH_named9 (fun X7 e7 => ?_)
        have T7 : Hid (Turn (fun _ => False) wx X7) := Lib.hid (by rw [e7]; exact hS7)
        have N7 : Hid (Blk X7 (X0.heap.size) 32 (rdc D1 ks A c B5 d5)) := Lib.hid (by rw [e7]; exact hbx)
        have G7 : Hid (Rg (fun j => S j ∨ j = q1 ∨ j = q2) X7 D1 ks A c B5 d5) := Lib.hid (by rw [e7]; exact (G5.out.stp ⟨htx.mono (fun _ _ h => .inr h), fun _ h => .inl h⟩).less9)
        have hHm := T7.out
        clear hK K hHeld e7 hS7 hbx htx r0 r1 r2 r3 r4 f0 f1 f2 f3 f4
        try simp only [List.getElem_toArray, List.getElem_cons_zero, List.getElem_cons_succ, Act.put, List.setIfInBounds_toArray, List.set_cons_zero, List.set_cons_succ]
        refine wpAnyH_take (i := 21) (v := ?_) rfl (by kernel_rfl) (by kernel_rfl) (by kernel_rfl) (fun _ _ _ h => h) (Or.inl ⟨by rfl, ?_⟩) (by assumption) ?_
        rotate_left 1
        · intro w' hSw
          go_simp
          all_goals first | with_reducible rfl | (rw [if_neg (by omega)]; done) | (rw [if_neg (by omega)]; with_reducible rfl)
        try simp only [List.getElem_toArray, List.getElem_cons_zero, List.getElem_cons_succ, Act.put, List.setIfInBounds_toArray, List.set_cons_zero, List.set_cons_succ]
        refine wpAnyH_done (by kernel_rfl) ?_ _
        refine NoPanic.normal ?_
        obtain ⟨xb, hxb⟩ : ∃ xb, X0.heap.size = xb := ⟨_, rfl⟩
        rw [hxb] at N7 hx0 ⊢
        clear hxb
        have hqx : ¬ xb = q1 := by have := HB.out.lt; omega
        obtain ⟨p0, p1, p2, p3, p4⟩ := cells5 N7.out
        have HB7 := Lib.hid (HB.out.turn T7.out (fun h => h))
        obtain ⟨s0, s1, s2, s3, s4, f0, f1, f2, f3, f4⟩ := cells5f HB7.out
        obtain ⟨hb8, ht8⟩ := put5d HB7.out (.int .i64 (D1.kept.length : Int)) (.slice A ks.length c) (.slice B5 D1.pend.length d5) (.int .i64 D1.fuse) (.bool D1.dead)
        obtain ⟨X8, hX8⟩ : ∃ W, ((((X7.setCell ⟨q1, 0, none⟩ (.int .i64 (D1.kept.length : Int))).setCell ⟨q1, 1, none⟩ (.slice A ks.length c)).setCell ⟨q1, 2, none⟩ (.slice B5 D1.pend.length d5)).setCell ⟨q1, 3, none⟩ (.int .i64 D1.fuse)).setCell ⟨q1, 4, none⟩ (.bool D1.dead) = W := ⟨_, rfl⟩
        rw [hX8] at hb8 ht8
        have HB8 : Hid (Blk X8 q1 32 (rdc D1 ks A c B5 d5)) := Lib.hid hb8
        have T8 : Hid (Turn (fun k => k = q1) W4 X8) := Lib.hid (HTK.out.trans ((T7.out.mono (fun _ _ h => h.elim)).trans ht8))
        have G8 : Hid (Rg (fun k => S k ∨ k = q1 ∨ k = q2) X8 D1 ks A c B5 d5) := Lib.hid (G7.out.stp ⟨ht8.mono (fun _ _ h => .inr (.inl h)), fun _ h => .inl h⟩)
        clear hb8 ht8 HB7
        by_cases hE : E = 0
        · subst hE
          have hRN := HST.out
          rw [if_pos rfl] at hRN
          have HRN := Lib.hid hRN
          clear hRN
          go_wp2_with fail
          go_roundw
          case rel => exact ⟨k + 1, D1, B5, d5, by omega, by simp [hq], HB8, G8, HO1, by have := HL1.out.1; have := HKL.out; omega, Lib.hid (by have := HL1.out.2; have := HPK.out; omega), HRN, T8⟩
          case measure => simp [intOf, hq]; omega
        · have hRN := HST.out
          rw [if_neg hE] at hRN
          subst hRN
          have hE2 : (E != 0) = true := by simpa using hE
          obtain ⟨⟨z0, z1, z2, z3, z4, g0, g1, g2, g3, g4⟩, ⟨v0, v1, v2, v3, v4⟩, ht5, hRF, hTF⟩ := FIN.out X8 D1 B5 d5 HB8.out G8.out T8.out
          have HT5 := Lib.hid ht5
          clear ht5
          go_wp2_with fail
          obtain ⟨t0, t1, t2, t3, t4⟩ := HT5.out
          exact bodyPost_ret (v := .tuple #[.agg #[.int .i64 (D1.kept.length : Int), .slice A ks.length c, .slice B5 D1.pend.length d5, .int .i64 D1.fuse, .bool D1.dead], .int .i64 E]) (by simp [results, Tryd.results36, go_sem, t0, t1, t2, t3, t4]) rfl ⟨B5, d5, rfl, hRF.out, hTF.out⟩
      -- r5 end
    · obtain rfl : k = 8 := by omega
      have hRN := HRK.out
      rw [show 8 - 8 = 0 from rfl, putk] at hRN
      subst hRN
      obtain ⟨⟨z0, z1, z2, z3, z4, g0, g1, g2, g3, g4⟩, ⟨v0, v1, v2, v3, v4⟩, ht5, hRF, hTF⟩ := FIN.out wx Dk Bk dk HB.out HG.out HTK.out
      have HT5 := Lib.hid ht5
      clear ht5
      go_wp2_with fail
      obtain ⟨t0, t1, t2, t3, t4⟩ := HT5.out
      exact bodyPost_ret (v := .tuple #[.agg #[.int .i64 (Dk.kept.length : Int), .slice A ks.length c, .slice Bk Dk.pend.length dk, .int .i64 Dk.fuse, .bool Dk.dead], .int .i64 0]) (by simp [results, Tryd.results36, go_sem, t0, t1, t2, t3, t4]) rfl ⟨Bk, dk, rfl, hRF.out, hTF.out⟩
end Go.Proofs.YtmedljnbcpdoeaaDoor
/- Layer 9: the document's pager: Rewrite. -/
namespace Go.Proofs.YtmedljnbcpdoeaaDoor
open Go.RowKit Go.Maps
set_option linter.unusedVariables false
set_option linter.unusedSimpArgs false
set_option maxRecDepth 100000

set_option maxHeartbeats 4000000 in
theorem rewrite_d {S : Nat → Prop} {w : World} {v : Value} {st : List Nat} {D : Dsk} {ks : List (List UInt8)} {A B : Option Addr} {c d : Nat} (hS : ∀ k, S k → k < w.heap.size) (h : Rd9 S w v (il9 st)) (g : Rg S w D ks A c B d) (ok : D.Ok) (hp : D.pend.length ≤ 900000) (fr : Nat) (hfr : fr + 8 * st.length ≤ D.kept.length) (i : Int) (s : ByteArray) :
    Calls Tryd.prog 10 #[.agg #[.int .i64 fr, v], rd D ks A c B d, .int .i64 i, .string s] w fun r w' => ∃ B' d', r = .returned (.tuple #[rd (rwr9 fr st D i s.data.toList).1 ks A c B' d', .int .i64 (rwr9 fr st D i s.data.toList).2]) ∧ Rg S w' (rwr9 fr st D i s.data.toList).1 ks A c B' d' ∧ Turn (fun _ => False) w w' := by
  obtain ⟨AP, cP, rfl, hir, _⟩ := h.ir
  rw [len_il9] at h ⊢
  have hkm : D.kept.length ≤ 16384 := ok.most
  have HI := Lib.hid hir
  obtain ⟨n, hn⟩ : ∃ n, st.length = n := ⟨_, rfl⟩
  have HN := Lib.hid hn
  rw [hn] at hfr ⊢
  obtain ⟨W1, hW1⟩ : ∃ W, w.alloc (.cells #[.int .i64 fr, .slice AP n cP] 40) = W := ⟨_, rfl⟩
  have B1 : Hid (Blk W1 w.heap.size 40 [.int .i64 fr, .slice AP n cP]) := Lib.hid (hW1 ▸ Blk.new _ _ _)
  have T1 : Hid (Turn (fun _ => False) w W1) := Lib.hid (hW1 ▸ (Turn.refl _ _).alloc _)
  obtain ⟨W2, hW2⟩ : ∃ W, W1.alloc (.cells #[.int .i64 (D.kept.length : Int), .slice A ks.length c, .slice B D.pend.length d, .int .i64 D.fuse, .bool D.dead] 32) = W := ⟨_, rfl⟩
  have C2 : Hid (Blk W2 W1.heap.size 32 (rdc D ks A c B d)) := Lib.hid (hW2 ▸ Blk.new _ _ _)
  have B2 : Hid (Blk W2 w.heap.size 40 [.int .i64 fr, .slice AP n cP]) := Lib.hid (hW2 ▸ B1.out.alloc _)
  have T2 : Hid (Turn (fun _ => False) w W2) := Lib.hid (hW2 ▸ T1.out.alloc _)
  obtain ⟨W3, hW3⟩ : ∃ W, W2.alloc (.cells #[.int .i64 0, .slice none 0 0, .slice none 0 0, .int .i64 0, .bool false] 32) = W := ⟨_, rfl⟩
  have E3 : Hid (Blk W3 W2.heap.size 32 [.int .i64 0, .slice none 0 0, .slice none 0 0, .int .i64 0, .bool false]) := Lib.hid (hW3 ▸ Blk.new _ _ _)
  have C3 : Hid (Blk W3 W1.heap.size 32 (rdc D ks A c B d)) := Lib.hid (hW3 ▸ C2.out.alloc _)
  have B3 : Hid (Blk W3 w.heap.size 40 [.int .i64 fr, .slice AP n cP]) := Lib.hid (hW3 ▸ B2.out.alloc _)
  have T3 : Hid (Turn (fun _ => False) w W3) := Lib.hid (hW3 ▸ T2.out.alloc _)
  have hb1 := B1.out.lt
  have hb2 := C2.out.lt
  have hb3 := E3.out.lt
  have BPW : Hid (∀ W, Turn (fun _ => False) W3 W → W.cell? ⟨w.heap.size, 0, none⟩ = some (.int .i64 fr) ∧ W.cell? ⟨w.heap.size, 1, none⟩ = some (.slice AP n cP)) := Lib.hid (fun W hW => by obtain ⟨x0, x1, _, _⟩ := cells2 (B3.out.turn hW (fun h => h)); exact ⟨x0, x1⟩)
  have BDW : Hid (∀ W, Turn (fun _ => False) W3 W → W.cell? ⟨W1.heap.size, 0, none⟩ = some (.int .i64 (D.kept.length : Int)) ∧ W.cell? ⟨W1.heap.size, 1, none⟩ = some (.slice A ks.length c) ∧ W.cell? ⟨W1.heap.size, 2, none⟩ = some (.slice B D.pend.length d) ∧ W.cell? ⟨W1.heap.size, 3, none⟩ = some (.int .i64 D.fuse) ∧ W.cell? ⟨W1.heap.size, 4, none⟩ = some (.bool D.dead)) := Lib.hid (fun W hW => cells5 (C3.out.turn hW (fun h => h)))
  have HG3 : Hid (Rg (fun k => S k ∨ k = W2.heap.size) W3 D ks A c B d) := Lib.hid ⟨g.m.still T3.out, fun b hb hs => by
    have h7 := own_lt_ g.m.kept b hb
    rcases hs with h | h
    · exact g.k b hb h
    · omega, fun b hb hs => by
    have h7 := own_lt_ g.m.pend b hb
    rcases hs with h | h
    · exact g.p b hb h
    · omega⟩
  have HSZ : Hid (∀ W : World, W3.heap.size ≤ W.heap.size → ∀ k, (S k ∨ k = W2.heap.size) → k < W.heap.size) := Lib.hid (fun W hW k hk => by
    rcases hk with h | h
    · have := hS k h; omega
    · omega)
  have FIN : Hid (∀ (X : World) (Dx : Dsk) (Bx : Option Addr) (dx : Nat), Rg (fun k => S k ∨ k = W2.heap.size) X Dx ks A c Bx dx → Turn (fun _ => False) W3 X →
      (X.cell? ⟨W2.heap.size, 0, none⟩ = some (.int .i64 0) ∧ X.cell? ⟨W2.heap.size, 1, none⟩ = some (.slice none 0 0) ∧ X.cell? ⟨W2.heap.size, 2, none⟩ = some (.slice none 0 0) ∧ X.cell? ⟨W2.heap.size, 3, none⟩ = some (.int .i64 0) ∧ X.cell? ⟨W2.heap.size, 4, none⟩ = some (.bool false) ∧ X.frozen? ⟨W2.heap.size, 0, none⟩ = false ∧ X.frozen? ⟨W2.heap.size, 1, none⟩ = false ∧ X.frozen? ⟨W2.heap.size, 2, none⟩ = false ∧ X.frozen? ⟨W2.heap.size, 3, none⟩ = false ∧ X.frozen? ⟨W2.heap.size, 4, none⟩ = false) ∧
      Hid ((FW X W2.heap.size Dx ks A c Bx dx).cell? ⟨W2.heap.size, 0, none⟩ = some (.int .i64 (Dx.kept.length : Int)) ∧ (FW X W2.heap.size Dx ks A c Bx dx).cell? ⟨W2.heap.size, 1, none⟩ = some (.slice A ks.length c) ∧ (FW X W2.heap.size Dx ks A c Bx dx).cell? ⟨W2.heap.size, 2, none⟩ = some (.slice Bx Dx.pend.length dx) ∧ (FW X W2.heap.size Dx ks A c Bx dx).cell? ⟨W2.heap.size, 3, none⟩ = some (.int .i64 Dx.fuse) ∧ (FW X W2.heap.size Dx ks A c Bx dx).cell? ⟨W2.heap.size, 4, none⟩ = some (.bool Dx.dead)) ∧
      Hid (Rg S (FW X W2.heap.size Dx ks A c Bx dx) Dx ks A c Bx dx) ∧ Hid (Turn (fun _ => False) w (FW X W2.heap.size Dx ks A c Bx dx))) := Lib.hid (fun X Dx Bx dx hG hT => by
    have h2 := E3.out.turn hT (fun h => h)
    obtain ⟨hb, ht⟩ := put5d h2 (.int .i64 (Dx.kept.length : Int)) (.slice A ks.length c) (.slice Bx Dx.pend.length dx) (.int .i64 Dx.fuse) (.bool Dx.dead)
    exact ⟨cells5f h2, Lib.hid (cells5 hb), Lib.hid ((hG.stp ⟨ht.mono (fun _ _ h => .inr h), fun _ h => .inl h⟩).less9), Lib.hid ((T3.out.trans hT).trans_new ht (fun k hk e => by omega))⟩)
  unfold FW at FIN
  have HT := Lib.hid (there_d fr AP n cP i)
  have hth : Hid ((decide ((0 : Int) ≤ i) && decide (i < (n : Int))) = has9 st i) := Lib.hid (by unfold has9; rw [hn])
  rw [hth.out] at HT
  have HOV : Hid (∀ (W : World) (k : Nat), Turn (fun _ => False) W3 W → k < n → s.size ≤ 1024 → Calls Tryd.prog 36 #[.agg #[.int .i64 fr, .slice AP n cP], .agg #[.int .i64 (D.kept.length : Int), .slice A ks.length c, .slice B D.pend.length d, .int .i64 D.fuse, .bool D.dead], .int .i64 k, .string s] W fun r w' => ∃ B' d', r = .returned (.tuple #[rd (putk 8 D ((fr + 8 * k : Nat) : Int) s.data.toList).1 ks A c B' d', .int .i64 (putk 8 D ((fr + 8 * k : Nat) : Int) s.data.toList).2]) ∧ Rg (fun k => S k ∨ k = W2.heap.size) w' (putk 8 D ((fr + 8 * k : Nat) : Int) s.data.toList).1 ks A c B' d' ∧ Turn (fun _ => False) W w') := Lib.hid (fun W k hW hk hs => over_d (HSZ.out W hW.size) (HG3.out.still hW) ok hp fr k (by omega) s hs)
  have hls : Hid (s.data.toList.length = s.size) := Lib.hid Array.length_toList
  unfold rd
  clear hir h g ok hn hth B1 T1 C2 B2 T2 E3 C3 B3 hb1 hb2 hb3 hS HSZ
  by_cases hbig : 1024 < s.size
  · have HV : Hid (rwr9 fr st D i s.data.toList = (D, 5)) := Lib.hid (by unfold rwr9; rw [hls.out, if_pos hbig])
    rw [HV.out]
    have hb : (1024 : Int) < (s.size : Int) := by omega
    obtain ⟨y0, y1, y2, y3, y4⟩ := BDW.out W3 (Turn.refl _ _)
    obtain ⟨⟨z0, z1, z2, z3, z4, g0, g1, g2, g3, g4⟩, HT5, hRF, hTF⟩ := FIN.out W3 D B d HG3.out (Turn.refl _ _)
    clear hbig
    go_enter Tryd.func10, Tryd.ntmps10
    go_wp2_with fail
    obtain ⟨t0, t1, t2, t3, t4⟩ := HT5.out
    exact bodyPost_ret (v := .tuple #[.agg #[.int .i64 (D.kept.length : Int), .slice A ks.length c, .slice B D.pend.length d, .int .i64 D.fuse, .bool D.dead], .int .i64 5]) (by simp [results, Tryd.results10, go_sem, t0, t1, t2, t3, t4]) rfl ⟨B, d, rfl, hRF.out, hTF.out⟩
  · have hb : ¬ (1024 : Int) < (s.size : Int) := by omega
    have hle : s.size ≤ 1024 := by omega
    have HV : Hid (rwr9 fr st D i s.data.toList = if is9 st i 2 then putk 8 D ((fr + 8 * i.toNat : Nat) : Int) s.data.toList else (D, 7)) := Lib.hid (by unfold rwr9; rw [hls.out, if_neg hbig])
    rw [HV.out]
    obtain ⟨b0, b1⟩ := BPW.out W3 (Turn.refl _ _)
    clear hbig
    cases hh : has9 st i with
    | false =>
      have hi2 : Hid (is9 st i 2 = false) := Lib.hid (by unfold is9; rw [hh]; rfl)
      rw [hi2.out, if_neg (by decide)]
      rw [hh] at HT
      clear hh
      go_enter Tryd.func10, Tryd.ntmps10
      go_wp2_with fail
      refine (HT.out _).mono ?_
      rintro e w4 ⟨rfl, ht⟩
      obtain ⟨x0, x1⟩ := BPW.out w4 ht
      obtain ⟨y0, y1, y2, y3, y4⟩ := BDW.out w4 ht
      obtain ⟨⟨z0, z1, z2, z3, z4, g0, g1, g2, g3, g4⟩, HT5, hRF, hTF⟩ := FIN.out w4 D B d (HG3.out.still ht) ht
      clear ht b0 b1
      go_wp2_with fail
      obtain ⟨t0, t1, t2, t3, t4⟩ := HT5.out
      exact bodyPost_ret (v := .tuple #[.agg #[.int .i64 (D.kept.length : Int), .slice A ks.length c, .slice B D.pend.length d, .int .i64 D.fuse, .bool D.dead], .int .i64 7]) (by simp [results, Tryd.results10, go_sem, t0, t1, t2, t3, t4]) rfl ⟨B, d, rfl, hRF.out, hTF.out⟩
    | true =>
      obtain ⟨k, rfl⟩ : ∃ k : Nat, i = k := ⟨i.toNat, by unfold has9 at hh; simp at hh; omega⟩
      have hk : k < n := by unfold has9 at hh; have := HN.out; simp at hh; omega
      have hk1 : (k : Int) < (n : Int) := by omega
      have hk0 : (0 : Int) ≤ (k : Int) := by omega
      obtain ⟨g, rfl, hgl, cg⟩ := HI.out k _ (il9_at st k (by rw [HN.out]; exact hk))
      have HCG : Hid (∀ W, Turn (fun _ => False) W3 W → W.cell? ⟨g, k, none⟩ = some (.int .i64 ((st.getD k 0 : Nat) : Int))) := Lib.hid (fun W hW => (World.cell?_of_block (w := w) (a := ⟨g, k, none⟩) ((T3.out.trans hW).block g hgl (fun h => h))).trans cg)
      have hi2 : Hid (is9 st (k : Int) 2 = (st.getD k 0 == 2)) := Lib.hid (by unfold is9; rw [hh, Int.toNat_natCast]; rfl)
      rw [hi2.out, Int.toNat_natCast]
      rw [hh] at HT
      clear hh cg hgl
      by_cases h2 : st.getD k 0 = 2
      · have e2 : (st.getD k 0 == 2) = true := by rw [h2]; rfl
        rw [if_pos e2]
        rw [h2] at HCG
        have HO := Lib.hid (fun W hW => HOV.out W k hW hk hle)
        generalize putk 8 D ((fr + 8 * k : Nat) : Int) s.data.toList = R at *
        obtain ⟨D1, E⟩ := R
        unfold rd at HO
        clear h2 e2
        go_enter Tryd.func10, Tryd.ntmps10
        go_wp2_with fail
        refine (HT.out _).mono ?_
        rintro e w4 ⟨rfl, ht⟩
        obtain ⟨x0, x1⟩ := BPW.out w4 ht
        obtain ⟨y0, y1, y2, y3, y4⟩ := BDW.out w4 ht
        have cg := HCG.out w4 ht
        have T4 := Lib.hid ht
        clear ht b0 b1
        go_wp2_with fail
        refine (HO.out w4 T4.out).mono ?_
        rintro e w5 ⟨B5, d5, rfl, hg5, ht5⟩
        obtain ⟨⟨z0, z1, z2, z3, z4, g0, g1, g2, g3, g4⟩, HT5, hRF, hTF⟩ := FIN.out w5 D1 B5 d5 hg5 (T4.out.trans ht5)
        clear hg5 ht5 cg x0 x1 y0 y1 y2 y3 y4
        go_wp2_with fail
        obtain ⟨t0, t1, t2, t3, t4⟩ := HT5.out
        exact bodyPost_ret (v := .tuple #[.agg #[.int .i64 (D1.kept.length : Int), .slice A ks.length c, .slice B5 D1.pend.length d5, .int .i64 D1.fuse, .bool D1.dead], .int .i64 E]) (by simp [results, Tryd.results10, go_sem, t0, t1, t2, t3, t4]) rfl ⟨B5, d5, rfl, hRF.out, hTF.out⟩
      · have e2 : (st.getD k 0 == 2) = false := beq_eq_false_iff_ne.2 h2
        rw [if_neg (by rw [e2]; decide)]
        have n3 : ¬ ((st.getD k 0 : Nat) : Int) = (2 : Int) := fun h => h2 (by omega)
        have e3 : (((st.getD k 0 : Nat) : Int) != (2 : Int)) = true := bne_iff_ne.2 n3
        clear h2 e2 hi2
        generalize st.getD k 0 = X at *
        go_enter Tryd.func10, Tryd.ntmps10
        go_wp2_with fail
        refine (HT.out _).mono ?_
        rintro e w4 ⟨rfl, ht⟩
        obtain ⟨x0, x1⟩ := BPW.out w4 ht
        obtain ⟨y0, y1, y2, y3, y4⟩ := BDW.out w4 ht
        have cg := HCG.out w4 ht
        obtain ⟨⟨z0, z1, z2, z3, z4, g0, g1, g2, g3, g4⟩, HT5, hRF, hTF⟩ := FIN.out w4 D B d (HG3.out.still ht) ht
        clear ht b0 b1
        go_wp2_with fail
        obtain ⟨t0, t1, t2, t3, t4⟩ := HT5.out
        exact bodyPost_ret (v := .tuple #[.agg #[.int .i64 (D.kept.length : Int), .slice A ks.length c, .slice B D.pend.length d, .int .i64 D.fuse, .bool D.dead], .int .i64 7]) (by simp [results, Tryd.results10, go_sem, t0, t1, t2, t3, t4]) rfl ⟨B, d, rfl, hRF.out, hTF.out⟩
end Go.Proofs.YtmedljnbcpdoeaaDoor
