/- Layer 9: set, pick, turn. -/
import Derived.Test.YtigkhpencobalaaDoorPrB
namespace Go.Proofs.YtigkhpencobalaaDoor
open Go.RowKit
set_option linter.unusedVariables false
set_option linter.unusedSimpArgs false
set_option maxRecDepth 100000

variable {w w' : World} {p pd pa ga gr fr : Nat} {st : List Nat} {l : List Bool} {S : Nat → Prop}
theorem Pm.put (h : Pm w p pd pa ga gr fr st l) (i s : Nat) : Pm (w.setCell ⟨gr, i, none⟩ (.int .i64 s)) p pd pa ga gr fr (st.set i s) l ∧ Turn (fun k => k = gr) w (w.setCell ⟨gr, i, none⟩ (.int .i64 s)) := by
  have ht := (Turn.refl (fun k => k = gr) w).setCell (p := ⟨gr, i, none⟩) (.inl rfl) (.int .i64 s)
  refine ⟨⟨?_, ?_, h.al.turn ht (fun e => h.d4 e.symm) (fun e => h.d5 e.symm) (fun e => h.g0 e.symm), by rw [List.length_set]; exact h.len, h.d1, h.d2, h.d3, h.d4, h.d5, h.p0, h.g0⟩, ht⟩
  · rw [List.length_set]; exact h.bx.turn ht h.d1
  · have := h.row.put i (sv9 s)
    rw [List.map_set]; exact this
theorem Pm.cellRow (h : Pm w p pd pa ga gr fr st l) (i : Nat) (hi : i < st.length) : w.cell? ⟨gr, i, none⟩ = some (.int .i64 ((st.getD i 0 : Nat) : Int)) := by
  rw [h.row.cell i, List.getElem?_map, List.getElem?_eq_getElem hi, List.getD_eq_getElem?_getD, List.getElem?_eq_getElem hi]; rfl
set_option maxHeartbeats 1000000 in
theorem set9_any (h : Pm w p pd pa ga gr fr st l) (i s : Nat) (hi : i < st.length) :
    Calls Tryd.prog 50 #[.pointer (some ⟨p, 2, none⟩), .int .i64 i, .int .i64 s] w fun r w' => r = .returned (.tuple #[]) ∧ Pm w' p pd pa ga gr fr (st.set i s) (if s = 0 then (giv7 l i 1).1 else l) ∧ Turn (fun k => k = gr ∨ k = ga) w w' := by
  have hle := h.le
  have c3 := h.bx.cell 3
  simp only [List.getElem?_cons_succ, List.getElem?_cons_zero] at c3
  have r0 := h.cellRow i hi
  have f0 : w.frozen? ⟨gr, i, none⟩ = false := h.row.free i
  obtain ⟨hp, ht⟩ := h.put i s
  have x2 := hp.bx.cell 2
  simp only [List.getElem?_cons_succ, List.getElem?_cons_zero] at x2
  have HP := Lib.hid hp
  have HT := Lib.hid (ht.mono (T := fun k => k = gr ∨ k = ga) (fun _ _ h => .inl h))
  have h1 : (i : Int) < (st.length : Int) := by omega
  have h2 : (0 : Int) ≤ (i : Int) := by omega
  clear h hp ht
  generalize st.length = n at *
  by_cases hs : s = 0
  · subst hs
    rw [if_pos rfl]
    rw [show ((0 : Nat) : Int) = 0 from rfl] at *
    have HG := Lib.hid (give7 HP.out.al (i : Int) 1 (by omega) (by decide))
    clear hi hle
    go_enter Tryd.func50, Tryd.ntmps50
    go_wp2_with fail
    refine HG.out.mono ?_
    rintro e w2 ⟨rfl, hal, ht2⟩
    have hP2 : Pm w2 p pd pa ga gr fr (st.set i 0) (giv7 l i 1).1 := by
      have h0 := HP.out
      have hga : 0 ≠ ga := fun e => by obtain ⟨c, rest, _, _, _, _, _, hg0, _⟩ := hal; exact hg0 e.symm
      have hpg : pa ≠ ga := by obtain ⟨c, rest, _, _, _, _, _, _, hpg, _⟩ := hal; exact hpg
      refine ⟨h0.bx.turn ht2 h0.d3, h0.row.turn ht2 h0.d5, hal, ?_, h0.d1, h0.d2, h0.d3, h0.d4, h0.d5, h0.p0, h0.g0⟩
      have hl := h0.len
      rw [← hl]
      unfold giv7
      split <;> (try rfl)
      split <;> (try rfl)
      split <;> (try rfl)
      exact len_flip _ _ _
    have T2 := HT.out.trans (ht2.mono (T := fun k => k = gr ∨ k = ga) (fun _ _ h => .inr h))
    have HP2 := Lib.hid hP2
    have HT2 := Lib.hid T2
    clear hP2 T2 hal ht2
    go_wp2_with fail
    go_end0
    exact ⟨rfl, HP2.out, HT2.out⟩
  · rw [if_neg hs]
    have hne : ((s : Int) == 0) = false := by simp; omega
    clear hi hle
    go_enter Tryd.func50, Tryd.ntmps50
    go_wp2_with fail
    go_end0
    exact ⟨rfl, HP.out, HT.out⟩
set_option maxHeartbeats 1000000 in
theorem pick9_any (h : Pm w p pd pa ga gr fr st l) (s : Nat) :
    Calls Tryd.prog 67 #[.int .i64 s, .slice (some ⟨gr, 0, none⟩) st.length st.length] w fun r w' => ∃ v, r = .returned v ∧ w'.ownsRow w.heap.size 3 1 v (pk9 s st).length ((pk9 s st).map (Value.int .i64)) ∧ Turn (fun _ => False) w w' := by
  have hle := h.le
  have HC : Hid (∀ wr, Turn (fun _ => False) w wr → ∀ i, i < st.length → wr.cell? ⟨gr, i, none⟩ = some (.int .i64 ((st.getD i 0 : Nat) : Int))) := Lib.hid (fun wr ht i hi => (h.still ht).cellRow i hi)
  have HW := Lib.hid (Turn.refl (fun _ => False) w)
  have hpk : Hid (pk9 s st = pkTo s st st.length) := Lib.hid rfl
  rw [hpk.out]
  clear h
  obtain ⟨n, hn⟩ : ∃ n, st.length = n := ⟨_, rfl⟩
  rw [hn] at hle HC ⊢
  clear hpk hn
  go_enter Tryd.func67, Tryd.ntmps67
  go_wp2_with fail
  go_loopw [5, 6, 7, 10] (fun v5 v6 v7 v10 wr => ∃ (i : Nat), i ≤ n ∧ v10 = .int .i64 i ∧ wr.ownsRow w.heap.size 3 1 v5 (pkTo s st i).length ((pkTo s st i).map (Value.int .i64)) ∧ Turn (fun _ => False) w wr) (fun _ _ _ v10 _ => n - (intOf v10).toNat)
  case atStart => exact ⟨0, Nat.zero_le _, rfl, own_nil9 _ _ _, HW.out⟩
  case round =>
    obtain ⟨i, hi, rfl, ho, ht⟩ := hrel
    obtain ⟨A, c, rfl⟩ := own_slice9 ho
    have HO := Lib.hid ho
    have HT := Lib.hid ht
    have hb := pkTo_le s st i
    clear ho ht
    by_cases hlt : i < n
    · have hl1 : (i : Int) < (n : Int) := by omega
      have hl0 : (0 : Int) ≤ (i : Int) := by omega
      have hq := wrap_of ((i : Int) + 1) (by omega) (by omega)
      have c0 := HC.out wr HT.out i hlt
      have HS := Lib.hid (pkTo_succ s st i)
      by_cases he : st.getD i 0 = s
      · rw [he] at c0
        have HS2 : Hid (pkTo s st (i + 1) = pkTo s st i ++ [(i : Int)]) := Lib.hid (by rw [HS.out, he]; simp)
        have hee : ((s : Int) == (s : Int)) = true := by simp
        clear he HS
        go_wp2_with (at_builtin; refine wpList_app1I9 rfl _ _ rfl w.heap.size (.slice A (pkTo s st i).length c) (pkTo s st i) (i : Int) wr.heap.size rfl rfl (own_far9 HO.out ((Turn.refl (fun _ => False) wr).alloc _) (fun _ _ h => h)) (Blk.new wr 3 [.int .i64 (i : Int)]) (by omega) (by have := HT.out.size; rw [World.size_alloc]; omega) ?_; intro v' X ho ht hv; obtain ⟨A2, c2, rfl⟩ := own_slice9 ho; have HO2 := Lib.hid ho; have HT2 := Lib.hid ((HT.out.alloc (.cells #[.int .i64 (i : Int)] 3)).trans_new ht (fun k hk h => by have := own_blk9 HO.out _ h; omega)); clear ho ht hv)
        go_roundw
        case rel => exact ⟨i + 1, by omega, by simp [hq], by rw [HS2.out]; have := HO2.out; simpa using this, HT2.out⟩
        case measure => simp [intOf, hq]; omega
      · have HS2 : Hid (pkTo s st (i + 1) = pkTo s st i) := Lib.hid (by rw [HS.out, if_neg (by simpa using he)])
        have hne : (((st.getD i 0 : Nat) : Int) == (s : Int)) = false := beq_eq_false_iff_ne.2 (fun h => he (Int.ofNat.inj h))
        clear he HS
        generalize st.getD i 0 = X at *
        go_wp2_with fail
        go_roundw
        case rel => exact ⟨i + 1, by omega, by simp [hq], by rw [HS2.out]; exact HO.out, HT.out⟩
        case measure => simp [intOf, hq]; omega
    · obtain rfl : i = n := by omega
      go_wp2_with fail
      go_ret
      exact ⟨_, rfl, HO.out, HT.out⟩
end Go.Proofs.YtigkhpencobalaaDoor
