/- Layer 7: Take. -/
import Derived.Test.YtmedljnbcpdoeaaDoorAlI
namespace Go.Proofs.YtmedljnbcpdoeaaDoor
open Go.RowKit Go.Shelf
set_option linter.unusedVariables false
set_option maxRecDepth 100000
attribute [local go_sem] Oper.semAt_some

theorem grown_turn7 {w w' : World} {row : Option Nat} (h : w.grownBy w' row) : Turn (fun k => row = some k) w w' := ⟨h.os, h.tape, h.output, h.size, fun k hk hne => h.block k hk (fun e => hne e.symm)⟩
theorem put_turn7 (W : World) (D : Nat) (o : Obj) : Turn (fun k => k = D) W (W.putObj D o) := (grown_turn7 (grownBy_putObj' W D o)).mono (fun k _ h => by injection h with h; exact h.symm)
theorem ret_mark7 {P : Program} {fn : Func} {R : Ending → World → Prop} {a : Go.Act} {W : World} {D : Nat} {v : Value} (hk : W.heap[D]? = some (.deferred (some []))) (hd : a.defers = [{ target := .collected D, args := #[] }])
    (hr : (results fn a.tmps).run P (W.putObj D (.deferred none)) = .ok v (W.putObj D (.deferred none))) (hR : R (.returned v) (W.putObj D (.deferred none))) : bodyPostM Fence.wide 3 P fn R .ret a W := by
  show LeavesInM _ _ _ _ _ _ a.defers .returning W
  rw [hd]
  exact ⟨(fun h => nomatch h), .inl ⟨D, _, rfl, run_takeDeferred hk, ⟨v, hr, hR⟩⟩⟩
theorem end_mark7 {P : Program} {fn : Func} {R : Ending → World → Prop} {a : Go.Act} {W : World} {D : Nat} {v : Value} (hk : W.heap[D]? = some (.deferred (some []))) (hd : a.defers = [{ target := .collected D, args := #[] }])
    (hr : (results fn a.tmps).run P (W.putObj D (.deferred none)) = .ok v (W.putObj D (.deferred none))) (hR : R (.returned v) (W.putObj D (.deferred none))) : bodyPostM Fence.wide 3 P fn R .normal a W := by
  show LeavesInM _ _ _ _ _ _ a.defers .returning W
  rw [hd]
  exact ⟨(fun h => nomatch h), .inl ⟨D, _, rfl, run_takeDeferred hk, ⟨v, hr, hR⟩⟩⟩
/-- Nothing of W0 has turned, but what stands beyond. -/
theorem still_own7 (W0 : World) (B : Nat) (hB : W0.heap.size ≤ B) : ∀ W W' row, Turn (fun _ => False) W0 W → W.grownBy W' row → (∀ r, row = some r → B ≤ r ∧ ∃ o : Obj, W.heap[r]? = some o ∧ o.isCells = false) → Turn (fun _ => False) W0 W' := fun W W' row h hg hr =>
  h.trans_new (grown_turn7 hg) (fun k hk e => by have := (hr k e).1; omega)
theorem blk_own7 {W W' : World} {row : Option Nat} {b t : Nat} {cs : List Value} (hb : Blk W b t cs) (hg : W.grownBy W' row) (hr : ∀ r, row = some r → ∃ o : Obj, W.heap[r]? = some o ∧ o.isCells = false) : Blk W' b t cs :=
  hb.turn (grown_turn7 hg) (fun er => by
    obtain ⟨o, ho, hc⟩ := hr b er
    unfold Blk at hb
    rw [hb] at ho
    injection ho with ho
    rw [← ho] at hc
    cases hc)
/-- Take of k pages. -/
def tak7 (l : List Bool) (k : Int) : List Bool × Int × Int :=
  if k < 1 then (l, 0, 2) else match (rows7 l).find? (fun x => decide (k ≤ (x.2 : Int))) with
    | some x => (flip l x.1 k.toNat, (x.1 : Int), 0)
    | none => (l, 0, 10)
def TkIx (W0 : World) (p g r : Nat) (l : List Bool) (K : Nat) (c : Code) (pre : List (Rw l.length)) (W : World) : Prop :=
  c = .ret ∧ ∃ pre' x, pre = pre' ++ [x] ∧ (∀ y ∈ pre', y.c < K) ∧ K ≤ x.c ∧ Al W p g (flip l x.i K) ∧ Turn (fun k => k = g ∨ k = r ∨ k = r + 1) W0 W ∧ Blk W r 3 [.int .i64 x.i] ∧ Blk W (r + 1) 26 [.int .i64 0]
theorem find_none7 {l : List Bool} {xs : List (Rw l.length)} {K : Nat} (h : xs.map Rw.f = rows7 l) (hx : ∀ y ∈ xs, y.c < K) : (rows7 l).find? (fun x => decide ((K : Int) ≤ (x.2 : Int))) = none := by
  rw [← h, List.find?_eq_none]
  intro x hm
  obtain ⟨y, hy, rfl⟩ := List.mem_map.1 hm
  have := hx y hy
  simp [Rw.f]; omega
theorem find_some7 {l : List Bool} {pre : List (Rw l.length)} {x : Rw l.length} {rest : List (Nat × Nat)} {K : Nat} (h : rows7 l = (pre ++ [x]).map Rw.f ++ rest) (hx : ∀ y ∈ pre, y.c < K) (hk : K ≤ x.c) : (rows7 l).find? (fun x => decide ((K : Int) ≤ (x.2 : Int))) = some x.f := by
  rw [h, List.map_append, List.append_assoc, List.find?_append]
  have h1 : (pre.map Rw.f).find? (fun x => decide ((K : Int) ≤ (x.2 : Int))) = none := by
    rw [List.find?_eq_none]
    intro y hm
    obtain ⟨z, hz, rfl⟩ := List.mem_map.1 hm
    have := hx z hz
    simp [Rw.f]; omega
  rw [h1]
  simp [Rw.f]; omega
theorem Noa.turn {w w' : World} {v : Value} (h : Noa w v) (ht : Turn (fun _ => False) w w') : Noa w' v := by
  rcases h with h | ⟨q, h, hc⟩
  · exact .inl h
  · refine .inr ⟨q, h, ?_⟩
    have hl := cell_lt hc
    rw [World.cell?_of_block (w := w) (ht.block q hl (fun h => h))]
    exact hc
theorem take7_no {w : World} {v : Value} (h : Noa w v) (k : Int) :
    Calls Tryd.prog 56 #[v, .int .i64 k] w fun r w' => r = .returned (.tuple #[.int .i64 0, .int .i64 1]) ∧ Turn (fun _ => False) w w' := by
  have HT : Hid (Turn (fun _ => False) w ((((w.alloc (.cells #[v] 74)).alloc (.cells #[.int .i64 k] 3)).alloc (.cells #[.int .i64 0] 3)).alloc (.cells #[.int .i64 0] 26))) := Lib.hid ((((Turn.refl _ w).alloc _).alloc _).alloc _ |>.alloc _)
  have HN := Lib.hid (made7_no (h.turn HT.out))
  have hv : ∃ P, v = .pointer P := by rcases h with h | ⟨q, h, _⟩ <;> exact ⟨_, h⟩
  obtain ⟨P, rfl⟩ := hv
  clear h HT
  go_enter Tryd.func56, Tryd.ntmps56
  go_wp2_with (go_at_call 65; refine HN.out.mono ?_; rintro e w' ⟨rfl, rfl⟩)
  exact bodyPost_ret (v := .tuple #[.int .i64 0, .int .i64 1]) (by simp [results, Tryd.results56, go_sem]) rfl ⟨rfl, (((Turn.refl _ w).alloc _).alloc _).alloc _ |>.alloc _⟩
theorem take7_arg {w : World} {p g : Nat} {l : List Bool} (h : Al w p g l) (k : Int) (hk1 : k < 1) :
    Calls Tryd.prog 56 #[.pointer (some ⟨p, 0, none⟩), .int .i64 k] w fun r w' => r = .returned (.tuple #[.int .i64 0, .int .i64 2]) ∧ Turn (fun _ => False) w w' := by
  have HT : Hid (Turn (fun _ => False) w ((((w.alloc (.cells #[.pointer (some ⟨p, 0, none⟩)] 74)).alloc (.cells #[.int .i64 k] 3)).alloc (.cells #[.int .i64 0] 3)).alloc (.cells #[.int .i64 0] 26))) := Lib.hid ((((Turn.refl _ w).alloc _).alloc _).alloc _ |>.alloc _)
  have HM := Lib.hid (made7 (h.still HT.out))
  clear h
  go_enter Tryd.func56, Tryd.ntmps56
  go_wp2_with (go_at_call 65; refine HM.out.mono ?_; rintro e w' ⟨rfl, rfl⟩)
  exact bodyPost_ret (v := .tuple #[.int .i64 0, .int .i64 2]) (by simp [results, Tryd.results56, go_sem]) rfl ⟨rfl, (((Turn.refl _ w).alloc _).alloc _).alloc _ |>.alloc _⟩
set_option maxHeartbeats 2000000 in
theorem take7_row {w : World} {p g : Nat} {l : List Bool} (h : Al w p g l) (K : Nat) (hK1 : 1 ≤ K) (hk : (K : Int) ≤ 9223372036854775807) :
    Calls Tryd.prog 56 #[.pointer (some ⟨p, 0, none⟩), .int .i64 K] w fun r w' => r = .returned (.tuple #[.int .i64 (tak7 l K).2.1, .int .i64 (tak7 l K).2.2]) ∧ Al w' p g (tak7 l K).1 ∧ Turn (· = g) w w' := by
  have hgl := h.ltg
  have hpl := h.ltp
  refine (callsIn_wide (n := 3)).1 ?_
  refine callsIn_of_wp_marks Tryd.func56 rfl trivial ?_ rfl
  simp only [Tryd.ntmps56, List.size_toArray, List.length_cons, List.length_nil, Nat.reduceAdd, Nat.reduceSub, Array.replicate_succ, Array.replicate_zero, List.push_toArray, List.append_toArray, List.nil_append, List.cons_append]
  have HT4 : Hid (Turn (fun _ => False) w ((((w.alloc (.cells #[.pointer (some ⟨p, 0, none⟩)] 74)).alloc (.cells #[.int .i64 K] 3)).alloc (.cells #[.int .i64 0] 3)).alloc (.cells #[.int .i64 0] 26))) := Lib.hid ((((Turn.refl _ w).alloc _).alloc _).alloc _ |>.alloc _)
  have HA4 := Lib.hid (h.still HT4.out)
  have HM := Lib.hid (made7 HA4.out)
  have HA := Lib.hid h
  clear h
  have hK1i : (1 : Int) ≤ (K : Int) := by omega
  gi_wp2_with fail
  refine ⟨trivial, ?_⟩
  gi_at_call 65
  refine (callsIn_wide.2 HM.out).mono ?_
  rintro e w' ⟨rfl, rfl⟩
  gi_wp2_with fail
  refine ⟨trivial, ?_⟩
  gi_at_call 69
  refine (callsIn_wide.2 (rowsFn7 _ rfl _)).mono ?_
  rintro e w' ⟨rfl, rfl⟩
  gi_wp2_with fail
  have F5 : Hid (∃ W0, W0 = ((((w.alloc (.cells #[.pointer (some ⟨p, 0, none⟩)] 74)).alloc (.cells #[.int .i64 K] 3)).alloc (.cells #[.int .i64 0] 3)).alloc (.cells #[.int .i64 0] 26)).alloc (.cells #[.pointer (some ⟨p, 0, none⟩)] 74) ∧ Al W0 p g l ∧ W0.heap.size = w.heap.size + 5 ∧ Turn (fun _ => False) w W0 ∧ Blk W0 w.heap.size 74 [.pointer (some ⟨p, 0, none⟩)] ∧ Blk W0 (w.heap.size + 1) 3 [.int .i64 K] ∧ Blk W0 (w.heap.size + 1 + 1) 3 [.int .i64 0] ∧ Blk W0 (w.heap.size + 1 + 1 + 1) 26 [.int .i64 0] ∧ Blk W0 (w.heap.size + 1 + 1 + 1 + 1) 74 [.pointer (some ⟨p, 0, none⟩)]) :=
    Lib.hid ⟨_, rfl, HA4.out.still ((Turn.refl _ _).alloc _), by simp, HT4.out.alloc _, (((((Blk.new w 74 [.pointer (some ⟨p, 0, none⟩)]).alloc _).alloc _).alloc _).alloc _), ((((Blk.new_ _ 3 [.int .i64 K] (k := w.heap.size + 1) (by simp)).alloc _).alloc _).alloc _), (((Blk.new_ _ 3 [.int .i64 0] (k := w.heap.size + 1 + 1) (by simp)).alloc _).alloc _), ((Blk.new_ _ 26 [.int .i64 0] (k := w.heap.size + 1 + 1 + 1) (by simp)).alloc _), Blk.new_ _ 74 [.pointer (some ⟨p, 0, none⟩)] (k := w.heap.size + 1 + 1 + 1 + 1) (by simp)⟩
  obtain ⟨W0, hW0, fa, fs, ft, f0, f1, f2, f3, f4⟩ := F5.out
  rw [← hW0]
  clear F5 hW0 HT4 HA4 HM
  refine wpIn_rangeFunc_ownG (F := Fence.wide) (n := 3) rfl (by decide) (gf := 74) (lb := #[.pointer (some ⟨w.heap.size + 1 + 1 + 1 + 1, 0, none⟩)]) rfl trivial (enters_of Tryd.func74 (by kernel_rfl) rfl)
    (rows_stops p g (w.heap.size + 1 + 1 + 1 + 1) l W0 fa (f4.cell 0)) (fun h1 h2 => Turn.trans h1 h2) (fun W b o o' hl ho hc1 hc2 => (put_turn7 W b o').mono (fun k _ hk h3 => by subst hk; rcases h3 with h3 | h3 <;> omega)) (Below.refl _ _) (fun _ => rfl)
    (fun ps W => Turn (fun _ => False) W0 W ∧ ∀ y ∈ ps, y.c < K) (fun c ps W => TkIx W0 p g (w.heap.size + 1 + 1) l K c ps W)
    (fun ps W W' row hs hg hr => ⟨still_own7 W0 _ (Nat.le_refl _) W W' row hs.1 hg hr, hs.2⟩)
    (fun c ps W W' row hs hg hr => by
      obtain ⟨hc, pre', x, hp, h1, h2, h3, h4, h5, h6⟩ := hs
      have ht := grown_turn7 hg
      exact ⟨hc, pre', x, hp, h1, h2, h3.turn ht (fun e => by have := (hr _ e).1; omega) (fun e => by have := (hr _ e).1; omega) (fun e => by have := (hr _ e).1; omega), h4.trans_new ht (fun k hk e => by have := (hr _ e).1; omega), blk_own7 h5 hg (fun r e => (hr r e).2), blk_own7 h6 hg (fun r e => (hr r e).2)⟩)
    ⟨Turn.refl _ _, fun y hy => by cases hy⟩ ?a1 ?assign ?body ?done ?stop
  case assign =>
    intro l x W K hK
    gi_wp2
    exact hK
  case body =>
    intro L pre x W hI hlen
    obtain ⟨ht, hpre⟩ := hI
    have HTW := Lib.hid ht
    have HP := Lib.hid hpre
    have c1 := (f1.turn ht (fun h => h)).cell 0
    have c0 := (f0.turn ht (fun h => h)).cell 0
    have HAW := Lib.hid (fa.still ht)
    have H2 := Lib.hid (f2.turn ht (fun h => h))
    have H3 := Lib.hid (f3.turn ht (fun h => h))
    simp only [List.getElem?_cons_zero] at c0 c1
    have hxh := x.h
    obtain ⟨I, C, hIC⟩ := x
    simp only at hxh
    clear ht hpre hlen
    by_cases hc : K ≤ C
    · have hci : (K : Int) ≤ (C : Int) := by omega
      have HU := Lib.hid (turn7 HAW.out I K (by omega))
      gi_wp2_with fail
      refine ⟨trivial, ?_⟩
      gi_at_call 60
      refine (CallsIn.inRound L (callsIn_wide.2 HU.out)).mono ?_
      rintro e w1 ⟨⟨v, rfl⟩, ha, ht1⟩
      have HA1 := Lib.hid ha
      have HT1 := Lib.hid ht1
      have B2 := H2.out.turn ht1 (by omega)
      have B3 := H3.out.turn ht1 (by omega)
      have z2 := B2.free 0
      have z3 := B3.free 0
      have y2 := B2.cell 0
      have y3 := B3.cell 0
      have HB2 := Lib.hid B2
      have HB3 := Lib.hid B3
      simp only [List.getElem?_cons_zero] at y2 y3
      clear ha ht1 B2 B3
      gi_wp2_with fail
      have TS : Turn (fun k => k = g ∨ k = w.heap.size + 1 + 1 ∨ k = w.heap.size + 1 + 1 + 1) W ((w1.setCell ⟨w.heap.size + 1 + 1, 0, none⟩ (.int .i64 I)).setCell ⟨w.heap.size + 1 + 1 + 1, 0, none⟩ (.int .i64 0)) :=
        ((HT1.out.mono (fun k _ hk => .inl hk)).setCell (p := ⟨w.heap.size + 1 + 1, 0, none⟩) (.inl (.inr (.inl rfl))) _).setCell (p := ⟨w.heap.size + 1 + 1 + 1, 0, none⟩) (.inl (.inr (.inr rfl))) _
      have TS2 : Turn (fun k => k = w.heap.size + 1 + 1 ∨ k = w.heap.size + 1 + 1 + 1) w1 ((w1.setCell ⟨w.heap.size + 1 + 1, 0, none⟩ (.int .i64 I)).setCell ⟨w.heap.size + 1 + 1 + 1, 0, none⟩ (.int .i64 0)) :=
        ((Turn.refl _ w1).setCell (p := ⟨w.heap.size + 1 + 1, 0, none⟩) (.inl (.inl rfl)) _).setCell (p := ⟨w.heap.size + 1 + 1 + 1, 0, none⟩) (.inl (.inr rfl)) _
      refine ⟨⟨TS.size, fun k o hk ho hc => ?_⟩, rfl, pre, ⟨I, C, hIC⟩, rfl, HP.out, hc, HA1.out.turn TS2 (by omega) (by omega) (by omega), (HTW.out.mono (fun _ _ h => h.elim)).trans TS, ?_, ?_⟩
      · rw [TS.block k (Array.getElem?_eq_some_iff.1 ho).1 (by omega)]
        exact ho
      · exact (HB2.out.put 0 (.int .i64 I)).far (by simp only; omega) _
      · exact (HB3.out.far (by simp only; omega) _).put 0 _
    · have hci : (C : Int) < (K : Int) := by omega
      gi_wp2_with fail
      refine ⟨KeepsFrom.refl _ _, Turn.refl _ _, HTW.out, fun y hy => ?_⟩
      rcases List.mem_append.1 hy with hy | hy
      · exact HP.out y hy
      · rw [List.mem_singleton] at hy
        subst hy
        show C < K
        omega
  case done =>
    intro D xs W hD hS hI hdf
    obtain ⟨ht, hpre⟩ := hI
    have HTW := Lib.hid ht
    have HR : Hid (tak7 l K = (l, 0, 10)) := Lib.hid (by unfold tak7; rw [if_neg (by omega), find_none7 hS hpre])
    have B2 := f2.turn ht (fun h => h)
    have B3 := f3.turn ht (fun h => h)
    have y2 := B2.cell 0
    have y3 := B3.cell 0
    have z2 := B2.free 0
    have z3 := B3.free 0
    have HB2 := Lib.hid B2
    have HB3 := Lib.hid B3
    have HDF := Lib.hid hdf
    simp only [List.getElem?_cons_zero] at y2 y3
    clear ht hpre hS B2 B3 hdf
    gi_wp2_with fail
    have TS : Turn (fun k => k = w.heap.size + 1 + 1 ∨ k = w.heap.size + 1 + 1 + 1) W ((W.setCell ⟨w.heap.size + 1 + 1, 0, none⟩ (.int .i64 0)).setCell ⟨w.heap.size + 1 + 1 + 1, 0, none⟩ (.int .i64 10)) :=
      ((Turn.refl _ W).setCell (p := ⟨w.heap.size + 1 + 1, 0, none⟩) (.inl (.inl rfl)) _).setCell (p := ⟨w.heap.size + 1 + 1 + 1, 0, none⟩) (.inl (.inr rfl)) _
    have E2 : Blk ((W.setCell ⟨w.heap.size + 1 + 1, 0, none⟩ (.int .i64 0)).setCell ⟨w.heap.size + 1 + 1 + 1, 0, none⟩ (.int .i64 10)) (w.heap.size + 1 + 1) 3 [.int .i64 0] := (HB2.out.put 0 (.int .i64 0)).far (by simp only; omega) _
    have E3 : Blk ((W.setCell ⟨w.heap.size + 1 + 1, 0, none⟩ (.int .i64 0)).setCell ⟨w.heap.size + 1 + 1 + 1, 0, none⟩ (.int .i64 10)) (w.heap.size + 1 + 1 + 1) 26 [.int .i64 10] := (HB3.out.far (by simp only; omega) _).put 0 _
    have hdD := (TS.block D (Array.getElem?_eq_some_iff.1 HDF.out).1 (by omega)).trans HDF.out
    have TW := (ft.trans HTW.out).trans_new TS (fun k hk h => by omega)
    generalize ((W.setCell ⟨w.heap.size + 1 + 1, 0, none⟩ (.int .i64 0)).setCell ⟨w.heap.size + 1 + 1 + 1, 0, none⟩ (.int .i64 10)) = WF at *
    have TP := put_turn7 WF D (.deferred none)
    have e2 := (E2.turn TP (by omega)).cell 0
    have e3 := (E3.turn TP (by omega)).cell 0
    simp only [List.getElem?_cons_zero] at e2 e3
    refine ret_mark7 (D := D) (v := .tuple #[.int .i64 0, .int .i64 10]) hdD rfl (by simp [results, Tryd.results56, go_sem, e2, e3]) ?_
    rw [HR.out]
    exact ⟨rfl, (HA.out.still TW).turn TP (by omega) (by omega) (by omega), (TW.mono (fun _ _ h => h.elim)).trans_new TP (fun k hk h => by omega)⟩
  case stop =>
    intro D c pre W hD hS hI hdf
    obtain ⟨rfl, pre', x, rfl, h1, h2, h3, h4, h5, h6⟩ := hI
    obtain ⟨rest, hS⟩ := hS
    have HR : Hid (tak7 l K = (flip l x.i K, (x.i : Int), 0)) := Lib.hid (by unfold tak7; rw [if_neg (by omega), find_some7 hS h1 h2]; simp [Rw.f])
    have HDF := Lib.hid hdf
    have H3 := Lib.hid h3
    have H4 := Lib.hid h4
    have H5 := Lib.hid h5
    have H6 := Lib.hid h6
    clear hS h1 h2 h3 h4 h5 h6 hdf
    gi_wp2_with fail
    have TW := (ft.mono (T := fun k => k = g) (fun _ _ h => h.elim)).trans_new H4.out (fun k hk h => by omega)
    have TP := put_turn7 W D (.deferred none)
    have e2 := (H5.out.turn TP (by omega)).cell 0
    have e3 := (H6.out.turn TP (by omega)).cell 0
    simp only [List.getElem?_cons_zero] at e2 e3
    refine ret_mark7 (D := D) (v := .tuple #[.int .i64 x.i, .int .i64 0]) HDF.out rfl (by simp [results, Tryd.results56, go_sem, e2, e3]) ?_
    rw [HR.out]
    exact ⟨rfl, H3.out.turn TP (by omega) (by omega) (by omega), TW.trans_new TP (fun k hk h => by omega)⟩
theorem take7 {w : World} {p g : Nat} {l : List Bool} (h : Al w p g l) (k : Int) (hk : k ≤ 9223372036854775807) :
    Calls Tryd.prog 56 #[.pointer (some ⟨p, 0, none⟩), .int .i64 k] w fun r w' => r = .returned (.tuple #[.int .i64 (tak7 l k).2.1, .int .i64 (tak7 l k).2.2]) ∧ Al w' p g (tak7 l k).1 ∧ Turn (· = g) w w' := by
  by_cases hk1 : k < 1
  · have HR : tak7 l k = (l, 0, 2) := by unfold tak7; rw [if_pos hk1]
    rw [HR]
    exact (take7_arg h k hk1).mono fun e w' ⟨he, ht⟩ => ⟨he, h.still ht, ht.mono (fun _ _ h => h.elim)⟩
  · obtain ⟨K, rfl⟩ : ∃ n : Nat, k = (n : Int) := ⟨k.toNat, by omega⟩
    exact take7_row h K (by omega) hk
end Go.Proofs.YtmedljnbcpdoeaaDoor
