/- Layer 4: the document's disk: Flush. -/
import Derived.Test.YtcjoinahelmmpaaBlkT
namespace Go.Proofs.Ytcjoinahelmmpaa
open Go.RowKit Go.Maps
set_option linter.unusedVariables false

set_option maxRecDepth 100000 in
set_option maxHeartbeats 4000000 in
theorem flushRef_r {w : World} {D : Dsk} {ks : List (List UInt8)} {A B : Option Addr} {c d : Nat} (h : Rm w D ks A c B d) (ok : D.Ok) (hp : D.pend.length ≤ 1000000) (N F : Int) (hF : -9223372036854775808 ≤ F ∧ F ≤ 9223372036854775807) (hF0 : F ≠ 0) :
    Calls Try.prog 53 #[.agg #[.int .i64 N, .slice A ks.length c, .slice B D.pend.length d, .int .i64 F, .bool false]] w fun e w' => ∃ A' c', e = .returned (.tuple #[.agg #[.int .i64 N, .slice A' ks.length c', .slice none 0 0, .int .i64 (if 0 < F then F - 1 else F), .bool false], .int .i64 0]) ∧ w'.ownsRow w.heap.size 9 1 (.slice A' ks.length c') ks.length ((setAll ks D.pend).map sv) ∧ Turn (fun _ => False) w w' := by
  have HB : Hid (∀ W, Calls Try.prog 44 #[.agg #[.int .i64 N, .slice A ks.length c, .slice B D.pend.length d, .int .i64 F, .bool false]] W fun e w' => e = .returned (.tuple #[.agg #[.int .i64 N, .slice A ks.length c, .slice B D.pend.length d, .int .i64 (if 0 < F then F - 1 else F), .bool false], .bool true]) ∧ Turn (fun _ => False) W w') := Lib.hid (fun W => by
    have := burn_r N A B ks.length c D.pend.length d F false hF W
    rw [decide_eq_false hF0] at this
    exact this)
  obtain ⟨F', hF'⟩ : ∃ F', (if 0 < F then F - 1 else F) = F' := ⟨_, rfl⟩
  rw [hF'] at HB ⊢
  have HK : Hid (∀ W, Turn (fun _ => False) w W → Calls Try.prog 47 #[.agg #[.int .i64 N, .slice A ks.length c, .slice B D.pend.length d, .int .i64 F', .bool false], .slice B D.pend.length d] W fun e w' => ∃ A' c', e = .returned (.agg #[.int .i64 N, .slice A' ks.length c', .slice none 0 0, .int .i64 F', .bool false]) ∧ w'.ownsRow W.heap.size 9 1 (.slice A' ks.length c') ks.length ((setAll ks D.pend).map sv) ∧ Turn (fun _ => False) W w') :=
    Lib.hid (fun W ht => kept_r N A B B ks c D.pend.length d d F' false D.pend (fun x hx => by rw [h.len]; exact (ok.pend x hx).1) (by rw [h.len]; exact ok.pos) (by rw [h.len]; exact ok.most) hp W (h.still ht).kept (h.still ht).pend)
  have HW0 := Lib.hid (Blk.new w 46 [.int .i64 N, .slice A ks.length c, .slice B D.pend.length d, .int .i64 F, .bool false])
  clear h hF'
  go_enter Try.func53, Try.ntmps53
  go_wp2_with fail
  refine (HB.out _).mono ?_
  obtain ⟨X, hX⟩ : ∃ X : Array Value, #[.int .i64 N, .slice A ks.length c, .slice B D.pend.length d, .int .i64 F', .bool false] = X := ⟨_, rfl⟩
  rw [hX]
  rintro e w1 ⟨rfl, ht1⟩
  have hb := HW0.out.alloc (.cells #[.int .i64 0, .slice none 0 0, .slice none 0 0, .int .i64 0, .bool false] 46)
  have hr := Blk.new_ (w.alloc (.cells #[.int .i64 N, .slice A ks.length c, .slice B D.pend.length d, .int .i64 F, .bool false] 46)) 46 [.int .i64 0, .slice none 0 0, .slice none 0 0, .int .i64 0, .bool false] (k := w.heap.size + 1) (by simp)
  have hb1 := hb.turn ht1 (fun h => h)
  have hr1 := hr.turn ht1 (fun h => h)
  have T1 := Lib.hid (((((Turn.refl (fun _ => False) w).alloc (.cells #[.int .i64 N, .slice A ks.length c, .slice B D.pend.length d, .int .i64 F, .bool false] 46)).alloc (.cells #[.int .i64 0, .slice none 0 0, .slice none 0 0, .int .i64 0, .bool false] 46))).trans ht1)
  have HTH : Hid (w1.there w.heap.size 0 X.size) := Lib.hid (by rw [← hX]; exact hb1.there 0 5 (by simp))
  have HO : Hid (X.all (·.oneCell') = true) := Lib.hid (by rw [← hX]; simp [Value.oneCell'])
  have HI : Hid ((Try.prog.info? 46).map (·.size) = some X.size) := Lib.hid (by rw [← hX]; kernel_rfl)
  have hb2 := Blk.setCells [.int .i64 N, .slice A ks.length c, .slice B D.pend.length d, .int .i64 F', .bool false] 0 w1 _ hb1 (by simp)
  have tw := Turn.setCells (S := (· = w.heap.size)) (g := w.heap.size) [.int .i64 N, .slice A ks.length c, .slice B D.pend.length d, .int .i64 F', .bool false] 0 (Turn.refl _ w1) (.inl rfl)
  obtain ⟨W1, hW1⟩ : ∃ W, w1.setCells w.heap.size 0 [.int .i64 N, .slice A ks.length c, .slice B D.pend.length d, .int .i64 F', .bool false] = W := ⟨_, rfl⟩
  rw [hW1] at hb2 tw
  have hW2 : w1.setCells w.heap.size 0 X.toList = W1 := by rw [← hX]; exact hW1
  simp only [List.take, List.drop, List.length, List.nil_append, List.cons_append, Nat.zero_add] at hb2
  have HW2 := Lib.hid hW2
  have hr2 := hr1.turn tw (by omega)
  have HR2 := Lib.hid hr2
  have T2 := Lib.hid (T1.out.trans_new tw (fun k hk e => by omega))
  have b0 := hb2.cell 0
  have b1 := hb2.cell 1
  have b2 := hb2.cell 2
  have b3 := hb2.cell 3
  have b4 := hb2.cell 4
  simp only [List.getElem?_cons_zero, List.getElem?_cons_succ] at b0 b1 b2 b3 b4
  clear hb hr hb1 hr1 ht1 hX hW1 hW2 hb2 hr2 tw
  go_wp2_with (first
    | (refine wpList_store_mid rfl 46 _ _ rfl w.heap.size 0 X rfl rfl HTH.out HI.out HO.out ?_; rw [HW2.out])
    | (go_at_call 47
       refine (HK.out _ T2.out).mono ?_
       rintro e w6 ⟨A6, c6, rfl, ho6, ht6⟩
       have O6 := Lib.hid ho6
       have hr6 := HR2.out.turn ht6 (fun h => h)
       have HR6 := Lib.hid hr6
       have r0 := hr6.cell 0
       have r1 := hr6.cell 1
       have r2 := hr6.cell 2
       have r3 := hr6.cell 3
       have r4 := hr6.cell 4
       have g0 := hr6.free 0
       have g1 := hr6.free 1
       have g2 := hr6.free 2
       have g3 := hr6.free 3
       have g4 := hr6.free 4
       simp only [List.getElem?_cons_zero, List.getElem?_cons_succ] at r0 r1 r2 r3 r4
       have TW := Lib.hid (T2.out.trans ht6)
       have Z2 := HR2.out.lt
       clear ho6 ht6 hr6 b0 b1 b2 b3 b4))
  have hf := ((((HR6.out.put 0 (.int .i64 N)).put 1 (.slice A6 ks.length c6)).put 2 (.slice none 0 0)).put 3 (.int .i64 F')).put 4 (.bool false)
  have tf := (((((Turn.refl (fun k => k = w.heap.size + 1) w6).setCell (p := ⟨w.heap.size + 1, 0, none⟩) (.inl rfl) (.int .i64 N)).setCell (p := ⟨w.heap.size + 1, 1, none⟩) (.inl rfl) (.slice A6 ks.length c6)).setCell (p := ⟨w.heap.size + 1, 2, none⟩) (.inl rfl) (.slice none 0 0)).setCell (p := ⟨w.heap.size + 1, 3, none⟩) (.inl rfl) (.int .i64 F')).setCell (p := ⟨w.heap.size + 1, 4, none⟩) (.inl rfl) (.bool false)
  have hown := ownsRow_turn (own_mono_ O6.out (B' := w.heap.size) (by omega)) tf (fun k hk e => by have := own_ge_ O6.out k hk; omega)
  have htt := TW.out.trans_new tf (fun k hk e => by omega)
  have e0 := hf.cell 0
  have e1 := hf.cell 1
  have e2 := hf.cell 2
  have e3 := hf.cell 3
  have e4 := hf.cell 4
  simp only [List.set_cons_zero, List.set_cons_succ, List.getElem?_cons_zero, List.getElem?_cons_succ] at e0 e1 e2 e3 e4
  clear r0 r1 r2 r3 r4 g0 g1 g2 g3 g4 tf hf
  generalize (((((w6.setCell ⟨w.heap.size + 1, 0, none⟩ (.int .i64 N)).setCell ⟨w.heap.size + 1, 1, none⟩ (.slice A6 ks.length c6)).setCell ⟨w.heap.size + 1, 2, none⟩ (.slice none 0 0)).setCell ⟨w.heap.size + 1, 3, none⟩ (.int .i64 F')).setCell ⟨w.heap.size + 1, 4, none⟩ (.bool false)) = WF at *
  exact bodyPost_ret (v := .tuple #[.agg #[.int .i64 N, .slice A6 ks.length c6, .slice none 0 0, .int .i64 F', .bool false], .int .i64 0]) (by simp [results, Try.results53, go_sem, e0, e1, e2, e3, e4]) rfl ⟨A6, c6, rfl, hown, htt⟩
end Go.Proofs.Ytcjoinahelmmpaa
