/- Layer 8: the program's Put. -/
import Derived.Test.YtpnnbfojdccfhaaPgR
namespace Go.Proofs.Ytpnnbfojdccfhaa
open Go.RowKit
set_option linter.unusedVariables false
set_option maxRecDepth 100000

def put8 (n : Nd) (at_ gone : Nat) (key val : ByteArray) : Nd := ⟨true, chg8 n.keys at_ gone [key], chg8 n.vals at_ gone [val], []⟩
noncomputable def pok8 (n : Nd) (key val : ByteArray) : Bool := st8 n && (n.leaf && (decide (key.size ≤ 128) && decide (val.size ≤ 200)))
def gone8 (b : Bool) : Nat := if b then 1 else 0
theorem two_new (w : World) (t : Nat) (o : Obj) (b : List Value) : Blk ((w.alloc o).alloc (.cells b.toArray t)) (w.heap.size + 1) t b := by
  have := Blk.new (w.alloc o) t b
  rw [show (w.alloc o).heap.size = w.heap.size + 1 from by simp] at this
  exact this
set_option maxHeartbeats 2000000 in
theorem put_no (n : Nd) (key val : ByteArray) (hkz : key.size ≤ 140737488351232) (hvz : val.size ≤ 140737488351232) (A1 : Option Addr) (c1 : Nat) (A2 : Option Addr) (c2 : Nat) (A3 : Option Addr) (c3 : Nat) (w : World) (h : No w A1 c1 A2 c2 A3 c3 n) (hf : Few8 n) (hk : pok8 n key val = false) :
    Calls Try.prog 16 #[nv8 A1 c1 A2 c2 A3 c3 n, .string key, .string val] w fun e w' => e = .returned (.tuple #[.agg #[.bool false, .slice none 0 0, .slice none 0 0, .slice none 0 0], .int .i64 2]) ∧ Turn (fun _ => False) w w' := by
  have HS := Lib.hid (fun W (ht : Turn (fun _ => False) w W) => stands_any n A1 c1 A2 c2 A3 c3 W (h.turn ht) hf)
  unfold pok8 at hk
  generalize st8 n = ST at *
  have T0 := Lib.hid (((Turn.refl (fun _ => False) w).alloc (.cells #[.bool n.leaf, .slice A1 n.keys.length c1, .slice A2 n.vals.length c2, .slice A3 n.kids.length c3] 26)).alloc (.cells #[.bool false, .slice none 0 0, .slice none 0 0, .slice none 0 0] 26))
  have B0 := Lib.hid (box_two w [.bool n.leaf, .slice A1 n.keys.length c1, .slice A2 n.vals.length c2, .slice A3 n.kids.length c3] [.bool false, .slice none 0 0, .slice none 0 0, .slice none 0 0]).1
  have R0 := Lib.hid (box_two w [.bool n.leaf, .slice A1 n.keys.length c1, .slice A2 n.vals.length c2, .slice A3 n.kids.length c3] [.bool false, .slice none 0 0, .slice none 0 0, .slice none 0 0]).2
  clear h hf
  obtain ⟨leaf, K, V, Z⟩ := n
  simp only [nv8] at *
  generalize K.length = nk at *
  generalize V.length = nv at *
  generalize Z.length = nd at *
  have hb : Hid ((ST = false) ∨ (ST = true ∧ leaf = false) ∨ (ST = true ∧ leaf = true ∧ decide ((128 : Int) < (key.size : Int)) = true) ∨ (ST = true ∧ leaf = true ∧ decide ((128 : Int) < (key.size : Int)) = false ∧ decide ((200 : Int) < (val.size : Int)) = true)) := Lib.hid (by
    cases ST
    · exact .inl rfl
    · cases leaf
      · exact .inr (.inl ⟨rfl, rfl⟩)
      · simp only [Bool.true_and] at hk
        by_cases h1 : key.size ≤ 128
        · by_cases h2 : val.size ≤ 200
          · rw [decide_eq_true h1, decide_eq_true h2] at hk; cases hk
          · exact .inr (.inr (.inr ⟨rfl, rfl, decide_eq_false (by omega), decide_eq_true (by omega)⟩))
        · exact .inr (.inr (.inl ⟨rfl, rfl, decide_eq_true (by omega)⟩)))
  clear hk
  go_enter Try.func16, Try.ntmps16
  go_wp2_with fail
  refine (HS.out _ T0.out).mono ?_
  rintro e w1 ⟨rfl, ht1⟩
  have T1 := Lib.hid (T0.out.trans ht1)
  have B1 := Lib.hid (B0.out.turn ht1 (fun h => h))
  have R1 := Lib.hid (R0.out.turn ht1 (fun h => h))
  clear ht1 T0 R0 B0
  have y0 : w1.cell? ⟨w.heap.size, 0, none⟩ = some (.bool leaf) := B1.out.cell 0
  have r0 := R1.out.cell 0
  have r1 := R1.out.cell 1
  have r2 := R1.out.cell 2
  have r3 := R1.out.cell 3
  have g0 := R1.out.free 0
  have g1 := R1.out.free 1
  have g2 := R1.out.free 2
  have g3 := R1.out.free 3
  simp only [List.getElem?_cons_zero, List.getElem?_cons_succ] at r0 r1 r2 r3
  rcases hb.out with rfl | ⟨rfl, rfl⟩ | ⟨rfl, rfl, hd1⟩ | ⟨rfl, rfl, hd1, hd2⟩
  all_goals clear hb
  all_goals go_wp2_with fail
  all_goals obtain ⟨hf, htf⟩ := put4 R1.out (.bool false) (.slice none 0 0) (.slice none 0 0) (.slice none 0 0)
  all_goals have htt := T1.out.trans_new htf (fun k hk e => by omega)
  all_goals have e0 := hf.cell 0
  all_goals have e1 := hf.cell 1
  all_goals have e2 := hf.cell 2
  all_goals have e3 := hf.cell 3
  all_goals simp only [List.getElem?_cons_zero, List.getElem?_cons_succ] at e0 e1 e2 e3
  all_goals clear r0 r1 r2 r3 g0 g1 g2 g3 hf
  all_goals generalize (((((w1.setCell ⟨w.heap.size + 1, 0, none⟩ (.bool false)).setCell ⟨w.heap.size + 1, 1, none⟩ (.slice none 0 0)).setCell ⟨w.heap.size + 1, 2, none⟩ (.slice none 0 0)).setCell ⟨w.heap.size + 1, 3, none⟩ (.slice none 0 0))) = WF at *
  all_goals exact bodyPost_ret (v := .tuple #[.agg #[.bool false, .slice none 0 0, .slice none 0 0, .slice none 0 0], .int .i64 2]) (by simp [results, Try.results16, go_sem, e0, e1, e2, e3]) rfl ⟨rfl, htt⟩
set_option maxHeartbeats 8000000 in
theorem put_yes (n : Nd) (key val : ByteArray) (A1 : Option Addr) (c1 : Nat) (A2 : Option Addr) (c2 : Nat) (A3 : Option Addr) (c3 : Nat) (w : World) (h : No w A1 c1 A2 c2 A3 c3 n) (hc1 : Cp A1 n.keys.length c1) (hc2 : Cp A2 n.vals.length c2) (hf : Few8 n) (hk : pok8 n key val = true) :
    Calls Try.prog 16 #[nv8 A1 c1 A2 c2 A3 c3 n, .string key, .string val] w fun e w' => ∃ v, e = .returned (.tuple #[v, .int .i64 0]) ∧ NoO w' v (put8 n (find8 n key).1 (gone8 (find8 n key).2) key val) ∧ Turn (fun _ => False) w w' := by
  have HS := Lib.hid (fun W (ht : Turn (fun _ => False) w W) => stands_any n A1 c1 A2 c2 A3 c3 W (h.turn ht) hf)
  have HF := Lib.hid (fun W (ht : Turn (fun _ => False) w W) => find_any n key A1 c1 A2 c2 A3 c3 W (h.turn ht) hf)
  unfold pok8 at hk
  simp only [Bool.and_eq_true, decide_eq_true_eq] at hk
  obtain ⟨hst, hlf, hkz, hvz⟩ := hk
  have hst2 := st8_of hst
  have h22 := hst2.2
  rw [hlf] at h22
  simp only [if_true] at h22
  have hvl := h22.2.1
  have f1 := hf.nk
  have hat : (find8 n key).1 + gone8 (find8 n key).2 ≤ n.keys.length := by
    cases hq : (find8 n key).2 with
    | true => have := (find8_yes hq).2.2.1; show _ + 1 ≤ _; omega
    | false =>
      unfold find8
      rw [hst, if_pos rfl]
      exact pos8_le _ _ _
  have HCK := Lib.hid (fun W g (ht : Turn (fun _ => False) w W) (hB : Blk W g 9 ([key].map Value.string)) => changed_sl n.keys [key] A1 c1 (some ⟨g, 0, none⟩) 1 (find8 n key).1 (gone8 (find8 n key).2) W (h.keys.turn ht) hc1 (sr_of_blk hB) ⟨Nat.le_refl _, by unfold maxLen; decide, fun h => by cases h⟩ hat (by omega) (by simp))
  have HCV := Lib.hid (fun W g (ht : Turn (fun _ => False) w W) (hB : Blk W g 9 ([val].map Value.string)) => changed_sl n.vals [val] A2 c2 (some ⟨g, 0, none⟩) 1 (find8 n key).1 (gone8 (find8 n key).2) W (h.vals.turn ht) hc2 (sr_of_blk hB) ⟨Nat.le_refl _, by unfold maxLen; decide, fun h => by cases h⟩ (by omega) (by omega) (by simp))
  have HD : Hid (put8 n (find8 n key).1 (gone8 (find8 n key).2) key val = ⟨true, chg8 n.keys (find8 n key).1 (gone8 (find8 n key).2) [key], chg8 n.vals (find8 n key).1 (gone8 (find8 n key).2) [val], []⟩) := Lib.hid rfl
  rw [hst] at HS
  generalize (find8 n key).1 = P at *
  generalize (find8 n key).2 = FB at *
  obtain ⟨gn, hgn⟩ : ∃ g, gone8 FB = g := ⟨_, rfl⟩
  rw [hgn] at HCK HCV HD ⊢
  generalize put8 n P gn key val = DN at *
  generalize chg8 n.keys P gn [key] = KS at *
  generalize chg8 n.vals P gn [val] = VS at *
  obtain ⟨lk, hlk⟩ : ∃ k, KS.length = k := ⟨_, rfl⟩
  obtain ⟨lv, hlv⟩ : ∃ k, VS.length = k := ⟨_, rfl⟩
  rw [hlk] at HCK
  rw [hlv] at HCV
  have HLK := Lib.hid hlk
  have HLV := Lib.hid hlv
  have hd1 : decide ((128 : Int) < (key.size : Int)) = false := decide_eq_false (by omega)
  have hd2 : decide ((200 : Int) < (val.size : Int)) = false := decide_eq_false (by omega)
  have T0 := Lib.hid (((Turn.refl (fun _ => False) w).alloc (.cells #[.bool n.leaf, .slice A1 n.keys.length c1, .slice A2 n.vals.length c2, .slice A3 n.kids.length c3] 26)).alloc (.cells #[.bool false, .slice none 0 0, .slice none 0 0, .slice none 0 0] 26))
  have B0 := Lib.hid (box_two w [.bool n.leaf, .slice A1 n.keys.length c1, .slice A2 n.vals.length c2, .slice A3 n.kids.length c3] [.bool false, .slice none 0 0, .slice none 0 0, .slice none 0 0]).1
  have R0 := Lib.hid (box_two w [.bool n.leaf, .slice A1 n.keys.length c1, .slice A2 n.vals.length c2, .slice A3 n.kids.length c3] [.bool false, .slice none 0 0, .slice none 0 0, .slice none 0 0]).2
  clear hlk hlv h hf hc1 hc2 hst hat hvl hst2 h22 f1 hkz hvz
  obtain ⟨leaf, K, V, Z⟩ := n
  simp only [nv8] at *
  subst hlf
  simp only [List.length_cons, List.length_nil] at HCK HCV
  generalize K.length = nk at *
  generalize V.length = nv at *
  generalize Z.length = nd at *
  go_enter Try.func16, Try.ntmps16
  go_wp2_with fail
  refine (HS.out _ T0.out).mono ?_
  rintro e w1 ⟨rfl, ht1⟩
  have T1 := Lib.hid (T0.out.trans ht1)
  have B1 := Lib.hid (B0.out.turn ht1 (fun h => h))
  have R1 := Lib.hid (R0.out.turn ht1 (fun h => h))
  clear ht1 T0 R0 B0
  have y0 : w1.cell? ⟨w.heap.size, 0, none⟩ = some (.bool true) := B1.out.cell 0
  have y1 : w1.cell? ⟨w.heap.size, 1, none⟩ = some (.slice A1 nk c1) := B1.out.cell 1
  have y2 : w1.cell? ⟨w.heap.size, 2, none⟩ = some (.slice A2 nv c2) := B1.out.cell 2
  have y3 : w1.cell? ⟨w.heap.size, 3, none⟩ = some (.slice A3 nd c3) := B1.out.cell 3
  go_wp2_with fail
  refine (HF.out _ T1.out).mono ?_
  rintro e w2 ⟨rfl, ht2⟩
  have T2 := Lib.hid (T1.out.trans ht2)
  have B2 := Lib.hid (B1.out.turn ht2 (fun h => h))
  have R2 := Lib.hid (R1.out.turn ht2 (fun h => h))
  clear ht2 R1 B1 y0 y1 y2 y3
  have y1 : w2.cell? ⟨w.heap.size, 1, none⟩ = some (.slice A1 nk c1) := B2.out.cell 1
  have y2 : w2.cell? ⟨w.heap.size, 2, none⟩ = some (.slice A2 nv c2) := B2.out.cell 2
  have hgz : w.heap.size + 1 < w2.heap.size := R2.out.lt
  have y1a : (w2).drew.cell? ⟨w.heap.size, 1, none⟩ = some (.slice A1 nk c1) := ((B2.out)).cell 1
  have y2a : (w2).drew.cell? ⟨w.heap.size, 2, none⟩ = some (.slice A2 nv c2) := ((B2.out)).cell 2
  have y1b : (w2.alloc (.cells #[.string key] 9)).drew.cell? ⟨w.heap.size, 1, none⟩ = some (.slice A1 nk c1) := ((B2.out.alloc (.cells #[.string key] 9))).cell 1
  have y2b : (w2.alloc (.cells #[.string key] 9)).drew.cell? ⟨w.heap.size, 2, none⟩ = some (.slice A2 nv c2) := ((B2.out.alloc (.cells #[.string key] 9))).cell 2
  have y1c : (w2.alloc (.cells #[.string val] 9)).drew.cell? ⟨w.heap.size, 1, none⟩ = some (.slice A1 nk c1) := ((B2.out.alloc (.cells #[.string val] 9))).cell 1
  have y2c : (w2.alloc (.cells #[.string val] 9)).drew.cell? ⟨w.heap.size, 2, none⟩ = some (.slice A2 nv c2) := ((B2.out.alloc (.cells #[.string val] 9))).cell 2
  have y1d : ((w2.alloc (.cells #[.string key] 9)).alloc (.cells #[.string val] 9)).drew.cell? ⟨w.heap.size, 1, none⟩ = some (.slice A1 nk c1) := (((B2.out.alloc (.cells #[.string key] 9)).alloc (.cells #[.string val] 9))).cell 1
  have y2d : ((w2.alloc (.cells #[.string key] 9)).alloc (.cells #[.string val] 9)).drew.cell? ⟨w.heap.size, 2, none⟩ = some (.slice A2 nv c2) := (((B2.out.alloc (.cells #[.string key] 9)).alloc (.cells #[.string val] 9))).cell 2
  have y1e : ((w2.alloc (.cells #[.string val] 9)).alloc (.cells #[.string key] 9)).drew.cell? ⟨w.heap.size, 1, none⟩ = some (.slice A1 nk c1) := (((B2.out.alloc (.cells #[.string val] 9)).alloc (.cells #[.string key] 9))).cell 1
  have y2e : ((w2.alloc (.cells #[.string val] 9)).alloc (.cells #[.string key] 9)).drew.cell? ⟨w.heap.size, 2, none⟩ = some (.slice A2 nv c2) := (((B2.out.alloc (.cells #[.string val] 9)).alloc (.cells #[.string key] 9))).cell 2
  have HG : Hid (gone8 FB = gn) := Lib.hid hgn
  cases FB
  · obtain rfl : gn = 0 := by rw [← HG.out]; rfl
    clear hgn
    go_wp2_with fail
    go_region_held3 (fun X => X.cell? ⟨w.heap.size, 1, none⟩ = some (.slice A1 nk c1) ∧ X.cell? ⟨w.heap.size, 2, none⟩ = some (.slice A2 nv c2))
      (first
        | (with_reducible exact ⟨y1a, y2a⟩)
        | (with_reducible exact ⟨y1b, y2b⟩)
        | (with_reducible exact ⟨y1c, y2c⟩)
        | (with_reducible exact ⟨y1d, y2d⟩)
        | (with_reducible exact ⟨y1e, y2e⟩)
        | (with_reducible exact ⟨y51, y52⟩)
        | (with_reducible exact ⟨y53, y54⟩)
        | (with_reducible exact ⟨y61, y62⟩)
        | (with_reducible exact ⟨y71, y72⟩))
      (first
        | (refine step_call rfl 39 Try.f39 _ _ rfl Try.func39 (by kernel_rfl) (by kernel_rfl) _ _ (HCV.out _ w5.heap.size (T5.out.trans ((Turn.refl (fun _ => False) w5).alloc (.cells #[.string val] 9))) (Blk.new w5 9 [.string val])) (by go_simp) ?_; rintro v6 w6 ⟨A6, c6, rfl, ho6, hp6, ht6⟩; have P6 := Lib.hid hp6; have H6 : Hid (Turn (fun _ => False) w5 w6) := Lib.hid (((Turn.refl (fun _ => False) w5).alloc (.cells #[.string val] 9)).trans ht6); have hg5 := H5.out.size; have HO6 := Lib.hid (own_low8 (own_low8 ho6 (((Turn.refl (fun _ => False) w5).alloc (.cells #[.string val] 9)).size)) hg5); have T6 := Lib.hid (T5.out.trans H6.out); have HP5 := Lib.hid (own_turn8 HO5.out H6.out); have B6 := Lib.hid (B5.out.turn H6.out (fun h => h)); have R6 := Lib.hid (R5.out.turn H6.out (fun h => h)); have y61 : w6.cell? ⟨w.heap.size, 1, none⟩ = some (.slice A1 nk c1) := B6.out.cell 1; have y62 : w6.cell? ⟨w.heap.size, 2, none⟩ = some (.slice A2 nv c2) := B6.out.cell 2; have y71 : ((((w6.setCell ⟨w.heap.size + 1, 0, none⟩ (.bool true)).setCell ⟨w.heap.size + 1, 1, none⟩ (.slice A5 lk c5)).setCell ⟨w.heap.size + 1, 2, none⟩ (.slice A6 lv c6)).setCell ⟨w.heap.size + 1, 3, none⟩ (.slice none 0 0)).cell? ⟨w.heap.size, 1, none⟩ = some (.slice A1 nk c1) := (B6.out.turn (put4 R6.out (.bool true) (.slice A5 lk c5) (.slice A6 lv c6) (.slice none 0 0)).2 (fun h => by omega)).cell 1; have y72 : ((((w6.setCell ⟨w.heap.size + 1, 0, none⟩ (.bool true)).setCell ⟨w.heap.size + 1, 1, none⟩ (.slice A5 lk c5)).setCell ⟨w.heap.size + 1, 2, none⟩ (.slice A6 lv c6)).setCell ⟨w.heap.size + 1, 3, none⟩ (.slice none 0 0)).cell? ⟨w.heap.size, 2, none⟩ = some (.slice A2 nv c2) := (B6.out.turn (put4 R6.out (.bool true) (.slice A5 lk c5) (.slice A6 lv c6) (.slice none 0 0)).2 (fun h => by omega)).cell 2; clear ht6 ho6 hp6; have r0 := R6.out.cell 0; have r1 := R6.out.cell 1; have r2 := R6.out.cell 2; have r3 := R6.out.cell 3; have g0 := R6.out.free 0; have g1 := R6.out.free 1; have g2 := R6.out.free 2; have g3 := R6.out.free 3)
        | (refine step_call rfl 39 Try.f39 _ _ rfl Try.func39 (by kernel_rfl) (by kernel_rfl) _ _ (HCV.out _ (w2.heap.size + 1) (T5.out.trans ((Turn.refl (fun _ => False) w5))) (VB.out)) (by go_simp) ?_; rintro v6 w6 ⟨A6, c6, rfl, ho6, hp6, ht6⟩; have P6 := Lib.hid hp6; have H6 : Hid (Turn (fun _ => False) w5 w6) := Lib.hid (((Turn.refl (fun _ => False) w5)).trans ht6); have hg5 := H5.out.size; have HO6 := Lib.hid (own_low8 (own_low8 ho6 (((Turn.refl (fun _ => False) w5)).size)) hg5); have T6 := Lib.hid (T5.out.trans H6.out); have HP5 := Lib.hid (own_turn8 HO5.out H6.out); have B6 := Lib.hid (B5.out.turn H6.out (fun h => h)); have R6 := Lib.hid (R5.out.turn H6.out (fun h => h)); have y61 : w6.cell? ⟨w.heap.size, 1, none⟩ = some (.slice A1 nk c1) := B6.out.cell 1; have y62 : w6.cell? ⟨w.heap.size, 2, none⟩ = some (.slice A2 nv c2) := B6.out.cell 2; have y71 : ((((w6.setCell ⟨w.heap.size + 1, 0, none⟩ (.bool true)).setCell ⟨w.heap.size + 1, 1, none⟩ (.slice A5 lk c5)).setCell ⟨w.heap.size + 1, 2, none⟩ (.slice A6 lv c6)).setCell ⟨w.heap.size + 1, 3, none⟩ (.slice none 0 0)).cell? ⟨w.heap.size, 1, none⟩ = some (.slice A1 nk c1) := (B6.out.turn (put4 R6.out (.bool true) (.slice A5 lk c5) (.slice A6 lv c6) (.slice none 0 0)).2 (fun h => by omega)).cell 1; have y72 : ((((w6.setCell ⟨w.heap.size + 1, 0, none⟩ (.bool true)).setCell ⟨w.heap.size + 1, 1, none⟩ (.slice A5 lk c5)).setCell ⟨w.heap.size + 1, 2, none⟩ (.slice A6 lv c6)).setCell ⟨w.heap.size + 1, 3, none⟩ (.slice none 0 0)).cell? ⟨w.heap.size, 2, none⟩ = some (.slice A2 nv c2) := (B6.out.turn (put4 R6.out (.bool true) (.slice A5 lk c5) (.slice A6 lv c6) (.slice none 0 0)).2 (fun h => by omega)).cell 2; clear ht6 ho6 hp6; have r0 := R6.out.cell 0; have r1 := R6.out.cell 1; have r2 := R6.out.cell 2; have r3 := R6.out.cell 3; have g0 := R6.out.free 0; have g1 := R6.out.free 1; have g2 := R6.out.free 2; have g3 := R6.out.free 3)
        | (refine step_call rfl 39 Try.f39 _ _ rfl Try.func39 (by kernel_rfl) (by kernel_rfl) _ _ (HCV.out _ w2.heap.size (T5.out.trans ((Turn.refl (fun _ => False) w5))) (VA.out)) (by go_simp) ?_; rintro v6 w6 ⟨A6, c6, rfl, ho6, hp6, ht6⟩; have P6 := Lib.hid hp6; have H6 : Hid (Turn (fun _ => False) w5 w6) := Lib.hid (((Turn.refl (fun _ => False) w5)).trans ht6); have hg5 := H5.out.size; have HO6 := Lib.hid (own_low8 (own_low8 ho6 (((Turn.refl (fun _ => False) w5)).size)) hg5); have T6 := Lib.hid (T5.out.trans H6.out); have HP5 := Lib.hid (own_turn8 HO5.out H6.out); have B6 := Lib.hid (B5.out.turn H6.out (fun h => h)); have R6 := Lib.hid (R5.out.turn H6.out (fun h => h)); have y61 : w6.cell? ⟨w.heap.size, 1, none⟩ = some (.slice A1 nk c1) := B6.out.cell 1; have y62 : w6.cell? ⟨w.heap.size, 2, none⟩ = some (.slice A2 nv c2) := B6.out.cell 2; have y71 : ((((w6.setCell ⟨w.heap.size + 1, 0, none⟩ (.bool true)).setCell ⟨w.heap.size + 1, 1, none⟩ (.slice A5 lk c5)).setCell ⟨w.heap.size + 1, 2, none⟩ (.slice A6 lv c6)).setCell ⟨w.heap.size + 1, 3, none⟩ (.slice none 0 0)).cell? ⟨w.heap.size, 1, none⟩ = some (.slice A1 nk c1) := (B6.out.turn (put4 R6.out (.bool true) (.slice A5 lk c5) (.slice A6 lv c6) (.slice none 0 0)).2 (fun h => by omega)).cell 1; have y72 : ((((w6.setCell ⟨w.heap.size + 1, 0, none⟩ (.bool true)).setCell ⟨w.heap.size + 1, 1, none⟩ (.slice A5 lk c5)).setCell ⟨w.heap.size + 1, 2, none⟩ (.slice A6 lv c6)).setCell ⟨w.heap.size + 1, 3, none⟩ (.slice none 0 0)).cell? ⟨w.heap.size, 2, none⟩ = some (.slice A2 nv c2) := (B6.out.turn (put4 R6.out (.bool true) (.slice A5 lk c5) (.slice A6 lv c6) (.slice none 0 0)).2 (fun h => by omega)).cell 2; clear ht6 ho6 hp6; have r0 := R6.out.cell 0; have r1 := R6.out.cell 1; have r2 := R6.out.cell 2; have r3 := R6.out.cell 3; have g0 := R6.out.free 0; have g1 := R6.out.free 1; have g2 := R6.out.free 2; have g3 := R6.out.free 3)
        | (refine step_call rfl 39 Try.f39 _ _ rfl Try.func39 (by kernel_rfl) (by kernel_rfl) _ _ (HCK.out _ w2.heap.size (T2.out.trans (((Turn.refl (fun _ => False) w2).alloc (.cells #[.string key] 9)).drew)) ((Blk.new w2 9 [.string key]).drew)) (by go_simp) ?_; rintro v5 w5 ⟨A5, c5, rfl, ho5, hp5, ht5⟩; have P5 := Lib.hid hp5; have H5 : Hid (Turn (fun _ => False) w2 w5) := Lib.hid ((((Turn.refl (fun _ => False) w2).alloc (.cells #[.string key] 9)).drew).trans ht5);  have HO5 := Lib.hid (own_low8 ho5 ((((Turn.refl (fun _ => False) w2).alloc (.cells #[.string key] 9)).drew).size)); have T5 := Lib.hid (T2.out.trans H5.out); have B5 := Lib.hid (B2.out.turn H5.out (fun h => h)); have R5 := Lib.hid (R2.out.turn H5.out (fun h => h)); have y51 : w5.cell? ⟨w.heap.size, 1, none⟩ = some (.slice A1 nk c1) := B5.out.cell 1; have y52 : w5.cell? ⟨w.heap.size, 2, none⟩ = some (.slice A2 nv c2) := B5.out.cell 2; have y53 : (w5.alloc (.cells #[.string val] 9)).cell? ⟨w.heap.size, 1, none⟩ = some (.slice A1 nk c1) := (Lib.hid (B5.out.alloc (.cells #[.string val] 9))).out.cell 1; have y54 : (w5.alloc (.cells #[.string val] 9)).cell? ⟨w.heap.size, 2, none⟩ = some (.slice A2 nv c2) := (Lib.hid (B5.out.alloc (.cells #[.string val] 9))).out.cell 2; clear ht5 ho5 hp5)
        | (refine step_call rfl 39 Try.f39 _ _ rfl Try.func39 (by kernel_rfl) (by kernel_rfl) _ _ (HCK.out _ w2.heap.size (T2.out.trans ((((Turn.refl (fun _ => False) w2).alloc (.cells #[.string key] 9)).alloc (.cells #[.string val] 9)).drew)) (((Blk.new w2 9 [.string key]).alloc (.cells #[.string val] 9)).drew)) (by go_simp) ?_; rintro v5 w5 ⟨A5, c5, rfl, ho5, hp5, ht5⟩; have P5 := Lib.hid hp5; have H5 : Hid (Turn (fun _ => False) w2 w5) := Lib.hid (((((Turn.refl (fun _ => False) w2).alloc (.cells #[.string key] 9)).alloc (.cells #[.string val] 9)).drew).trans ht5); have VB := Lib.hid ((two_new w2 9 (.cells #[.string key] 9) [.string val]).drew.turn ht5 (fun h => h)); have HO5 := Lib.hid (own_low8 ho5 (((((Turn.refl (fun _ => False) w2).alloc (.cells #[.string key] 9)).alloc (.cells #[.string val] 9)).drew).size)); have T5 := Lib.hid (T2.out.trans H5.out); have B5 := Lib.hid (B2.out.turn H5.out (fun h => h)); have R5 := Lib.hid (R2.out.turn H5.out (fun h => h)); have y51 : w5.cell? ⟨w.heap.size, 1, none⟩ = some (.slice A1 nk c1) := B5.out.cell 1; have y52 : w5.cell? ⟨w.heap.size, 2, none⟩ = some (.slice A2 nv c2) := B5.out.cell 2; have y53 : (w5.alloc (.cells #[.string val] 9)).cell? ⟨w.heap.size, 1, none⟩ = some (.slice A1 nk c1) := (Lib.hid (B5.out.alloc (.cells #[.string val] 9))).out.cell 1; have y54 : (w5.alloc (.cells #[.string val] 9)).cell? ⟨w.heap.size, 2, none⟩ = some (.slice A2 nv c2) := (Lib.hid (B5.out.alloc (.cells #[.string val] 9))).out.cell 2; clear ht5 ho5 hp5)
        | (refine step_call rfl 39 Try.f39 _ _ rfl Try.func39 (by kernel_rfl) (by kernel_rfl) _ _ (HCK.out _ (w2.heap.size + 1) (T2.out.trans ((((Turn.refl (fun _ => False) w2).alloc (.cells #[.string val] 9)).alloc (.cells #[.string key] 9)).drew)) ((two_new w2 9 (.cells #[.string val] 9) [.string key]).drew)) (by go_simp) ?_; rintro v5 w5 ⟨A5, c5, rfl, ho5, hp5, ht5⟩; have P5 := Lib.hid hp5; have H5 : Hid (Turn (fun _ => False) w2 w5) := Lib.hid (((((Turn.refl (fun _ => False) w2).alloc (.cells #[.string val] 9)).alloc (.cells #[.string key] 9)).drew).trans ht5); have VA := Lib.hid (((Blk.new w2 9 [.string val]).alloc (.cells #[.string key] 9)).drew.turn ht5 (fun h => h)); have HO5 := Lib.hid (own_low8 ho5 (((((Turn.refl (fun _ => False) w2).alloc (.cells #[.string val] 9)).alloc (.cells #[.string key] 9)).drew).size)); have T5 := Lib.hid (T2.out.trans H5.out); have B5 := Lib.hid (B2.out.turn H5.out (fun h => h)); have R5 := Lib.hid (R2.out.turn H5.out (fun h => h)); have y51 : w5.cell? ⟨w.heap.size, 1, none⟩ = some (.slice A1 nk c1) := B5.out.cell 1; have y52 : w5.cell? ⟨w.heap.size, 2, none⟩ = some (.slice A2 nv c2) := B5.out.cell 2; have y53 : (w5.alloc (.cells #[.string val] 9)).cell? ⟨w.heap.size, 1, none⟩ = some (.slice A1 nk c1) := (Lib.hid (B5.out.alloc (.cells #[.string val] 9))).out.cell 1; have y54 : (w5.alloc (.cells #[.string val] 9)).cell? ⟨w.heap.size, 2, none⟩ = some (.slice A2 nv c2) := (Lib.hid (B5.out.alloc (.cells #[.string val] 9))).out.cell 2; clear ht5 ho5 hp5))
    all_goals go_wp2_with fail
    all_goals obtain ⟨hf, htf⟩ := put4 R6.out (.bool true) (.slice A5 lk c5) (.slice A6 lv c6) (.slice none 0 0)
    all_goals have htt := T6.out.trans_new htf (fun k hk e => by omega)
    all_goals have e0 := hf.cell 0
    all_goals have e1 := hf.cell 1
    all_goals have e2 := hf.cell 2
    all_goals have e3 := hf.cell 3
    all_goals simp only [List.getElem?_cons_zero, List.getElem?_cons_succ] at e0 e1 e2 e3
    all_goals clear r0 r1 r2 r3 g0 g1 g2 g3 hf
    all_goals generalize (((((w6.setCell ⟨w.heap.size + 1, 0, none⟩ (.bool true)).setCell ⟨w.heap.size + 1, 1, none⟩ (.slice A5 lk c5)).setCell ⟨w.heap.size + 1, 2, none⟩ (.slice A6 lv c6)).setCell ⟨w.heap.size + 1, 3, none⟩ (.slice none 0 0))) = WF at *
    all_goals exact bodyPost_ret (v := .tuple #[.agg #[.bool true, .slice A5 lk c5, .slice A6 lv c6, .slice none 0 0], .int .i64 0]) (by simp [results, Try.results16, go_sem, e0, e1, e2, e3]) rfl ⟨_, rfl, ⟨A5, c5, A6, c6, none, 0, by rw [HD.out]; simp only [nv8]; rw [HLK.out, HLV.out]; rfl, (by rw [HD.out]; have k5 := HP5.out; have k6 := HO6.out; rw [← HLK.out] at k5; rw [← HLV.out] at k6; exact ⟨Sr.away k5 rfl hgz htf, Sr.away k6 rfl hgz htf, nr_nil _ _⟩), (by rw [HD.out]; show Cp A5 KS.length c5 ∧ Cp A6 VS.length c6 ∧ Cp none 0 0; rw [HLK.out, HLV.out]; exact ⟨P5.out, P6.out, ⟨Nat.le_refl _, by unfold maxLen; decide, fun _ => rfl⟩⟩)⟩, htt⟩
  · obtain rfl : gn = 1 := by rw [← HG.out]; rfl
    clear hgn
    go_wp2_with fail
    go_region_held3 (fun X => X.cell? ⟨w.heap.size, 1, none⟩ = some (.slice A1 nk c1) ∧ X.cell? ⟨w.heap.size, 2, none⟩ = some (.slice A2 nv c2))
      (first
        | (with_reducible exact ⟨y1a, y2a⟩)
        | (with_reducible exact ⟨y1b, y2b⟩)
        | (with_reducible exact ⟨y1c, y2c⟩)
        | (with_reducible exact ⟨y1d, y2d⟩)
        | (with_reducible exact ⟨y1e, y2e⟩)
        | (with_reducible exact ⟨y51, y52⟩)
        | (with_reducible exact ⟨y53, y54⟩)
        | (with_reducible exact ⟨y61, y62⟩)
        | (with_reducible exact ⟨y71, y72⟩))
      (first
        | (refine step_call rfl 39 Try.f39 _ _ rfl Try.func39 (by kernel_rfl) (by kernel_rfl) _ _ (HCV.out _ w5.heap.size (T5.out.trans ((Turn.refl (fun _ => False) w5).alloc (.cells #[.string val] 9))) (Blk.new w5 9 [.string val])) (by go_simp) ?_; rintro v6 w6 ⟨A6, c6, rfl, ho6, hp6, ht6⟩; have P6 := Lib.hid hp6; have H6 : Hid (Turn (fun _ => False) w5 w6) := Lib.hid (((Turn.refl (fun _ => False) w5).alloc (.cells #[.string val] 9)).trans ht6); have hg5 := H5.out.size; have HO6 := Lib.hid (own_low8 (own_low8 ho6 (((Turn.refl (fun _ => False) w5).alloc (.cells #[.string val] 9)).size)) hg5); have T6 := Lib.hid (T5.out.trans H6.out); have HP5 := Lib.hid (own_turn8 HO5.out H6.out); have B6 := Lib.hid (B5.out.turn H6.out (fun h => h)); have R6 := Lib.hid (R5.out.turn H6.out (fun h => h)); have y61 : w6.cell? ⟨w.heap.size, 1, none⟩ = some (.slice A1 nk c1) := B6.out.cell 1; have y62 : w6.cell? ⟨w.heap.size, 2, none⟩ = some (.slice A2 nv c2) := B6.out.cell 2; have y71 : ((((w6.setCell ⟨w.heap.size + 1, 0, none⟩ (.bool true)).setCell ⟨w.heap.size + 1, 1, none⟩ (.slice A5 lk c5)).setCell ⟨w.heap.size + 1, 2, none⟩ (.slice A6 lv c6)).setCell ⟨w.heap.size + 1, 3, none⟩ (.slice none 0 0)).cell? ⟨w.heap.size, 1, none⟩ = some (.slice A1 nk c1) := (B6.out.turn (put4 R6.out (.bool true) (.slice A5 lk c5) (.slice A6 lv c6) (.slice none 0 0)).2 (fun h => by omega)).cell 1; have y72 : ((((w6.setCell ⟨w.heap.size + 1, 0, none⟩ (.bool true)).setCell ⟨w.heap.size + 1, 1, none⟩ (.slice A5 lk c5)).setCell ⟨w.heap.size + 1, 2, none⟩ (.slice A6 lv c6)).setCell ⟨w.heap.size + 1, 3, none⟩ (.slice none 0 0)).cell? ⟨w.heap.size, 2, none⟩ = some (.slice A2 nv c2) := (B6.out.turn (put4 R6.out (.bool true) (.slice A5 lk c5) (.slice A6 lv c6) (.slice none 0 0)).2 (fun h => by omega)).cell 2; clear ht6 ho6 hp6; have r0 := R6.out.cell 0; have r1 := R6.out.cell 1; have r2 := R6.out.cell 2; have r3 := R6.out.cell 3; have g0 := R6.out.free 0; have g1 := R6.out.free 1; have g2 := R6.out.free 2; have g3 := R6.out.free 3)
        | (refine step_call rfl 39 Try.f39 _ _ rfl Try.func39 (by kernel_rfl) (by kernel_rfl) _ _ (HCV.out _ (w2.heap.size + 1) (T5.out.trans ((Turn.refl (fun _ => False) w5))) (VB.out)) (by go_simp) ?_; rintro v6 w6 ⟨A6, c6, rfl, ho6, hp6, ht6⟩; have P6 := Lib.hid hp6; have H6 : Hid (Turn (fun _ => False) w5 w6) := Lib.hid (((Turn.refl (fun _ => False) w5)).trans ht6); have hg5 := H5.out.size; have HO6 := Lib.hid (own_low8 (own_low8 ho6 (((Turn.refl (fun _ => False) w5)).size)) hg5); have T6 := Lib.hid (T5.out.trans H6.out); have HP5 := Lib.hid (own_turn8 HO5.out H6.out); have B6 := Lib.hid (B5.out.turn H6.out (fun h => h)); have R6 := Lib.hid (R5.out.turn H6.out (fun h => h)); have y61 : w6.cell? ⟨w.heap.size, 1, none⟩ = some (.slice A1 nk c1) := B6.out.cell 1; have y62 : w6.cell? ⟨w.heap.size, 2, none⟩ = some (.slice A2 nv c2) := B6.out.cell 2; have y71 : ((((w6.setCell ⟨w.heap.size + 1, 0, none⟩ (.bool true)).setCell ⟨w.heap.size + 1, 1, none⟩ (.slice A5 lk c5)).setCell ⟨w.heap.size + 1, 2, none⟩ (.slice A6 lv c6)).setCell ⟨w.heap.size + 1, 3, none⟩ (.slice none 0 0)).cell? ⟨w.heap.size, 1, none⟩ = some (.slice A1 nk c1) := (B6.out.turn (put4 R6.out (.bool true) (.slice A5 lk c5) (.slice A6 lv c6) (.slice none 0 0)).2 (fun h => by omega)).cell 1; have y72 : ((((w6.setCell ⟨w.heap.size + 1, 0, none⟩ (.bool true)).setCell ⟨w.heap.size + 1, 1, none⟩ (.slice A5 lk c5)).setCell ⟨w.heap.size + 1, 2, none⟩ (.slice A6 lv c6)).setCell ⟨w.heap.size + 1, 3, none⟩ (.slice none 0 0)).cell? ⟨w.heap.size, 2, none⟩ = some (.slice A2 nv c2) := (B6.out.turn (put4 R6.out (.bool true) (.slice A5 lk c5) (.slice A6 lv c6) (.slice none 0 0)).2 (fun h => by omega)).cell 2; clear ht6 ho6 hp6; have r0 := R6.out.cell 0; have r1 := R6.out.cell 1; have r2 := R6.out.cell 2; have r3 := R6.out.cell 3; have g0 := R6.out.free 0; have g1 := R6.out.free 1; have g2 := R6.out.free 2; have g3 := R6.out.free 3)
        | (refine step_call rfl 39 Try.f39 _ _ rfl Try.func39 (by kernel_rfl) (by kernel_rfl) _ _ (HCV.out _ w2.heap.size (T5.out.trans ((Turn.refl (fun _ => False) w5))) (VA.out)) (by go_simp) ?_; rintro v6 w6 ⟨A6, c6, rfl, ho6, hp6, ht6⟩; have P6 := Lib.hid hp6; have H6 : Hid (Turn (fun _ => False) w5 w6) := Lib.hid (((Turn.refl (fun _ => False) w5)).trans ht6); have hg5 := H5.out.size; have HO6 := Lib.hid (own_low8 (own_low8 ho6 (((Turn.refl (fun _ => False) w5)).size)) hg5); have T6 := Lib.hid (T5.out.trans H6.out); have HP5 := Lib.hid (own_turn8 HO5.out H6.out); have B6 := Lib.hid (B5.out.turn H6.out (fun h => h)); have R6 := Lib.hid (R5.out.turn H6.out (fun h => h)); have y61 : w6.cell? ⟨w.heap.size, 1, none⟩ = some (.slice A1 nk c1) := B6.out.cell 1; have y62 : w6.cell? ⟨w.heap.size, 2, none⟩ = some (.slice A2 nv c2) := B6.out.cell 2; have y71 : ((((w6.setCell ⟨w.heap.size + 1, 0, none⟩ (.bool true)).setCell ⟨w.heap.size + 1, 1, none⟩ (.slice A5 lk c5)).setCell ⟨w.heap.size + 1, 2, none⟩ (.slice A6 lv c6)).setCell ⟨w.heap.size + 1, 3, none⟩ (.slice none 0 0)).cell? ⟨w.heap.size, 1, none⟩ = some (.slice A1 nk c1) := (B6.out.turn (put4 R6.out (.bool true) (.slice A5 lk c5) (.slice A6 lv c6) (.slice none 0 0)).2 (fun h => by omega)).cell 1; have y72 : ((((w6.setCell ⟨w.heap.size + 1, 0, none⟩ (.bool true)).setCell ⟨w.heap.size + 1, 1, none⟩ (.slice A5 lk c5)).setCell ⟨w.heap.size + 1, 2, none⟩ (.slice A6 lv c6)).setCell ⟨w.heap.size + 1, 3, none⟩ (.slice none 0 0)).cell? ⟨w.heap.size, 2, none⟩ = some (.slice A2 nv c2) := (B6.out.turn (put4 R6.out (.bool true) (.slice A5 lk c5) (.slice A6 lv c6) (.slice none 0 0)).2 (fun h => by omega)).cell 2; clear ht6 ho6 hp6; have r0 := R6.out.cell 0; have r1 := R6.out.cell 1; have r2 := R6.out.cell 2; have r3 := R6.out.cell 3; have g0 := R6.out.free 0; have g1 := R6.out.free 1; have g2 := R6.out.free 2; have g3 := R6.out.free 3)
        | (refine step_call rfl 39 Try.f39 _ _ rfl Try.func39 (by kernel_rfl) (by kernel_rfl) _ _ (HCK.out _ w2.heap.size (T2.out.trans (((Turn.refl (fun _ => False) w2).alloc (.cells #[.string key] 9)).drew)) ((Blk.new w2 9 [.string key]).drew)) (by go_simp) ?_; rintro v5 w5 ⟨A5, c5, rfl, ho5, hp5, ht5⟩; have P5 := Lib.hid hp5; have H5 : Hid (Turn (fun _ => False) w2 w5) := Lib.hid ((((Turn.refl (fun _ => False) w2).alloc (.cells #[.string key] 9)).drew).trans ht5);  have HO5 := Lib.hid (own_low8 ho5 ((((Turn.refl (fun _ => False) w2).alloc (.cells #[.string key] 9)).drew).size)); have T5 := Lib.hid (T2.out.trans H5.out); have B5 := Lib.hid (B2.out.turn H5.out (fun h => h)); have R5 := Lib.hid (R2.out.turn H5.out (fun h => h)); have y51 : w5.cell? ⟨w.heap.size, 1, none⟩ = some (.slice A1 nk c1) := B5.out.cell 1; have y52 : w5.cell? ⟨w.heap.size, 2, none⟩ = some (.slice A2 nv c2) := B5.out.cell 2; have y53 : (w5.alloc (.cells #[.string val] 9)).cell? ⟨w.heap.size, 1, none⟩ = some (.slice A1 nk c1) := (Lib.hid (B5.out.alloc (.cells #[.string val] 9))).out.cell 1; have y54 : (w5.alloc (.cells #[.string val] 9)).cell? ⟨w.heap.size, 2, none⟩ = some (.slice A2 nv c2) := (Lib.hid (B5.out.alloc (.cells #[.string val] 9))).out.cell 2; clear ht5 ho5 hp5)
        | (refine step_call rfl 39 Try.f39 _ _ rfl Try.func39 (by kernel_rfl) (by kernel_rfl) _ _ (HCK.out _ w2.heap.size (T2.out.trans ((((Turn.refl (fun _ => False) w2).alloc (.cells #[.string key] 9)).alloc (.cells #[.string val] 9)).drew)) (((Blk.new w2 9 [.string key]).alloc (.cells #[.string val] 9)).drew)) (by go_simp) ?_; rintro v5 w5 ⟨A5, c5, rfl, ho5, hp5, ht5⟩; have P5 := Lib.hid hp5; have H5 : Hid (Turn (fun _ => False) w2 w5) := Lib.hid (((((Turn.refl (fun _ => False) w2).alloc (.cells #[.string key] 9)).alloc (.cells #[.string val] 9)).drew).trans ht5); have VB := Lib.hid ((two_new w2 9 (.cells #[.string key] 9) [.string val]).drew.turn ht5 (fun h => h)); have HO5 := Lib.hid (own_low8 ho5 (((((Turn.refl (fun _ => False) w2).alloc (.cells #[.string key] 9)).alloc (.cells #[.string val] 9)).drew).size)); have T5 := Lib.hid (T2.out.trans H5.out); have B5 := Lib.hid (B2.out.turn H5.out (fun h => h)); have R5 := Lib.hid (R2.out.turn H5.out (fun h => h)); have y51 : w5.cell? ⟨w.heap.size, 1, none⟩ = some (.slice A1 nk c1) := B5.out.cell 1; have y52 : w5.cell? ⟨w.heap.size, 2, none⟩ = some (.slice A2 nv c2) := B5.out.cell 2; have y53 : (w5.alloc (.cells #[.string val] 9)).cell? ⟨w.heap.size, 1, none⟩ = some (.slice A1 nk c1) := (Lib.hid (B5.out.alloc (.cells #[.string val] 9))).out.cell 1; have y54 : (w5.alloc (.cells #[.string val] 9)).cell? ⟨w.heap.size, 2, none⟩ = some (.slice A2 nv c2) := (Lib.hid (B5.out.alloc (.cells #[.string val] 9))).out.cell 2; clear ht5 ho5 hp5)
        | (refine step_call rfl 39 Try.f39 _ _ rfl Try.func39 (by kernel_rfl) (by kernel_rfl) _ _ (HCK.out _ (w2.heap.size + 1) (T2.out.trans ((((Turn.refl (fun _ => False) w2).alloc (.cells #[.string val] 9)).alloc (.cells #[.string key] 9)).drew)) ((two_new w2 9 (.cells #[.string val] 9) [.string key]).drew)) (by go_simp) ?_; rintro v5 w5 ⟨A5, c5, rfl, ho5, hp5, ht5⟩; have P5 := Lib.hid hp5; have H5 : Hid (Turn (fun _ => False) w2 w5) := Lib.hid (((((Turn.refl (fun _ => False) w2).alloc (.cells #[.string val] 9)).alloc (.cells #[.string key] 9)).drew).trans ht5); have VA := Lib.hid (((Blk.new w2 9 [.string val]).alloc (.cells #[.string key] 9)).drew.turn ht5 (fun h => h)); have HO5 := Lib.hid (own_low8 ho5 (((((Turn.refl (fun _ => False) w2).alloc (.cells #[.string val] 9)).alloc (.cells #[.string key] 9)).drew).size)); have T5 := Lib.hid (T2.out.trans H5.out); have B5 := Lib.hid (B2.out.turn H5.out (fun h => h)); have R5 := Lib.hid (R2.out.turn H5.out (fun h => h)); have y51 : w5.cell? ⟨w.heap.size, 1, none⟩ = some (.slice A1 nk c1) := B5.out.cell 1; have y52 : w5.cell? ⟨w.heap.size, 2, none⟩ = some (.slice A2 nv c2) := B5.out.cell 2; have y53 : (w5.alloc (.cells #[.string val] 9)).cell? ⟨w.heap.size, 1, none⟩ = some (.slice A1 nk c1) := (Lib.hid (B5.out.alloc (.cells #[.string val] 9))).out.cell 1; have y54 : (w5.alloc (.cells #[.string val] 9)).cell? ⟨w.heap.size, 2, none⟩ = some (.slice A2 nv c2) := (Lib.hid (B5.out.alloc (.cells #[.string val] 9))).out.cell 2; clear ht5 ho5 hp5))
    all_goals go_wp2_with fail
    all_goals obtain ⟨hf, htf⟩ := put4 R6.out (.bool true) (.slice A5 lk c5) (.slice A6 lv c6) (.slice none 0 0)
    all_goals have htt := T6.out.trans_new htf (fun k hk e => by omega)
    all_goals have e0 := hf.cell 0
    all_goals have e1 := hf.cell 1
    all_goals have e2 := hf.cell 2
    all_goals have e3 := hf.cell 3
    all_goals simp only [List.getElem?_cons_zero, List.getElem?_cons_succ] at e0 e1 e2 e3
    all_goals clear r0 r1 r2 r3 g0 g1 g2 g3 hf
    all_goals generalize (((((w6.setCell ⟨w.heap.size + 1, 0, none⟩ (.bool true)).setCell ⟨w.heap.size + 1, 1, none⟩ (.slice A5 lk c5)).setCell ⟨w.heap.size + 1, 2, none⟩ (.slice A6 lv c6)).setCell ⟨w.heap.size + 1, 3, none⟩ (.slice none 0 0))) = WF at *
    all_goals exact bodyPost_ret (v := .tuple #[.agg #[.bool true, .slice A5 lk c5, .slice A6 lv c6, .slice none 0 0], .int .i64 0]) (by simp [results, Try.results16, go_sem, e0, e1, e2, e3]) rfl ⟨_, rfl, ⟨A5, c5, A6, c6, none, 0, by rw [HD.out]; simp only [nv8]; rw [HLK.out, HLV.out]; rfl, (by rw [HD.out]; have k5 := HP5.out; have k6 := HO6.out; rw [← HLK.out] at k5; rw [← HLV.out] at k6; exact ⟨Sr.away k5 rfl hgz htf, Sr.away k6 rfl hgz htf, nr_nil _ _⟩), (by rw [HD.out]; show Cp A5 KS.length c5 ∧ Cp A6 VS.length c6 ∧ Cp none 0 0; rw [HLK.out, HLV.out]; exact ⟨P5.out, P6.out, ⟨Nat.le_refl _, by unfold maxLen; decide, fun _ => rfl⟩⟩)⟩, htt⟩
end Go.Proofs.Ytpnnbfojdccfhaa
