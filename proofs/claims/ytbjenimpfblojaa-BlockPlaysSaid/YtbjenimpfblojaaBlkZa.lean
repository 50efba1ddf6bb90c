/- Layer 4: a step of both disks: Write (made by gen_blkza.py). -/
import Derived.Test.YtbjenimpfblojaaBlkY
namespace Go.Proofs.Ytbjenimpfblojaa
open Go.RowKit Go.Maps
set_option linter.unusedVariables false

/-- A text's bytes: what the conversion gives, named. -/
theorem conv_by_ (w : World) (S : Nat → Prop) (s : ByteArray) (hS : ∀ k, S k → k < w.heap.size) : ∃ A c w', (convert 9 41 (.string s)).run Try.prog w = .ok (.slice A s.size c) w' ∧ By S w' (.slice A s.size c) s.data.toList ∧ Turn (fun _ => False) w w' := by
  have hr := run_bytes_of_string (P := Try.prog) w 9 41 5 s Try.underlying9 Try.underlying41 Try.underlying5
  exact ⟨_, _, _, hr, by_conv w hS s _ _ _, (Turn.refl _ _).drew.alloc _⟩
set_option maxRecDepth 100000 in
set_option maxHeartbeats 1000000 in
theorem step_w {S : Nat → Prop} {w : World} {p : Nat} {D : Dsk} (h : Dq S w p D) {ks : List (List UInt8)} {A B : Option Addr} {c d : Nat} (g : Rg S w D ks A c B d) (hp : D.pend.length ≤ 900000) (ak ai : Int) (n1 : (ak == 1) = false) (n2 : (ak == 2) = false) (n3' : (ak == 3) = false) (n4 : (ak == 4) = false) (n5 : (ak == 5) = false) (as_ : ByteArray) (A3 : Option Addr) (n3 c3 : Nat) :
    Calls Try.prog 14 #[.pointer (some ⟨p, 0, none⟩), rd D ks A c B d, .agg #[.int .i64 ak, .int .i64 ai, .string as_, .slice A3 n3 c3]] w fun e w' => After S w D e w' := by
  have T0 := Lib.hid ((((Turn.refl (fun _ => False) w).alloc (.cells #[.int .i64 (D.kept.length : Int), .slice A ks.length c, .slice B D.pend.length d, .int .i64 D.fuse, .bool D.dead] 30)).alloc (.cells #[.int .i64 ak, .int .i64 ai, .string as_, .slice A3 n3 c3] 39)).alloc (.cells #[.int .i64 0, .slice none 0 0, .slice none 0 0, .int .i64 0, .bool false] 30))
  have HR0 := Lib.hid (Blk.new_ ((w.alloc (.cells #[.int .i64 (D.kept.length : Int), .slice A ks.length c, .slice B D.pend.length d, .int .i64 D.fuse, .bool D.dead] 30)).alloc (.cells #[.int .i64 ak, .int .i64 ai, .string as_, .slice A3 n3 c3] 39)) 30 [.int .i64 0, .slice none 0 0, .slice none 0 0, .int .i64 0, .bool false] (k := w.heap.size + 1 + 1) (by simp))
  have HA0 := Lib.hid ((Blk.new_ (w.alloc (.cells #[.int .i64 (D.kept.length : Int), .slice A ks.length c, .slice B D.pend.length d, .int .i64 D.fuse, .bool D.dead] 30)) 39 [.int .i64 ak, .int .i64 ai, .string as_, .slice A3 n3 c3] (k := w.heap.size + 1) (by simp)).alloc (.cells #[.int .i64 0, .slice none 0 0, .slice none 0 0, .int .i64 0, .bool false] 30))
  have HQ := Lib.hid h
  have HG := Lib.hid g
  have hlt := Lib.hid h.lt
  have OK := Lib.hid h.1
  have HF : Hid (∀ W, Turn (fun _ => False) w W → w.heap.size + 1 + 1 < W.heap.size → Calls Try.prog 40 #[rd D ks A c B d, .int .i64 ai, .string as_] W fun e w' => ∃ ks' A' c' B' d', e = .returned (.tuple #[rd (D.write ai as_.data.toList).1 ks' A' c' B' d', .int .i64 (D.write ai as_.data.toList).2]) ∧ Rg (fun k => S k ∨ k = w.heap.size + 1 + 1) w' (D.write ai as_.data.toList).1 ks' A' c' B' d' ∧ Turn (fun _ => False) W w') :=
    Lib.hid (fun W ht hw => (write_rg (fun k hk => by rcases hk with hk | hk; exact Nat.lt_of_lt_of_le (hlt.out k hk) ht.size; omega) ((HG.out.plus (x := w.heap.size + 1 + 1) (by omega)).still ht) OK.out (by omega) ai as_).mono (by rintro e w' ⟨B', d', rfl, h1, h2⟩; exact ⟨ks, A, c, B', d', rfl, h1, h2⟩))
  unfold rd at *
  clear h g
  go_enter Try.func14, Try.ntmps14
  go_wp2_with fail
  refine (HF.out _ T0.out (by simp)).mono ?_
  rintro e w1 ⟨ks', A', c', B', d', rfl, hg1, ht1⟩
  have G1 := Lib.hid hg1
  have T1 := Lib.hid (T0.out.trans ht1)
  have HR1 := Lib.hid (HR0.out.turn ht1 (fun h => h))
  have HA1 := Lib.hid (HA0.out.turn ht1 (fun h => h))
  clear hg1 ht1
  go_wp2_with fail
  have HBq := Lib.hid (Blk.new w1 30 [.int .i64 ((D.write ai as_.data.toList).1.kept.length : Int), .slice A' ks'.length c', .slice B' (D.write ai as_.data.toList).1.pend.length d', .int .i64 (D.write ai as_.data.toList).1.fuse, .bool (D.write ai as_.data.toList).1.dead])
  have t2 := (Turn.refl (fun _ => False) w1).alloc (.cells #[.int .i64 ((D.write ai as_.data.toList).1.kept.length : Int), .slice A' ks'.length c', .slice B' (D.write ai as_.data.toList).1.pend.length d', .int .i64 (D.write ai as_.data.toList).1.fuse, .bool (D.write ai as_.data.toList).1.dead] 30)
  have G2 := Lib.hid (G1.out.still t2)
  have T2 := Lib.hid (T1.out.trans t2)
  have HR2 := Lib.hid (HR1.out.turn t2 (fun h => h))
  have HA2 := Lib.hid (HA1.out.turn t2 (fun h => h))
  have hqge := HR1.out.lt
  clear t2
  obtain ⟨W2, hW2⟩ : ∃ W2, w1.alloc (.cells #[.int .i64 ((D.write ai as_.data.toList).1.kept.length : Int), .slice A' ks'.length c', .slice B' (D.write ai as_.data.toList).1.pend.length d', .int .i64 (D.write ai as_.data.toList).1.fuse, .bool (D.write ai as_.data.toList).1.dead] 30) = W2 := ⟨_, rfl⟩
  have HBq2 : Hid (Blk W2 w1.heap.size 30 [.int .i64 ((D.write ai as_.data.toList).1.kept.length : Int), .slice A' ks'.length c', .slice B' (D.write ai as_.data.toList).1.pend.length d', .int .i64 (D.write ai as_.data.toList).1.fuse, .bool (D.write ai as_.data.toList).1.dead]) := by rw [← hW2]; exact HBq
  rw [hW2] at G2 T2 HR2 HA2 ⊢
  generalize w1.heap.size = q at *
  have Q2 := Lib.hid (HQ.out.still T2.out)
  have HC : Hid (∀ v W, By S W v as_.data.toList → Turn (fun _ => False) W2 W → Calls Try.prog 32 #[.pointer (some ⟨p, 0, none⟩), .int .i64 ai, v] W fun e w' => ∃ v, e = .returned v ∧ v = .int .i64 (D.write ai as_.data.toList).2 ∧ ∃ S', Dq S' w' p (D.write ai as_.data.toList).1 ∧ Stp S W2 S' w') := Lib.hid (fun v W hby ht => (write_dq (Q2.out.still ht) ai v as_.data.toList hby (by omega)).mono (by rintro e w' ⟨rfl, S', h1, h2⟩; exact ⟨_, rfl, rfl, S', h1, ⟨(ht.mono (fun _ _ h => h.elim)).trans h2.1, fun k hk => (h2.2 k hk).elim .inl (fun h => .inr (Nat.le_trans ht.size h))⟩⟩))
  have NS : Hid (¬ S q ∧ ¬ S (w.heap.size + 1 + 1) ∧ q ≠ w.heap.size + 1 + 1 ∧ ¬ S (w.heap.size + 1)) := Lib.hid ⟨fun h => by have := hlt.out _ h; omega, fun h => by have := hlt.out _ h; omega, by omega, fun h => by have := hlt.out _ h; omega⟩
  have fl := write_len D ai as_.data.toList
  generalize (D.write ai as_.data.toList).2 = E at *
  generalize hD' : (D.write ai as_.data.toList).1 = D' at *
  have SC : Hid (∀ W, Turn (fun k => S k ∨ k = w.heap.size + 1 + 1) W2 W → W.cell? ⟨q, 0, none⟩ = some (.int .i64 (D'.kept.length : Int)) ∧ W.cell? ⟨q, 1, none⟩ = some (.slice A' ks'.length c') ∧ W.cell? ⟨q, 2, none⟩ = some (.slice B' D'.pend.length d') ∧ W.cell? ⟨q, 3, none⟩ = some (.int .i64 D'.fuse) ∧ W.cell? ⟨q, 4, none⟩ = some (.bool D'.dead) ∧ W.cell? ⟨w.heap.size + 1, 1, none⟩ = some (.int .i64 ai) ∧ W.cell? ⟨w.heap.size + 1, 2, none⟩ = some (.string as_)) := Lib.hid (fun W ht => by
    have hb := HBq2.out.turn ht (fun h => by rcases h with h | h; exact NS.out.1 h; exact NS.out.2.2.1 h)
    have ha := HA2.out.turn ht (fun h => by rcases h with h | h; exact NS.out.2.2.2 h; omega)
    exact ⟨hb.cell 0, hb.cell 1, hb.cell 2, hb.cell 3, hb.cell 4, ha.cell 1, ha.cell 2⟩)
  have FL := Lib.hid fl
  clear hW2 fl hD' HF hqge HBq
  obtain ⟨A9, c9, w9, hr9, hby9, ht9⟩ := conv_by_ W2.drew S as_ (Q2.out.still ((Turn.refl (fun _ => False) W2).drew)).lt
  have Y9 := Lib.hid hby9
  have X9 := Lib.hid (((Turn.refl (fun _ => False) W2).drew).trans ht9)
  have T9 : Hid (Turn (fun k => S k ∨ k = w.heap.size + 1 + 1) W2 w9) := Lib.hid (X9.out.mono (fun _ _ h => h.elim))
  clear hby9 ht9
  have T20 : Hid (Turn (fun k => S k ∨ k = w.heap.size + 1 + 1) W2 W2.drew) := Lib.hid ((Turn.refl _ _).drew)
  refine wp_region_noPanic ?_
  refine wp_region_held_drew (S := (fun w' => w'.cell? ⟨q, 0, none⟩ = some (.int .i64 (D'.kept.length : Int)) ∧ w'.cell? ⟨q, 1, none⟩ = some (.slice A' ks'.length c') ∧ w'.cell? ⟨q, 2, none⟩ = some (.slice B' D'.pend.length d') ∧ w'.cell? ⟨q, 3, none⟩ = some (.int .i64 D'.fuse) ∧ w'.cell? ⟨q, 4, none⟩ = some (.bool D'.dead) ∧ w'.cell? ⟨w.heap.size + 1, 1, none⟩ = some (.int .i64 ai) ∧ w'.cell? ⟨w.heap.size + 1, 2, none⟩ = some (.string as_))) (by kernel_rfl) ?_ (fun hHeld => ?_)
  · exact SC.out _ T20.out
  refine wpAnyH_take (i := 0) (v := .pointer (some ⟨p, 0, none⟩)) rfl (by kernel_rfl) (by kernel_rfl) (by kernel_rfl) (fun _ _ _ h => h) (Or.inl ⟨by rfl, ?_⟩) (by assumption) ?_
  · intro w' hSw
    go_simp
  try simp only [List.getElem_toArray, List.getElem_cons_zero, List.getElem_cons_succ, Act.put, List.setIfInBounds_toArray, List.set_cons_zero, List.set_cons_succ]
  refine wpAnyH_take (i := 1) (v := .agg #[.int .i64 (D'.kept.length : Int), .slice A' ks'.length c', .slice B' D'.pend.length d', .int .i64 D'.fuse, .bool D'.dead]) rfl (by kernel_rfl) (by kernel_rfl) (by kernel_rfl) (fun _ _ _ h => h) (Or.inl ⟨by rfl, ?_⟩) (by assumption) ?_
  · intro w' hSw
    go_simp
  try simp only [List.getElem_toArray, List.getElem_cons_zero, List.getElem_cons_succ, Act.put, List.setIfInBounds_toArray, List.set_cons_zero, List.set_cons_succ]
  refine wpAnyH_take (i := 2) (v := .pointer (some ⟨p, 0, none⟩)) rfl (by kernel_rfl) (by kernel_rfl) (by kernel_rfl) (fun _ _ _ h => h) (Or.inl ⟨by rfl, ?_⟩) (by assumption) ?_
  · intro w' hSw
    go_simp
  try simp only [List.getElem_toArray, List.getElem_cons_zero, List.getElem_cons_succ, Act.put, List.setIfInBounds_toArray, List.set_cons_zero, List.set_cons_succ]
  refine wpAnyH_take (i := 3) (v := .pointer (some ⟨w.heap.size + 1, 1, none⟩)) rfl (by kernel_rfl) (by kernel_rfl) (by kernel_rfl) (fun _ _ _ h => h) (Or.inl ⟨by rfl, ?_⟩) (by assumption) ?_
  · intro w' hSw
    go_simp
  try simp only [List.getElem_toArray, List.getElem_cons_zero, List.getElem_cons_succ, Act.put, List.setIfInBounds_toArray, List.set_cons_zero, List.set_cons_succ]
  refine wpAnyH_take (i := 4) (v := .int .i64 ai) rfl (by kernel_rfl) (by kernel_rfl) (by kernel_rfl) (fun _ _ _ h => h) (Or.inl ⟨by rfl, ?_⟩) (by assumption) ?_
  · intro w' hSw
    go_simp
  try simp only [List.getElem_toArray, List.getElem_cons_zero, List.getElem_cons_succ, Act.put, List.setIfInBounds_toArray, List.set_cons_zero, List.set_cons_succ]
  refine wpAnyH_take (i := 5) (v := .pointer (some ⟨w.heap.size + 1, 2, none⟩)) rfl (by kernel_rfl) (by kernel_rfl) (by kernel_rfl) (fun _ _ _ h => h) (Or.inl ⟨by rfl, ?_⟩) (by assumption) ?_
  · intro w' hSw
    go_simp
  try simp only [List.getElem_toArray, List.getElem_cons_zero, List.getElem_cons_succ, Act.put, List.setIfInBounds_toArray, List.set_cons_zero, List.set_cons_succ]
  refine wpAnyH_take (i := 6) (v := .string as_) rfl (by kernel_rfl) (by kernel_rfl) (by kernel_rfl) (fun _ _ _ h => h) (Or.inl ⟨by rfl, ?_⟩) (by assumption) ?_
  · intro w' hSw
    go_simp
  try simp only [List.getElem_toArray, List.getElem_cons_zero, List.getElem_cons_succ, Act.put, List.setIfInBounds_toArray, List.set_cons_zero, List.set_cons_succ]
  refine wpAnyH_take (i := 9) (v := .int .i64 E) rfl (by kernel_rfl) (by kernel_rfl) (by kernel_rfl) (fun _ _ _ h => h) (Or.inl ⟨by rfl, ?_⟩) (by assumption) ?_
  · intro w' hSw
    go_simp
  try simp only [List.getElem_toArray, List.getElem_cons_zero, List.getElem_cons_succ, Act.put, List.setIfInBounds_toArray, List.set_cons_zero, List.set_cons_succ]
  refine wpAnyH_ready (rs := [7]) (by kernel_rfl) (by simp) ?_
  refine AllReadyH.cons rfl (fun K hK => ?_) AllReadyH.nil
  go_simp
  refine hK.out _ _ (SC.out _ T9.out) (fun hHeld => ?_)
  clear hK K
  try simp only [List.getElem_toArray, List.getElem_cons_zero, List.getElem_cons_succ, Act.put, List.setIfInBounds_toArray, List.set_cons_zero, List.set_cons_succ]
  refine wpAnyH_ready (rs := [8]) (by kernel_rfl) (by simp) ?_
  refine AllReadyH.cons rfl (fun K hK => ?_) AllReadyH.nil
  refine step_call rfl 32 Try.f32 _ _ rfl Try.func32 (by kernel_rfl) (by kernel_rfl) _ _ (HC.out _ _ Y9.out X9.out) (by go_simp) ?_
  rintro v5 w5 ⟨rfl, S', hq5, hs5⟩
  have Q5 := Lib.hid hq5
  have X5 := Lib.hid hs5
  have T5 : Hid (Turn (fun k => S k ∨ k = w.heap.size + 1 + 1) W2 w5) := Lib.hid (hs5.1.mono (fun _ _ h => .inl h))
  have hr5 := HR2.out.turn hs5.1 NS.out.2.1
  have HR5 := Lib.hid hr5
  have r0 := hr5.cell 0
  have r1 := hr5.cell 1
  have r2 := hr5.cell 2
  have r3 := hr5.cell 3
  have r4 := hr5.cell 4
  have g0 := hr5.free 0
  have g1 := hr5.free 1
  have g2 := hr5.free 2
  have g3 := hr5.free 3
  have g4 := hr5.free 4
  simp only [List.getElem?_cons_zero, List.getElem?_cons_succ] at r0 r1 r2 r3 r4
  clear hq5 hs5 hr5
  refine hK.out _ _ (SC.out _ T5.out) (fun hHeld => ?_)
  clear hK K
  try simp only [List.getElem_toArray, List.getElem_cons_zero, List.getElem_cons_succ, Act.put, List.setIfInBounds_toArray, List.set_cons_zero, List.set_cons_succ]
  refine wpAnyH_take (i := 10) (v := .bool true) rfl (by kernel_rfl) (by kernel_rfl) (by kernel_rfl) (fun _ _ _ h => h) (Or.inl ⟨by rfl, ?_⟩) (by assumption) ?_
  · intro w' hSw
    go_simp
  try simp only [List.getElem_toArray, List.getElem_cons_zero, List.getElem_cons_succ, Act.put, List.setIfInBounds_toArray, List.set_cons_zero, List.set_cons_succ]
  refine wpAnyH_take (i := 11) (v := .pointer (some ⟨p, 0, none⟩)) rfl (by kernel_rfl) (by kernel_rfl) (by kernel_rfl) (fun _ _ _ h => h) (Or.inl ⟨by rfl, ?_⟩) (by assumption) ?_
  · intro w' hSw
    go_simp
  try simp only [List.getElem_toArray, List.getElem_cons_zero, List.getElem_cons_succ, Act.put, List.setIfInBounds_toArray, List.set_cons_zero, List.set_cons_succ]
  refine wpAnyH_ready (rs := [12]) (by kernel_rfl) (by simp) ?_
  refine AllReadyH.cons rfl (fun K hK => ?_) AllReadyH.nil
  go_simp
  refine hK.out _ _ (SC.out _ (((((T5.out.setCell (p := ⟨w.heap.size + 1 + 1, 0, none⟩) (.inl (.inr rfl)) _).setCell (p := ⟨w.heap.size + 1 + 1, 1, none⟩) (.inl (.inr rfl)) _).setCell (p := ⟨w.heap.size + 1 + 1, 2, none⟩) (.inl (.inr rfl)) _).setCell (p := ⟨w.heap.size + 1 + 1, 3, none⟩) (.inl (.inr rfl)) _).setCell (p := ⟨w.heap.size + 1 + 1, 4, none⟩) (.inl (.inr rfl)) _)) (fun hHeld => ?_)
  clear hK K
  try simp only [List.getElem_toArray, List.getElem_cons_zero, List.getElem_cons_succ, Act.put, List.setIfInBounds_toArray, List.set_cons_zero, List.set_cons_succ]
  refine wpAnyH_take (i := 13) (v := .bool true) rfl (by kernel_rfl) (by kernel_rfl) (by kernel_rfl) (fun _ _ _ h => h) (Or.inl ⟨by rfl, ?_⟩) (by assumption) ?_
  · intro w' hSw
    go_simp
  try simp only [List.getElem_toArray, List.getElem_cons_zero, List.getElem_cons_succ, Act.put, List.setIfInBounds_toArray, List.set_cons_zero, List.set_cons_succ]
  refine wpAnyH_done (by kernel_rfl) ?_ _
  refine NoPanic.normal ?_
  clear hHeld
  go_wp2
  have hf := ((((HR5.out.put 0 (.int .i64 (D'.kept.length : Int))).put 1 (.slice A' ks'.length c')).put 2 (.slice B' D'.pend.length d')).put 3 (.int .i64 D'.fuse)).put 4 (.bool D'.dead)
  have tf := (((((Turn.refl (fun k => k = w.heap.size + 1 + 1) w5).setCell (p := ⟨w.heap.size + 1 + 1, 0, none⟩) (.inl rfl) (.int .i64 (D'.kept.length : Int))).setCell (p := ⟨w.heap.size + 1 + 1, 1, none⟩) (.inl rfl) (.slice A' ks'.length c')).setCell (p := ⟨w.heap.size + 1 + 1, 2, none⟩) (.inl rfl) (.slice B' D'.pend.length d')).setCell (p := ⟨w.heap.size + 1 + 1, 3, none⟩) (.inl rfl) (.int .i64 D'.fuse)).setCell (p := ⟨w.heap.size + 1 + 1, 4, none⟩) (.inl rfl) (.bool D'.dead)
  have e0 := hf.cell 0
  have e1 := hf.cell 1
  have e2 := hf.cell 2
  have e3 := hf.cell 3
  have e4 := hf.cell 4
  simp only [List.set_cons_zero, List.set_cons_succ, List.getElem?_cons_zero, List.getElem?_cons_succ] at e0 e1 e2 e3 e4
  have HTF := Lib.hid tf
  clear r0 r1 r2 r3 r4 g0 g1 g2 g3 g4 tf hf
  generalize (((((w5.setCell ⟨w.heap.size + 1 + 1, 0, none⟩ (.int .i64 (D'.kept.length : Int))).setCell ⟨w.heap.size + 1 + 1, 1, none⟩ (.slice A' ks'.length c')).setCell ⟨w.heap.size + 1 + 1, 2, none⟩ (.slice B' D'.pend.length d')).setCell ⟨w.heap.size + 1 + 1, 3, none⟩ (.int .i64 D'.fuse)).setCell ⟨w.heap.size + 1 + 1, 4, none⟩ (.bool D'.dead)) = WF at *
  exact bodyPost_ret (v := .tuple #[.pointer (some ⟨p, 0, none⟩), .agg #[.int .i64 (D'.kept.length : Int), .slice A' ks'.length c', .slice B' D'.pend.length d', .int .i64 D'.fuse, .bool D'.dead], .bool true]) (by simp [results, Try.results14, go_sem, e0, e1, e2, e3, e4]) rfl (after_ hlt.out (by omega) HR2.out.lt T2.out G2.out Q5.out X5.out HTF.out FL.out.1 FL.out.2)
end Go.Proofs.Ytbjenimpfblojaa
