/- Layer 4: a step of both disks. -/
import Derived.Test.YtbjenimpfblojaaBlkX
namespace Go.Proofs.Ytbjenimpfblojaa
open Go.RowKit Go.Maps
set_option linter.unusedVariables false

/-- What a step leaves. -/
def After (S : Nat → Prop) (w : World) (D : Dsk) (e : Ending) (w' : World) : Prop :=
  ∃ p' S' D' ks' A' c' B' d', e = .returned (.tuple #[.pointer (some ⟨p', 0, none⟩), rd D' ks' A' c' B' d', .bool true]) ∧ Dq S' w' p' D' ∧ Rg S' w' D' ks' A' c' B' d' ∧ Stp S w S' w' ∧ D'.kept.length = D.kept.length ∧ D'.pend.length ≤ D.pend.length + 1
theorem Rg.plus {S : Nat → Prop} {w : World} {D : Dsk} {ks : List (List UInt8)} {A B : Option Addr} {c d : Nat} (h : Rg S w D ks A c B d) {x : Nat} (hx : w.heap.size ≤ x) : Rg (fun k => S k ∨ k = x) w D ks A c B d :=
  ⟨h.m, fun b hb h' => by rcases h' with h1 | h1; exact h.k b hb h1; have := own_lt_ h.m.kept b hb; omega,
    fun b hb h' => by rcases h' with h1 | h1; exact h.p b hb h1; have := own_lt_ h.m.pend b hb; omega⟩
/-- What is left behind a step's last store. -/
theorem after_ {S S' : Nat → Prop} {w W2 w5 WF : World} {p x : Nat} {D D' : Dsk} {ks' : List (List UInt8)} {A' B' : Option Addr} {c' d' : Nat} (hlt : ∀ k, S k → k < w.heap.size) (hx : w.heap.size ≤ x) (hx2 : x < W2.heap.size)
    (T2 : Turn (fun _ => False) w W2) (G2 : Rg (fun k => S k ∨ k = x) W2 D' ks' A' c' B' d') (Q5 : Dq S' w5 p D') (X5 : Stp S W2 S' w5) (HTF : Turn (fun k => k = x) w5 WF) (hk : D'.kept.length = D.kept.length) (hp : D'.pend.length ≤ D.pend.length + 1) :
    After S w D (.returned (.tuple #[.pointer (some ⟨p, 0, none⟩), rd D' ks' A' c' B' d', .bool true])) WF := by
  have hS' : ∀ k, S' k → k ≠ x := fun k hk e => by
    rcases X5.2 k hk with h | h
    · have := hlt k h; omega
    · omega
  refine ⟨p, S', D', ks', A', c', B', d', rfl, Q5.turn HTF (fun k hk e => hS' k hk e), G2.stp ⟨(X5.1.mono (fun k _ h => .inl h)).trans (HTF.mono (fun k _ h => .inr h)), fun k hk => ?_⟩, ⟨((T2.mono (fun _ _ h => h.elim)).trans X5.1).trans_new HTF (fun k hk e => by omega), fun k hk => ?_⟩, hk, hp⟩
  · rcases X5.2 k hk with h | h
    · exact .inl (.inl h)
    · exact .inr h
  · rcases X5.2 k hk with h | h
    · exact .inl h
    · exact .inr (Nat.le_trans T2.size h)
set_option maxRecDepth 100000 in
set_option maxHeartbeats 1000000 in
theorem step_1 {S : Nat → Prop} {w : World} {p : Nat} {D : Dsk} (h : Dq S w p D) {ks : List (List UInt8)} {A B : Option Addr} {c d : Nat} (g : Rg S w D ks A c B d) (hp : D.pend.length ≤ 900000) (ai : Int) (as_ : ByteArray) (A3 : Option Addr) (n3 c3 : Nat) :
    Calls Try.prog 14 #[.pointer (some ⟨p, 0, none⟩), rd D ks A c B d, .agg #[.int .i64 1, .int .i64 ai, .string as_, .slice A3 n3 c3]] w fun e w' => After S w D e w' := by
  have T0 := Lib.hid ((((Turn.refl (fun _ => False) w).alloc (.cells #[.int .i64 (D.kept.length : Int), .slice A ks.length c, .slice B D.pend.length d, .int .i64 D.fuse, .bool D.dead] 30)).alloc (.cells #[.int .i64 1, .int .i64 ai, .string as_, .slice A3 n3 c3] 39)).alloc (.cells #[.int .i64 0, .slice none 0 0, .slice none 0 0, .int .i64 0, .bool false] 30))
  have HR0 := Lib.hid (Blk.new_ ((w.alloc (.cells #[.int .i64 (D.kept.length : Int), .slice A ks.length c, .slice B D.pend.length d, .int .i64 D.fuse, .bool D.dead] 30)).alloc (.cells #[.int .i64 1, .int .i64 ai, .string as_, .slice A3 n3 c3] 39)) 30 [.int .i64 0, .slice none 0 0, .slice none 0 0, .int .i64 0, .bool false] (k := w.heap.size + 1 + 1) (by simp))
  have HQ := Lib.hid h
  have HG := Lib.hid g
  have hlt := Lib.hid h.lt
  have OK := Lib.hid h.1
  have HF : Hid (∀ W, Turn (fun _ => False) w W → w.heap.size + 1 + 1 < W.heap.size → Calls Try.prog 36 #[rd D ks A c B d] W fun e w' => ∃ ks' A' c' B' d', e = .returned (.tuple #[rd D.flush.1 ks' A' c' B' d', .int .i64 D.flush.2]) ∧ Rg (fun k => S k ∨ k = w.heap.size + 1 + 1) w' D.flush.1 ks' A' c' B' d' ∧ Turn (fun _ => False) W w') :=
    Lib.hid (fun W ht hw => flush_rg (fun k hk => by rcases hk with hk | hk; exact Nat.lt_of_lt_of_le (hlt.out k hk) ht.size; omega) ((HG.out.plus (by omega)).still ht) OK.out (by omega))
  unfold rd at *
  clear h g
  go_enter Try.func14, Try.ntmps14
  go_wp2_with fail
  refine (HF.out _ T0.out (by simp)).mono ?_
  rintro e w1 ⟨ks', A', c', B', d', rfl, hg1, ht1⟩
  have G1 := Lib.hid hg1
  have T1 := Lib.hid (T0.out.trans ht1)
  have HR1 := Lib.hid (HR0.out.turn ht1 (fun h => h))
  clear hg1 ht1
  go_wp2_with fail
  have HBq := Lib.hid (Blk.new w1 30 [.int .i64 (D.flush.1.kept.length : Int), .slice A' ks'.length c', .slice B' D.flush.1.pend.length d', .int .i64 D.flush.1.fuse, .bool D.flush.1.dead])
  have t2 := (Turn.refl (fun _ => False) w1).alloc (.cells #[.int .i64 (D.flush.1.kept.length : Int), .slice A' ks'.length c', .slice B' D.flush.1.pend.length d', .int .i64 D.flush.1.fuse, .bool D.flush.1.dead] 30)
  have G2 := Lib.hid (G1.out.still t2)
  have T2 := Lib.hid (T1.out.trans t2)
  have HR2 := Lib.hid (HR1.out.turn t2 (fun h => h))
  have hqge := HR1.out.lt
  clear t2
  obtain ⟨W2, hW2⟩ : ∃ W2, w1.alloc (.cells #[.int .i64 (D.flush.1.kept.length : Int), .slice A' ks'.length c', .slice B' D.flush.1.pend.length d', .int .i64 D.flush.1.fuse, .bool D.flush.1.dead] 30) = W2 := ⟨_, rfl⟩
  have HBq2 : Hid (Blk W2 w1.heap.size 30 [.int .i64 (D.flush.1.kept.length : Int), .slice A' ks'.length c', .slice B' D.flush.1.pend.length d', .int .i64 D.flush.1.fuse, .bool D.flush.1.dead]) := by rw [← hW2]; exact HBq
  rw [hW2] at G2 T2 HR2 ⊢
  generalize w1.heap.size = q at *
  have Q2 := Lib.hid (HQ.out.still T2.out)
  have HC : Hid (Calls Try.prog 35 #[.pointer (some ⟨p, 0, none⟩)] W2.drew fun e w' => ∃ v, e = .returned v ∧ v = .int .i64 D.flush.2 ∧ ∃ S', Dq S' w' p D.flush.1 ∧ Stp S W2 S' w') := Lib.hid ((flush_dq (Q2.out.still ((Turn.refl (fun _ => False) W2).drew)) (by omega)).mono (by rintro e w' ⟨rfl, S', h1, h2⟩; exact ⟨_, rfl, rfl, S', h1, ⟨((Turn.refl (fun _ => False) W2).drew.mono (fun _ _ h => h.elim)).trans h2.1, fun k hk => h2.2 k hk⟩⟩))
  have NS : Hid (¬ S q ∧ ¬ S (w.heap.size + 1 + 1) ∧ q ≠ w.heap.size + 1 + 1) := Lib.hid ⟨fun h => by have := hlt.out _ h; omega, fun h => by have := hlt.out _ h; omega, by omega⟩
  have fl := flush_len D
  generalize D.flush.2 = E at *
  generalize hD' : D.flush.1 = D' at *
  have SC : Hid (∀ W, Turn (fun k => S k ∨ k = w.heap.size + 1 + 1) W2 W → W.cell? ⟨q, 0, none⟩ = some (.int .i64 (D'.kept.length : Int)) ∧ W.cell? ⟨q, 1, none⟩ = some (.slice A' ks'.length c') ∧ W.cell? ⟨q, 2, none⟩ = some (.slice B' D'.pend.length d') ∧ W.cell? ⟨q, 3, none⟩ = some (.int .i64 D'.fuse) ∧ W.cell? ⟨q, 4, none⟩ = some (.bool D'.dead)) := Lib.hid (fun W ht => by
    have hb := HBq2.out.turn ht (fun h => by rcases h with h | h; exact NS.out.1 h; exact NS.out.2.2 h)
    exact ⟨hb.cell 0, hb.cell 1, hb.cell 2, hb.cell 3, hb.cell 4⟩)
  have FL := Lib.hid fl
  clear hW2 fl hD' HF hqge HBq
  have T20 : Hid (Turn (fun k => S k ∨ k = w.heap.size + 1 + 1) W2 W2.drew) := Lib.hid ((Turn.refl _ _).drew)
  go_region_held3 (fun w' => w'.cell? ⟨q, 0, none⟩ = some (.int .i64 (D'.kept.length : Int)) ∧ w'.cell? ⟨q, 1, none⟩ = some (.slice A' ks'.length c') ∧ w'.cell? ⟨q, 2, none⟩ = some (.slice B' D'.pend.length d') ∧ w'.cell? ⟨q, 3, none⟩ = some (.int .i64 D'.fuse) ∧ w'.cell? ⟨q, 4, none⟩ = some (.bool D'.dead))
    (first
      | exact SC.out _ T20.out
      | exact SC.out _ T5.out
      | exact SC.out _ (((((T5.out.setCell (p := ⟨w.heap.size + 1 + 1, 0, none⟩) (.inl (.inr rfl)) _).setCell (p := ⟨w.heap.size + 1 + 1, 1, none⟩) (.inl (.inr rfl)) _).setCell (p := ⟨w.heap.size + 1 + 1, 2, none⟩) (.inl (.inr rfl)) _).setCell (p := ⟨w.heap.size + 1 + 1, 3, none⟩) (.inl (.inr rfl)) _).setCell (p := ⟨w.heap.size + 1 + 1, 4, none⟩) (.inl (.inr rfl)) _))
    (first
      | (refine step_call rfl 35 Try.f35 _ _ rfl Try.func35 (by kernel_rfl) (by kernel_rfl) _ _ HC.out (by go_simp) ?_
         rintro v5 w5 ⟨rfl, S', hq5, hs5⟩
         have Q5 := Lib.hid hq5
         have X5 := Lib.hid hs5
         have T5 : Hid (Turn (fun k => S k ∨ k = w.heap.size + 1 + 1) W2 w5) := Lib.hid (hs5.1.mono (fun _ _ h => .inl h))
         have hr5 := HR2.out.turn hs5.1 NS.out.2.1
         have HR5 := Lib.hid hr5
         have r0 := hr5.cell 0
         have r1 := hr5.cell 1
         have r2 := hr5.cell 2
         have r3 := hr5.cell 3
         have r4 := hr5.cell 4
         have g0 := hr5.free 0
         have g1 := hr5.free 1
         have g2 := hr5.free 2
         have g3 := hr5.free 3
         have g4 := hr5.free 4
         simp only [List.getElem?_cons_zero, List.getElem?_cons_succ] at r0 r1 r2 r3 r4
         clear hq5 hs5 hr5))
  rename_i hHeld
  clear hHeld
  go_wp2
  have hf := ((((HR5.out.put 0 (.int .i64 (D'.kept.length : Int))).put 1 (.slice A' ks'.length c')).put 2 (.slice B' D'.pend.length d')).put 3 (.int .i64 D'.fuse)).put 4 (.bool D'.dead)
  have tf := (((((Turn.refl (fun k => k = w.heap.size + 1 + 1) w5).setCell (p := ⟨w.heap.size + 1 + 1, 0, none⟩) (.inl rfl) (.int .i64 (D'.kept.length : Int))).setCell (p := ⟨w.heap.size + 1 + 1, 1, none⟩) (.inl rfl) (.slice A' ks'.length c')).setCell (p := ⟨w.heap.size + 1 + 1, 2, none⟩) (.inl rfl) (.slice B' D'.pend.length d')).setCell (p := ⟨w.heap.size + 1 + 1, 3, none⟩) (.inl rfl) (.int .i64 D'.fuse)).setCell (p := ⟨w.heap.size + 1 + 1, 4, none⟩) (.inl rfl) (.bool D'.dead)
  have e0 := hf.cell 0
  have e1 := hf.cell 1
  have e2 := hf.cell 2
  have e3 := hf.cell 3
  have e4 := hf.cell 4
  simp only [List.set_cons_zero, List.set_cons_succ, List.getElem?_cons_zero, List.getElem?_cons_succ] at e0 e1 e2 e3 e4
  have HTF := Lib.hid tf
  clear r0 r1 r2 r3 r4 g0 g1 g2 g3 g4 tf hf
  generalize (((((w5.setCell ⟨w.heap.size + 1 + 1, 0, none⟩ (.int .i64 (D'.kept.length : Int))).setCell ⟨w.heap.size + 1 + 1, 1, none⟩ (.slice A' ks'.length c')).setCell ⟨w.heap.size + 1 + 1, 2, none⟩ (.slice B' D'.pend.length d')).setCell ⟨w.heap.size + 1 + 1, 3, none⟩ (.int .i64 D'.fuse)).setCell ⟨w.heap.size + 1 + 1, 4, none⟩ (.bool D'.dead)) = WF at *
  exact bodyPost_ret (v := .tuple #[.pointer (some ⟨p, 0, none⟩), .agg #[.int .i64 (D'.kept.length : Int), .slice A' ks'.length c', .slice B' D'.pend.length d', .int .i64 D'.fuse, .bool D'.dead], .bool true]) (by simp [results, Try.results14, go_sem, e0, e1, e2, e3, e4]) rfl (after_ hlt.out (by omega) HR2.out.lt T2.out G2.out Q5.out X5.out HTF.out FL.out.1 (Nat.le_succ_of_le FL.out.2))
end Go.Proofs.Ytbjenimpfblojaa
