/- Layer 4: a step of both disks: Copy. -/
import Derived.Test.YtbjenimpfblojaaBlkY
namespace Go.Proofs.Ytbjenimpfblojaa
open Go.RowKit Go.Maps
set_option linter.unusedVariables false

set_option maxRecDepth 100000 in
set_option maxHeartbeats 6000000 in
theorem step_5 {S : Nat → Prop} {w : World} {p : Nat} {D : Dsk} (h : Dq S w p D) {ks : List (List UInt8)} {A B : Option Addr} {c d : Nat} (g : Rg S w D ks A c B d) (hp : D.pend.length ≤ 900000) (ai : Int) (as_ : ByteArray) (A3 : Option Addr) (n3 c3 : Nat) :
    Calls Try.prog 14 #[.pointer (some ⟨p, 0, none⟩), rd D ks A c B d, .agg #[.int .i64 5, .int .i64 ai, .string as_, .slice A3 n3 c3]] w fun e w' => After S w D e w' := by
  have T0 := Lib.hid ((((Turn.refl (fun _ => False) w).alloc (.cells #[.int .i64 (D.kept.length : Int), .slice A ks.length c, .slice B D.pend.length d, .int .i64 D.fuse, .bool D.dead] 30)).alloc (.cells #[.int .i64 5, .int .i64 ai, .string as_, .slice A3 n3 c3] 39)).alloc (.cells #[.int .i64 0, .slice none 0 0, .slice none 0 0, .int .i64 0, .bool false] 30))
  have HR0 := Lib.hid (Blk.new_ ((w.alloc (.cells #[.int .i64 (D.kept.length : Int), .slice A ks.length c, .slice B D.pend.length d, .int .i64 D.fuse, .bool D.dead] 30)).alloc (.cells #[.int .i64 5, .int .i64 ai, .string as_, .slice A3 n3 c3] 39)) 30 [.int .i64 0, .slice none 0 0, .slice none 0 0, .int .i64 0, .bool false] (k := w.heap.size + 1 + 1) (by simp))
  have HB0 := Lib.hid (((Blk.new w 30 [.int .i64 (D.kept.length : Int), .slice A ks.length c, .slice B D.pend.length d, .int .i64 D.fuse, .bool D.dead]).alloc (.cells #[.int .i64 5, .int .i64 ai, .string as_, .slice A3 n3 c3] 39)).alloc (.cells #[.int .i64 0, .slice none 0 0, .slice none 0 0, .int .i64 0, .bool false] 30))
  have HQ := Lib.hid h
  have HG := Lib.hid g
  have hlt := Lib.hid h.lt
  have OK := Lib.hid h.1
  unfold rd at *
  clear h g
  go_enter Try.func14, Try.ntmps14
  go_wp2_with fail
  have kc := fun (w : World) (C : Array Value) (n c : Nat) => Lib.run_convert_bytes_const (P := Try.prog) w 41 5 C n c Try.underlying41 Try.underlying5
  refine (copy_dq (HQ.out.still T0.out) (by omega)).mono ?_
  rintro e w1 ⟨p', S', rfl, hd1, hnew, ht1⟩
  have QC1 := Lib.hid hd1
  have NEW := Lib.hid hnew
  have X1 := Lib.hid ht1
  have Q1 := Lib.hid (HQ.out.still (T0.out.trans ht1))
  clear hd1 hnew ht1
  go_wp2_with fail
  refine (write_dq (Q1.out.still ((Turn.refl (fun _ => False) w1).alloc _)) 0 _ [122, 122] (by_mark w1 Q1.out.lt [122, 122] 2 _ _ rfl rfl) (by omega)).mono ?_
  rintro e w2 ⟨rfl, S2, hd2, hs2⟩
  clear kc
  have Q2 := Lib.hid hd2
  have X2 : Hid (Stp S w1 S2 w2) := Lib.hid ((Stp.quiet ((Turn.refl _ _).alloc _)).trans hs2)
  have hlw := (write_len D 0 [122, 122]).2
  generalize (D.write 0 [122, 122]).2 = E at *
  generalize (D.write 0 [122, 122]).1 = D2 at *
  clear hd2 hs2
  go_wp2_with fail
  refine (crash_dq Q2.out (by omega) _ [] (by decide) (iv_nil _ _)).mono ?_
  rintro e w3 ⟨rfl, S3, hd3, hs3⟩
  have X3 : Hid (Turn S w1 w3) := Lib.hid (X2.out.trans hs3).1
  have QC3 := Lib.hid (QC1.out.turn X3.out (fun k hk e => by have := NEW.out k hk; have := T0.out.size; have := hlt.out k e; omega))
  have HW : Hid (w.heap.size + 1 + 1 < ((((w.alloc (.cells #[.int .i64 (D.kept.length : Int), .slice A ks.length c, .slice B D.pend.length d, .int .i64 D.fuse, .bool D.dead] 30)).alloc (.cells #[.int .i64 5, .int .i64 ai, .string as_, .slice A3 n3 c3] 39)).alloc (.cells #[.int .i64 0, .slice none 0 0, .slice none 0 0, .int .i64 0, .bool false] 30)).heap.size)) := Lib.hid (by simp)
  have X03 := Lib.hid ((X1.out.mono (T := S) (fun _ _ h => h.elim)).trans X3.out)
  have NB : Hid (¬ S w.heap.size ∧ ¬ S (w.heap.size + 1 + 1)) := Lib.hid ⟨fun h => by have := hlt.out _ h; omega, fun h => by have := hlt.out _ h; omega⟩
  have hb3 := HB0.out.turn X03.out NB.out.1
  have hr3 := HR0.out.turn X03.out NB.out.2
  have HB3 := Lib.hid hb3
  have HR3 := Lib.hid hr3
  have r0 := hr3.cell 0
  have r1 := hr3.cell 1
  have r2 := hr3.cell 2
  have r3 := hr3.cell 3
  have r4 := hr3.cell 4
  have g0 := hr3.free 0
  have g1 := hr3.free 1
  have g2 := hr3.free 2
  have g3 := hr3.free 3
  have g4 := hr3.free 4
  simp only [List.getElem?_cons_zero, List.getElem?_cons_succ] at r0 r1 r2 r3 r4
  clear hd3 hs3 hb3 hr3 hlw
  go_wp2_with fail
  have SC : Hid (∀ W, Turn (fun k => k = w.heap.size + 1 + 1) w3 W → W.cell? ⟨w.heap.size, 0, none⟩ = some (.int .i64 (D.kept.length : Int)) ∧ W.cell? ⟨w.heap.size, 1, none⟩ = some (.slice A ks.length c) ∧ W.cell? ⟨w.heap.size, 2, none⟩ = some (.slice B D.pend.length d) ∧ W.cell? ⟨w.heap.size, 3, none⟩ = some (.int .i64 D.fuse) ∧ W.cell? ⟨w.heap.size, 4, none⟩ = some (.bool D.dead)) := Lib.hid (fun W ht => by
    have hb := HB3.out.turn ht (by omega)
    exact ⟨hb.cell 0, hb.cell 1, hb.cell 2, hb.cell 3, hb.cell 4⟩)
  have T30 : Hid (Turn (fun k => k = w.heap.size + 1 + 1) w3 w3.drew) := Lib.hid ((Turn.refl _ _).drew)
  go_region_held3 (fun w' => w'.cell? ⟨w.heap.size, 0, none⟩ = some (.int .i64 (D.kept.length : Int)) ∧ w'.cell? ⟨w.heap.size, 1, none⟩ = some (.slice A ks.length c) ∧ w'.cell? ⟨w.heap.size, 2, none⟩ = some (.slice B D.pend.length d) ∧ w'.cell? ⟨w.heap.size, 3, none⟩ = some (.int .i64 D.fuse) ∧ w'.cell? ⟨w.heap.size, 4, none⟩ = some (.bool D.dead))
    (first
      | exact SC.out _ T30.out
      | exact SC.out _ (((((T30.out.setCell (p := ⟨w.heap.size + 1 + 1, 0, none⟩) (.inl rfl) _).setCell (p := ⟨w.heap.size + 1 + 1, 1, none⟩) (.inl rfl) _).setCell (p := ⟨w.heap.size + 1 + 1, 2, none⟩) (.inl rfl) _).setCell (p := ⟨w.heap.size + 1 + 1, 3, none⟩) (.inl rfl) _).setCell (p := ⟨w.heap.size + 1 + 1, 4, none⟩) (.inl rfl) _))
    (first
      | fail)
  rename_i hHeld
  clear hHeld
  go_wp2
  have hf := ((((HR3.out.put 0 (.int .i64 (D.kept.length : Int))).put 1 (.slice A ks.length c)).put 2 (.slice B D.pend.length d)).put 3 (.int .i64 D.fuse)).put 4 (.bool D.dead)
  have tf := (((((Turn.refl (fun k => k = w.heap.size + 1 + 1) w3).setCell (p := ⟨w.heap.size + 1 + 1, 0, none⟩) (.inl rfl) (.int .i64 (D.kept.length : Int))).setCell (p := ⟨w.heap.size + 1 + 1, 1, none⟩) (.inl rfl) (.slice A ks.length c)).setCell (p := ⟨w.heap.size + 1 + 1, 2, none⟩) (.inl rfl) (.slice B D.pend.length d)).setCell (p := ⟨w.heap.size + 1 + 1, 3, none⟩) (.inl rfl) (.int .i64 D.fuse)).setCell (p := ⟨w.heap.size + 1 + 1, 4, none⟩) (.inl rfl) (.bool D.dead)
  have e0 := hf.cell 0
  have e1 := hf.cell 1
  have e2 := hf.cell 2
  have e3 := hf.cell 3
  have e4 := hf.cell 4
  simp only [List.set_cons_zero, List.set_cons_succ, List.getElem?_cons_zero, List.getElem?_cons_succ] at e0 e1 e2 e3 e4
  have HTF := Lib.hid tf
  clear r0 r1 r2 r3 r4 g0 g1 g2 g3 g4 tf hf
  generalize (((((w3.setCell ⟨w.heap.size + 1 + 1, 0, none⟩ (.int .i64 (D.kept.length : Int))).setCell ⟨w.heap.size + 1 + 1, 1, none⟩ (.slice A ks.length c)).setCell ⟨w.heap.size + 1 + 1, 2, none⟩ (.slice B D.pend.length d)).setCell ⟨w.heap.size + 1 + 1, 3, none⟩ (.int .i64 D.fuse)).setCell ⟨w.heap.size + 1 + 1, 4, none⟩ (.bool D.dead)) = WF at *
  refine bodyPost_ret (v := .tuple #[.pointer (some ⟨p', 0, none⟩), .agg #[.int .i64 (D.kept.length : Int), .slice A ks.length c, .slice B D.pend.length d, .int .i64 D.fuse, .bool D.dead], .bool true]) (by simp [results, Try.results14, go_sem, e0, e1, e2, e3, e4]) rfl (after_ (S' := S') hlt.out (x := w.heap.size + 1 + 1) (by omega) HW.out T0.out ((HG.out.plus (x := w.heap.size + 1 + 1) (by omega)).still T0.out) QC3.out ⟨X03.out, fun k hk => .inr (NEW.out k hk)⟩ HTF.out.drew rfl (Nat.le_succ _))
end Go.Proofs.Ytbjenimpfblojaa
