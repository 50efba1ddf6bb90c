/- Layer 4: a step of both disks: Read. -/
import Derived.Test.YtbjenimpfblojaaBlkY
namespace Go.Proofs.Ytbjenimpfblojaa
open Go.RowKit Go.Maps
set_option linter.unusedVariables false

theorem conv_blk_ {w : World} {g : Nat} {t : TypeId} {l : List UInt8} (h : Blk w g t (bv l)) (n c : Nat) (hn : l.length = n) : (convert 41 9 (.slice (some ⟨g, 0, none⟩) n c)).run Try.prog w = .ok (.string ⟨l.toArray⟩) w := by
  subst hn
  exact run_str _ _ _ 5 _ _ _ Try.underlying41 Try.underlying5 Try.underlying9 fun hp => ⟨_, rfl, fun j c hj => by
    rw [show (⟨g, 0, none⟩ : Addr).add j = ⟨g, j, none⟩ from by unfold Addr.add; split <;> simp_all, h.cell, bv_at, hj]; rfl⟩
theorem conv_nil_ (w : World) : (convert 41 9 (.slice none 0 0)).run Try.prog w = .ok (.string ⟨#[]⟩) w := sl_conv (sl_nil w 0)
set_option maxRecDepth 100000 in
set_option maxHeartbeats 6000000 in
theorem step_4_ {S : Nat → Prop} {w : World} {p : Nat} {D : Dsk} (h : Dq S w p D) {ks : List (List UInt8)} {A B : Option Addr} {c d : Nat} (g : Rg S w D ks A c B d) (hp : D.pend.length ≤ 900000) (ai : Int) (as_ : ByteArray) (A3 : Option Addr) (n3 c3 : Nat)
    (X : ByteArray) (n : Nat) (E : Int)
    (hr : ∀ W, Turn (fun _ => False) w W → Calls Try.prog 19 #[rd D ks A c B d, .int .i64 ai] W fun e w' => e = .returned (.tuple #[.string X, .int .i64 E]) ∧ Turn (fun _ => False) W w')
    (hd : ∀ W, Turn (fun _ => False) w W → w.heap.size + 1 + 1 < W.heap.size → Calls Try.prog 18 #[.pointer (some ⟨p, 0, none⟩), .int .i64 ai] W fun e w' => ∃ Ar cr, e = .returned (.tuple #[.slice Ar n cr, .int .i64 E]) ∧ (∀ W', Turn (fun k => k = w.heap.size + 1 + 1) w' W' → (convert 41 9 (.slice Ar n cr)).run Try.prog W' = .ok (.string X) W') ∧ Turn (fun _ => False) W w') :
    Calls Try.prog 14 #[.pointer (some ⟨p, 0, none⟩), rd D ks A c B d, .agg #[.int .i64 4, .int .i64 ai, .string as_, .slice A3 n3 c3]] w fun e w' => After S w D e w' := by
  have T0 := Lib.hid ((((Turn.refl (fun _ => False) w).alloc (.cells #[.int .i64 (D.kept.length : Int), .slice A ks.length c, .slice B D.pend.length d, .int .i64 D.fuse, .bool D.dead] 30)).alloc (.cells #[.int .i64 4, .int .i64 ai, .string as_, .slice A3 n3 c3] 39)).alloc (.cells #[.int .i64 0, .slice none 0 0, .slice none 0 0, .int .i64 0, .bool false] 30))
  have HR0 := Lib.hid (Blk.new_ ((w.alloc (.cells #[.int .i64 (D.kept.length : Int), .slice A ks.length c, .slice B D.pend.length d, .int .i64 D.fuse, .bool D.dead] 30)).alloc (.cells #[.int .i64 4, .int .i64 ai, .string as_, .slice A3 n3 c3] 39)) 30 [.int .i64 0, .slice none 0 0, .slice none 0 0, .int .i64 0, .bool false] (k := w.heap.size + 1 + 1) (by simp))
  have HB0 := Lib.hid (((Blk.new w 30 [.int .i64 (D.kept.length : Int), .slice A ks.length c, .slice B D.pend.length d, .int .i64 D.fuse, .bool D.dead]).alloc (.cells #[.int .i64 4, .int .i64 ai, .string as_, .slice A3 n3 c3] 39)).alloc (.cells #[.int .i64 0, .slice none 0 0, .slice none 0 0, .int .i64 0, .bool false] 30))
  have HQ := Lib.hid h
  have HG := Lib.hid g
  have hlt := Lib.hid h.lt
  have OK := Lib.hid h.1
  have HR := Lib.hid hr
  have HD := Lib.hid hd
  have HX := Lib.hid (str_same X)
  have hsx := str_same X
  unfold rd at *
  clear h g hr hd
  go_enter Try.func14, Try.ntmps14
  go_wp2_with fail
  refine (HR.out _ T0.out).mono ?_
  rintro e w1 ⟨rfl, ht1⟩
  have HT1 := Lib.hid ht1
  have T1 := Lib.hid (T0.out.trans ht1)
  have HW : Hid (w.heap.size + 1 + 1 < w1.heap.size) := Lib.hid (Nat.lt_of_lt_of_le (by simp) ht1.size)
  have HA1 : Hid (Blk w1 (w.heap.size + 1) 39 [.int .i64 4, .int .i64 ai, .string as_, .slice A3 n3 c3]) := Lib.hid (((Blk.new_ (w.alloc (.cells #[.int .i64 (D.kept.length : Int), .slice A ks.length c, .slice B D.pend.length d, .int .i64 D.fuse, .bool D.dead] 30)) 39 [.int .i64 4, .int .i64 ai, .string as_, .slice A3 n3 c3] (k := w.heap.size + 1) (by simp)).alloc _).turn ht1 (fun h => h))
  have a1 : w1.cell? ⟨w.heap.size + 1, 1, none⟩ = some (.int .i64 ai) := HA1.out.cell 1
  clear ht1
  go_wp2_with fail
  refine (HD.out _ T1.out HW.out).mono ?_
  rintro e w3 ⟨Ar, cr, rfl, hcv, ht3⟩
  have CV := Lib.hid hcv
  have HT3 := Lib.hid (HT1.out.trans ht3)
  have T3 := Lib.hid (T1.out.trans ht3)
  have Q3 := Lib.hid (HQ.out.still T3.out)
  have HW3 : Hid (w.heap.size + 1 + 1 < w3.heap.size) := Lib.hid (Nat.lt_of_lt_of_le HW.out ht3.size)
  have HB3 : Hid (Blk w3 w.heap.size 30 [.int .i64 (D.kept.length : Int), .slice A ks.length c, .slice B D.pend.length d, .int .i64 D.fuse, .bool D.dead]) := Lib.hid (HB0.out.turn (HT3.out) (fun h => h))
  have hr3 : Blk w3 (w.heap.size + 1 + 1) 30 [.int .i64 0, .slice none 0 0, .slice none 0 0, .int .i64 0, .bool false] := HR0.out.turn HT3.out (fun h => h)
  have HR3 := Lib.hid hr3
  have r0 := hr3.cell 0
  have r1 := hr3.cell 1
  have r2 := hr3.cell 2
  have r3 := hr3.cell 3
  have r4 := hr3.cell 4
  have g0 := hr3.free 0
  have g1 := hr3.free 1
  have g2 := hr3.free 2
  have g3 := hr3.free 3
  have g4 := hr3.free 4
  simp only [List.getElem?_cons_zero, List.getElem?_cons_succ] at r0 r1 r2 r3 r4
  clear hr3 hcv ht3 a1
  go_wp2_with fail
  have SC : Hid (∀ W, Turn (fun k => k = w.heap.size + 1 + 1) w3 W → W.cell? ⟨w.heap.size, 0, none⟩ = some (.int .i64 (D.kept.length : Int)) ∧ W.cell? ⟨w.heap.size, 1, none⟩ = some (.slice A ks.length c) ∧ W.cell? ⟨w.heap.size, 2, none⟩ = some (.slice B D.pend.length d) ∧ W.cell? ⟨w.heap.size, 3, none⟩ = some (.int .i64 D.fuse) ∧ W.cell? ⟨w.heap.size, 4, none⟩ = some (.bool D.dead) ∧ (convert 41 9 (.slice Ar n cr)).run Try.prog W = .ok (.string X) W) := Lib.hid (fun W ht => by
    have hb := HB3.out.turn ht (by omega)
    exact ⟨hb.cell 0, hb.cell 1, hb.cell 2, hb.cell 3, hb.cell 4, CV.out W ht⟩)
  have T30 : Hid (Turn (fun k => k = w.heap.size + 1 + 1) w3 w3.drew) := Lib.hid ((Turn.refl _ _).drew)
  go_region_held3 (fun w' => w'.cell? ⟨w.heap.size, 0, none⟩ = some (.int .i64 (D.kept.length : Int)) ∧ w'.cell? ⟨w.heap.size, 1, none⟩ = some (.slice A ks.length c) ∧ w'.cell? ⟨w.heap.size, 2, none⟩ = some (.slice B D.pend.length d) ∧ w'.cell? ⟨w.heap.size, 3, none⟩ = some (.int .i64 D.fuse) ∧ w'.cell? ⟨w.heap.size, 4, none⟩ = some (.bool D.dead) ∧ (convert 41 9 (.slice Ar n cr)).run Try.prog w' = .ok (.string X) w')
    (first
      | exact SC.out _ T30.out
      | exact SC.out _ (((((T30.out.setCell (p := ⟨w.heap.size + 1 + 1, 0, none⟩) (.inl rfl) _).setCell (p := ⟨w.heap.size + 1 + 1, 1, none⟩) (.inl rfl) _).setCell (p := ⟨w.heap.size + 1 + 1, 2, none⟩) (.inl rfl) _).setCell (p := ⟨w.heap.size + 1 + 1, 3, none⟩) (.inl rfl) _).setCell (p := ⟨w.heap.size + 1 + 1, 4, none⟩) (.inl rfl) _))
    (first
      | fail)
  rename_i hHeld
  clear hHeld
  go_wp2
  have hf := ((((HR3.out.put 0 (.int .i64 (D.kept.length : Int))).put 1 (.slice A ks.length c)).put 2 (.slice B D.pend.length d)).put 3 (.int .i64 D.fuse)).put 4 (.bool D.dead)
  have tf := (((((Turn.refl (fun k => k = w.heap.size + 1 + 1) w3).setCell (p := ⟨w.heap.size + 1 + 1, 0, none⟩) (.inl rfl) (.int .i64 (D.kept.length : Int))).setCell (p := ⟨w.heap.size + 1 + 1, 1, none⟩) (.inl rfl) (.slice A ks.length c)).setCell (p := ⟨w.heap.size + 1 + 1, 2, none⟩) (.inl rfl) (.slice B D.pend.length d)).setCell (p := ⟨w.heap.size + 1 + 1, 3, none⟩) (.inl rfl) (.int .i64 D.fuse)).setCell (p := ⟨w.heap.size + 1 + 1, 4, none⟩) (.inl rfl) (.bool D.dead)
  have e0 := hf.cell 0
  have e1 := hf.cell 1
  have e2 := hf.cell 2
  have e3 := hf.cell 3
  have e4 := hf.cell 4
  simp only [List.set_cons_zero, List.set_cons_succ, List.getElem?_cons_zero, List.getElem?_cons_succ] at e0 e1 e2 e3 e4
  have HTF := Lib.hid tf
  clear r0 r1 r2 r3 r4 g0 g1 g2 g3 g4 tf hf
  generalize (((((w3.setCell ⟨w.heap.size + 1 + 1, 0, none⟩ (.int .i64 (D.kept.length : Int))).setCell ⟨w.heap.size + 1 + 1, 1, none⟩ (.slice A ks.length c)).setCell ⟨w.heap.size + 1 + 1, 2, none⟩ (.slice B D.pend.length d)).setCell ⟨w.heap.size + 1 + 1, 3, none⟩ (.int .i64 D.fuse)).setCell ⟨w.heap.size + 1 + 1, 4, none⟩ (.bool D.dead)) = WF at *
  refine bodyPost_ret (v := .tuple #[.pointer (some ⟨p, 0, none⟩), .agg #[.int .i64 (D.kept.length : Int), .slice A ks.length c, .slice B D.pend.length d, .int .i64 D.fuse, .bool D.dead], .bool true]) (by simp [results, Try.results14, go_sem, e0, e1, e2, e3, e4]) rfl (after_ (S' := S) hlt.out (x := w.heap.size + 1 + 1) (by omega) HW3.out T3.out ((HG.out.plus (x := w.heap.size + 1 + 1) (by omega)).still T3.out) Q3.out (Stp.refl _ _) HTF.out.drew rfl (Nat.le_succ _))
theorem step_4 {S : Nat → Prop} {w : World} {p : Nat} {D : Dsk} (h : Dq S w p D) {ks : List (List UInt8)} {A B : Option Addr} {c d : Nat} (g : Rg S w D ks A c B d) (hp : D.pend.length ≤ 900000) (ai : Int) (as_ : ByteArray) (A3 : Option Addr) (n3 c3 : Nat) :
    Calls Try.prog 14 #[.pointer (some ⟨p, 0, none⟩), rd D ks A c B d, .agg #[.int .i64 4, .int .i64 ai, .string as_, .slice A3 n3 c3]] w fun e w' => After S w D e w' := by
  by_cases hbad : D.dead = true ∨ ai < 0 ∨ (D.kept.length : Int) ≤ ai
  · refine step_4_ h g hp ai as_ A3 n3 c3 ⟨#[]⟩ 0 (if D.dead then 20 else 6) (fun W ht => readRef_err _ A B ks.length c D.pend.length d D.fuse D.dead ai hbad W) (fun W ht hs => (readErr_dq (h.still ht) ai hbad).mono ?_)
    rintro e w' ⟨rfl, rfl⟩
    exact ⟨none, 0, rfl, fun W' _ => conv_nil_ W', Turn.refl _ _⟩
  · have hd : D.dead = false := by cases hx : D.dead; rfl; exact absurd (.inl hx) hbad
    obtain ⟨i, rfl⟩ : ∃ n : Nat, ai = n := ⟨ai.toNat, by omega⟩
    have hi : i < D.kept.length := by omega
    refine step_4_ h g hp i as_ A3 n3 c3 ⟨(D.has i).toArray⟩ 128 0 (fun W ht => ?_) (fun W ht hs => (read_dq (h.still ht) i hi hd).mono ?_)
    · have := readRef_r (g.still ht).m i hi (by omega) D.fuse
      unfold rd
      rw [hd]
      exact this
    · rintro e w' ⟨rfl, hb, ht'⟩
      refine ⟨_, _, rfl, fun W' ht2 => conv_blk_ (hb.turn ht2 (by omega)) 128 128 (h.1.has_len hi), ht'⟩
end Go.Proofs.Ytbjenimpfblojaa
