/- Layer 13: the program's Add. -/
import Derived.Test.YtjkfgbmlhglnfaaVcJ
namespace Go.Proofs.Ytjkfgbmlhglnfaa
open Go.RowKit
set_option linter.unusedVariables false
set_option linter.unusedSimpArgs false
set_option maxRecDepth 100000

theorem Vo.cv {B : Nat} {w : World} {v : Value} {L : List Vn} (h : Vo B w v L) : Cv v := fun A n c e => by
  rcases h.2 with ⟨e1, h0⟩ | ⟨g, cap, cur, e1, _, _, hn8, _⟩
  · rw [e1] at e; injection e with _ e2 e3; omega
  · rw [e1] at e; injection e with _ e2 e3; omega
set_option maxHeartbeats 4000000 in
theorem add_13 (L : List Vn) (v : Value) (x : Vn) (w : World) (h : Vr w v L) (hb : L.length ≤ 10000000) :
    Calls Try.prog 122 #[v, vg x] w fun e w' => ∃ v', e = .returned (.tuple #[v', .int .i64 (add13 L x).2]) ∧ Vo w.heap.size w' v' (add13 L x).1 ∧ Turn (fun _ => False) w w' := by
  obtain ⟨W1, hW1⟩ : ∃ W, w.alloc (vbox x) = W := ⟨_, rfl⟩
  have TW : Hid (Turn (fun _ => False) w W1) := Lib.hid (hW1 ▸ (Turn.refl _ _).alloc _)
  have BX : Hid (Blk W1 w.heap.size 83 (vc x)) := Lib.hid (hW1 ▸ Blk.new _ _ _)
  have HR := Lib.hid (check13 L v W1 (h.still TW.out))
  have HX := Lib.hid (fun (W : World) => right13 x W)
  have VO1 : Hid (∀ W9, Turn (fun _ => False) w W9 → Vo w.heap.size (W9.alloc (.cells #[.int .i64 x.t, .string x.s, .bool x.d] 83)) (.slice (some ⟨W9.heap.size, 0, none⟩) 1 1) [x]) := Lib.hid (fun W9 hT => ⟨rfl, .inr ⟨W9.heap.size, 1, #[.int .i64 x.t, .string x.s, .bool x.d], rfl, hT.size, heap_alloc_new W9 _, Nat.le_refl _, by unfold maxLen; omega, by simp, by simp [vc]⟩⟩)
  have hrc : ∃ A c, v = .slice A L.length c ∧ Rc w A (L.flatMap vc) := by obtain ⟨A, c, e⟩ := h.len; subst e; exact ⟨A, c, rfl, h.rc⟩
  obtain ⟨A, c, rfl, hl, hr⟩ := h
  obtain ⟨A', c', e, hrc⟩ := hrc
  injection e with e1 _ e3
  subst e1 e3
  have HRC := Lib.hid hrc
  obtain ⟨n, hn⟩ : ∃ n, L.length = n := ⟨_, rfl⟩
  have HN := Lib.hid hn
  have HRW := Lib.hid hr
  rw [hn] at hl HR HRW hb ⊢
  clear hn hr hrc
  (try clear h)
  obtain ⟨xt, xs, xd⟩ := x
  unfold vg vbox at *
  simp only at hW1 HX VO1 ⊢
  unfold add13
  cases hch : chn L with
  | false =>
    rw [hch] at HR
    clear hch
    rw [if_neg (by decide)]
    go_enter Try.func122, Try.ntmps122
    go_wp2_with fail
    clear hW1
    refine HR.out.mono ?_
    rintro e w2 ⟨rfl, ht⟩
    have T2 := Lib.hid (TW.out.trans ht)
    have B2 := Lib.hid (BX.out.turn ht (fun h => h))
    obtain ⟨x0, x1, x2⟩ : w2.cell? ⟨w.heap.size, 0, none⟩ = some (.int .i64 xt) ∧ w2.cell? ⟨w.heap.size, 1, none⟩ = some (.string xs) ∧ w2.cell? ⟨w.heap.size, 2, none⟩ = some (.bool xd) := ⟨B2.out.cell 0, B2.out.cell 1, B2.out.cell 2⟩
    clear ht
    go_wp2_with fail
    go_ret2
    exact ⟨_, rfl, vo_nil _ _, T2.out⟩
  | true =>
    rw [hch] at HR
    rw [if_pos rfl]
    cases hrt : rt ⟨xt, xs, xd⟩ with
    | false =>
      rw [hrt] at HX
      clear hrt hch
      rw [if_neg (by decide)]
      go_enter Try.func122, Try.ntmps122
      go_wp2_with fail
      clear hW1
      refine HR.out.mono ?_
      rintro e w2 ⟨rfl, ht⟩
      have T2 := Lib.hid (TW.out.trans ht)
      have B2 := Lib.hid (BX.out.turn ht (fun h => h))
      obtain ⟨x0, x1, x2⟩ : w2.cell? ⟨w.heap.size, 0, none⟩ = some (.int .i64 xt) ∧ w2.cell? ⟨w.heap.size, 1, none⟩ = some (.string xs) ∧ w2.cell? ⟨w.heap.size, 2, none⟩ = some (.bool xd) := ⟨B2.out.cell 0, B2.out.cell 1, B2.out.cell 2⟩
      clear ht
      go_wp2_with (first | (go_at_call 129; refine (HX.out _).mono ?_; rintro e w3 ⟨rfl, hw3⟩; have t23 : Turn (fun _ => False) w2 w3 := (by rw [hw3]; exact (Turn.refl _ _).alloc _); have T3 := Lib.hid (T2.out.trans t23); have B3 := Lib.hid (B2.out.turn t23 (fun h => h)); obtain ⟨x3, x4, x5⟩ : w3.cell? ⟨w.heap.size, 0, none⟩ = some (.int .i64 xt) ∧ w3.cell? ⟨w.heap.size, 1, none⟩ = some (.string xs) ∧ w3.cell? ⟨w.heap.size, 2, none⟩ = some (.bool xd) := ⟨B3.out.cell 0, B3.out.cell 1, B3.out.cell 2⟩; clear t23 hw3))
      go_ret2
      exact ⟨_, rfl, vo_nil _ _, T3.out⟩
    | true =>
      rw [hrt] at HX
      clear hrt hch
      rw [if_pos rfl]
      cases L with
      | nil =>
        obtain rfl : n = 0 := HN.out.symm
        go_enter Try.func122, Try.ntmps122
        go_wp2_with fail
        clear hW1
        refine HR.out.mono ?_
        rintro e w2 ⟨rfl, ht⟩
        have T2 := Lib.hid (TW.out.trans ht)
        have B2 := Lib.hid (BX.out.turn ht (fun h => h))
        obtain ⟨x0, x1, x2⟩ : w2.cell? ⟨w.heap.size, 0, none⟩ = some (.int .i64 xt) ∧ w2.cell? ⟨w.heap.size, 1, none⟩ = some (.string xs) ∧ w2.cell? ⟨w.heap.size, 2, none⟩ = some (.bool xd) := ⟨B2.out.cell 0, B2.out.cell 1, B2.out.cell 2⟩
        clear ht
        go_wp2_with (first | (go_at_call 129; refine (HX.out _).mono ?_; rintro e w3 ⟨rfl, hw3⟩; have t23 : Turn (fun _ => False) w2 w3 := (by rw [hw3]; exact (Turn.refl _ _).alloc _); have T3 := Lib.hid (T2.out.trans t23); have B3 := Lib.hid (B2.out.turn t23 (fun h => h)); obtain ⟨x3, x4, x5⟩ : w3.cell? ⟨w.heap.size, 0, none⟩ = some (.int .i64 xt) ∧ w3.cell? ⟨w.heap.size, 1, none⟩ = some (.string xs) ∧ w3.cell? ⟨w.heap.size, 2, none⟩ = some (.bool xd) := ⟨B3.out.cell 0, B3.out.cell 1, B3.out.cell 2⟩; clear t23 hw3))
        go_quiet (fail)
        go_wp2_with (at_builtin; refine wpList_appVs rfl _ _ rfl w.heap.size (.slice (some ⟨w3.heap.size, 0, none⟩) 1 1) [⟨xt, xs, xd⟩] [] 1 0 A c rfl rfl rfl (VO1.out _ (T3.out.drewN _)) rfl (HRC.out.still ((T3.out.drewN _).alloc _)) (by omega) (by have := T3.out.size; simp; omega) ?_; intro A7 c7 w7 ho7 ht7; have O7 := Lib.hid ho7; have T7 := Lib.hid (((T3.out.drewN _).alloc (.cells #[.int .i64 xt, .string xs, .bool xd] 83)).trans_new ht7 (fun k hk h => by have h9 : some w3.heap.size = some k := h; injection h9 with h9; have := T3.out.size; omega)); clear ho7 ht7)
        go_ret2
        exact ⟨_, rfl, O7.out, T7.out⟩
      | cons y L =>
        have hn0 : (0 : Int) < (n : Int) := by have := HN.out; simp at this; omega
        have hn1 : 0 < n := by omega
        have hnd : decide (0 < n) = true := by simpa using hn1
        obtain ⟨b, o, rfl, hb1, hc⟩ := HRW.out hn1
        obtain ⟨c0, c1, c2⟩ := hc 0 y rfl
        have HY : Hid (∀ X, Turn (fun _ => False) w X → X.cell? ⟨b, o, none⟩ = some (.int .i64 y.t)) := Lib.hid (fun X hX => (World.cell?_of_block (w := w) (a := ⟨b, o, none⟩) (hX.block b hb1 (fun h => h))).trans (by simpa using c0))
        clear hb1 hc c0 c1 c2
        by_cases hle : xt ≤ y.t
        · simp only [if_pos hle]
          go_enter Try.func122, Try.ntmps122
          go_wp2_with fail
          clear hW1
          refine HR.out.mono ?_
          rintro e w2 ⟨rfl, ht⟩
          have T2 := Lib.hid (TW.out.trans ht)
          have B2 := Lib.hid (BX.out.turn ht (fun h => h))
          obtain ⟨x0, x1, x2⟩ : w2.cell? ⟨w.heap.size, 0, none⟩ = some (.int .i64 xt) ∧ w2.cell? ⟨w.heap.size, 1, none⟩ = some (.string xs) ∧ w2.cell? ⟨w.heap.size, 2, none⟩ = some (.bool xd) := ⟨B2.out.cell 0, B2.out.cell 1, B2.out.cell 2⟩
          clear ht
          go_wp2_with (first | (go_at_call 129; refine (HX.out _).mono ?_; rintro e w3 ⟨rfl, hw3⟩; have t23 : Turn (fun _ => False) w2 w3 := (by rw [hw3]; exact (Turn.refl _ _).alloc _); have T3 := Lib.hid (T2.out.trans t23); have B3 := Lib.hid (B2.out.turn t23 (fun h => h)); obtain ⟨x3, x4, x5⟩ : w3.cell? ⟨w.heap.size, 0, none⟩ = some (.int .i64 xt) ∧ w3.cell? ⟨w.heap.size, 1, none⟩ = some (.string xs) ∧ w3.cell? ⟨w.heap.size, 2, none⟩ = some (.bool xd) := ⟨B3.out.cell 0, B3.out.cell 1, B3.out.cell 2⟩; have y0 := HY.out _ T3.out;clear t23 hw3))
          go_quiet (fail)
          go_wp2_with fail
          go_ret2
          exact ⟨_, rfl, vo_nil _ _, T3.out.drewN _⟩
        · simp only [if_neg hle]
          go_enter Try.func122, Try.ntmps122
          go_wp2_with fail
          clear hW1
          refine HR.out.mono ?_
          rintro e w2 ⟨rfl, ht⟩
          have T2 := Lib.hid (TW.out.trans ht)
          have B2 := Lib.hid (BX.out.turn ht (fun h => h))
          obtain ⟨x0, x1, x2⟩ : w2.cell? ⟨w.heap.size, 0, none⟩ = some (.int .i64 xt) ∧ w2.cell? ⟨w.heap.size, 1, none⟩ = some (.string xs) ∧ w2.cell? ⟨w.heap.size, 2, none⟩ = some (.bool xd) := ⟨B2.out.cell 0, B2.out.cell 1, B2.out.cell 2⟩
          clear ht
          go_wp2_with (first | (go_at_call 129; refine (HX.out _).mono ?_; rintro e w3 ⟨rfl, hw3⟩; have t23 : Turn (fun _ => False) w2 w3 := (by rw [hw3]; exact (Turn.refl _ _).alloc _); have T3 := Lib.hid (T2.out.trans t23); have B3 := Lib.hid (B2.out.turn t23 (fun h => h)); obtain ⟨x3, x4, x5⟩ : w3.cell? ⟨w.heap.size, 0, none⟩ = some (.int .i64 xt) ∧ w3.cell? ⟨w.heap.size, 1, none⟩ = some (.string xs) ∧ w3.cell? ⟨w.heap.size, 2, none⟩ = some (.bool xd) := ⟨B3.out.cell 0, B3.out.cell 1, B3.out.cell 2⟩; have y0 := HY.out _ T3.out;clear t23 hw3))
          go_quiet (fail)
          go_wp2_with (at_builtin; refine wpList_appVs rfl _ _ rfl w.heap.size (.slice (some ⟨w3.heap.size, 0, none⟩) 1 1) [⟨xt, xs, xd⟩] (y :: L) 1 n (some ⟨b, o, none⟩) c rfl rfl HN.out (VO1.out _ (T3.out.drewN _)) rfl (HRC.out.still ((T3.out.drewN _).alloc _)) (by omega) (by have := T3.out.size; simp; omega) ?_; intro A7 c7 w7 ho7 ht7; have O7 := Lib.hid ho7; have T7 := Lib.hid (((T3.out.drewN _).alloc (.cells #[.int .i64 xt, .string xs, .bool xd] 83)).trans_new ht7 (fun k hk h => by have h9 : some w3.heap.size = some k := h; injection h9 with h9; have := T3.out.size; omega)); clear ho7 ht7)
          go_ret2
          exact ⟨_, rfl, O7.out, T7.out⟩
end Go.Proofs.Ytjkfgbmlhglnfaa
