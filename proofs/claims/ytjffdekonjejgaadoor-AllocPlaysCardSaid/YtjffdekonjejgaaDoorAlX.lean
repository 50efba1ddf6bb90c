/- Layer 7: the document's Claim, Give, Take. -/
import Derived.Test.YtjffdekonjejgaaDoorAlW
namespace Go.Proofs.YtjffdekonjejgaaDoor
open Go.RowKit
set_option linter.unusedVariables false
set_option maxRecDepth 100000

theorem Tf.sl {W : World} {v : Value} {l : List Bool} (h : Tf W v l) : ∃ b c, v = .slice (some ⟨b, 0, none⟩) l.length c := by
  obtain ⟨b, c, rest, rfl, _⟩ := h
  exact ⟨b, c, rfl⟩
theorem setr_one (l : List Bool) (i : Nat) (b : Bool) (h : i < l.length) (hb : l.getD i false = !b) : setr l i b 1 = flip l i 1 := setr_flip l i b 1 (by omega) (fun j a c => by rw [show j = i from by omega]; exact hb)
set_option maxHeartbeats 2000000 in
theorem refClaim7 (v : Value) (l : List Bool) (i : Int) (hl : l.length ≤ 16384) (hl0 : 0 < l.length) (w : World) (h : Tf w v l) :
    Calls Tryd.prog 24 #[.agg #[v], .int .i64 i] w fun r w' => ∃ v', r = .returned (.tuple #[.agg #[v'], .int .i64 (clm7 l i).2]) ∧ Tf w' v' (clm7 l i).1 ∧ Turn (fun _ => False) w w' := by
  have HT := Lib.hid h
  obtain ⟨b, c, rest, rfl, hb⟩ := h
  have hbl := hb.lt
  have HT2 : Hid (Turn (fun _ => False) w ((w.alloc (.cells #[.slice (some ⟨b, 0, none⟩) l.length c] 29)).alloc (.cells #[.slice none 0 0] 29))) := Lib.hid (((Turn.refl _ w).alloc _).alloc _)
  have HX := Lib.hid (fun j (hj : j < l.length) => (by
    have := (hb.turn HT2.out (fun h => h)).cell j
    rw [List.getElem?_append_left (by rw [len_tb]; exact hj), tb_at l j hj] at this
    exact this : ((w.alloc (.cells #[.slice (some ⟨b, 0, none⟩) l.length c] 29)).alloc (.cells #[.slice none 0 0] 29)).cell? ⟨b, j, none⟩ = some (.bool (!l.getD j false))))
  have HTF := Lib.hid (HT.out.still HT2.out)
  clear hb
  by_cases h0 : 0 ≤ i ∧ i < l.length
  · obtain ⟨n, rfl⟩ : ∃ n : Nat, i = (n : Int) := ⟨i.toNat, by omega⟩
    have hn : n < l.length := by omega
    have h0i : (0 : Int) ≤ (n : Int) := by omega
    have h1i : (n : Int) < (l.length : Int) := by omega
    have hr : clm7 l n = if l.getD n false then (flip l n 1, 0) else (l, 8) := by
      unfold clm7
      rw [if_neg (by omega), Int.toNat_natCast]
    have hd1 : decide (l.length ≤ n) = false := by simpa using hn
    have x0 := HX.out n hn
    have HW := Lib.hid (fun W (hW : Tf W (.slice (some ⟨b, 0, none⟩) l.length c) l) => refWith7 _ l n 1 false hl (by omega) hl0 W hW)
    cases hb : l.getD n false with
    | true =>
      have HR : Hid (clm7 l n = (flip l n 1, 0)) := Lib.hid (by rw [hr, hb]; rfl)
      rw [setr_one l n false hn hb] at HW
      rw [HR.out]
      rw [hb] at x0
      generalize flip l n 1 = X at *
      have HWW := Lib.hid (HW.out _ HTF.out)
      generalize l.length = N at *
      clear hr hb h0
      go_enter Tryd.func24, Tryd.ntmps24
      go_wp2_with (go_at_call 33; refine HWW.out.mono ?_; rintro e w3 ⟨v3, rfl, ht3, hw3⟩; obtain ⟨b3, k3, rfl⟩ := ht3.sl; have C3 := ((Blk.new_ (w.alloc (.cells #[.slice (some ⟨b, 0, none⟩) N c] 29)) 29 [.slice none 0 0] (k := w.heap.size + 1) (by simp)).turn hw3 (fun h => h)); have c3 := C3.cell 0; have z3 := C3.free 0; simp only [List.getElem?_cons_zero] at c3; have HC3 := Lib.hid C3; have HT3 := Lib.hid ht3; have HW3 := Lib.hid hw3; clear C3 ht3 hw3)
      have TS := (Turn.refl (fun k => k = w.heap.size + 1) w3).setCell (p := ⟨w.heap.size + 1, 0, none⟩) (.inl rfl) (.slice (some ⟨b3, 0, none⟩) X.length k3)
      have z0 := (HC3.out.put 0 (.slice (some ⟨b3, 0, none⟩) X.length k3)).cell 0
      simp only [List.set_cons_zero, List.getElem?_cons_zero] at z0
      refine bodyPost_ret (v := .tuple #[.agg #[.slice (some ⟨b3, 0, none⟩) X.length k3], .int .i64 0]) (by simp [results, Tryd.results24, go_sem, z0]) rfl ⟨_, rfl, HT3.out.turn TS (fun q hq e => ?_), (HT2.out.trans HW3.out).trans_new TS (fun k hk h => by omega)⟩
      simp [Value.ownBlock] at hq
      subst hq
      obtain ⟨b4, c4, r4, e4, hb4⟩ := HT3.out
      injection e4 with e5
      injection e5 with e5
      injection e5 with e5
      subst e5
      subst e
      exact absurd (hb4.same HC3.out).1 (by decide)
    | false =>
      have HR : Hid (clm7 l n = (l, 8)) := Lib.hid (by rw [hr, hb]; rfl)
      rw [HR.out]
      rw [hb] at x0
      clear hr hb h0 HW
      generalize hN : l.length = N at *
      clear hN
      go_enter Tryd.func24, Tryd.ntmps24
      go_wp2_with fail
      exact bodyPost_ret (v := .tuple #[.agg #[.slice (some ⟨b, 0, none⟩) N c], .int .i64 8]) (by simp [results, Tryd.results24, go_sem]) rfl ⟨_, rfl, HT.out.still (((Turn.refl _ w).alloc _).alloc _), ((Turn.refl _ w).alloc _).alloc _⟩
  · have HR : Hid (clm7 l i = (l, 6)) := Lib.hid (by unfold clm7; rw [if_pos (by omega)])
    rw [HR.out]
    have hc : i < 0 ∨ (0 ≤ i ∧ (l.length : Int) ≤ i) := by omega
    generalize hN : l.length = N at *
    clear h0 hN
    rcases hc with h1 | ⟨h1, h2⟩
    all_goals
      go_enter Tryd.func24, Tryd.ntmps24
      go_wp2_with fail
      exact bodyPost_ret (v := .tuple #[.agg #[.slice (some ⟨b, 0, none⟩) N c], .int .i64 6]) (by simp [results, Tryd.results24, go_sem]) rfl ⟨_, rfl, HT.out.still (((Turn.refl _ w).alloc _).alloc _), ((Turn.refl _ w).alloc _).alloc _⟩
end Go.Proofs.YtjffdekonjejgaaDoor
