/- The walk of ambrylaw11.SuperNil. -/
import Derived.Test.YtcjoinahelmmpaaSuI
import Derived.Test.YtcjoinahelmmpaaFrameU
namespace Go.Proofs.Ytcjoinahelmmpaa
open Go.RowKit
set_option linter.unusedVariables false
set_option maxRecDepth 100000

set_option maxHeartbeats 2000000 in
theorem superNil_walk (s : Sup) (b : Bool) (w : World) (_ : s.wf) :
    Calls Try.prog 9 #[uv s, .bool b] w fun e w' => e = .returned (.bool true) ∧ Below w.heap.size w w' := by
  have HL := Lib.hid lives11_any
  have HF : Hid (∀ w v, (∀ W, Turn (fun _ => False) w W → Nod W v) → Calls Try.prog 25 #[v] w fun r w' => r = .returned (.tuple #[.agg #[.int .i64 0, .int .i64 0, .int .i64 0, .int .i64 0, .int .i64 0, .int .i64 0], .int .i64 0, .int .i64 1]) ∧ Turn (fun _ => False) w w') := Lib.hid (fun w v h => find_nod h)
  have HS : Hid (∀ w v s, (∀ W, Turn (fun _ => False) w W → Nod W v) → Calls Try.prog 28 #[v, uv s] w fun r w' => r = .returned (.tuple #[.agg #[.int .i64 0, .int .i64 0, .int .i64 0, .int .i64 0, .int .i64 0, .int .i64 0], .int .i64 1]) ∧ Turn (fun _ => False) w w') := Lib.hid (fun w v s h => save_nod s h)
  obtain ⟨g, r, t, e, l, m⟩ := s
  unfold uv at *
  simp only at HS ⊢
  have HS' := Lib.hid (fun w v h => HS.out w v ⟨g, r, t, e, l, m⟩ h)
  clear HS
  cases b with
  | false =>
    go_enter Try.func9, Try.ntmps9
    go_wp2_with fail
    have B0 := Lib.hid (Blk.new w 23 [.int .i64 g, .int .i64 r, .int .i64 t, .int .i64 e, .int .i64 l, .int .i64 m])
    refine (HF.out _ _ (fun W _ => .inl rfl)).mono ?_
    rintro e1 w1 ⟨rfl, ht⟩
    have T1 := Lib.hid (((Turn.refl (fun _ => False) w).alloc _).trans ht)
    have B1 := Lib.hid ((B0.out.turn ht (fun h => h)).alloc (.cells #[.int .i64 0, .int .i64 0, .int .i64 0, .int .i64 0, .int .i64 0, .int .i64 0] 23))
    have C1 := Lib.hid (Blk.new w1 23 [.int .i64 0, .int .i64 0, .int .i64 0, .int .i64 0, .int .i64 0, .int .i64 0])
    obtain ⟨a0, a1, a2, a3, a4, a5⟩ := (blk6 B1.out).1
    clear ht
    go_wp2_with fail
    refine (HS'.out _ _ (fun W _ => .inl rfl)).mono ?_
    rintro e1 w2 ⟨rfl, ht⟩
    have T2 := Lib.hid (((T1.out.alloc (.cells #[.int .i64 0, .int .i64 0, .int .i64 0, .int .i64 0, .int .i64 0, .int .i64 0] 23)).trans ht).alloc (.cells #[.int .i64 0, .int .i64 0, .int .i64 0, .int .i64 0, .int .i64 0, .int .i64 0] 23))
    have C2 := Lib.hid ((C1.out.turn ht (fun h => h)).alloc (.cells #[.int .i64 0, .int .i64 0, .int .i64 0, .int .i64 0, .int .i64 0, .int .i64 0] 23))
    clear ht a0 a1 a2 a3 a4 a5
    obtain ⟨a0, a1, a2, a3, a4, a5⟩ := (blk6 C2.out).1
    go_wp2_with (go_at_call 14; refine (HL.out _).mono ?_; rintro e3 w3 ⟨rfl, ht⟩; have T3 := Lib.hid (T2.out.trans ht); clear ht)
    go_ret
    exact ⟨rfl, T3.out.below (Nat.le_refl _) (fun k h => h.elim)⟩
  | true =>
    go_enter Try.func9, Try.ntmps9
    go_wp2_with fail
    have B0 := Lib.hid ((Blk.new w 23 [.int .i64 g, .int .i64 r, .int .i64 t, .int .i64 e, .int .i64 l, .int .i64 m]).alloc (.cells #[.slice none 0 0, .slice none 0 0, .map none, .int .i64 0, .bool false] 77))
    have D0 := Lib.hid (Blk.new_ (w.alloc (.cells #[.int .i64 g, .int .i64 r, .int .i64 t, .int .i64 e, .int .i64 l, .int .i64 m] 23)) 77 [.slice none 0 0, .slice none 0 0, .map none, .int .i64 0, .bool false] (k := w.heap.size + 1) (by simp))
    have ND : Hid (∀ W W', Blk W (w.heap.size + 1) 77 [.slice none 0 0, .slice none 0 0, .map none, .int .i64 0, .bool false] → Turn (fun _ => False) W W' → Nod W' (.pointer (some ⟨w.heap.size + 1, 0, none⟩))) := Lib.hid (fun W W' h ht => .inr ⟨_, 0, none, rfl, (h.turn ht (fun h => h)).cell 0⟩)
    refine (HF.out _ _ (fun W ht => ND.out _ _ D0.out ht)).mono ?_
    rintro e1 w1 ⟨rfl, ht⟩
    have T1 := Lib.hid ((((Turn.refl (fun _ => False) w).alloc _).alloc _).trans ht)
    have B1 := Lib.hid ((B0.out.turn ht (fun h => h)).alloc (.cells #[.int .i64 0, .int .i64 0, .int .i64 0, .int .i64 0, .int .i64 0, .int .i64 0] 23))
    have D1 := Lib.hid ((D0.out.turn ht (fun h => h)).alloc (.cells #[.int .i64 0, .int .i64 0, .int .i64 0, .int .i64 0, .int .i64 0, .int .i64 0] 23))
    have C1 := Lib.hid (Blk.new w1 23 [.int .i64 0, .int .i64 0, .int .i64 0, .int .i64 0, .int .i64 0, .int .i64 0])
    obtain ⟨a0, a1, a2, a3, a4, a5⟩ := (blk6 B1.out).1
    clear ht B0 D0
    go_wp2_with fail
    refine (HS'.out _ _ (fun W ht => ND.out _ _ D1.out ht)).mono ?_
    rintro e1 w2 ⟨rfl, ht⟩
    have T2 := Lib.hid (((T1.out.alloc (.cells #[.int .i64 0, .int .i64 0, .int .i64 0, .int .i64 0, .int .i64 0, .int .i64 0] 23)).trans ht).alloc (.cells #[.int .i64 0, .int .i64 0, .int .i64 0, .int .i64 0, .int .i64 0, .int .i64 0] 23))
    have C2 := Lib.hid ((C1.out.turn ht (fun h => h)).alloc (.cells #[.int .i64 0, .int .i64 0, .int .i64 0, .int .i64 0, .int .i64 0, .int .i64 0] 23))
    clear ht a0 a1 a2 a3 a4 a5
    obtain ⟨a0, a1, a2, a3, a4, a5⟩ := (blk6 C2.out).1
    go_wp2_with (go_at_call 14; refine (HL.out _).mono ?_; rintro e3 w3 ⟨rfl, ht⟩; have T3 := Lib.hid (T2.out.trans ht); clear ht)
    go_ret
    exact ⟨rfl, T3.out.below (Nat.le_refl _) (fun k h => h.elim)⟩
end Go.Proofs.Ytcjoinahelmmpaa
