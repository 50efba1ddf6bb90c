/- The walk of ambrylaw01.FieldNil. -/
import Derived.Test.YtacobklogcdhnaaLives
namespace Go.Proofs.Ytacobklogcdhnaa
open Go.RowKit
set_option linter.unusedVariables false

theorem at_un (p : Nat) (n : Int) (c0 c1 c3 : Value) (w : World) (h : Blk w p 52 [c0, c1, .int .i64 n, c3]) : Calls Try.prog 19 #[.pointer (some ⟨p, 0, none⟩)] w fun e w' => e = .returned (.int .i64 n) ∧ w = w' := by
  have c2 : w.cell? ⟨p, 2, none⟩ = some (.int .i64 n) := h.cell 2
  clear h
  go_enter Try.func19, Try.ntmps19
  go_wp2
  go_ret
  exact ⟨rfl, rfl⟩
theorem end_un (p : Nat) (c1 c2 c3 : Value) (w : World) (h : Blk w p 52 [.bool false, c1, c2, c3]) : Calls Try.prog 21 #[.pointer (some ⟨p, 0, none⟩)] w fun e w' => e = .returned (.int .i64 1) ∧ w = w' := by
  have H := Lib.hid h
  clear h
  go_enter Try.func21, Try.ntmps21
  go_wp2_with (go_at_call 20; refine (err_un p _ _ _ _ H.out).mono ?_; rintro e w' ⟨rfl, rfl⟩)
  go_ret
  exact ⟨rfl, rfl⟩
theorem get8_un (p : Nat) (c1 c2 c3 : Value) (w : World) (h : Blk w p 52 [.bool false, c1, c2, c3]) : Calls Try.prog 23 #[.pointer (some ⟨p, 0, none⟩)] w fun e w' => e = .returned (.int .i64 0) ∧ Blk w' p 52 [.bool false, c1, c2, c3] ∧ Turn (fun _ => False) w w' := by
  have H := Lib.hid h
  clear h
  go_enter Try.func23, Try.ntmps23
  go_wp2_with (first
    | (go_at_call 20; refine (err_un p _ _ _ _ (H.out.alloc _)).mono ?_; rintro e w' ⟨rfl, rfl⟩)
    | (go_at_call 36; go_in))
  go_ret
  exact ⟨rfl, H.out.alloc _, (Turn.refl _ _).alloc _⟩
theorem get16_un (p : Nat) (c1 c2 c3 : Value) (w : World) (h : Blk w p 52 [.bool false, c1, c2, c3]) : Calls Try.prog 24 #[.pointer (some ⟨p, 0, none⟩)] w fun e w' => e = .returned (.int .i64 0) ∧ Blk w' p 52 [.bool false, c1, c2, c3] ∧ Turn (fun _ => False) w w' := by
  have H := Lib.hid h
  clear h
  go_enter Try.func24, Try.ntmps24
  go_wp2_with (first
    | (go_at_call 20; refine (err_un p _ _ _ _ (H.out.alloc _)).mono ?_; rintro e w' ⟨rfl, rfl⟩)
    | (go_at_call 37; go_in))
  go_ret
  exact ⟨rfl, H.out.alloc _, (Turn.refl _ _).alloc _⟩
theorem get32_un (p : Nat) (c1 c2 c3 : Value) (w : World) (h : Blk w p 52 [.bool false, c1, c2, c3]) : Calls Try.prog 25 #[.pointer (some ⟨p, 0, none⟩)] w fun e w' => e = .returned (.int .i64 0) ∧ Blk w' p 52 [.bool false, c1, c2, c3] ∧ Turn (fun _ => False) w w' := by
  have H := Lib.hid h
  clear h
  go_enter Try.func25, Try.ntmps25
  go_wp2_with (first
    | (go_at_call 20; refine (err_un p _ _ _ _ (H.out.alloc _)).mono ?_; rintro e w' ⟨rfl, rfl⟩)
    | (go_at_call 38; go_in))
  go_ret
  exact ⟨rfl, H.out.alloc _, (Turn.refl _ _).alloc _⟩
theorem get64_un (p : Nat) (c1 c2 c3 : Value) (w : World) (h : Blk w p 52 [.bool false, c1, c2, c3]) : Calls Try.prog 26 #[.pointer (some ⟨p, 0, none⟩)] w fun e w' => e = .returned (.int .i64 0) ∧ Blk w' p 52 [.bool false, c1, c2, c3] ∧ Turn (fun _ => False) w w' := by
  have H := Lib.hid h
  clear h
  go_enter Try.func26, Try.ntmps26
  go_wp2_with (first
    | (go_at_call 20; refine (err_un p _ _ _ _ (H.out.alloc _)).mono ?_; rintro e w' ⟨rfl, rfl⟩)
    | (go_at_call 39; go_in))
  go_ret
  exact ⟨rfl, H.out.alloc _, (Turn.refl _ _).alloc _⟩
theorem text_un (p : Nat) (most n : Int) (c1 c3 : Value) (w : World) (h : Blk w p 52 [.bool false, c1, .int .i64 n, c3]) : Calls Try.prog 18 #[.pointer (some ⟨p, 0, none⟩), .int .i64 most] w fun e w' => e = .returned (.string ByteArray.empty) ∧ Blk w' p 52 [.bool false, c1, .int .i64 n, c3] ∧ Turn (fun _ => False) w w' := by
  have H := Lib.hid h
  clear h
  go_enter Try.func18, Try.ntmps18
  go_wp2_with (first
    | (go_at_call 19; refine (at_un p n _ _ _ _ H.out).mono ?_; rintro e w' ⟨rfl, rfl⟩)
    | (go_at_call 25; refine (get32_un p _ _ _ _ H.out).mono ?_; rintro e w' ⟨rfl, hb, ht⟩; have HB := Lib.hid hb; clear hb)
    | (go_at_call 20; refine (err_un p _ _ _ _ HB.out).mono ?_; rintro e w' ⟨rfl, rfl⟩))
  go_ret
  exact ⟨rfl, HB.out, ht⟩

theorem fieldNil_walk (a0 : Int) (a1 : Bool) (w : World) (w0 : (Lit.int .i64 a0).wf = true) :
    Calls Try.prog 8 #[.int .i64 a0, .bool a1] w fun e w' => e = .returned (.bool true) ∧ Below w.heap.size w w' := by
  cases a1
  · go_enter Try.func8, Try.ntmps8
    go_wp2_with (first
      | (go_at_call 23; refine (get8_nil _).mono ?_; rintro e w1 ⟨rfl, t1⟩)
      | (go_at_call 24; refine (get16_nil _).mono ?_; rintro e w2 ⟨rfl, t2⟩)
      | (go_at_call 25; refine (get32_nil _).mono ?_; rintro e w3 ⟨rfl, t3⟩)
      | (go_at_call 26; refine (get64_nil _).mono ?_; rintro e w4 ⟨rfl, t4⟩)
      | (go_at_call 18; refine (text_nil _ _).mono ?_; rintro e w5 ⟨rfl, t5⟩)
      | (go_at_call 19; refine (at_nil _).mono ?_; rintro e w6 ⟨rfl, rfl⟩)
      | (go_at_call 20; refine (err_nil _).mono ?_; rintro e w6 ⟨rfl, rfl⟩)
      | (go_at_call 21; refine (end_nil _).mono ?_; rintro e w6 ⟨rfl, rfl⟩)
      | (go_at_call 13; refine (lives_any _).mono ?_; rintro e w7 ⟨rfl, t7⟩))
    go_ret
    have t := (((t1.trans t2).trans t3).trans t4).trans t5
    exact ⟨rfl, (t.below (Nat.le_refl _) (fun k hk => hk.elim)).trans (t7.mono t.size)⟩
  · have H0 := Lib.hid (Blk.new w 52 [.bool false, .slice none 0 0, .int .i64 0, .int .i64 0])
    go_enter Try.func8, Try.ntmps8
    go_wp2_with (first
      | (go_at_call 23; refine (get8_un _ _ _ _ _ H0.out).mono ?_; rintro e w1 ⟨rfl, h1, t1⟩; have H1 := Lib.hid h1; clear h1)
      | (go_at_call 24; refine (get16_un _ _ _ _ _ H1.out).mono ?_; rintro e w2 ⟨rfl, h2, t2⟩; have H2 := Lib.hid h2; clear h2)
      | (go_at_call 25; refine (get32_un _ _ _ _ _ H2.out).mono ?_; rintro e w3 ⟨rfl, h3, t3⟩; have H3 := Lib.hid h3; clear h3)
      | (go_at_call 26; refine (get64_un _ _ _ _ _ H3.out).mono ?_; rintro e w4 ⟨rfl, h4, t4⟩; have H4 := Lib.hid h4; clear h4)
      | (go_at_call 18; refine (text_un _ _ _ _ _ _ H4.out).mono ?_; rintro e w5 ⟨rfl, h5, t5⟩; have H5 := Lib.hid h5; clear h5)
      | (go_at_call 19; refine (at_un _ _ _ _ _ _ H5.out).mono ?_; rintro e w6 ⟨rfl, rfl⟩)
      | (go_at_call 20; refine (err_un _ _ _ _ _ H5.out).mono ?_; rintro e w6 ⟨rfl, rfl⟩)
      | (go_at_call 21; refine (end_un _ _ _ _ _ H5.out).mono ?_; rintro e w6 ⟨rfl, rfl⟩)
      | (go_at_call 13; refine (lives_any _).mono ?_; rintro e w7 ⟨rfl, t7⟩))
    go_ret
    have t := (((t1.trans t2).trans t3).trans t4).trans t5
    have z := t.size
    simp at z
    exact ⟨rfl, (((Below.refl _ _).alloc (Nat.le_refl _) _).trans (t.below (by simp) (fun k hk => hk.elim))).trans (t7.mono (by omega))⟩
end Go.Proofs.Ytacobklogcdhnaa
