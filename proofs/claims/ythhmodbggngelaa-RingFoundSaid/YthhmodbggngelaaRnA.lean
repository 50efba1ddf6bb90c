/- Layer 6: small calls of a region and of a ring. -/
import Derived.Test.YthhmodbggngelaaBlkK
namespace Go.Proofs.Ythhmodbggngelaa
open Go.RowKit
set_option linter.unusedVariables false
set_option maxRecDepth 100000

theorem place_any (dv : Value) (hd : dv.oneCell' = true) (f c s : Nat) (hf : f ≤ 16384) (hc0 : 0 < c) (hc : c ≤ 16384) (hs : s ≤ 9223372036854775807) (w : World) :
    Calls Try.prog 44 #[.agg #[dv, .int .i64 f, .int .i64 c], .int .i64 s] w fun e w' => e = .returned (.int .i64 ((f + s % c : Nat) : Int)) ∧ w' = (w.alloc (.cells #[dv, .int .i64 f, .int .i64 c] 43)).drew := by
  have hlt := Nat.mod_lt s hc0
  have e0 : ¬ c = 0 := by omega
  have e1 : (s : Int).tmod (c : Int) = ((s % c : Nat) : Int) := by rw [Int.tmod_eq_emod_of_nonneg (by omega)]; rfl
  generalize s % c = r at *
  have e2 := wrap_of (r : Int) (by omega) (by omega)
  have e3 := wrap_of ((f : Int) + (r : Int)) (by omega) (by omega)
  have e4 : (((f + r : Nat)) : Int) = (f : Int) + (r : Int) := by omega
  rw [e4]
  go_enter Try.func44, Try.ntmps44
  go_wp2
  refine wp_region_still_lit (by kernel_rfl) (by kernel_rfl) ?_
  change wpStill _ _ (World.drew _) _ _ _
  have x1 := ((Blk.new w 43 [dv, .int .i64 f, .int .i64 c]).drew).cell 1
  have x2 := ((Blk.new w 43 [dv, .int .i64 f, .int .i64 c]).drew).cell 2
  simp only [List.getElem?_cons_zero, List.getElem?_cons_succ] at x1 x2
  repeat still_step
  refine wpStill_nil ?_
  change Exit.then _ _ _ _ (World.drew _)
  go_wp2
  go_ret
  exact ⟨rfl, rfl⟩
/-- A ring in its block. -/
def RgB (w : World) (p d : Nat) (f c s n e : Int) (vR : Value) : Prop := Blk w p 45 [.pointer (some ⟨d, 0, none⟩), .int .i64 f, .int .i64 c, .int .i64 s, .int .i64 n, .int .i64 e, vR]
theorem ringMade (p d : Nat) (f c s n e : Int) (vR : Value) (w : World) (h : RgB w p d f c s n e vR) :
    Calls Try.prog 25 #[.pointer (some ⟨p, 0, none⟩)] w fun r w' => r = .returned (.bool true) ∧ w' = w := by
  have x0 := h.cell 0
  simp only [List.getElem?_cons_zero] at x0
  go_enter Try.func25, Try.ntmps25
  go_wp2
  go_ret
  exact ⟨rfl, rfl⟩
theorem ringMade_nil (w : World) :
    Calls Try.prog 25 #[.pointer none] w fun r w' => r = .returned (.bool false) ∧ w' = w := by
  go_enter Try.func25, Try.ntmps25
  go_wp2
  go_ret
  exact ⟨rfl, rfl⟩
/-- Of no ring. -/
def Nor (w : World) (v : Value) : Prop := v = .pointer none ∨ ∃ p, v = .pointer (some ⟨p, 0, none⟩) ∧ w.cell? ⟨p, 0, none⟩ = some (.pointer none)
theorem ringMade_nor {w : World} {v : Value} (h : Nor w v) :
    Calls Try.prog 25 #[v] w fun r w' => r = .returned (.bool false) ∧ w' = w := by
  rcases h with rfl | ⟨p, rfl, x0⟩
  · exact ringMade_nil w
  · go_enter Try.func25, Try.ntmps25
    go_wp2
    go_ret
    exact ⟨rfl, rfl⟩
theorem ringStart (p d : Nat) (f c s n e : Int) (vR : Value) (w : World) (h : RgB w p d f c s n e vR) :
    Calls Try.prog 18 #[.pointer (some ⟨p, 0, none⟩)] w fun r w' => r = .returned (.int .i64 s) ∧ w' = w := by
  have HM := Lib.hid (ringMade p d f c s n e vR w h)
  have x0 := h.cell 3
  simp only [List.getElem?_cons_zero, List.getElem?_cons_succ] at x0
  clear h
  go_enter Try.func18, Try.ntmps18
  go_wp2_with (go_at_call 25; refine HM.out.mono ?_; rintro r w' ⟨rfl, rfl⟩)
  go_ret
  exact ⟨rfl, rfl⟩
theorem ringStart_nor {w : World} {v : Value} (h : Nor w v) :
    Calls Try.prog 18 #[v] w fun r w' => r = .returned (.int .i64 0) ∧ w' = w := by
  have HM := Lib.hid (ringMade_nor h)
  clear h
  go_enter Try.func18, Try.ntmps18
  go_wp2_with (go_at_call 25; refine HM.out.mono ?_; rintro r w' ⟨rfl, rfl⟩)
  go_ret
  exact ⟨rfl, rfl⟩
theorem ringNext (p d : Nat) (f c s n e : Int) (vR : Value) (w : World) (h : RgB w p d f c s n e vR) :
    Calls Try.prog 15 #[.pointer (some ⟨p, 0, none⟩)] w fun r w' => r = .returned (.int .i64 n) ∧ w' = w := by
  have HM := Lib.hid (ringMade p d f c s n e vR w h)
  have x0 := h.cell 4
  simp only [List.getElem?_cons_zero, List.getElem?_cons_succ] at x0
  clear h
  go_enter Try.func15, Try.ntmps15
  go_wp2_with (go_at_call 25; refine HM.out.mono ?_; rintro r w' ⟨rfl, rfl⟩)
  go_ret
  exact ⟨rfl, rfl⟩
theorem ringNext_nor {w : World} {v : Value} (h : Nor w v) :
    Calls Try.prog 15 #[v] w fun r w' => r = .returned (.int .i64 0) ∧ w' = w := by
  have HM := Lib.hid (ringMade_nor h)
  clear h
  go_enter Try.func15, Try.ntmps15
  go_wp2_with (go_at_call 25; refine HM.out.mono ?_; rintro r w' ⟨rfl, rfl⟩)
  go_ret
  exact ⟨rfl, rfl⟩
theorem ringEpoch (p d : Nat) (f c s n e : Int) (vR : Value) (w : World) (h : RgB w p d f c s n e vR) :
    Calls Try.prog 14 #[.pointer (some ⟨p, 0, none⟩)] w fun r w' => r = .returned (.int .i64 e) ∧ w' = w := by
  have HM := Lib.hid (ringMade p d f c s n e vR w h)
  have x0 := h.cell 5
  simp only [List.getElem?_cons_zero, List.getElem?_cons_succ] at x0
  clear h
  go_enter Try.func14, Try.ntmps14
  go_wp2_with (go_at_call 25; refine HM.out.mono ?_; rintro r w' ⟨rfl, rfl⟩)
  go_ret
  exact ⟨rfl, rfl⟩
theorem ringEpoch_nor {w : World} {v : Value} (h : Nor w v) :
    Calls Try.prog 14 #[v] w fun r w' => r = .returned (.int .i64 0) ∧ w' = w := by
  have HM := Lib.hid (ringMade_nor h)
  clear h
  go_enter Try.func14, Try.ntmps14
  go_wp2_with (go_at_call 25; refine HM.out.mono ?_; rintro r w' ⟨rfl, rfl⟩)
  go_ret
  exact ⟨rfl, rfl⟩
theorem ringRoom_nor {w : World} {v : Value} (h : Nor w v) :
    Calls Try.prog 16 #[v] w fun r w' => r = .returned (.int .i64 0) ∧ w' = w := by
  have HM := Lib.hid (ringMade_nor h)
  clear h
  go_enter Try.func16, Try.ntmps16
  go_wp2_with (go_at_call 25; refine HM.out.mono ?_; rintro r w' ⟨rfl, rfl⟩)
  go_ret
  exact ⟨rfl, rfl⟩
theorem ringSync_nor {w : World} {v : Value} (h : Nor w v) :
    Calls Try.prog 10 #[v] w fun r w' => r = .returned (.int .i64 1) ∧ w' = w := by
  have HM := Lib.hid (ringMade_nor h)
  clear h
  go_enter Try.func10, Try.ntmps10
  go_wp2_with (go_at_call 25; refine HM.out.mono ?_; rintro r w' ⟨rfl, rfl⟩)
  go_ret
  exact ⟨rfl, rfl⟩
theorem ringAppend_nor {w : World} {v : Value} (h : Nor w v) (S : ByteArray) :
    Calls Try.prog 9 #[v, .string S] w fun r w' => r = .returned (.int .i64 1) ∧ w' = w := by
  have HM := Lib.hid (ringMade_nor h)
  clear h
  go_enter Try.func9, Try.ntmps9
  go_wp2_with (go_at_call 25; refine HM.out.mono ?_; rintro r w' ⟨rfl, rfl⟩)
  go_ret
  exact ⟨rfl, rfl⟩
theorem ringTruncate_nor {w : World} {v : Value} (h : Nor w v) (q : Int) :
    Calls Try.prog 17 #[v, .int .i64 q] w fun r w' => r = .returned (.int .i64 1) ∧ w' = w := by
  have HM := Lib.hid (ringMade_nor h)
  clear h
  go_enter Try.func17, Try.ntmps17
  go_wp2_with (go_at_call 25; refine HM.out.mono ?_; rintro r w' ⟨rfl, rfl⟩)
  go_ret
  exact ⟨rfl, rfl⟩
theorem ringRecords_nor {w : World} {v : Value} (h : Nor w v) :
    Calls Try.prog 12 #[v] w fun r w' => r = .returned (.slice none 0 0) ∧ w' = w := by
  have HM := Lib.hid (ringMade_nor h)
  clear h
  go_enter Try.func12, Try.ntmps12
  go_wp2_with (go_at_call 25; refine HM.out.mono ?_; rintro r w' ⟨rfl, rfl⟩)
  go_ret
  exact ⟨rfl, rfl⟩
theorem ringRoom (p d : Nat) (f : Int) (c s n : Nat) (e : Int) (hc : c ≤ 16384) (hs : s ≤ 1152921504606846976) (hn : n ≤ 1152921504606846977) (vR : Value) (w : World) (h : RgB w p d f c s n e vR) :
    Calls Try.prog 16 #[.pointer (some ⟨p, 0, none⟩)] w fun r w' => r = .returned (.int .i64 (min ((s : Int) + c) 1152921504606846977 - n)) ∧ w' = w.drew := by
  have HM := Lib.hid (ringMade p d f c s n e vR w h)
  have x2 := h.drew.cell 2
  have x3 := h.drew.cell 3
  have x4 := h.drew.cell 4
  simp only [List.getElem?_cons_zero, List.getElem?_cons_succ] at x2 x3 x4
  have e1 := wrap_of ((s : Int) + (c : Int)) (by omega) (by omega)
  have e2 := wrap_of ((s : Int) + (c : Int) - (n : Int)) (by omega) (by omega)
  have e3 := wrap_of (1152921504606846977 - (n : Int)) (by omega) (by omega)
  clear h
  rcases (by omega : (s : Int) + (c : Int) ≤ 1152921504606846977 ∨ 1152921504606846977 < (s : Int) + (c : Int)) with hm | hm
  · have hm2 : min ((s : Int) + (c : Int)) 1152921504606846977 = (s : Int) + (c : Int) := by omega
    rw [hm2]
    go_enter Try.func16, Try.ntmps16
    go_wp2_with (go_at_call 25; refine HM.out.mono ?_; rintro r w' ⟨rfl, rfl⟩)
    refine wp_region_still_lit (by kernel_rfl) (by kernel_rfl) ?_
    change wpStill _ _ (World.drew _) _ _ _
    repeat still_step
    refine wpStill_nil ?_
    change Exit.then _ _ _ _ (World.drew _)
    go_wp2
    go_ret
    exact ⟨by first | rfl | (congr 2; omega) | (rw [e2]), rfl⟩
  · have hm2 : min ((s : Int) + (c : Int)) 1152921504606846977 = 1152921504606846977 := by omega
    rw [hm2]
    go_enter Try.func16, Try.ntmps16
    go_wp2_with (go_at_call 25; refine HM.out.mono ?_; rintro r w' ⟨rfl, rfl⟩)
    refine wp_region_still_lit (by kernel_rfl) (by kernel_rfl) ?_
    change wpStill _ _ (World.drew _) _ _ _
    repeat still_step
    refine wpStill_nil ?_
    change Exit.then _ _ _ _ (World.drew _)
    go_wp2
    go_ret
    exact ⟨by first | rfl | (congr 2; omega) | (rw [e3]), rfl⟩
end Go.Proofs.Ythhmodbggngelaa
/- Layer 6: a region's check. -/
namespace Go.Proofs.Ythhmodbggngelaa
open Go.RowKit
set_option linter.unusedVariables false
set_option maxRecDepth 100000

theorem chk_key (f c n : Int) : (f < 0) ∨ (0 ≤ f ∧ c < 2) ∨ (0 ≤ f ∧ 2 ≤ c ∧ n - c < f) ∨ (0 ≤ f ∧ 2 ≤ c ∧ f ≤ n - c) := by omega
/-- What check answers of a region of a disk of n sectors. -/
def chk (f c : Int) (n : Nat) : Int := if f < 0 ∨ c < 2 ∨ (n : Int) - c < f then 2 else 0
theorem regionCheck (S : Nat → Prop) (d : Nat) (D : Dsk) (f c : Int) (hc : -9223372036854775808 ≤ c ∧ c ≤ 9223372036854775807) (w : World) (h : Dq S w d D) :
    Calls Try.prog 21 #[.agg #[.pointer (some ⟨d, 0, none⟩), .int .i64 f, .int .i64 c]] w fun r w' => r = .returned (.int .i64 (chk f c D.kept.length)) ∧ w' = w.alloc (.cells #[.pointer (some ⟨d, 0, none⟩), .int .i64 f, .int .i64 c] 43) := by
  have hpos := h.1.pos
  have hmost := h.1.most
  have HS := Lib.hid (fun W (k : Dq S W d D) => size_dq k)
  have HD := Lib.hid (h.still (((Turn.refl (fun _ => False) w)).alloc (.cells #[.pointer (some ⟨d, 0, none⟩), .int .i64 f, .int .i64 c] 43)))
  clear h
  generalize D.kept.length = n at *
  have e1 : ((n : Int) == 0) = false := by simp; omega
  have hn0 : ¬ n = 0 := by omega
  unfold chk
  rcases chk_key f c n with h | ⟨h1, h⟩ | ⟨h1, h2, h⟩ | ⟨h1, h2, h⟩
  · rw [if_pos (.inl h)]
    go_enter Try.func21, Try.ntmps21
    go_wp2_with (go_at_call 37; refine (HS.out _ HD.out).mono ?_; rintro r w' ⟨rfl, rfl⟩)
    go_ret
    exact ⟨rfl, rfl⟩
  · rw [if_pos (.inr (.inl h))]
    go_enter Try.func21, Try.ntmps21
    go_wp2_with (go_at_call 37; refine (HS.out _ HD.out).mono ?_; rintro r w' ⟨rfl, rfl⟩)
    go_ret
    exact ⟨rfl, rfl⟩
  · rw [if_pos (.inr (.inr h))]
    have e2 := wrap_of ((n : Int) - c) (by omega) (by omega)
    go_enter Try.func21, Try.ntmps21
    go_wp2_with (go_at_call 37; refine (HS.out _ HD.out).mono ?_; rintro r w' ⟨rfl, rfl⟩)
    go_ret
    exact ⟨rfl, rfl⟩
  · rw [if_neg (by omega)]
    have e2 := wrap_of ((n : Int) - c) (by omega) (by omega)
    go_enter Try.func21, Try.ntmps21
    go_wp2_with (go_at_call 37; refine (HS.out _ HD.out).mono ?_; rintro r w' ⟨rfl, rfl⟩)
    go_ret
    exact ⟨rfl, rfl⟩
theorem regionCheck_nil (f c : Int) (w : World) :
    Calls Try.prog 21 #[.agg #[.pointer none, .int .i64 f, .int .i64 c]] w fun r w' => r = .returned (.int .i64 1) ∧ w' = w.alloc (.cells #[.pointer none, .int .i64 f, .int .i64 c] 43) := by
  have HS := Lib.hid (fun W => size_nod (w := W) (v := .pointer none) (.inl rfl))
  go_enter Try.func21, Try.ntmps21
  go_wp2_with (go_at_call 37; refine (HS.out _).mono ?_; rintro r w' ⟨rfl, rfl⟩)
  go_ret
  exact ⟨rfl, rfl⟩
/-- On no disk there is no ring. -/
theorem open_nil (f c s e : Int) (w : World) :
    Calls Try.prog 8 #[.pointer none, .int .i64 f, .int .i64 c, .int .i64 s, .int .i64 e] w fun r w' => r = .returned (.tuple #[.pointer none, .int .i64 1]) ∧ Below w.heap.size w w' := by
  have HC := Lib.hid (fun W => regionCheck_nil f c W)
  go_enter Try.func8, Try.ntmps8
  go_wp2_with (go_at_call 21; refine (HC.out _).mono ?_; rintro r w' ⟨rfl, rfl⟩)
  go_ret2
  exact ⟨rfl, ((Below.refl _ _).alloc (Nat.le_refl _) _).alloc (by simp) _⟩
end Go.Proofs.Ythhmodbggngelaa
