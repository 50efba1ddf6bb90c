/- Layer 15: the document's Check and Bytes. -/
import Derived.Test.YtaebhbdmmnpgeaaBtQ
import Derived.Test.YtaebhbdmmnpgeaaBtF
namespace Go.Proofs.Ytaebhbdmmnpgeaa
open Go.RowKit Go.Shelf
set_option linter.unusedVariables false
set_option linter.unusedSimpArgs false
set_option maxRecDepth 100000
attribute [local go_sem] Oper.semAt_some

set_option maxHeartbeats 4000000 in
theorem refCheck_15 (t : Int) (C : List Cg) (vl : Value) (w : World) (h : Cx w vl C) (hcl : C.length ≤ 100000) :
    Calls Try.prog 51 #[.agg #[.int .i64 t, vl]] w fun e w' => e = .returned (.int .i64 (by15 t C).2) ∧ Turn (fun _ => False) w w' := by
  have HRT := Lib.hid (fun W (hW : Turn (fun _ => False) w W) => refRight_15 t C vl W (h.still hW) hcl)
  have HRC := Lib.hid (fun W (hW : Turn (fun _ => False) w W) (hr : rg15 t C = true) => refPut_15 t C vl W (h.still hW) (rg_small hr).1 (rg_small hr).2)
  obtain ⟨AC, cC, rfl, hl, hr⟩ := h
  obtain ⟨n, hn⟩ : ∃ n, C.length = n := ⟨_, rfl⟩
  rw [hn] at HRT HRC ⊢
  clear hl hr hn hcl
  obtain ⟨Z, hZ⟩ : ∃ Z, by15 t C = Z := ⟨_, rfl⟩
  have HBY := Lib.hid hZ
  rw [hZ]
  clear hZ
  obtain ⟨W1, hW1⟩ : ∃ W, w.alloc (.cells #[.int .i64 t, .slice AC n cC] 24) = W := ⟨_, rfl⟩
  have TW : Hid (Turn (fun _ => False) w W1) := Lib.hid (hW1 ▸ (Turn.refl _ _).alloc _)
  have BX : Hid (Blk W1 w.heap.size 24 [.int .i64 t, .slice AC n cC]) := Lib.hid (hW1 ▸ Blk.new _ _ _)
  obtain ⟨x0, x1⟩ := cells2b BX.out
  cases hrt : rg15 t C with
  | false =>
    rw [hrt] at HRT
    have HE : Hid (Z.2 = 2) := Lib.hid (by rw [← HBY.out]; unfold by15; rw [hrt]; simp)
    clear hrt
    go_enter Try.func51, Try.ntmps51
    go_wp2_with (go_at_call 106; refine (HRT.out _ TW.out).mono ?_; rintro e w2 ⟨rfl, ht2⟩; have T2 := Lib.hid (TW.out.trans ht2); clear ht2)
    go_ret
    exact ⟨by rw [HE.out]; rfl, T2.out⟩
  | true =>
    rw [hrt] at HRT
    obtain ⟨Y, hY⟩ : ∃ Y : ByteArray, ⟨(rec15 t C).toArray⟩ = Y := ⟨_, rfl⟩
    have HYS : Hid (Y.size = (rec15 t C).length) := Lib.hid (by rw [← hY]; exact List.size_toArray)
    rw [hY] at HRC
    have HPT := Lib.hid (fun W (hW : Turn (fun _ => False) w W) => HRC.out W hW hrt)
    by_cases hb : Y.size ≤ 16384
    · have HE : Hid (Z.2 = 0) := Lib.hid (by rw [← HBY.out]; unfold by15; rw [hrt]; simp only [if_true]; rw [if_pos (by rw [← HYS.out]; exact hb)])
      have hb1 : ¬ (16384 : Int) < (Y.size : Int) := by omega
      clear hrt hY
      go_enter Try.func51, Try.ntmps51
      go_wp2_with (first
        | (go_at_call 106; refine (HRT.out _ TW.out).mono ?_; rintro e w2 ⟨rfl, ht2⟩; have T2 := Lib.hid (TW.out.trans ht2); obtain ⟨y0, y1⟩ := cells2b (BX.out.turn ht2 (fun h => h)); clear ht2)
        | (go_at_call 52; refine (HPT.out _ T2.out).mono ?_; rintro e w3 ⟨rfl, ht3⟩; have T3 := Lib.hid (T2.out.trans ht3); clear ht3))
      go_ret
      exact ⟨by rw [HE.out]; rfl, T3.out⟩
    · have HE : Hid (Z.2 = 5) := Lib.hid (by rw [← HBY.out]; unfold by15; rw [hrt]; simp only [if_true]; rw [if_neg (by rw [← HYS.out]; exact hb)])
      have hb1 : (16384 : Int) < (Y.size : Int) := by omega
      clear hrt hY
      go_enter Try.func51, Try.ntmps51
      go_wp2_with (first
        | (go_at_call 106; refine (HRT.out _ TW.out).mono ?_; rintro e w2 ⟨rfl, ht2⟩; have T2 := Lib.hid (TW.out.trans ht2); obtain ⟨y0, y1⟩ := cells2b (BX.out.turn ht2 (fun h => h)); clear ht2)
        | (go_at_call 52; refine (HPT.out _ T2.out).mono ?_; rintro e w3 ⟨rfl, ht3⟩; have T3 := Lib.hid (T2.out.trans ht3); clear ht3))
      go_ret
      exact ⟨by rw [HE.out]; rfl, T3.out⟩
end Go.Proofs.Ytaebhbdmmnpgeaa
