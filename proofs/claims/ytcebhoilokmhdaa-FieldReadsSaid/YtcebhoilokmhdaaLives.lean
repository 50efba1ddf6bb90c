/- ambrylaw01.lives answers true: the program tells the document's examples. -/
import Derived.Test.YtcebhoilokmhdaaPutB
import Derived.Test.YtcebhoilokmhdaaGetE
import Derived.Lib.SlBytesConst
namespace Go.Proofs.Ytcebhoilokmhdaa
open Go.RowKit
set_option linter.unusedVariables false

theorem Rdr.lt {w : World} {p at_ er : Nat} {l : List UInt8} (h : Rdr w p l at_ er) : p < w.heap.size := by
  obtain ⟨_, _, _, hb, _⟩ := h; exact hb.lt
theorem Rdr.below {w w' : World} {B p at_ er : Nat} {l : List UInt8} (h : Rdr w p l at_ er) (hb : Below B w w') (hp : p < B) : Rdr w' p l at_ er := by
  obtain ⟨A, cap, hc, hk, hA, h1, h2⟩ := h
  exact ⟨A, cap, hc, hk.below hb hp, hA.below (hb.mono (Nat.le_of_lt hp)), h1, h2⟩

theorem f2_258 : ([] : List UInt8) ++ fld 2 258 = [1, 2] := by decide
theorem f8_m2 : ([] : List UInt8) ++ fld 8 (-2) = [255, 255, 255, 255, 255, 255, 255, 254] := by decide
theorem txt_ab : ([] : List UInt8) ++ txt (⟨#[97, 98]⟩ : ByteArray).data.toList = [0, 0, 0, 2, 97, 98] := by decide
theorem rt_ex : rt_ 1 [0, 0, 0, 2, 97, 98] 0 0 = ([], 0, 5) := by decide

theorem ex_slice (w : World) : Sl (w.alloc (.cells #[.int .u8 0, .int .u8 0, .int .u8 0, .int .u8 2, .int .u8 97, .int .u8 98] 5 (6, 7))) (w.heap.size + 1) (.slice (some ⟨w.heap.size, 0, none⟩) 6 6) [0, 0, 0, 2, 97, 98] := by
  refine ⟨_, 6, rfl, fun _ => ⟨_, rfl, rfl, by simp, fun j c hj => ?_⟩, by simp [maxLen], (fun h => by cases h), by decide⟩
  rw [show (⟨w.heap.size, 0, none⟩ : Addr).add j = ⟨w.heap.size, j, none⟩ from by unfold Addr.add; split <;> simp_all, World.cell?_alloc_mark]
  match j, hj with
  | 0, hj | 1, hj | 2, hj | 3, hj | 4, hj | 5, hj => cases hj; rfl

set_option maxHeartbeats 1000000 in
theorem lives_any (w : World) : Calls Try.prog 20 #[] w fun e w' => e = .returned (.bool true) ∧ Below w.heap.size w w' := by
  have HS := Lib.hid (ex_slice w)
  have kc := fun (w : World) (C : Array Value) (n c : Nat) => Lib.run_convert_bytes_const (P := Try.prog) w 22 5 C n c Try.underlying22 Try.underlying5
  go_enter Try.func20, Try.ntmps20
  go_wp2_with (first
    | (go_at_call 21; refine (newReader_any (w.heap.size + 1) _ _ _ HS.out (by simp) (by decide)).mono ?_; rintro e w1 ⟨p, rfl, hr, hp, hb⟩; have HR := Lib.hid hr; clear hr)
    | (go_at_call 25; refine (text_any p _ 0 0 1 [] 0 5 rt_ex _ HR.out).mono ?_; rintro e w2 ⟨rfl, hr2, ht2⟩; have HR2 := Lib.hid hr2; clear hr2)
    | (go_at_call 48; refine (put16_any 0 none 0 [] 258 _ (Rd.nil _ _ _) (Nat.zero_le _) (by decide)).mono ?_; rintro e w3 ⟨v3, rfl, ho3, hb3⟩; rw [f2_258] at ho3; obtain ⟨A3, cap3, rfl, hc3⟩ := made_str _ ho3; replace hc3 : (convert 22 9 (.slice A3 2 cap3)).run Try.prog w3 = .ok (.string ⟨#[1, 2]⟩) w3 := hc3; clear ho3)
    | (go_at_call 50; refine (put64_any 0 none 0 [] (-2) _ (Rd.nil _ _ _) (Nat.zero_le _) (by decide)).mono ?_; rintro e w4 ⟨v4, rfl, ho4, hb4⟩; rw [f8_m2] at ho4; obtain ⟨A4, cap4, rfl, hc4⟩ := made_str _ ho4; replace hc4 : (convert 22 9 (.slice A4 8 cap4)).run Try.prog w4 = .ok (.string ⟨#[255, 255, 255, 255, 255, 255, 255, 254]⟩) w4 := hc4; clear ho4)
    | (go_at_call 18; refine (putText_any 0 none 0 [] ⟨#[97, 98]⟩ _ (Rd.nil _ _ _) (Nat.zero_le _) (by decide) (by decide)).mono ?_; rintro e w5 ⟨v5, rfl, ho5, hb5⟩; rw [txt_ab] at ho5; obtain ⟨A5, cap5, rfl, hc5⟩ := made_str _ ho5; replace hc5 : (convert 22 9 (.slice A5 6 cap5)).run Try.prog w5 = .ok (.string ⟨#[0, 0, 0, 2, 97, 98]⟩) w5 := hc5; clear ho5)
    | (go_at_call 27; refine (er_any p _ 0 5 _ (((HR2.out.below hb3 HR2.out.lt).below hb4 (by have := HR2.out.lt; have := hb3.size; omega)).below hb5 (by have := HR2.out.lt; have := hb3.size; have := hb4.size; omega))).mono ?_; rintro e w6 ⟨rfl, rfl⟩)
    | (go_at_call 26; refine (at_any p _ 0 5 _ (((HR2.out.below hb3 HR2.out.lt).below hb4 (by have := HR2.out.lt; have := hb3.size; omega)).below hb5 (by have := HR2.out.lt; have := hb3.size; have := hb4.size; omega))).mono ?_; rintro e w7 ⟨rfl, rfl⟩))
  go_ret
  have z1 := hb.size
  have z2 := ht2.size
  have z3 := hb3.size
  have z4 := hb4.size
  simp at z1 hp
  refine ⟨rfl, ?_⟩
  refine ((Below.refl w.heap.size w).alloc (Nat.le_refl _) _).trans ((hb.mono (by simp)).trans ((ht2.below (by omega) (by intro k hk; omega)).trans ((hb3.mono (by omega)).trans ((hb4.mono (by omega)).trans (hb5.mono (by omega))))))
end Go.Proofs.Ytcebhoilokmhdaa
