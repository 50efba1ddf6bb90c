/- SpaceNil: its walk. -/
import Derived.Test.YtgoiajbledkadaaSpAj
import Derived.Test.YtgoiajbledkadaaFrameX
namespace Go.Proofs.Ytgoiajbledkadaa
open Go.RowKit
set_option linter.unusedVariables false
set_option maxRecDepth 100000

set_option maxHeartbeats 2000000 in
theorem spaceNil_of (v vl : Value) (key : ByteArray) (t : Int) (w : World) (hN : Nos w v) (b : Bool) (W : World)
    (hW : b = false ∧ v = .pointer none ∧ w = W ∨ b = true ∧ v = .pointer (some ⟨W.heap.size, 0, none⟩) ∧ w = W.alloc (.cells #[.slice none 0 0, .map none, .int .i64 0, .int .i64 0] 66)) :
    Calls Try.prog 8 #[.string key, .int .i64 t, vl, .bool b] W fun r w' => r = .returned (.bool true) ∧ Turn (fun _ => False) w w' := by
  have HG := Lib.hid (get14_no key t hN)
  have HS := Lib.hid (scan_14n key key t t hN)
  have HA := Lib.hid (fun X (hT : Turn (fun _ => False) w X) => apply14_no t vl (hN.still hT))
  have HV := Lib.hid (fun X (hT : Turn (fun _ => False) w X) => vacuum_14n t (hN.still hT))
  have HI := Lib.hid (fun X (hT : Turn (fun _ => False) w X) => since_14n key ByteArray.empty t (hN.still hT))
  have HL := Lib.hid (fun X (hT : Turn (fun _ => False) w X) => last14_no (hN.still hT))
  have HM := Lib.hid (fun X (hT : Turn (fun _ => False) w X) => mark14_no (hN.still hT))
  have HT := Lib.hid (fun X (hT : Turn (fun _ => False) w X) => items_14n (hN.still hT))
  have HC := Lib.hid (fun X (hT : Turn (fun _ => False) w X) => copy14_no (hN.still hT))
  clear hN
  rcases hW with ⟨rfl, rfl, rfl⟩ | ⟨rfl, rfl, rfl⟩
  all_goals
    go_enter Try.func8, Try.ntmps8
    go_wp2_with (first
      | (go_at_call 18; refine HG.out.mono ?_; rintro e w' ⟨rfl, rfl⟩)
      | (go_at_call 17; refine HS.out.mono ?_; rintro e w2 ⟨rfl, t2⟩)
      | (go_at_call 21; refine (HA.out _ t2).mono ?_; rintro e w' ⟨rfl, rfl⟩)
      | (go_at_call 25; refine (HV.out _ t2).mono ?_; rintro e w3 ⟨rfl, t3⟩)
      | (go_at_call 26; refine (HI.out _ (t2.trans t3)).mono ?_; rintro e w4 ⟨rfl, t4⟩)
      | (go_at_call 23; refine (HL.out _ ((t2.trans t3).trans t4)).mono ?_; rintro e w' ⟨rfl, rfl⟩)
      | (go_at_call 19; refine (HM.out _ ((t2.trans t3).trans t4)).mono ?_; rintro e w' ⟨rfl, rfl⟩)
      | (go_at_call 24; refine (HT.out _ ((t2.trans t3).trans t4)).mono ?_; rintro e w' ⟨rfl, rfl⟩)
      | (go_at_call 27; refine (HC.out _ ((t2.trans t3).trans t4)).mono ?_; rintro e w' ⟨rfl, rfl⟩)
      | (go_at_call 10; refine (lives_14 _).mono ?_; rintro e w9 ⟨rfl, t9⟩))
    go_ret
    exact ⟨rfl, ((t2.trans t3).trans t4).trans t9⟩
theorem spaceNil_walk (key : ByteArray) (t : Int) (vl : Value) (L : List Cg) (b : Bool) (w : World) (hk : key.size ≤ 140737488351232) (hi : (Lit.int .i64 t).wf = true) (hl : Cx w vl L) :
    Calls Try.prog 8 #[.string key, .int .i64 t, vl, .bool b] w fun r w' => r = .returned (.bool true) ∧ Below w.heap.size w w' := by
  cases b with
  | false => exact (spaceNil_of (.pointer none) vl key t w (.inl rfl) false w (.inl ⟨rfl, rfl, rfl⟩)).mono fun e w' ⟨he, ht⟩ => ⟨he, ht.below (Nat.le_refl _) (fun _ h => h.elim)⟩
  | true =>
    have t1 : Turn (fun _ => False) w (w.alloc (.cells #[.slice none 0 0, .map none, .int .i64 0, .int .i64 0] 66)) := (Turn.refl _ w).alloc _
    exact (spaceNil_of (.pointer (some ⟨w.heap.size, 0, none⟩)) vl key t _ (.inr ⟨_, _, _, _, rfl, Blk.new w 66 [.slice none 0 0, .map none, .int .i64 0, .int .i64 0]⟩) true w (.inr ⟨rfl, rfl, rfl⟩)).mono fun e w' ⟨he, ht⟩ => ⟨he, (t1.trans ht).below (Nat.le_refl _) (fun _ h => h.elim)⟩
end Go.Proofs.Ytgoiajbledkadaa
