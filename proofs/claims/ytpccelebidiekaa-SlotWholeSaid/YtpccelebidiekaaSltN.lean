/- Layer 5: the document's Cut, its loop. -/
import Derived.Test.YtpccelebidiekaaSltM
namespace Go.Proofs.Ytpccelebidiekaa
open Go.RowKit
set_option linter.unusedVariables false
set_option maxRecDepth 100000

theorem mk5_range (e q : Int) (S : ByteArray) : mk5 (raw5 e q (pcs5 S)) = (List.range (pcs5 S).length).map (cut_at e q S (pcs5 S).length) := by
  apply List.ext_getElem?
  intro i
  by_cases h : i < (pcs5 S).length
  · rw [mk5_at e q S i h, List.getElem?_map, List.getElem?_range h]; rfl
  · rw [List.getElem?_eq_none (by rw [len_mk5, len_raw5]; omega), List.getElem?_eq_none (by simp; omega)]
set_option maxHeartbeats 2000000 in
theorem refCut5_ok (S : ByteArray) (h : S.size ≤ 16384) (e q : Int) (w : World) (hb : 0 ≤ e ∧ e ≤ 2147483647 ∧ 0 ≤ q ∧ q ≤ 1152921504606846976 - ((pcs5 S).length : Int) + 1) :
    Calls Try.prog 20 #[.string S, .int .i64 e, .int .i64 q] w fun r w' => ∃ v, r = .returned (.tuple #[v, .int .i64 0]) ∧ w'.ownsRow w.heap.size 23 5 v (pcs5 S).length ((mk5 (raw5 e q (pcs5 S))).flatMap scells) ∧ Below w.heap.size w w' := by
  obtain ⟨i0, hi0, hy1, hy2, hy3⟩ := info_parts Try.infoSlot
  rw [mk5_range]
  have h2 : (S.size : Int) ≤ 16384 := by omega
  have w1 := wrap_of ((S.size : Int) + 108) (by omega) (by omega)
  have w2 := wrap_of ((S.size : Int) + 108 - 1) (by omega) (by omega)
  have hm := cut_max S
  have hc := pcs5_count S.size S rfl
  have hp := pcs5_pos S
  generalize (pcs5 S).length = n at *
  have hnb : n ≤ 200 := by omega
  have HN := Lib.hid hc
  have hsz1 : (n : Int) * 108 ≤ (S.size : Int) + 107 ∨ n = 1 := by omega
  have w3 := wrap_of (1152921504606846976 - (n : Int)) (by omega) (by omega)
  have w4 := wrap_of (1152921504606846976 - (n : Int) + 1) (by omega) (by omega)
  have w5 := wrap_of ((n : Int) - 1) (by omega) (by omega)
  obtain ⟨b1, b2, b3, b4⟩ := hb
  have k1 : decide (e < 0) = false := by simp; omega
  have k2 : decide (2147483647 < e) = false := by simp; omega
  have k3 : decide (q < 0) = false := by simp; omega
  have k4 : decide (1152921504606846976 - (n : Int) + 1 < q) = false := by simp; omega
  have HM := Lib.hid hsz1
  clear hc hsz1
  go_enter Try.func20, Try.ntmps20
  go_wp2
  go_loopw [9, 10] (fun v i wr => ∃ (j : Nat) (A : Option Addr) (cap : Nat), j ≤ n ∧ i = .int .i64 j ∧ v = .slice A j cap ∧ wr.ownsRow w.heap.size 23 5 (.slice A j cap) j (((List.range j).map (cut_at e q S n)).flatMap scells) ∧ Below w.heap.size w wr) (fun _ i _ => n - (intOf i).toNat)
  case atStart => exact ⟨0, none, 0, Nat.zero_le _, rfl, rfl, World.ownsRow_nil _ _ _ _, Below.refl _ _⟩
  case round =>
    obtain ⟨j, A, cap, hj, rfl, rfl, ho, hbl⟩ := hrel
    have HO := Lib.hid ho
    clear ho
    by_cases hlt : j < n
    · have x1 : (j : Int) < (n : Int) := by omega
      have x2 := wrap_of ((j : Int) * 108) (by omega) (by omega)
      have x3 := wrap_of ((j : Int) + 1) (by omega) (by omega)
      have x4 := wrap_of (((j : Int) + 1) * 108) (by omega) (by omega)
      have x5 := wrap_of (q + (j : Int)) (by omega) (by omega)
      have x6 : (0 : Int) ≤ (j : Int) * 108 := by omega
      have x7 : (j : Int) * 108 ≤ min (S.size : Int) (((j : Int) + 1) * 108) := by have := HM.out; have := HN.out; omega
      have x8 : min (S.size : Int) (((j : Int) + 1) * 108) ≤ (S.size : Int) := by omega
      have x9 : ((j : Int) * 108).toNat = j * 108 := by omega
      have x10 : (min (S.size : Int) (((j : Int) + 1) * 108)).toNat = min S.size ((j + 1) * 108) := by omega
      have HNEWS : Hid (((List.range (j + 1)).map (cut_at e q S n)).flatMap scells = ((List.range j).map (cut_at e q S n)).flatMap scells ++ [.int .i64 e, .int .i64 (q + (j : Int)), .bool ((j : Int) == 0), .bool ((j : Int) == (n : Int) - 1), .string (S.extract (j * 108) (min S.size ((j + 1) * 108)))]) := Lib.hid (by
        have z1 : ((j : Int) == 0) = decide (j = 0) := by rw [Bool.eq_iff_iff]; simp
        have z2 : ((j : Int) == (n : Int) - 1) = decide (j = n - 1) := by rw [Bool.eq_iff_iff]; simp; omega
        have z3 : wrap64 (q + (j : Int)) = q + (j : Int) := (IntWalk.i64_left _).symm.trans x5
        rw [List.range_succ, List.map_append, List.flatMap_append, z1, z2, ← z3]
        rfl)
      go_wp2_with (at_builtin; refine wpList_append_own _ rfl _ _ 39 rfl w.heap.size 23 i0 _ 5 40 Try.underlying39 hi0 hy1 hy2 hy3 rfl (by decide) (.slice A j cap) j _ rfl (HO.out.alloc _) ⟨wr.heap.size, 0, none⟩ 1 1 [.int .i64 e, .int .i64 (q + (j : Int)), .bool ((j : Int) == 0), .bool ((j : Int) == (n : Int) - 1), .string (S.extract (j * 108) (min S.size ((j + 1) * 108)))] rfl rfl (fun k u hu => by
          rw [Addr.add_mid, Nat.zero_add]; exact ((Blk.new wr 23 [.int .i64 e, .int .i64 (q + (j : Int)), .bool ((j : Int) == 0), .bool ((j : Int) == (n : Int) - 1), .string (S.extract (j * 108) (min S.size ((j + 1) * 108)))]).cell k).trans hu) (by simp [Value.oneCell']) (by unfold maxLen; omega) (by omega) (by have := hbl.size; simp; omega) ?_; intro v3 w3 ho3 hg3 hn3; clear hn3; have HO3 := Lib.hid ho3; have HG3 := Lib.hid (grown_turn5 hg3); clear ho3 hg3)
      go_roundw
      case rel =>
        obtain ⟨A3, c3, rfl⟩ : ∃ A3 c3, v3 = .slice A3 (j + 1) c3 := by
          rcases HO3.out.2 with ⟨_, e2⟩ | ⟨b, c, cur, e1, _⟩
          · omega
          · exact ⟨_, _, e1⟩
        refine ⟨j + 1, A3, c3, hlt, by simp, rfl, by rw [HNEWS.out]; exact HO3.out, (hbl.alloc hbl.size _).trans (HG3.out.below (by have := hbl.size; simp; omega) (fun k hk => World.ownsRow.base5 HO.out k hk))⟩
      case measure => simp [intOf]; omega
    · obtain rfl : j = n := by omega
      go_wp2
      go_ret2
      exact ⟨_, rfl, HO.out, hbl⟩
end Go.Proofs.Ytpccelebidiekaa
