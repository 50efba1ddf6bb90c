/- Layer 7: the document's rows held side by side. -/
import Derived.Test.YtjffdekonjejgaaDoorAlK
import Derived.Deep.QuietTactic
import Derived.BigQuiet
namespace Go.Proofs.YtjffdekonjejgaaDoor
open Go.RowKit
set_option linter.unusedVariables false
set_option maxRecDepth 100000

/-- A value that reads as these pairs. -/
def Pr (W : World) (v : Value) (xs : List (Nat × Nat)) : Prop := ∃ A c, v = .slice A xs.length c ∧
  (0 < xs.length → ∃ b, A = some ⟨b, 0, none⟩ ∧ b < W.heap.size ∧ ∀ j x, xs[j]? = some x → W.cell? ⟨b, j * 2, none⟩ = some (.int .i64 (x.1 : Int)) ∧ W.cell? ⟨b, j * 2 + 1, none⟩ = some (.int .i64 (x.2 : Int)))
theorem flat_at7 (l : List (Nat × Nat)) (j i : Nat) (s : Nat × Nat) (hs : l[j]? = some s) (hi : i < 2) : (l.flatMap rc7)[j * 2 + i]? = (rc7 s)[i]? := by
  induction l generalizing j with
  | nil => simp at hs
  | cons x l ih =>
    rw [List.flatMap_cons]
    cases j with
    | zero =>
      simp only [List.getElem?_cons_zero, Option.some.injEq] at hs
      subst hs
      rw [List.getElem?_append_left (by simp [rc7]; omega)]
      simp
    | succ j =>
      simp only [List.getElem?_cons_succ] at hs
      rw [List.getElem?_append_right (by simp [rc7]; omega), ← ih j hs]
      congr 1
      simp [rc7]; omega
theorem pr_blk {W : World} {b t c : Nat} {xs : List (Nat × Nat)} {rest : List Value} (h : Blk W b t (xs.flatMap rc7 ++ rest)) : Pr W (.slice (some ⟨b, 0, none⟩) xs.length c) xs := by
  refine ⟨_, _, rfl, fun _ => ⟨b, rfl, h.lt, fun j x hj => ?_⟩⟩
  have hjl := (List.getElem?_eq_some_iff.1 hj).1
  have hl := len_rc7 xs
  constructor
  · have := h.cell (j * 2)
    rw [List.getElem?_append_left (by omega), show j * 2 = j * 2 + 0 from rfl, flat_at7 xs j 0 x hj (by decide)] at this
    exact this
  · have := h.cell (j * 2 + 1)
    rw [List.getElem?_append_left (by omega), flat_at7 xs j 1 x hj (by decide)] at this
    exact this
theorem pr_own {W : World} {base t : Nat} {v : Value} {xs : List (Nat × Nat)} (h : W.ownsRow base t 2 v xs.length (xs.flatMap rc7)) : Pr W v xs := by
  rcases h.2 with ⟨e1, e2⟩ | ⟨g, cap, cur, rfl, hb, hgg, _, _, _, ht⟩
  · exact ⟨none, 0, by rw [e1, e2], fun h => by omega⟩
  · refine pr_blk (t := t) (rest := cur.toList.drop (xs.length * 2)) ?_
    rw [← ht, List.take_append_drop]
    unfold Blk
    simpa using hgg
theorem Pr.turn {W W' : World} {v : Value} {xs : List (Nat × Nat)} {S : Nat → Prop} (h : Pr W v xs) (ht : Turn S W W') (hS : ∀ b, v.ownBlock = some b → ¬ S b) : Pr W' v xs := by
  obtain ⟨A, c, rfl, hx⟩ := h
  refine ⟨A, c, rfl, fun hp => ?_⟩
  obtain ⟨b, rfl, hb, hc⟩ := hx hp
  refine ⟨b, rfl, Nat.lt_of_lt_of_le hb ht.size, fun j x hj => ?_⟩
  have hk := ht.block b hb (hS b rfl)
  exact ⟨(World.cell?_of_block (w := W) (a := ⟨b, j * 2, none⟩) hk).trans (hc j x hj).1, (World.cell?_of_block (w := W) (a := ⟨b, j * 2 + 1, none⟩) hk).trans (hc j x hj).2⟩
theorem Pr.still {W W' : World} {v : Value} {xs : List (Nat × Nat)} (h : Pr W v xs) (ht : Turn (fun _ => False) W W') : Pr W' v xs := h.turn ht (fun _ _ h => h)
theorem size_int (w : World) : (sizeOf 3).run Tryd.prog w = .ok 1 w := by kernel_rfl
theorem part_0 (x y : Int) (w : World) : (part 3 #[Value.int IntKind.i64 x, Value.int IntKind.i64 y] 0).run Tryd.prog w = .ok (.int .i64 x) w := by kernel_rfl
theorem part_1 (x y : Int) (w : World) : (part 3 #[Value.int IntKind.i64 x, Value.int IntKind.i64 y] 1).run Tryd.prog w = .ok (.int .i64 y) w := by kernel_rfl
theorem guard_pair : Tryd.prog.eqGuardType Tryd.prog.depth 52 = false := by kernel_rfl
theorem eq_pair (d : Nat) (a b c e : Int) (w : World) : (Op.equalIn (d + 1 + 1) 52 (.agg #[.int .i64 a, .int .i64 b]) (.agg #[.int .i64 c, .int .i64 e])).run Tryd.prog w = .ok ((a == c) && (b == e)) w := by
  rw [Op.equalIn]
  simp only [Sem.run_bind, run_underlying Tryd.underlying52, Result.andThen_ok, size_int, Std.Legacy.Range.forIn_eq_forIn_range', Std.Legacy.Range.size]
  simp only [Nat.sub_zero, Nat.add_one_sub_one, Nat.div_one, List.range', List.forIn_cons, List.forIn_nil, Nat.mul_one, Nat.zero_add, Sem.run_bind, part_0, Result.andThen_ok, run_equalIn_int _ _ _ _ _ _ _ Tryd.underlying3]
  cases h : (a == c) <;> cases h2 : (b == e) <;> simp [Sem.run_pure, part_1, run_equalIn_int _ _ _ _ _ _ _ Tryd.underlying3, h2]
theorem same_list {xs ys : List (Nat × Nat)} (hl : xs.length = ys.length) (h : ∀ j, j < xs.length → xs[j]? = ys[j]?) : xs = ys := by
  apply List.ext_getElem? 
  intro j
  rcases Nat.lt_or_ge j xs.length with hj | hj
  · exact h j hj
  · rw [List.getElem?_eq_none hj, List.getElem?_eq_none (by omega)]
set_option maxHeartbeats 1000000 in
theorem same7 (xs ys : List (Nat × Nat)) (v u : Value) (w : World) (hv : Pr w v xs) (hu : Pr w u ys) (hx : xs.length ≤ 1000000) (hy : ys.length ≤ 1000000) :
    Calls Tryd.prog 14 #[v, u] w fun r w' => r = .returned (.bool (decide (xs = ys))) ∧ Turn (fun _ => False) w w' := by
  obtain ⟨A, c, rfl, hA⟩ := hv
  obtain ⟨B, d, rfl, hB⟩ := hu
  have HA := Lib.hid hA
  have HB := Lib.hid hB
  clear hA hB
  by_cases hl : xs.length = ys.length
  · have HL := Lib.hid hl
    obtain ⟨n, hn⟩ : ∃ n, n = xs.length := ⟨_, rfl⟩
    have HN := Lib.hid hn
    rw [← hl, ← hn]
    rw [← hn] at hx
    clear hl hn
    go_enter Tryd.func14, Tryd.ntmps14
    go_wp2
    go_loopw [5] (fun v5 wr => ∃ k : Nat, k ≤ n ∧ v5 = .int .i64 k ∧ (∀ j, j < k → xs[j]? = ys[j]?) ∧ Turn (fun _ => False) w wr) (fun v5 _ => n - (intOf v5).toNat)
    case atStart => exact ⟨0, Nat.zero_le _, rfl, fun j h => absurd h (by omega), Turn.refl _ _⟩
    case round =>
      obtain ⟨k, hk, rfl, hj, ht⟩ := hrel
      have HJ := Lib.hid hj
      have HT := Lib.hid ht
      clear hj ht
      by_cases hlt : k < n
      · obtain ⟨b, rfl, hb, hcb⟩ := HA.out (by rw [← HN.out]; omega)
        obtain ⟨b2, rfl, hb2, hcb2⟩ := HB.out (by rw [← HL.out, ← HN.out]; omega)
        obtain ⟨x, hxk⟩ : ∃ x, xs[k]? = some x := ⟨_, List.getElem?_eq_getElem (by rw [← HN.out]; exact hlt)⟩
        obtain ⟨y, hyk⟩ : ∃ y, ys[k]? = some y := ⟨_, List.getElem?_eq_getElem (by rw [← HL.out, ← HN.out]; exact hlt)⟩
        have q0 := (World.cell?_of_block (w := w) (a := ⟨b, k * 2, none⟩) (HT.out.block b hb (fun h => h))).trans (hcb k x hxk).1
        have q1 := (World.cell?_of_block (w := w) (a := ⟨b, k * 2 + 1, none⟩) (HT.out.block b hb (fun h => h))).trans (hcb k x hxk).2
        have q2 := (World.cell?_of_block (w := w) (a := ⟨b2, k * 2, none⟩) (HT.out.block b2 hb2 (fun h => h))).trans (hcb2 k y hyk).1
        have q3 := (World.cell?_of_block (w := w) (a := ⟨b2, k * 2 + 1, none⟩) (HT.out.block b2 hb2 (fun h => h))).trans (hcb2 k y hyk).2
        have HXK := Lib.hid hxk
        have HYK := Lib.hid hyk
        have hi : (k : Int) < (n : Int) := by omega
        have e1 := wrap_of ((k : Int) + 1) (by omega) (by omega)
        obtain ⟨x1, x2⟩ := x
        obtain ⟨y1, y2⟩ := y
        clear hcb hcb2 hxk hyk
        have q0d : wr.drew.cell? ⟨b, k * 2, none⟩ = _ := q0
        have q1d : wr.drew.cell? ⟨b, k * 2 + 1, none⟩ = _ := q1
        have q2d : wr.drew.cell? ⟨b2, k * 2, none⟩ = _ := q2
        have q3d : wr.drew.cell? ⟨b2, k * 2 + 1, none⟩ = _ := q3
        clear q0 q1 q2 q3
        go_wp2_with fail
        refine wp_region_still_lit (by kernel_rfl) (by kernel_rfl) ?_
        change wpStill _ _ (World.drew _) _ _ _
        have hpair := fun w => eq_pair 9998 (x1 : Int) (x2 : Int) (y1 : Int) (y2 : Int) w
        have hbb : (((x1 : Int) == (y1 : Int)) && ((x2 : Int) == (y2 : Int))) = decide ((x1, x2) = (y1, y2)) := by
          rw [Bool.eq_iff_iff]
          simp
          omega
        have hgd := guard_pair
        generalize (((x1 : Int) == (y1 : Int)) && ((x2 : Int) == (y2 : Int))) = bb at *
        have HBB := Lib.hid hbb
        clear hbb
        repeat still_step
        refine wpStill_nil ?_
        change Exit.then _ _ _ _ (World.drew _)
        cases bb with
        | true =>
          have HX2 : Hid (∀ j, j < k + 1 → xs[j]? = ys[j]?) := Lib.hid (fun j hj => by
            rcases Nat.lt_succ_iff_lt_or_eq.1 hj with h | h
            · exact HJ.out j h
            · rw [h, HXK.out, HYK.out]
              have := HBB.out
              rw [eq_comm, decide_eq_true_eq] at this
              rw [this])
          clear hpair hgd
          go_wp2
          go_roundw
          case rel => exact ⟨k + 1, hlt, by simp, HX2.out, HT.out.drew⟩
          case measure => simp [intOf]; omega
        | false =>
          have HE : Hid (decide (xs = ys) = false) := Lib.hid (by
            rw [decide_eq_false_iff_not]
            intro h
            have h2 := HBB.out
            rw [eq_comm, decide_eq_false_iff_not] at h2
            apply h2
            have h3 := HXK.out
            rw [h, HYK.out] at h3
            injection h3 with h3
            exact h3.symm)
          clear hpair hgd
          go_wp2
          go_ret
          exact ⟨by rw [HE.out]; rfl, HT.out.drew⟩
      · obtain rfl : k = n := by omega
        have HE : Hid (decide (xs = ys) = true) := Lib.hid (by rw [decide_eq_true_eq]; exact same_list HL.out (by rw [← HN.out]; exact HJ.out))
        go_wp2_with fail
        go_ret
        exact ⟨by rw [HE.out]; rfl, HT.out⟩
  · have HE : Hid (decide (xs = ys) = false) := Lib.hid (by rw [decide_eq_false_iff_not]; intro h; exact hl (by rw [h]))
    have hb1 : ((xs.length : Int) != (ys.length : Int)) = true := by simp; omega
    have hb2 : ((xs.length : Int) == (ys.length : Int)) = false := by simp; omega
    rw [HE.out]
    clear hl
    go_enter Tryd.func14, Tryd.ntmps14
    go_wp2
    go_ret
    exact ⟨rfl, Turn.refl _ _⟩
end Go.Proofs.YtjffdekonjejgaaDoor
