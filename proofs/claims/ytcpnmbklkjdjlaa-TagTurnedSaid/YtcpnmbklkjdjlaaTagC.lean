/- Layer 3: the tag of bytes, Check, Join. -/
import Derived.Test.YtcpnmbklkjdjlaaTagB
namespace Go.Proofs.Ytcpnmbklkjdjlaa
open Go.RowKit
set_option linter.unusedVariables false

/-- A result's two cells, behind a call that made memory. -/
theorem res_cells {w w' : World} {B : Nat} {t : TypeId} {a b : Value} (hb : Below B (w.alloc (.cells #[a, b] t)) w') (hB : w.heap.size < B := by simp) :
    w'.cell? ⟨w.heap.size, 0, none⟩ = some a ∧ w'.cell? ⟨w.heap.size, 1, none⟩ = some b ∧ w'.frozen? ⟨w.heap.size, 0, none⟩ = false ∧ w'.frozen? ⟨w.heap.size, 1, none⟩ = false := by
  have hx := (Blk.new w t [a, b]).below hb hB
  exact ⟨hx.cell 0, hx.cell 1, hx.free 0, hx.free 1⟩
theorem res_below {w w' : World} {B : Nat} {t : TypeId} {a b c d : Value} (hb : Below B (w.alloc (.cells #[a, b] t)) w') (hB : w.heap.size < B := by simp) : Below w.heap.size w ((w'.setCell ⟨w.heap.size, 0, none⟩ c).setCell ⟨w.heap.size, 1, none⟩ d) :=
  ((((Below.refl w.heap.size w).alloc (Nat.le_refl _) _).trans (hb.mono (by omega))).setCell (Nat.le_refl _) _).setCell (Nat.le_refl _) _
/-- A tag as a value. -/
@[go_sem] def tv (t : Int × Int) : Value := .agg #[.int .i64 t.1, .int .i64 t.2]

theorem run_cadd (a b : Int × Int) (ha : a.1.natAbs < 2199023255552 ∧ a.2.natAbs < 2199023255552) (hb : b.1.natAbs < 1048577 ∧ b.2.natAbs < 1048577) (w : World) :
    (binOp .add 52 (.complex .f64 (fw a.1) (fw a.2)) (.complex .f64 (fw b.1) (fw b.2))).run Try.prog w = .ok (.complex .f64 (fw (ga a b).1) (fw (ga a b).2)) w :=
  run_complex_sum w .add (.inl rfl) _ _ _ _ _ _ _ _ (fw_cadd _ _ _ _ (by omega) (by omega) (by omega) (by omega))
theorem ga_small (a b : Int × Int) (ha : a.1.natAbs < 2199023255552 ∧ a.2.natAbs < 2199023255552) (hb : b.1.natAbs < 1048577 ∧ b.2.natAbs < 1048577) : (ga a b).1.natAbs < 9007199254740992 ∧ (ga a b).2.natAbs < 9007199254740992 := by
  unfold ga
  constructor <;> simp only [] <;> omega
theorem run_own (c : UInt8) (w : World) :
    (binOp .add 53 (.float .f64 (floatOfInt .f64 (c.toNat : Int))) (.float .f64 4607182418800017408)).run Try.prog w = .ok (.float .f64 (fw (own c).1)) w ∧
    (binOp .sub 53 (.float .f64 4643211215818981376) (.float .f64 (floatOfInt .f64 (c.toNat : Int)))).run Try.prog w = .ok (.float .f64 (fw (own c).2)) w := by
  have hc := c.toNat_lt
  constructor
  · refine run_float_arith w .add _ _ _ _ _ ?_
    have := fw_add (c.toNat : Int) 1 (by omega) (by omega) (by omega)
    rw [fw_one] at this
    exact this
  · refine run_float_arith w .sub _ _ _ _ _ ?_
    have := fw_sub 256 (c.toNat : Int) (by omega) (by omega) (by omega)
    rw [fw_256] at this
    exact this
theorem own_small (c : UInt8) : (own c).1.natAbs < 1048577 ∧ (own c).2.natAbs < 1048577 := by
  have hc := c.toNat_lt
  unfold own
  constructor <;> simp only [] <;> omega

set_option maxHeartbeats 1000000 in
theorem of_any (v : Value) (l : List UInt8) (w : World) (hl : l.length ≤ 140737488355328) (h : Sl w w.heap.size v l) :
    Calls Try.prog 14 #[v] w fun e w' => e = .returned (tv (tagl l)) ∧ Below w.heap.size w w' := by
  obtain ⟨A, cap, rfl, hr, hm, hn, hle⟩ := h
  have HR := Lib.hid (hr.below ((Below.refl w.heap.size w).alloc (Nat.le_refl _) (.cells #[.int .i64 0, .int .i64 0] 28)))
  clear hr hn
  go_enter Try.func14, Try.ntmps14
  go_wp2
  go_loop [3, 9] (fun x i => ∃ k : Nat, k ≤ l.length ∧ i = .int .i64 k ∧ x = .complex .f64 (fw (tagl (l.take k)).1) (fw (tagl (l.take k)).2)) (fun _ i => l.length - (intOf i).toNat)
  case atStart => exact ⟨0, Nat.zero_le _, rfl, by rw [List.take_zero, tagl_nil, fw_zero]⟩
  case round =>
    obtain ⟨k, hk, rfl, rfl⟩ := hrel
    by_cases hlt : k < l.length
    · obtain ⟨ad, rfl, hs, hb, hc⟩ := HR.out (by omega)
      have hcell := hc k l[k] (by simp [hlt])
      unfold u8v at hcell
      have HS := Lib.hid (show tagl (l.take (k + 1)) = gr (ga (gm (tagl (l.take k)) (3, 2)) (own l[k])) from by rw [List.take_succ_eq_append_getElem hlt, tagl_snoc]; rfl)
      have ht := tagl_lt (l.take k)
      generalize tagl (l.take k) = T at *
      generalize l[k] = c at *
      have hg := gm_small T (3, 2) ht (by decide)
      have ho := own_small c
      have hm1 : ∀ W : World, (binOp .mul 52 (.complex .f64 (fw T.1) (fw T.2)) (.complex .f64 (fw 3) (fw 2))).run Try.prog W = .ok (.complex .f64 (fw (gm T (3, 2)).1) (fw (gm T (3, 2)).2)) W := run_cmul T (3, 2) ht (by decide)
      have hm2 : ∀ W : World, (binOp .add 52 (.complex .f64 (fw (gm T (3, 2)).1) (fw (gm T (3, 2)).2)) (.complex .f64 (fw (own c).1) (fw (own c).2))).run Try.prog W = .ok (.complex .f64 (fw (ga (gm T (3, 2)) (own c)).1) (fw (ga (gm T (3, 2)) (own c)).2)) W := run_cadd _ _ hg ho
      have hs2 := ga_small _ _ hg ho
      have h3 := fun W => (run_own c W).1
      have h4 := fun W => (run_own c W).2
      generalize ga (gm T (3, 2)) (own c) = Y at *
      generalize gm T (3, 2) = X at *
      generalize own c = O at *
      have hnb : l.length ≤ cap := hle
      clear hc hs ht hg ho
      go_wp2_with (first
        | (go_at_call 26; refine (step_any _).mono ?_; rintro e w' ⟨rfl, rfl⟩)
        | (go_at_call 25; refine (reduce_any _ _ hs2.1 hs2.2 _).mono ?_; rintro e w' ⟨rfl, rfl⟩))
      go_round
      case rel => exact ⟨k + 1, by omega, by go_num, by rw [HS.out]; rfl⟩
      case measure => simp [intOf]; omega
    · obtain rfl : k = l.length := by omega
      have ht := tagl_lt l
      go_wp2_with (go_at_call 27; refine (tagOf_any _ _ (by omega) (by omega) _).mono ?_; rintro e w' ⟨rfl, hb⟩; obtain ⟨x0, x1, f0, f1⟩ := res_cells hb)
      exact bodyPost_ret (v := tv (tagl l)) (by simp [results, Try.results14, go_sem, x0, x1, tv]) rfl ⟨rfl, res_below hb⟩
end Go.Proofs.Ytcpnmbklkjdjlaa
