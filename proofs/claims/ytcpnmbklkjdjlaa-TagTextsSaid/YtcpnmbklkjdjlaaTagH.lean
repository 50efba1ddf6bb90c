/- Layer 3: the document's answer: Of. -/
import Derived.Test.YtcpnmbklkjdjlaaTagG
namespace Go.Proofs.Ytcpnmbklkjdjlaa
open Go.RowKit
set_option linter.unusedVariables false

theorem blk2 {w : World} {g : Nat} {t : TypeId} {a b : Value} (h : Blk w g t [a, b]) :
    w.cell? ⟨g, 0, none⟩ = some a ∧ w.cell? ⟨g, 1, none⟩ = some b ∧ w.frozen? ⟨g, 0, none⟩ = false ∧ w.frozen? ⟨g, 1, none⟩ = false := ⟨h.cell 0, h.cell 1, h.free 0, h.free 1⟩
theorem blk2_put {w : World} {g : Nat} {t : TypeId} {a b c d : Value} (h : Blk w g t [a, b]) : Blk ((w.setCell ⟨g, 0, none⟩ c).setCell ⟨g, 1, none⟩ d) g t [c, d] := (h.put 0 c).put 1 d

set_option maxRecDepth 100000 in
set_option maxHeartbeats 1000000 in
theorem refOf_any (l : List UInt8) (S : ByteArray) (hS : S = ⟨l.toArray⟩) (w : World) (hl : l.length ≤ 140737488355328) :
    Calls Try.prog 15 #[.string S] w fun e w' => e = .returned (tv (tagl l)) ∧ Below w.heap.size w w' := by
  have hsz : S.size = l.length := by rw [hS]; simp [ByteArray.size]
  have HB : Hid (∀ k (h : k < l.length) (h' : k < S.size), S[k]'h' = l[k]) := by subst hS; intro k h h'; rfl
  have hsz1 : S.size ≤ l.length := by omega
  have hsz2 : l.length ≤ S.size := by omega
  clear hS hsz
  go_enter Try.func15, Try.ntmps15
  go_wp2
  go_loopw [4] (fun i wr => ∃ k : Nat, k ≤ l.length ∧ i = .int .i64 k ∧ Below w.heap.size w wr ∧ Blk wr w.heap.size 28 [.int .i64 0, .int .i64 0] ∧ Blk wr (w.heap.size + 1) 28 [.int .i64 (tagl (l.take k)).1, .int .i64 (tagl (l.take k)).2]) (fun i _ => l.length - (intOf i).toNat)
  case atStart => exact ⟨0, Nat.zero_le _, rfl, ((Below.refl _ _).alloc (Nat.le_refl _) _).alloc (by simp) _, (Blk.new _ _ [.int .i64 0, .int .i64 0]).alloc _, Blk.new_ _ _ [.int .i64 0, .int .i64 0] (by simp)⟩
  case round =>
    obtain ⟨k, hk, rfl, hb, hR, hT⟩ := hrel
    by_cases hlt : k < l.length
    · have hlt2 : k < S.size := by omega
      have HS := Lib.hid (show tagl (l.take (k + 1)) = tstep (tagl (l.take k)) l[k] from by rw [List.take_succ_eq_append_getElem hlt, tagl_snoc])
      have HK := Lib.hid (HB.out k hlt hlt2)
      have ht := tagl_lt (l.take k)
      generalize tagl (l.take k) = T at *
      have HST := Lib.hid (tstep_two T l[k])
      obtain ⟨t1, t2⟩ := T
      simp only at ht
      have HTA := Lib.hid (turn_any (t1, t2) ht)
      have hl1 := left_lt (3 * t1 - 2 * t2)
      have hl2 := left_lt (2 * t1 + 3 * t2)
      generalize left (3 * t1 - 2 * t2) = u1 at *
      generalize left (2 * t1 + 3 * t2) = u2 at *
      have HR := Lib.hid hR
      have HT := Lib.hid hT
      have hsz := hT.lt
      obtain ⟨x0, x1, f0, f1⟩ := blk2 hT
      clear hR hT
      go_wp2_with (go_at_call 28; refine (HTA.out _).mono ?_; rintro e w1 ⟨rfl, hb1⟩; have HT1 := Lib.hid (HT.out.below hb1 hsz); obtain ⟨x10, x11, f10, f11⟩ := blk2 HT1.out)
      have hz1 := hb1.size
      obtain ⟨W2, hW2⟩ : ∃ W2, (w1.setCell ⟨w.heap.size + 1, 0, none⟩ (.int .i64 u1)).setCell ⟨w.heap.size + 1, 1, none⟩ (.int .i64 u2) = W2 := ⟨_, rfl⟩
      rw [hW2]
      have HT2 : Hid (Blk W2 (w.heap.size + 1) 28 [.int .i64 u1, .int .i64 u2]) := by rw [← hW2]; exact blk2_put HT1.out
      have HR2 : Hid (Blk W2 w.heap.size 28 [.int .i64 0, .int .i64 0]) := by rw [← hW2]; exact ((HR.out.below hb1 (by omega)).far (by simp) _).far (by simp) _
      have HB2 : Hid (Below w.heap.size w W2) := by rw [← hW2]; exact ((hb.trans (hb1.mono hb.size)).setCell (by simp) _).setCell (by simp) _
      obtain ⟨y0, y1, g0, g1⟩ := blk2 HT2.out
      have hc1 := (S[k]).toNat_lt
      generalize hcc : S[k] = c at *
      have HL1 := Lib.hid (left_any (u1 + c.toNat + 1) (by omega) (by omega))
      have HL2 := Lib.hid (left_any (u2 + 256 - c.toNat) (by omega) (by omega))
      have e0 := wrap_of (c.toNat : Int) (by omega) (by omega)
      have e1 := wrap_of (u1 + c.toNat) (by omega) (by omega)
      have e2 := wrap_of (u1 + c.toNat + 1) (by omega) (by omega)
      have e3 := wrap_of (u2 + 256) (by omega) (by omega)
      have e4 := wrap_of (u2 + 256 - c.toNat) (by omega) (by omega)
      have hkz : (k : Int) < S.size := by omega
      clear x0 x1 f0 f1 x10 x11 f10 f11 hb1 hb HT1 HT HR hW2 hl1 hl2 hz1
      refine wp_region_still_tail 18 (by kernel_rfl) (by kernel_rfl) ?_
      simp only [List.take_succ_cons, List.take_zero, List.drop_succ_cons, List.drop_zero]
      change wpStill _ _ (World.drew _) _ _ _
      repeat still_step
      still_call ((HL1.out _).mono fun _ _ h => ⟨h.1, h.2.symm⟩)
      repeat still_step
      still_call ((HL2.out _).mono fun _ _ h => ⟨h.1, h.2.symm⟩)
      repeat still_step
      refine wpStill_nil ?_
      change wpList _ _ _ _ _ (World.drew _)
      go_wp2
      go_roundw
      case rel =>
        refine ⟨k + 1, by omega, by go_num, (HB2.out.drew.setCell (by simp) _).setCell (by simp) _, (HR2.out.drew.far (by simp) _).far (by simp) _, ?_⟩
        rw [HS.out, HST.out]
        rw [← HK.out]
        exact blk2_put HT2.out.drew
      case measure => simp [intOf]; omega
    · obtain rfl : k = l.length := by omega
      rw [List.take_length] at hT
      obtain ⟨x0, x1, f0, f1⟩ := blk2 hR
      obtain ⟨y0, y1, g0, g1⟩ := blk2 hT
      go_wp2
      exact bodyPost_ret (v := .agg #[.int .i64 (tagl l).1, .int .i64 (tagl l).2]) (by simp [results, Try.results15, go_sem, x0, x1]) rfl ⟨rfl, (hb.setCell (Nat.le_refl _) _).setCell (Nat.le_refl _) _⟩
end Go.Proofs.Ytcpnmbklkjdjlaa
