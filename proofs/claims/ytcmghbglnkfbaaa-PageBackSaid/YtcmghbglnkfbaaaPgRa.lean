/- Layer 8: the program's text (bytes of a reader, one by one). -/
import Derived.Test.YtcmghbglnkfbaaaPgM
import Derived.Laws.MakeOwn
import Derived.Test.YtcmghbglnkfbaaaGetD
namespace Go.Proofs.Ytcmghbglnkfbaaa
open Go.RowKit
set_option linter.unusedVariables false
set_option linter.unusedSimpArgs false
set_option maxRecDepth 100000

/-- What j bytes read from a place on are: right, if there are as many; else the reader has an error. -/
def Rt8 (l : List UInt8) (at_ er j : Nat) (bs : List UInt8) (a' e' : Nat) : Prop :=
  (er = 0 → at_ + j ≤ l.length → a' = at_ + j ∧ e' = 0 ∧ bs.take j = (l.drop at_).take j) ∧ ((er ≠ 0 ∨ l.length < at_ + j) → e' ≠ 0)
theorem num_one8 (l : List UInt8) (i : Nat) (h : i < l.length) : num 1 l i = l[i].toNat := by
  rw [num_succ 0 l i (by omega), num_zero]; simp
theorem rw1_lt (l : List UInt8) (a e : Nat) : (rw_ 1 l a e).1 < 256 := by
  unfold rw_
  split
  · split
    · show 0 < 256; decide
    · exact num_lt 1 l a
  · show 0 < 256; decide
theorem Rt8.step {l : List UInt8} {at_ er j a' e' : Nat} {bs : List UInt8} (h : Rt8 l at_ er j bs a' e') (hj : j < bs.length) :
    Rt8 l at_ er (j + 1) (bs.set j (UInt8.ofNat (rw_ 1 l a' e').1)) (rw_ 1 l a' e').2.1 (rw_ 1 l a' e').2.2 := by
  obtain ⟨h1, h2⟩ := h
  constructor
  · intro h0 hle
    obtain ⟨rfl, rfl, h3⟩ := h1 h0 (by omega)
    have hr : rw_ 1 l (at_ + j) 0 = (num 1 l (at_ + j), at_ + j + 1, 0) := by unfold rw_; rw [if_pos rfl, if_neg (by omega)]
    rw [hr]
    refine ⟨by simp only; omega, rfl, ?_⟩
    have hlt : at_ + j < l.length := by omega
    rw [List.take_add_one, List.take_set_of_le (Nat.le_refl _), h3, List.take_add_one, List.getElem?_drop, List.getElem?_set_self hj, List.getElem?_eq_getElem hlt]
    simp only
    rw [num_one8 l _ hlt]
    simp
  · intro hor
    by_cases he : e' = 0
    · subst he
      have h4 : er = 0 ∧ at_ + j ≤ l.length := by
        constructor
        · rcases Nat.eq_zero_or_pos er with h5 | h5
          · exact h5
          · exact absurd rfl (h2 (.inl (by omega)))
        · rcases Nat.lt_or_ge l.length (at_ + j) with h5 | h5
          · exact absurd rfl (h2 (.inr h5))
          · exact h5
      obtain ⟨rfl, _, _⟩ := h1 h4.1 h4.2
      have hlt : l.length < at_ + j + 1 := by rcases hor with h5 | h5; exact absurd h4.1 h5; omega
      unfold rw_; rw [if_pos rfl, if_pos hlt]; show 3 ≠ 0; decide
    · unfold rw_; rw [if_neg he]; exact he
theorem Rdr.far {w w' : World} {p at_ er q : Nat} {l : List UInt8} (h : Rdr w p l at_ er) (ht : Turn (fun k => k = q) w w') (hq : w.heap.size ≤ q) : Rdr w' p l at_ er := by
  obtain ⟨A, cap, h1, h2, h3, h4⟩ := h
  have hlt := h2.lt
  exact ⟨A, cap, h1, h2.turn ht (fun e => by omega), h3.below (ht.below (Nat.le_of_lt hlt) (fun k hk => by omega)), h4⟩
theorem Rdr.far2 {w w' : World} {p at_ er q : Nat} {l : List UInt8} (h : Rdr w p l at_ er) (ht : Turn (fun k => k = q) w w') (hq : p < q) : Rdr w' p l at_ er := by
  obtain ⟨A, cap, h1, h2, h3, h4⟩ := h
  have hlt := h2.lt
  exact ⟨A, cap, h1, h2.turn ht (fun e => by omega), h3.below (ht.below (Nat.le_of_lt hlt) (fun k hk => by omega)), h4⟩
theorem Try.infoU8 : (Try.prog.info? 5).map (fun i => (i.zero, i.size, i.bytes)) = some (some (.int .u8 0), 1, 1) := by kernel_rfl
theorem make_bytes8 (n : Nat) (h1 : n ≤ 1000000) (w : World) : (Instr.makeSlice 22 (.int .i64 n) (.int .i64 n)).run Try.prog w = .ok (.slice (some ⟨w.heap.size, 0, none⟩) n n) (w.alloc (.cells (bv (List.replicate n 0)).toArray 5)) := by
  obtain ⟨i, hi, hz, hs, hb⟩ := info_parts Try.infoU8
  have := run_makeSlice (P := Try.prog) (w := w) 22 5 i _ Try.underlying22 hi hz .i64 .i64 n n (Int.natCast_nonneg _) (Int.le_refl _) (by rw [hs]; simp; omega) (by rw [hb]; omega) (by omega)
  rw [this, hs, Int.toNat_natCast, Nat.mul_one, show (Value.int .u8 0).cells = (List.replicate 1 (Value.int .u8 0)).toArray from rfl, made_same8 1 _ _ (by decide)]
  simp [bv]
  rfl
set_option maxHeartbeats 4000000 in
theorem text8_any (p : Nat) (l : List UInt8) (at_ er size : Nat) (w : World) (h : Rdr w p l at_ er) (hsz : size ≤ 70000) :
    Calls Try.prog 29 #[.pointer (some ⟨p, 0, none⟩), .int .i64 size] w fun e w' => ∃ bs : List UInt8, e = .returned (.string ⟨bs.toArray⟩) ∧ (bs.length = size ∧ ∃ a' e', Rdr w' p l a' e' ∧ Rt8 l at_ er size bs a' e' ∧ Turn (fun k => k = p) w w') := by
  have HM := make_bytes8 size (by omega) w
  have HG : Hid (∀ X a e, Rdr X p l a e → Calls Try.prog 26 #[.pointer (some ⟨p, 0, none⟩)] X fun x w' => x = .returned (.int .i64 ((rw_ 1 l a e).1 : Nat)) ∧ Rdr w' p l (rw_ 1 l a e).2.1 (rw_ 1 l a e).2.2 ∧ Turn (fun k => k = p) X w') := Lib.hid (fun X a e hr => get8_any p l a e (rw_ 1 l a e).1 (rw_ 1 l a e).2.1 (rw_ 1 l a e).2.2 rfl X hr)
  have R0 := Lib.hid (h.far ((Turn.refl (fun k => k = w.heap.size) w).alloc (.cells (bv (List.replicate size 0)).toArray 5)) (Nat.le_refl _))
  have T0 := Lib.hid ((Turn.refl (fun k => k = p) w).alloc (.cells (bv (List.replicate size 0)).toArray 5))
  have B0 := Lib.hid (Blk.new w 5 (bv (List.replicate size 0)))
  have hpl : p < w.heap.size := by obtain ⟨A, cap, _, h2, _⟩ := h; exact h2.lt
  have hal : at_ ≤ l.length := by obtain ⟨A, cap, _, _, _, h4, _⟩ := h; exact h4
  clear h
  go_enter Try.func29, Try.ntmps29
  go_wp2_with fail
  go_loopw [6, 11] (fun v6 v11 wr => ∃ (j : Nat) (bs : List UInt8) (a' e' : Nat), j ≤ size ∧ v11 = .int .i64 j ∧ bs.length = size ∧ Rdr wr p l a' e' ∧ Blk wr w.heap.size 5 (bv bs) ∧ Turn (fun k => k = p) w wr ∧ Hid (Rt8 l at_ er j bs a' e')) (fun _ v11 _ => size - (intOf v11).toNat)
  case atStart => exact ⟨0, List.replicate size 0, at_, er, Nat.zero_le _, rfl, by simp, R0.out, B0.out, T0.out, Lib.hid ⟨fun h1 h2 => ⟨rfl, h1, rfl⟩, fun h1 => by rcases h1 with h1 | h1 <;> first | exact h1 | omega⟩⟩
  case round =>
    obtain ⟨j, bs, a', e', hj, rfl, hbl, hR, hB, hT, HR⟩ := hrel
    have RR := Lib.hid hR
    have BB := Lib.hid hB
    have TT := Lib.hid hT
    have HBL := Lib.hid hbl
    clear hR hB hT hbl
    by_cases hlt : j < size
    · have hl1 : (j : Int) < (size : Int) := by omega
      have hl0 : (0 : Int) ≤ (j : Int) := by omega
      go_wp2_with fail
      refine (HG.out _ a' e' RR.out).mono ?_
      rintro e w1 ⟨rfl, hr1, ht1⟩
      have HS1 := HR.out.step (by rw [HBL.out]; exact hlt)
      have hV := rw1_lt l a' e'
      generalize (rw_ 1 l a' e').1 = V at *
      generalize (rw_ 1 l a' e').2.1 = a1 at *
      generalize (rw_ 1 l a' e').2.2 = e1 at *
      have B1 := Lib.hid (BB.out.turn ht1 (fun e => by omega))
      have T1 := Lib.hid (TT.out.trans ht1)
      have hsz1 := T1.out.size
      have hjb : j < bs.length := by rw [HBL.out]; exact hlt
      have r0 : w1.cell? ⟨w.heap.size, j, none⟩ = some (u8v bs[j]) := by rw [B1.out.cell j]; unfold bv; rw [List.getElem?_map, List.getElem?_eq_getElem hjb]; rfl
      have f0 : w1.frozen? ⟨w.heap.size, j, none⟩ = false := B1.out.free j
      have hw8 : IntKind.u8.wrap (V : Int) = (V : Int) := by unfold IntKind.wrap; simp [IntKind.bits, IntKind.signed]; omega
      have hset : (bv bs).set j (.int .u8 (V : Int)) = bv (bs.set j (UInt8.ofNat V)) := by
        unfold bv; rw [List.map_set]; congr 1; unfold u8v; congr 1
        show (V : Int) = ((UInt8.ofNat V).toNat : Int)
        rw [UInt8.toNat_ofNat_of_lt' (by simpa using hV)]
      have P1 := Lib.hid (hset ▸ B1.out.put j (.int .u8 (V : Int)))
      have TP := Lib.hid ((Turn.refl (fun k => k = w.heap.size) w1).setCell (p := ⟨w.heap.size, j, none⟩) (.inl rfl) (.int .u8 (V : Int)))
      have R1 := Lib.hid (hr1.far2 TP.out (by omega))
      have T2 := Lib.hid (T1.out.trans_new TP.out (fun k hk e => by omega))
      have HS2 := Lib.hid HS1
      clear hr1 ht1 HS1 hset
      go_wp2_with fail
      go_roundw
      case rel => exact ⟨j + 1, bs.set j (UInt8.ofNat V), a1, e1, by omega, by simp, by rw [List.length_set]; exact HBL.out, R1.out, P1.out, T2.out, HS2⟩
      case measure => simp [intOf]; omega
    · obtain rfl : j = size := by omega
      have hc : (convert 22 9 (.slice (some ⟨w.heap.size, 0, none⟩) j j)).run Try.prog wr = .ok (.string ⟨bs.toArray⟩) wr := by
        have := run_str (P := Try.prog) wr 22 9 5 (some ⟨w.heap.size, 0, none⟩) j bs Try.underlying22 Try.underlying5 Try.underlying9 (fun _ => ⟨_, rfl, fun q c hq => by
          have h5 := BB.out.cell q
          unfold bv at h5
          rw [List.getElem?_map, hq] at h5
          rw [Addr.add_mid, Nat.zero_add]; exact h5⟩)
        rw [HBL.out] at this; exact this
      go_wp2_with fail
      go_ret
      exact ⟨bs, rfl, HBL.out, a', e', RR.out, HR.out, TT.out⟩
end Go.Proofs.Ytcmghbglnkfbaaa
