/- Layer 4: rows of calls that came in, and a disk behind them ('begun'). -/
import Derived.Test.YtdpjjdkfjecihaaBlkL
namespace Go.Proofs.Ytdpjjdkfjecihaa
open Go.RowKit Go.Maps
set_option linter.unusedVariables false

/-- Whole numbers that are read below block B. -/
def IvB (B : Nat) (w : World) (v : Value) (zs : List Int) : Prop := ∃ A cap, v = .slice A zs.length cap ∧ zs.length ≤ 9223372036854775807 ∧ (0 < zs.length → ∃ b o, A = some ⟨b, o, none⟩ ∧ b < B ∧ ∀ j z, zs[j]? = some z → w.cell? ⟨b, o + j, none⟩ = some (.int .i64 z))
theorem IvB.below {B B' : Nat} {w w' : World} {v : Value} {zs : List Int} (h : IvB B w v zs) (hb : Below B' w w') (hB : B ≤ B') : IvB B w' v zs := by
  obtain ⟨A, cap, e, hm, hr⟩ := h
  refine ⟨A, cap, e, hm, fun hp => ?_⟩
  obtain ⟨b, o, ea, hlt, hc⟩ := hr hp
  exact ⟨b, o, ea, hlt, fun j z hj => (hb.cell (p := ⟨b, o + j, none⟩) (Nat.lt_of_lt_of_le hlt hB)).trans (hc j z hj)⟩
theorem IvB.iv {B : Nat} {w : World} {v : Value} {zs : List Int} {S : Nat → Prop} (h : IvB B w v zs) (hB : B ≤ w.heap.size) (hS : ∀ k, S k → B ≤ k) : Iv S w v zs := by
  obtain ⟨A, cap, e, hm, hr⟩ := h
  refine ⟨A, cap, e, fun hp => ?_⟩
  obtain ⟨b, o, ea, hlt, hc⟩ := hr hp
  exact ⟨b, o, ea, by omega, fun h => by have := hS b h; omega, hc⟩
theorem IvB.len {B : Nat} {w : World} {v : Value} {zs : List Int} (h : IvB B w v zs) : zs.length ≤ 9223372036854775807 := by
  obtain ⟨A, cap, e, hm, hr⟩ := h; exact hm
/-- A call that came in. -/
structure Acv where
  k : Int
  i : Int
  s : ByteArray
  v : Value
  zs : List Int
def Acts (B : Nat) (w : World) (v : Value) (qs : List Acv) : Prop := ∃ A cap, v = .slice A qs.length cap ∧ qs.length ≤ 9223372036854775807 ∧ (0 < qs.length → ∃ b o, A = some ⟨b, o, none⟩ ∧ b < B ∧ ∀ j a, qs[j]? = some a →
  (w.cell? ⟨b, o + j * 4, none⟩ = some (.int .i64 a.k) ∧ w.cell? ⟨b, o + j * 4 + 1, none⟩ = some (.int .i64 a.i) ∧ w.cell? ⟨b, o + j * 4 + 2, none⟩ = some (.string a.s) ∧ w.cell? ⟨b, o + j * 4 + 3, none⟩ = some a.v) ∧ IvB B w a.v a.zs ∧ -9223372036854775808 ≤ a.i ∧ a.i ≤ 9223372036854775807)
theorem Acts.below {B B' : Nat} {w w' : World} {v : Value} {qs : List Acv} (h : Acts B w v qs) (hb : Below B' w w') (hB : B ≤ B') : Acts B w' v qs := by
  obtain ⟨A, cap, e, hm, hr⟩ := h
  refine ⟨A, cap, e, hm, fun hp => ?_⟩
  obtain ⟨b, o, ea, hlt, hc⟩ := hr hp
  refine ⟨b, o, ea, hlt, fun j a hj => ?_⟩
  obtain ⟨⟨h0, h1, h2, h3⟩, h4, h5⟩ := hc j a hj
  have hx : ∀ q, w'.cell? ⟨b, q, none⟩ = w.cell? ⟨b, q, none⟩ := fun q => hb.cell (p := ⟨b, q, none⟩) (Nat.lt_of_lt_of_le hlt hB)
  exact ⟨⟨(hx _).trans h0, (hx _).trans h1, (hx _).trans h2, (hx _).trans h3⟩, h4.below hb hB, h5⟩
/-- Bytes of a text, qs a conversion lays them. -/
theorem by_conv {S : Nat → Prop} (w : World) (hS : ∀ k, S k → k < w.heap.size) (s : ByteArray) (c d : Nat) (fr : Nat × Nat) :
    By S (w.drew.alloc (.cells (bytesRow s d) 5 fr)) (.slice (some ⟨w.heap.size, 0, none⟩) s.size c) s.data.toList := by
  have e : s.data.toList.length = s.size := by simp
  rw [← e]
  refine ⟨_, _, rfl, fun _ => ⟨_, rfl, by simp, fun h => absurd (hS _ h) (by simp), fun j x hj => ?_⟩⟩
  rw [Addr.add_mid, Nat.zero_add]
  have hjs : j < s.data.size := by
    rcases Nat.lt_or_ge j s.data.size with h | h
    · exact h
    · rw [List.getElem?_eq_none (by simpa using h)] at hj; cases hj
  have h1 : (w.drew.alloc (.cells (bytesRow s d) 5 fr)).heap[w.heap.size]? = some (.cells (bytesRow s d) 5 fr) := heap_alloc_new w.drew _
  rw [cell_of_row _ _ j _ _ _ h1]
  unfold bytesRow
  rw [Array.getElem?_append_left (by simpa using hjs), Array.getElem?_map, ← Array.getElem?_toList, hj]; rfl
/-- A text's bytes, as a conversion lays them, at the operation. -/
theorem wpList_conv_by {w : World} {ops : Array Oper} {rest : List Oper} {o : Oper} {a : Act} {Q : Exit → Act → World → Prop} (hw : Region.wanted o (yielded ops a.tmps) = true) (x : Operand) (ho : o.op = .convert 9 41 x) (S : Nat → Prop) (s : ByteArray) (hx : a.eval x = .string s) (hS : ∀ k, S k → k < w.heap.size)
    (h : ∀ v w', By S w' v s.data.toList → Turn (fun _ => False) w w' → wpList Try.prog ops Q rest (a.put o.dst v) w') : wpList Try.prog ops Q (o :: rest) a w :=
  wpList_step fun K hK => by
    rw [if_pos hw]
    have hr := run_bytes_of_string (P := Try.prog) w 9 41 5 s Try.underlying9 Try.underlying41 Try.underlying5
    unfold Oper.wp execOp
    simp only [ho, hx, Sem.run_bind, hr, Result.andThen_ok]
    exact hK _ _ (h _ _ (by_conv w hS s _ _ _) ((Turn.refl _ _).drew.alloc _))
/-! What each call leaves of lengths. -/
theorem write_len (D : Dsk) (i : Int) (l : List UInt8) : (D.write i l).1.kept.length = D.kept.length ∧ (D.write i l).1.pend.length ≤ D.pend.length + 1 := by
  obtain ⟨e1, e2⟩ := burnt_kept D
  unfold Dsk.write
  split
  · exact ⟨rfl, Nat.le_succ _⟩
  · split
    · exact ⟨rfl, Nat.le_succ _⟩
    · split
      · exact ⟨rfl, Nat.le_succ _⟩
      · split
        · simp only [e1, e2]; exact ⟨trivial, Nat.le_succ _⟩
        · simp [Dsk.wrote, e1]
theorem flush_len (D : Dsk) : D.flush.1.kept.length = D.kept.length ∧ D.flush.1.pend.length ≤ D.pend.length := by
  obtain ⟨e1, e2⟩ := burnt_kept D
  unfold Dsk.flush
  split
  · exact ⟨rfl, Nat.le_refl _⟩
  · split
    · simp only [e1, e2]; exact ⟨trivial, Nat.le_refl _⟩
    · obtain ⟨_, _, _, h4⟩ := keepAll_same D.pend D.burnt
      refine ⟨?_, by simp [Dsk.flushed, Dsk.lost]⟩
      show (D.burnt.keepAll D.pend).kept.length = _
      rw [h4, e1]
theorem crash_len (D : Dsk) (zs : List Int) : (D.crashed zs).kept.length = D.kept.length ∧ (D.crashed zs).pend = [] := by
  obtain ⟨_, _, _, h4⟩ := keepAll_same (sel D.pend (isIn zs)) D
  exact ⟨h4, rfl⟩
theorem arm_len (D : Dsk) (n : Int) : (D.arm n).1.kept = D.kept ∧ (D.arm n).1.pend = D.pend := by
  unfold Dsk.arm; split <;> exact ⟨rfl, rfl⟩
set_option maxRecDepth 100000 in
set_option maxHeartbeats 4000000 in
theorem begun_any (v : Value) (qs : List Acv) (w : World) (ha : Acts w.heap.size w v qs) :
    Calls Try.prog 18 #[v] w fun e w' => ∃ p S D, e = .returned (.pointer (some ⟨p, 0, none⟩)) ∧ Dq S w' p D ∧ Lv w.heap.size w S w' ∧ D.kept.length = 8 ∧ D.pend.length ≤ 200 := by
  have HA := Lib.hid ha
  obtain ⟨A, cap, hv, hle, har⟩ := ha
  subst hv
  clear har
  have hn : (qs.length : Int) ≤ 9223372036854775807 := by omega
  have HC0 : Hid (∀ (w : World), Calls Try.prog 8 #[.int .i64 8] w fun e w' => ∃ p S, e = .returned (.tuple #[.pointer (some ⟨p, 0, none⟩), .int .i64 0]) ∧ Dq S w' p (fresh 8) ∧ (∀ k, S k → w.heap.size ≤ k) ∧ Turn (fun _ => False) w w') :=
    Lib.hid (fun w => new_dq 8 (by decide) (by decide) w)
  go_enter Try.func18, Try.ntmps18
  go_wp2_with fail
  refine (HC0.out _).mono ?_
  rintro e w0 ⟨p, S0, rfl, hd, hS, ht⟩
  have Q0 := Lib.hid hd
  have V0 : Hid (Lv w.heap.size w S0 w0) := Lib.hid ⟨ht.below (Nat.le_refl _) (fun _ h => h.elim), ht.size, hS⟩
  clear hd hS ht
  go_wp2_with fail
  go_loopw [5] (fun i wr => ∃ j : Nat, j ≤ qs.length ∧ j ≤ 200 ∧ i = .int .i64 j ∧ ∃ S D, Dq S wr p D ∧ Lv w.heap.size w S wr ∧ D.kept.length = 8 ∧ D.pend.length ≤ j) (fun i _ => qs.length - (intOf i).toNat)
  case atStart => exact ⟨0, Nat.zero_le _, by omega, rfl, S0, _, Q0.out, V0.out, rfl, Nat.le_refl _⟩
  case round =>
    obtain ⟨j, hj, hj2, rfl, S, D, hd, hl, hk8, hpj⟩ := hrel
    have QJ := Lib.hid hd
    have VJ := Lib.hid hl
    have HK8 := Lib.hid hk8
    by_cases hlt : j < qs.length ∧ j < 200
    · obtain ⟨a, haj⟩ : ∃ a, qs[j]? = some a := ⟨_, List.getElem?_eq_getElem hlt.1⟩
      obtain ⟨A2, cap2, e2, _, hr⟩ := HA.out.below hl.1 (Nat.le_refl _)
      obtain ⟨b, o, eA, hbB, hc⟩ := hr (by omega)
      injection e2 with e2 e2b e2c
      rw [eA] at e2
      subst e2 e2c
      clear e2b
      obtain ⟨⟨h0, h1, h2, h3⟩, hiv, hi0, hi1⟩ := hc j a haj
      obtain ⟨ak, ai, as_, av, az⟩ := a
      simp only at h0 h1 h2 h3 hiv hi0 hi1
      have HIV := Lib.hid hiv
      obtain ⟨A3, c3, e3, hz3, hz4⟩ := hiv
      subst e3
      clear hz4
      have g1 : (j : Int) < (qs.length : Int) := by omega
      have g2 : (j : Int) < 200 := by omega
      have hbx := Lib.hid (Blk.new wr 39 [.int .i64 ak, .int .i64 ai, .string as_, .slice A3 az.length c3])
      have TX : Hid (Turn (fun _ => False) wr (wr.alloc (.cells #[.int .i64 ak, .int .i64 ai, .string as_, .slice A3 az.length c3] 39))) := Lib.hid ((Turn.refl _ _).alloc _)
      have QX := Lib.hid (QJ.out.still TX.out)
      have VX := Lib.hid (VJ.out.still TX.out)
      have HIX : Hid (Iv S (wr.alloc (.cells #[.int .i64 ak, .int .i64 ai, .string as_, .slice A3 az.length c3] 39)) (.slice A3 az.length c3) az) := Lib.hid (((HIV.out.iv VJ.out.2.1 VJ.out.2.2)).turn TX.out (fun _ h => h.elim))
      have hp1 : Hid (D.pend.length < 1000000000) := Lib.hid (by omega)
      have hpj' := Lib.hid hpj
      clear hd hl hr hc hlt haj hk8 hpj hle
      by_cases k1 : ak = 1
      · subst k1
        go_wp2_with (go_at_call 21; refine (flush_dq QX.out hp1.out).mono ?_; rintro e w5 ⟨rfl, S', hq, hs⟩; have Q5 := Lib.hid hq; have V5 := Lib.hid (VX.out.step hs); clear hq hs)
        go_roundw
        case rel => exact ⟨j + 1, by omega, by omega, by go_num, S', _, Q5.out, V5.out, (flush_len D).1.trans HK8.out, Nat.le_trans (flush_len D).2 (by have := hpj'.out; omega)⟩
        case measure => simp [intOf]; omega
      · by_cases k2 : ak = 2
        · subst k2
          go_wp2_with (go_at_call 19; refine (crash_dq QX.out hp1.out _ az hz3 HIX.out).mono ?_; rintro e w5 ⟨rfl, S', hq, hs⟩; have Q5 := Lib.hid hq; have V5 := Lib.hid (VX.out.step hs); clear hq hs)
          go_roundw
          case rel => exact ⟨j + 1, by omega, by omega, by go_num, S', _, Q5.out, V5.out, (crash_len D az).1.trans HK8.out, by rw [(crash_len D az).2]; exact Nat.zero_le _⟩
          case measure => simp [intOf]; omega
        · by_cases k3 : ak = 3
          · subst k3
            go_wp2_with (go_at_call 22; refine (arm_dq QX.out ai hi1).mono ?_; rintro e w5 ⟨rfl, S', hq, hs⟩; have Q5 := Lib.hid hq; have V5 := Lib.hid (VX.out.step hs); clear hq hs)
            go_roundw
            case rel => exact ⟨j + 1, by omega, by omega, by go_num, S', _, Q5.out, V5.out, by rw [(arm_len D ai).1]; exact HK8.out, by rw [(arm_len D ai).2]; have := hpj'.out; omega⟩
            case measure => simp [intOf]; omega
          · have n1 : (ak == 1) = false := by simpa using k1
            have n2 : (ak == 2) = false := by simpa using k2
            have n3 : (ak == 3) = false := by simpa using k3
            go_wp2_with (first
              | (refine wpList_conv_by rfl _ rfl S as_ rfl QX.out.lt ?_; intro v9 w9 hby ht9; have HBY := Lib.hid hby; have T9 := Lib.hid ht9; clear hby ht9)
              | (go_at_call 20; refine (write_dq (QX.out.still T9.out) ai _ as_.data.toList HBY.out hp1.out).mono ?_; rintro e w5 ⟨rfl, S', hq, hs⟩; have Q5 := Lib.hid hq; have V5 := Lib.hid ((VX.out.still T9.out).step hs); clear hq hs))
            go_roundw
            case rel => exact ⟨j + 1, by omega, by omega, by go_num, S', _, Q5.out, V5.out, (write_len D ai _).1.trans HK8.out, Nat.le_trans (write_len D ai _).2 (by have := hpj'.out; omega)⟩
            case measure => simp [intOf]; omega
    · have hw : qs.length ≤ j ∨ (j < qs.length ∧ 200 ≤ j) := by omega
      have hp200 : D.pend.length ≤ 200 := by omega
      have HFIN : Hid (∃ p' S' D', Ending.returned (Value.pointer (some ⟨p, 0, none⟩)) = Ending.returned (.pointer (some ⟨p', 0, none⟩)) ∧ Dq S' wr p' D' ∧ Lv w.heap.size w S' wr ∧ D'.kept.length = 8 ∧ D'.pend.length ≤ 200) := Lib.hid ⟨p, S, D, rfl, hd, hl, hk8, hp200⟩
      clear hd hl hk8 hpj hp200 hlt
      rcases hw with hw | ⟨hw, hw2⟩
      · obtain rfl : j = qs.length := by omega
        clear hw
        go_wp2
        go_ret
        exact HFIN.out
      · obtain rfl : j = 200 := by omega
        have g2 : (200 : Int) < (qs.length : Int) := by omega
        clear hw hw2
        go_wp2
        go_ret
        exact HFIN.out
end Go.Proofs.Ytdpjjdkfjecihaa
