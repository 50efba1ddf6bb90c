/- The walk of ambrylaw04.BlockSure. -/
import Derived.Test.YtdpjjdkfjecihaaBlkM
namespace Go.Proofs.Ytdpjjdkfjecihaa
open Go.RowKit Go.Maps
set_option linter.unusedVariables false

theorem overw_miss {l : List (Nat × List UInt8)} {m : Nat} (h : ∀ x ∈ l, x.1 ≠ m) (s : List UInt8) : overw l m s = s := by
  induction l using snoc_ind with
  | h0 => rfl
  | h1 l x ih =>
    rw [overw_snoc, if_neg (h x (by simp))]
    exact ih fun y hy => h y (by simp [hy])
/-- Sector m has t for good, and no write to it is pending. -/
structure Sur (m : Nat) (t : List UInt8) (D : Dsk) : Prop where
  n : D.kept.length = 8
  lt : m < 8
  at_ : D.kept.getD m [] = t
  pend : ∀ x ∈ D.pend, x.1 ≠ m
theorem sur_burnt {m : Nat} {t : List UInt8} {D : Dsk} (h : Sur m t D) : Sur m t D.burnt := by
  obtain ⟨e1, e2⟩ := burnt_kept D
  exact ⟨by rw [e1]; exact h.n, h.lt, by rw [e1]; exact h.at_, by rw [e2]; exact h.pend⟩
theorem sur_keep {m : Nat} {t : List UInt8} {D : Dsk} (h : Sur m t D) (l : List (Nat × List UInt8)) (hl : ∀ x ∈ l, x.1 ≠ m) : Sur m t (D.keepAll l) := by
  obtain ⟨h1, _, _, h4⟩ := keepAll_same l D
  exact ⟨h4.trans h.n, h.lt, by rw [keepAll_at l D m (by rw [h.n]; exact h.lt), h.at_, overw_miss hl], by rw [h1]; exact h.pend⟩
theorem sur_lost {m : Nat} {t : List UInt8} {D : Dsk} (h : Sur m t D) : Sur m t D.lost := ⟨h.n, h.lt, h.at_, fun x hx => (by cases hx)⟩
theorem sur_write {m : Nat} {t : List UInt8} {D : Dsk} (h : Sur m t D) (i : Int) (hi : i ≠ (m : Int)) (l : List UInt8) : Sur m t (D.write i l).1 := by
  unfold Dsk.write
  split
  · exact h
  · split
    · exact h
    · split
      · exact h
      · split
        · exact sur_burnt h
        · have hb := sur_burnt h
          refine ⟨hb.n, hb.lt, hb.at_, fun x hx => ?_⟩
          simp only [Dsk.wrote, List.mem_append, List.mem_singleton] at hx
          rcases hx with hx | rfl
          · exact h.pend x hx
          · simp only; intro e; omega
theorem sur_flush {m : Nat} {t : List UInt8} {D : Dsk} (h : Sur m t D) : Sur m t D.flush.1 := by
  unfold Dsk.flush
  split
  · exact h
  · split
    · exact sur_burnt h
    · exact sur_lost (sur_keep (sur_burnt h) D.pend h.pend)
theorem sur_crash {m : Nat} {t : List UInt8} {D : Dsk} (h : Sur m t D) (zs : List Int) : Sur m t (D.crashed zs) := by
  have := sur_lost (sur_keep h (sel D.pend (isIn zs)) (fun x hx => h.pend x (sel_mem hx)))
  exact ⟨this.n, this.lt, this.at_, this.pend⟩
theorem sur_arm {m : Nat} {t : List UInt8} {D : Dsk} (h : Sur m t D) (n : Int) : Sur m t (D.arm n).1 := by
  unfold Dsk.arm
  split
  · exact h
  · exact ⟨h.n, h.lt, h.at_, h.pend⟩
/-- Flushed, it stands. -/
theorem sur_begins (D : Dsk) (h : D.kept.length = 8) (m : Nat) (hm : m < 8) (l : List UInt8) (hl : l.length ≤ 128) :
    ((D.crashed []).write m l).2 = 0 ∧ ((D.crashed []).write m l).1.flush.2 = 0 ∧ Sur m (full l) ((D.crashed []).write m l).1.flush.1 ∧ ((D.crashed []).write m l).1.pend.length ≤ 1 := by
  have h8 : (D.crashed []).kept.length = 8 := (crash_len D []).1.trans h
  have e : (D.crashed []).write m l = ((D.crashed []).wrote m l, 0) := by
    unfold Dsk.write
    rw [show (D.crashed []).dead = false from rfl, if_neg (by simp), if_neg (by omega), if_neg (by omega), if_neg (by simp [Dsk.crashed]), Int.toNat_natCast]
  have hb : (D.crashed []).burnt = D.crashed [] := by
    unfold Dsk.burnt
    rw [if_neg (by simp [Dsk.crashed]), if_neg (by simp [Dsk.crashed])]
  have hw : (D.crashed []).wrote m l = { D.crashed [] with pend := [(m, full l)] } := by
    unfold Dsk.wrote
    rw [hb]; rfl
  rw [e, hw]
  obtain ⟨E, hE⟩ : ∃ E : Dsk, ({ D.crashed [] with pend := [(m, full l)] } : Dsk) = E := ⟨_, rfl⟩
  have hE1 : E.kept.length = 8 := by rw [← hE]; exact h8
  have hE2 : E.pend = [(m, full l)] := by rw [← hE]
  have hE3 : E.dead = false := by rw [← hE]; rfl
  have hE4 : E.fuse = -1 := by rw [← hE]; rfl
  rw [hE]
  have hbE : E.burnt = E := by
    unfold Dsk.burnt
    rw [if_neg (by omega), if_neg (by omega)]
  have hf : E.flush = (E.flushed, 0) := by
    unfold Dsk.flush
    rw [hE3, if_neg (by simp), if_neg (by omega)]
  refine ⟨rfl, by rw [hf], ?_, by rw [hE2]; simp⟩
  rw [hf]
  obtain ⟨_, _, _, h4⟩ := keepAll_same E.pend E.burnt
  refine ⟨?_, hm, ?_, fun x hx => (by cases hx)⟩
  · show (E.burnt.keepAll E.pend).kept.length = 8
    rw [h4, hbE, hE1]
  · show (E.burnt.keepAll E.pend).kept.getD m [] = full l
    rw [keepAll_at _ _ m (by rw [hbE, hE1]; exact hm), hE2]
    simp [overw]
theorem sur_has {m : Nat} {t : List UInt8} {D : Dsk} (h : Sur m t D) (zs : List Int) : (D.crashed zs).has m = t := by
  have := sur_crash h zs
  unfold Dsk.has
  rw [this.at_]
  rfl
theorem at_is (i : Int) : ∃ m : Nat, m < 8 ∧ wrap64 ((IntKind.u64.wrap i).tmod 8) = (m : Int) := by
  rw [IntKind.wrap_u64]
  have h0 : 0 ≤ i % 18446744073709551616 := Int.emod_nonneg _ (by decide)
  rw [Int.tmod_eq_emod_of_nonneg h0]
  refine ⟨(i % 18446744073709551616 % 8).toNat, by omega, ?_⟩
  have : wrap64 (i % 18446744073709551616 % 8) = i % 18446744073709551616 % 8 := by unfold wrap64; omega
  rw [this]; omega
/-- The head of a sector, as a text. -/
theorem full_str {w : World} {g t c : Nat} {s : ByteArray} (h : Blk w g t (bv (full s.data.toList))) (hl : s.size ≤ 128) : (convert 41 9 (.slice (some ⟨g, 0, none⟩) s.size c)).run Try.prog w = .ok (.string s) w := by
  have e : s.data.toList.length = s.size := by simp
  have := run_str w 41 9 5 (some ⟨g, 0, none⟩) c s.data.toList Try.underlying41 Try.underlying5 Try.underlying9 fun _ => ⟨_, rfl, fun j d hj => by
    rw [Addr.add_mid, Nat.zero_add, h.cell, bv_at]
    unfold full
    rw [List.getElem?_append_left (List.getElem?_eq_some_iff.1 hj).1, hj]; rfl⟩
  rw [e] at this
  rw [this]
set_option maxRecDepth 100000 in
set_option maxHeartbeats 8000000 in
theorem blockSure_walk (v : Value) (qs : List Acv) (i : Int) (s : ByteArray) (v3 : Value) (ms : List Acv) (v4 : Value) (ks : List Int) (w : World) (ha : Acts w.heap.size w v qs) (hi : (Lit.int .i64 i).wf = true) (hm : Acts w.heap.size w v3 ms) (hk : IvB w.heap.size w v4 ks) :
    Calls Try.prog 4 #[v, .int .i64 i, .string s, v3, v4] w fun e w' => e = .returned (.bool true) ∧ Below w.heap.size w w' := by
  have HB := Lib.hid (begun_any v qs w ha)
  have HM := Lib.hid hm
  have HK := Lib.hid hk
  obtain ⟨A3, cap3, e3, hle3, hr3⟩ := hm
  subst e3
  have hn3 : (ms.length : Int) ≤ 9223372036854775807 := by omega
  clear ha hr3 hk
  by_cases hbig : 128 < s.size
  · have hb2 : (128 : Int) < (s.size : Int) := by omega
    clear hbig
    go_enter Try.func4, Try.ntmps4
    go_wp2_with fail
    refine HB.out.mono ?_
    rintro e w1 ⟨p, S1, D, rfl, hd, hl, h8, hp⟩
    have V1 := Lib.hid hl
    clear hd hl h8 hp
    go_wp2_with fail
    refine (lives4_any _).mono ?_
    rintro e w11 ⟨rfl, tl⟩
    go_wp2_with fail
    go_ret
    exact ⟨rfl, V1.out.1.trans (tl.mono V1.out.2.1)⟩
  · have hb2 : (s.size : Int) ≤ 128 := by omega
    have hsl : s.data.toList.length ≤ 128 := by simp; omega
    have HSL := Lib.hid hsl
    obtain ⟨m, hm8, hme⟩ := at_is i
    have hm8' := Lib.hid hm8
    clear hbig hsl
    go_enter Try.func4, Try.ntmps4
    go_wp2_with fail
    refine HB.out.mono ?_
    rintro e w1 ⟨p, S1, D, rfl, hd, hl, h8, hp⟩
    have Q1 := Lib.hid hd
    have V1 := Lib.hid hl
    have H8 := Lib.hid h8
    have HP := Lib.hid hp
    clear hd hl h8 hp
    go_wp2_with fail
    refine (crash_dq Q1.out (by have := HP.out; omega) _ [] (by simp) (iv_nil _ _)).mono ?_
    rintro e w2 ⟨rfl, S2, hq, hs⟩
    have Q2 := Lib.hid hq
    have V2 := Lib.hid (V1.out.step hs)
    clear hq hs
    have SB := Lib.hid (sur_begins D H8.out m hm8 s.data.toList HSL.out)
    have CP : Hid ((D.crashed []).pend.length < 1000000000) := Lib.hid (by rw [(crash_len D []).2]; simp)
    generalize D.crashed [] = D2 at *
    have f1 := SB.out.1
    clear hm8
    go_wp2_with (first
      | (refine wpList_conv_by (by first | (go_simp; done) | rfl) _ rfl S2 s rfl Q2.out.lt ?_; intro v9 w9 hby ht9; have HBY := Lib.hid hby; have T9 := Lib.hid ht9; clear hby ht9)
      | (go_at_call 20; refine (write_dq (Q2.out.still T9.out) m _ s.data.toList HBY.out CP.out).mono ?_; rintro e w3 ⟨rfl, S3, hq, hs⟩; have Q3 := Lib.hid hq; have V3 := Lib.hid ((V2.out.still T9.out).step hs); clear hq hs)
      | fail)
    generalize (D2.write m s.data.toList).1 = D3 at *
    have f2 := SB.out.2.1
    refine (flush_dq Q3.out (by have := SB.out.2.2.2; omega)).mono ?_
    rintro e w4 ⟨rfl, S4, hq, hs⟩
    have Q4 := Lib.hid hq
    have V4 := Lib.hid (V3.out.step hs)
    have SU := Lib.hid SB.out.2.2.1
    have PU := Lib.hid (Nat.le_trans (flush_len D3).2 SB.out.2.2.2)
    generalize D3.flush.1 = D4 at *
    clear hq hs
    go_wp2_with fail
    go_loopw [13] (fun i wr => ∃ j : Nat, j ≤ ms.length ∧ j ≤ 200 ∧ i = .int .i64 j ∧ ∃ S D, Dq S wr p D ∧ Lv w.heap.size w S wr ∧ Sur m (full s.data.toList) D ∧ D.pend.length ≤ 1 + j) (fun i _ => ms.length - (intOf i).toNat)
    case atStart => exact ⟨0, Nat.zero_le _, by omega, rfl, S4, D4, Q4.out, V4.out, SU.out, PU.out⟩
    case round =>
      obtain ⟨j, hj, hj2, rfl, S, D, hd, hl, hsu, hpj⟩ := hrel
      have QJ := Lib.hid hd
      have VJ := Lib.hid hl
      have HSU := Lib.hid hsu
      by_cases hlt : j < ms.length ∧ j < 200
      · obtain ⟨a, haj⟩ : ∃ a, ms[j]? = some a := ⟨_, List.getElem?_eq_getElem hlt.1⟩
        obtain ⟨A2, cap2, e2, _, hr⟩ := HM.out.below hl.1 (Nat.le_refl _)
        obtain ⟨b, o, eA, hbB, hc⟩ := hr (by omega)
        injection e2 with e2 e2b e2c
        rw [eA] at e2
        subst e2 e2c
        clear e2b
        obtain ⟨⟨h0, h1, h2, h3⟩, hiv, hi0, hi1⟩ := hc j a haj
        obtain ⟨ak, ai, as_, av, az⟩ := a
        simp only at h0 h1 h2 h3 hiv hi0 hi1
        have HIV := Lib.hid hiv
        obtain ⟨A3, c3, e3, hz3, hz4⟩ := hiv
        subst e3
        clear hz4
        have g1 : (j : Int) < (ms.length : Int) := by omega
        have g2 : (j : Int) < 200 := by omega
        have TX : Hid (Turn (fun _ => False) wr (wr.alloc (.cells #[.int .i64 ak, .int .i64 ai, .string as_, .slice A3 az.length c3] 39))) := Lib.hid ((Turn.refl _ _).alloc _)
        have QX := Lib.hid (QJ.out.still TX.out)
        have VX := Lib.hid (VJ.out.still TX.out)
        have HIX : Hid (Iv S (wr.alloc (.cells #[.int .i64 ak, .int .i64 ai, .string as_, .slice A3 az.length c3] 39)) (.slice A3 az.length c3) az) := Lib.hid (((HIV.out.iv VJ.out.2.1 VJ.out.2.2)).turn TX.out (fun _ h => h.elim))
        have hp1 : Hid (D.pend.length < 1000000000) := Lib.hid (by omega)
        have hpj' := Lib.hid hpj
        clear hd hl hr hc hlt haj hsu hpj hle3
        by_cases k1 : ak = 1
        · subst k1
          go_wp2_with (go_at_call 21; refine (flush_dq QX.out hp1.out).mono ?_; rintro e w5 ⟨rfl, S', hq, hs⟩; have Q5 := Lib.hid hq; have V5 := Lib.hid (VX.out.step hs); clear hq hs)
          go_roundw
          case rel => exact ⟨j + 1, by omega, by omega, by go_num, S', _, Q5.out, V5.out, sur_flush HSU.out, Nat.le_trans (flush_len D).2 (by have := hpj'.out; omega)⟩
          case measure => simp [intOf]; omega
        · by_cases k2 : ak = 2
          · subst k2
            go_wp2_with (go_at_call 19; refine (crash_dq QX.out hp1.out _ az hz3 HIX.out).mono ?_; rintro e w5 ⟨rfl, S', hq, hs⟩; have Q5 := Lib.hid hq; have V5 := Lib.hid (VX.out.step hs); clear hq hs)
            go_roundw
            case rel => exact ⟨j + 1, by omega, by omega, by go_num, S', _, Q5.out, V5.out, sur_crash HSU.out az, by rw [(crash_len D az).2]; exact Nat.zero_le _⟩
            case measure => simp [intOf]; omega
          · by_cases k3 : ak = 3
            · subst k3
              go_wp2_with (go_at_call 22; refine (arm_dq QX.out ai hi1).mono ?_; rintro e w5 ⟨rfl, S', hq, hs⟩; have Q5 := Lib.hid hq; have V5 := Lib.hid (VX.out.step hs); clear hq hs)
              go_roundw
              case rel => exact ⟨j + 1, by omega, by omega, by go_num, S', _, Q5.out, V5.out, sur_arm HSU.out ai, by rw [(arm_len D ai).2]; have := hpj'.out; omega⟩
              case measure => simp [intOf]; omega
            · have n1 : (ak == 1) = false := by simpa using k1
              have n2 : (ak == 2) = false := by simpa using k2
              have n3 : (ak == 3) = false := by simpa using k3
              by_cases hne : ai = (m : Int)
              · subst hne
                go_wp2
                go_roundw
                case rel => exact ⟨j + 1, by omega, by omega, by go_num, S, _, QX.out, VX.out, HSU.out, by have := hpj'.out; omega⟩
                case measure => simp [intOf]; omega
              · have n4 : (ai == (m : Int)) = false := by simpa using hne
                have HNE := Lib.hid hne
                go_wp2_with (first
                  | (refine wpList_conv_by rfl _ rfl S as_ rfl QX.out.lt ?_; intro v9 w9 hby ht9; have HBY2 := Lib.hid hby; have T92 := Lib.hid ht9; clear hby ht9)
                  | (go_at_call 20; refine (write_dq (QX.out.still T92.out) ai _ as_.data.toList HBY2.out hp1.out).mono ?_; rintro e w5 ⟨rfl, S', hq, hs⟩; have Q5 := Lib.hid hq; have V5 := Lib.hid ((VX.out.still T92.out).step hs); clear hq hs))
                go_roundw
                case rel => exact ⟨j + 1, by omega, by omega, by go_num, S', _, Q5.out, V5.out, sur_write HSU.out ai HNE.out _, Nat.le_trans (write_len D ai _).2 (by have := hpj'.out; omega)⟩
                case measure => simp [intOf]; omega
      · have hw : ms.length ≤ j ∨ (j < ms.length ∧ 200 ≤ j) := by omega
        have hp200 : D.pend.length < 1000000000 := by omega
        have HPF := Lib.hid hp200
        have HKX := Lib.hid ((HK.out.below hl.1 (Nat.le_refl _)).iv hl.2.1 hl.2.2)
        have HKL := Lib.hid HK.out.len
        have HAS := Lib.hid (sur_has hsu ks)
        have HCR : Hid ((D.crashed ks).kept.length = 8 ∧ m < (D.crashed ks).kept.length) := Lib.hid ⟨(crash_len D ks).1.trans hsu.n, by rw [(crash_len D ks).1, hsu.n]; exact hm8'.out⟩
        clear hd hl hsu hpj hp200 hlt
        rcases hw with hw | ⟨hw, hw2⟩
        · obtain rfl : j = ms.length := by omega
          clear hw
          go_wp2_with fail
          refine (crash_dq QJ.out HPF.out _ ks HKL.out HKX.out).mono ?_
          rintro e w5 ⟨rfl, S5, hq, hs⟩
          have Q5 := Lib.hid hq
          have V5 := Lib.hid (VJ.out.step hs)
          clear hq hs
          go_wp2_with fail
          refine (read_dq Q5.out m HCR.out.2 rfl).mono ?_
          rintro e w6 ⟨rfl, hb6, ht6⟩
          rw [HAS.out] at hb6
          have B6 := Lib.hid hb6
          have V6 := Lib.hid (V5.out.still ht6)
          have hcs : (convert 41 9 (.slice (some ⟨w5.heap.size, 0, none⟩) s.size 128)).run Try.prog w6 = .ok (.string s) w6 := full_str B6.out (by omega)
          clear hb6 ht6
          go_wp2_with fail
          refine (lives4_any _).mono ?_
          rintro e w11 ⟨rfl, tl⟩
          go_wp2_with fail
          go_ret
          exact ⟨rfl, V6.out.1.trans (tl.mono V6.out.2.1)⟩
        · obtain rfl : j = 200 := by omega
          have g2 : (200 : Int) < (ms.length : Int) := by omega
          clear hw hw2
          go_wp2_with fail
          refine (crash_dq QJ.out HPF.out _ ks HKL.out HKX.out).mono ?_
          rintro e w5 ⟨rfl, S5, hq, hs⟩
          have Q5 := Lib.hid hq
          have V5 := Lib.hid (VJ.out.step hs)
          clear hq hs
          go_wp2_with fail
          refine (read_dq Q5.out m HCR.out.2 rfl).mono ?_
          rintro e w6 ⟨rfl, hb6, ht6⟩
          rw [HAS.out] at hb6
          have B6 := Lib.hid hb6
          have V6 := Lib.hid (V5.out.still ht6)
          have hcs : (convert 41 9 (.slice (some ⟨w5.heap.size, 0, none⟩) s.size 128)).run Try.prog w6 = .ok (.string s) w6 := full_str B6.out (by omega)
          clear hb6 ht6
          go_wp2_with fail
          refine (lives4_any _).mono ?_
          rintro e w11 ⟨rfl, tl⟩
          go_wp2_with fail
          go_ret
          exact ⟨rfl, V6.out.1.trans (tl.mono V6.out.2.1)⟩
end Go.Proofs.Ytdpjjdkfjecihaa
