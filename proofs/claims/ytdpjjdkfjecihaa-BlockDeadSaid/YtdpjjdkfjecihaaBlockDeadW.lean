/- The walk of ambrylaw04.BlockDead. -/
import Derived.Test.YtdpjjdkfjecihaaBlkM
namespace Go.Proofs.Ytdpjjdkfjecihaa
open Go.RowKit Go.Maps
set_option linter.unusedVariables false

theorem flush_dead {S : Nat → Prop} {w : World} {p : Nat} {D : Dsk} (h : Dq S w p D) (hd : D.dead = true) :
    Calls Try.prog 21 #[.pointer (some ⟨p, 0, none⟩)] w fun e w' => e = .returned (.int .i64 20) ∧ w = w' := by
  obtain ⟨ok, gk, gm, vP, hm, rfl⟩ := h
  exact flush_err ok hd w hm
theorem write_dead {S : Nat → Prop} {w : World} {p : Nat} {D : Dsk} (h : Dq S w p D) (hd : D.dead = true) (i : Int) (vb : Value) :
    Calls Try.prog 20 #[.pointer (some ⟨p, 0, none⟩), .int .i64 i, vb] w fun e w' => e = .returned (.int .i64 20) ∧ w = w' := by
  obtain ⟨ok, gk, gm, vP, hm, rfl⟩ := h
  have := write_err ok i vb w hm (.inl hd)
  rw [if_pos hd] at this
  exact this
theorem arm_dead {S : Nat → Prop} {w : World} {p : Nat} {D : Dsk} (h : Dq S w p D) (hd : D.dead = true) (n : Int) :
    Calls Try.prog 22 #[.pointer (some ⟨p, 0, none⟩), .int .i64 n] w fun e w' => e = .returned (.int .i64 20) ∧ w = w' := by
  obtain ⟨ok, gk, gm, vP, hm, rfl⟩ := h
  have HC := Lib.hid (check_ok ok w hm)
  rw [if_pos hd] at HC
  clear hm
  go_enter Try.func22, Try.ntmps22
  go_wp2_with (go_at_call 34; refine HC.out.mono ?_; rintro e w' ⟨rfl, rfl⟩)
  go_ret
  exact ⟨rfl, rfl⟩
/-- A disk of eight sectors that is not dead, and whose fuse allows f more. -/
def Liv (D : Dsk) (f : Int) (k : Nat) : Prop := D.dead = false ∧ D.fuse = f ∧ D.kept.length = 8 ∧ D.pend.length ≤ k
theorem liv_flush {D : Dsk} {f : Int} {k : Nat} (h : Liv D f k) (hf : 0 < f) : D.flush.2 = 0 ∧ Liv D.flush.1 (f - 1) (k + 1) := by
  obtain ⟨h1, h2, h3, h4⟩ := h
  obtain ⟨l1, l2⟩ := flush_len D
  unfold Dsk.flush at l1 l2 ⊢
  rw [h1, if_neg (by simp), if_neg (by omega)] at l1 l2 ⊢
  refine ⟨rfl, ?_, ?_, l1.trans h3, Nat.le_trans l2 (Nat.le_succ_of_le h4)⟩
  · simp only [Dsk.flushed, Dsk.lost]
    rw [(keepAll_same D.pend D.burnt).2.2.1]
    unfold Dsk.burnt
    rw [if_neg (by omega), if_pos (by omega)]; exact h1
  · simp only [Dsk.flushed, Dsk.lost]
    rw [(keepAll_same D.pend D.burnt).2.1]
    unfold Dsk.burnt
    rw [if_neg (by omega), if_pos (by omega)]; simp only; omega
theorem liv_write {D : Dsk} {f : Int} {k : Nat} (h : Liv D f k) (hf : 0 < f) (i : Int) (hi : 0 ≤ i ∧ i < 8) (l : List UInt8) (hl : l.length ≤ 128) : (D.write i l).2 = 0 ∧ Liv (D.write i l).1 (f - 1) (k + 1) := by
  obtain ⟨h1, h2, h3, h4⟩ := h
  obtain ⟨l1, l2⟩ := write_len D i l
  unfold Dsk.write at l1 l2 ⊢
  rw [h1, if_neg (by simp), if_neg (by omega), if_neg (by omega), if_neg (by omega)] at l1 l2 ⊢
  refine ⟨rfl, ?_, ?_, l1.trans h3, Nat.le_trans l2 (Nat.succ_le_succ h4)⟩
  · simp only [Dsk.wrote]
    unfold Dsk.burnt
    rw [if_neg (by omega), if_pos (by omega)]; exact h1
  · simp only [Dsk.wrote]
    unfold Dsk.burnt
    rw [if_neg (by omega), if_pos (by omega)]; simp only; omega
/-- One write more and it is dead. -/
theorem liv_off {D : Dsk} {k : Nat} (h : Liv D 0 k) (l : List UInt8) (hl : l.length ≤ 128) : (D.write 0 l).2 = 20 ∧ (D.write 0 l).1.dead = true ∧ (D.write 0 l).1.kept.length = 8 ∧ (D.write 0 l).1.pend = D.pend := by
  obtain ⟨h1, h2, h3, h4⟩ := h
  unfold Dsk.write
  rw [h1, if_neg (by simp), if_neg (by omega), if_neg (by omega), if_pos h2]
  unfold Dsk.burnt
  rw [if_pos h2]
  exact ⟨rfl, rfl, h3, rfl⟩
theorem liv_crash (D : Dsk) (h : D.kept.length = 8) (zs : List Int) : (D.crashed zs).dead = false ∧ (D.crashed zs).fuse = -1 ∧ (D.crashed zs).kept.length = 8 ∧ (D.crashed zs).pend = [] :=
  ⟨rfl, rfl, (crash_len D zs).1.trans h, rfl⟩
theorem liv_arm {D : Dsk} (hd : D.dead = false) (h : D.kept.length = 8) (hp : D.pend = []) (n : Int) (hn : 0 ≤ n) : Liv (D.arm n).1 n 0 := by
  unfold Dsk.arm
  rw [hd, if_neg (by simp)]
  exact ⟨rfl, by simp only; omega, h, by simp [hp]⟩
theorem crash_write (D : Dsk) (h : D.kept.length = 8) (l : List UInt8) (hl : l.length ≤ 128) : ((D.crashed []).write 0 l).2 = 0 := by
  obtain ⟨h1, h2, h3, _⟩ := liv_crash D h []
  unfold Dsk.write
  rw [h1, if_neg (by simp), if_neg (by omega), if_neg (by omega), if_neg (by omega)]
theorem read0_dq {S : Nat → Prop} {w : World} {p : Nat} {D : Dsk} (h : Dq S w p D) (hd : D.dead = false) :
    Calls Try.prog 16 #[.pointer (some ⟨p, 0, none⟩), .int .i64 0] w fun e w' => e = .returned (.tuple #[.slice (some ⟨w.heap.size, 0, none⟩) 128 128, .int .i64 0]) ∧ Turn (fun _ => False) w w' :=
  (read_dq h 0 h.1.pos hd).mono fun _ _ h => ⟨h.1, h.2.2⟩
theorem read0_dead {S : Nat → Prop} {w : World} {p : Nat} {D : Dsk} (h : Dq S w p D) (hd : D.dead = true) :
    Calls Try.prog 16 #[.pointer (some ⟨p, 0, none⟩), .int .i64 0] w fun e w' => e = .returned (.tuple #[.slice none 0 0, .int .i64 20]) ∧ w = w' := by
  have := readErr_dq h 0 (.inl hd)
  rw [if_pos hd] at this
  exact this
theorem tmod_nat (k : Nat) (m : Nat) : ((k : Int).tmod (m : Int)) = ((k % m : Nat) : Int) := by rfl
set_option maxRecDepth 100000 in
set_option maxHeartbeats 8000000 in
theorem blockDead_walk (v : Value) (qs : List Acv) (n tries : Int) (w : World) (ha : Acts w.heap.size w v qs) :
    Calls Try.prog 6 #[v, .int .i64 n, .int .i64 tries] w fun e w' => e = .returned (.bool true) ∧ Below w.heap.size w w' := by
  have HB := Lib.hid (begun_any v qs w ha)
  clear ha
  by_cases hbad : n < 0 ∨ 50 < n ∨ tries < 0 ∨ 50 < tries
  · go_enter Try.func6, Try.ntmps6
    go_wp2_with fail
    refine HB.out.mono ?_
    rintro e w1 ⟨p, S1, D, rfl, hd, hl, h8, hp⟩
    have V1 := Lib.hid hl
    clear hd hl h8 hp
    have hg : (decide (n < 0) || decide (50 < n) || decide (tries < 0) || decide (50 < tries)) = true := by simp; omega
    have hg2 : (n < 0 ∨ 50 < n) ∨ tries < 0 ∨ 50 < tries := by omega
    clear hbad
    go_wp2_with (go_at_call 11; refine (lives4_any _).mono ?_; rintro e w7 ⟨rfl, t7⟩)
    all_goals go_ret
    all_goals exact ⟨rfl, V1.out.1.trans (t7.mono V1.out.2.1)⟩
  · obtain ⟨N, rfl⟩ : ∃ N : Nat, n = N := ⟨n.toNat, by omega⟩
    obtain ⟨T, rfl⟩ : ∃ T : Nat, tries = T := ⟨tries.toNat, by omega⟩
    have hN : N ≤ 50 := by omega
    have hT : T ≤ 50 := by omega
    have g1 : (0 : Int) ≤ (N : Int) := by omega
    have g2 : (N : Int) ≤ 50 := by omega
    have g3 : (0 : Int) ≤ (T : Int) := by omega
    have g4 : (T : Int) ≤ 50 := by omega
    clear hbad
    go_enter Try.func6, Try.ntmps6
    go_wp2_with fail
    refine HB.out.mono ?_
    rintro e w1 ⟨p, S1, D, rfl, hd, hl, h8, hp⟩
    have Q1 := Lib.hid hd
    have V1 := Lib.hid hl
    have H8 := Lib.hid h8
    have HP := Lib.hid hp
    clear hd hl h8 hp
    go_wp2_with fail
    refine (crash_dq Q1.out (by have := HP.out; omega) _ [] (by simp) (iv_nil _ _)).mono ?_
    rintro e w2 ⟨rfl, S2, hq, hs⟩
    have Q2 := Lib.hid hq
    have V2 := Lib.hid (V1.out.step hs)
    clear hq hs
    go_wp2_with fail
    refine (arm_dq Q2.out N (by omega)).mono ?_
    rintro e w3 ⟨rfl, S3, hq, hs⟩
    have Q3 := Lib.hid hq
    have V3 := Lib.hid (V2.out.step hs)
    obtain ⟨l1, l2, l3, l4⟩ := liv_crash D H8.out []
    have HL := Lib.hid (liv_arm l1 l3 l4 N (by omega))
    generalize ((D.crashed []).arm N).1 = D3 at *
    clear hq hs l1 l2 l3 l4
    go_wp2_with fail
    go_loopw [8] (fun i wr => ∃ k : Nat, k ≤ N ∧ i = .int .i64 k ∧ ∃ S D, Dq S wr p D ∧ Lv w.heap.size w S wr ∧ Liv D ((N : Int) - k) k) (fun i _ => N - (intOf i).toNat)
    case atStart => exact ⟨0, Nat.zero_le _, rfl, S3, D3, Q3.out, V3.out, by simpa using HL.out⟩
    case round =>
      obtain ⟨k, hk, rfl, S, D4, hd, hl, hv⟩ := hrel
      have Q4 := Lib.hid hd
      have V4 := Lib.hid hl
      have L4 := Lib.hid hv
      clear hd hl hv
      by_cases hlt : k < N
      · have hf : (0 : Int) < (N : Int) - k := by omega
        have c1 : (k : Int) < (N : Int) := by omega
        have hpk : D4.pend.length < 1000000000 := by have := L4.out.2.2.2; omega
        have HPK := Lib.hid hpk
        have hm3 : ((k : Int).tmod 3) = ((k % 3 : Nat) : Int) := rfl
        have hm8 : ((k : Int).tmod 8) = ((k % 8 : Nat) : Int) := rfl
        by_cases h3 : k % 3 = 2
        · have FL := Lib.hid (liv_flush L4.out hf)
          rw [h3] at hm3
          clear hlt hf hpk
          go_wp2_with (go_at_call 21; refine (flush_dq Q4.out HPK.out).mono ?_; rintro e w5 ⟨rfl, S', hq, hs⟩; have Q5 := Lib.hid hq; have V5 := Lib.hid (V4.out.step hs); have f0 := FL.out.1; clear hq hs)
          go_roundw
          case rel => exact ⟨k + 1, by omega, by go_num, S', _, Q5.out, V5.out, by have := FL.out.2; rw [show (N : Int) - ((k + 1 : Nat) : Int) = (N : Int) - k - 1 from by omega]; exact this⟩
          case measure => simp [intOf]; omega
        · rcases (show k % 3 = 0 ∨ k % 3 = 1 from by omega) with hr | hr
          all_goals rw [hr] at hm3
          all_goals clear h3 hr hpk hlt
          all_goals have WL := Lib.hid (liv_write L4.out hf ((k : Int) % 8) (by omega) [UInt8.ofNat k] (by simp))
          all_goals have HBY : Hid (By S (wr.alloc (.cells #[.int .u8 (k : Int)] 5)) (.slice (some ⟨wr.heap.size, 0, none⟩) 1 1) [UInt8.ofNat k]) := Lib.hid (by_mark wr Q4.out.lt [UInt8.ofNat k] 1 _ _ (by simp [bv, u8v]; omega) rfl)
          all_goals go_wp2_with (go_at_call 20; refine (write_dq (Q4.out.still ((Turn.refl _ _).alloc _)) ((k : Int) % 8) _ [UInt8.ofNat k] HBY.out HPK.out).mono ?_; rintro e w5 ⟨rfl, S', hq, hs⟩; have Q5 := Lib.hid hq; have V5 := Lib.hid ((V4.out.still ((Turn.refl _ _).alloc _)).step hs); have f0 := WL.out.1; clear hq hs)
          all_goals go_roundw
          all_goals first
            | (exact ⟨k + 1, by omega, by go_num, S', _, Q5.out, V5.out, by have := WL.out.2; rw [show (N : Int) - ((k + 1 : Nat) : Int) = (N : Int) - k - 1 from by omega]; exact this⟩)
            | (simp [intOf]; omega)
      · obtain rfl : k = N := by omega
        have L5 : Hid (Liv D4 0 k) := Lib.hid (by have := L4.out; rwa [Int.sub_self] at this)
        have hp4 : D4.pend.length < 1000000000 := by have := L4.out.2.2.2; omega
        have HP4 := Lib.hid hp4
        have d0 := L5.out.1
        have LO := Lib.hid (liv_off L5.out [120] (by simp))
        clear hp4 hlt
        go_wp2_with fail
        refine (pending_dq Q4.out).mono ?_
        rintro e w5 ⟨rfl, rfl⟩
        go_wp2_with fail
        refine (dead_dq Q4.out).mono ?_
        rintro e w5 ⟨rfl, rfl⟩
        have kc := fun (w : World) (C : Array Value) (n c : Nat) => Lib.run_convert_bytes_const (P := Try.prog) w 41 5 C n c Try.underlying41 Try.underlying5
        go_wp2_with fail
        refine (write_dq (Q4.out.still ((Turn.refl _ _).alloc _)) 0 _ [120] (by_mark wr Q4.out.lt [120] 1 _ _ rfl rfl) HP4.out).mono ?_
        rintro e w6 ⟨rfl, S6, hq, hs⟩
        have Q6 := Lib.hid hq
        have V6 := Lib.hid ((V4.out.still ((Turn.refl _ _).alloc _)).step hs)
        have f0 := LO.out.1
        obtain ⟨D6, hD6⟩ : ∃ D6, (D4.write 0 [120]).1 = D6 := ⟨_, rfl⟩
        rw [hD6] at Q6 LO
        have dd := LO.out.2.1
        have hpe : D6.pend.length = D4.pend.length := by rw [LO.out.2.2.2]
        have HPE := Lib.hid hpe
        have HDD := Lib.hid dd
        clear hq hs hD6 hpe
        go_wp2_with fail
        refine (dead_dq Q6.out).mono ?_
        rintro e w7 ⟨rfl, rfl⟩
        go_wp2_with fail
        have HPD := Lib.hid (pending_dq Q6.out)
        rw [HPE.out] at HPD
        have H8 := Lib.hid LO.out.2.2.1
        have HPL : Hid (D6.pend.length < 1000000000) := Lib.hid (by rw [HPE.out]; exact HP4.out)
        have HR := Lib.hid (read0_dead Q6.out HDD.out)
        have HFL := Lib.hid (flush_dead Q6.out HDD.out)
        have HWR := Lib.hid (fun i v => write_dead Q6.out HDD.out i v)
        have HAR := Lib.hid (fun n => arm_dead Q6.out HDD.out n)
        clear dd
        go_loopw [10] (fun i wr => ∃ t : Nat, t ≤ T ∧ i = .int .i64 t ∧ w6 = wr) (fun i _ => T - (intOf i).toNat)
        case atStart => exact ⟨0, Nat.zero_le _, rfl, rfl⟩
        case round =>
          obtain ⟨t, ht, rfl, rfl⟩ := hrel
          by_cases hlt : t < T
          · have c1 : (t : Int) < (T : Int) := by omega
            clear hlt
            go_wp2_with (first
              | (go_at_call 16; refine HR.out.mono ?_; rintro e w' ⟨rfl, rfl⟩)
              | (go_at_call 21; refine HFL.out.mono ?_; rintro e w' ⟨rfl, rfl⟩)
              | (go_at_call 20; refine (HWR.out _ _).mono ?_; rintro e w' ⟨rfl, rfl⟩)
              | (go_at_call 22; refine (HAR.out _).mono ?_; rintro e w' ⟨rfl, rfl⟩)
              | (go_at_call 13; refine HPD.out.mono ?_; rintro e w' ⟨rfl, rfl⟩))
            go_roundw
            case rel => exact ⟨t + 1, by omega, by go_num, trivial⟩
            case measure => simp [intOf]; omega
          · obtain rfl : t = T := by omega
            clear hlt
            go_wp2_with fail
            refine HR.out.mono ?_
            rintro e w' ⟨rfl, rfl⟩
            go_wp2_with fail
            refine (crash_dq Q6.out HPL.out _ [] (by simp) (iv_nil _ _)).mono ?_
            rintro e w8 ⟨rfl, S8, hq, hs⟩
            have Q8 := Lib.hid hq
            have V8 := Lib.hid (V6.out.step hs)
            have CW := Lib.hid (crash_write D6 H8.out [121] (by simp))
            have CD := Lib.hid (liv_crash D6 H8.out []).1
            have CP : Hid ((D6.crashed []).pend.length < 1000000000) := Lib.hid (by rw [(liv_crash D6 H8.out []).2.2.2]; simp)
            obtain ⟨D8, hD8⟩ : ∃ D8, D6.crashed [] = D8 := ⟨_, rfl⟩
            rw [hD8] at Q8 CW CD CP
            clear hq hs hD8
            have hdd := dead_dq Q8.out
            rw [CD.out] at hdd
            have HDQ := Lib.hid hdd
            clear hdd
            go_wp2_with fail
            refine HDQ.out.mono ?_
            rintro e w' ⟨rfl, rfl⟩
            go_wp2_with fail
            refine (read0_dq Q8.out CD.out).mono ?_
            rintro e w9 ⟨rfl, ht9⟩
            have Q9 := Lib.hid (Q8.out.still ht9)
            have V9 := Lib.hid (V8.out.still ht9)
            clear ht9
            go_wp2_with fail
            refine (write_dq (Q9.out.still ((Turn.refl _ _).alloc _)) 0 _ [121] (by_mark w9 Q9.out.lt [121] 1 _ _ rfl rfl) CP.out).mono ?_
            rintro e w10 ⟨rfl, S10, hq, hs⟩
            have V10 := Lib.hid ((V9.out.still ((Turn.refl _ _).alloc _)).step hs)
            have f1 := CW.out
            clear hq hs
            go_wp2_with fail
            refine (lives4_any _).mono ?_
            rintro e w11 ⟨rfl, tl⟩
            go_wp2_with fail
            go_ret
            exact ⟨rfl, V10.out.1.trans (tl.mono V10.out.2.1)⟩
end Go.Proofs.Ytdpjjdkfjecihaa
