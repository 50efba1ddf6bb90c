/- The walk of ambrylaw06.RingRoom. -/
import Derived.Test.YtjffdekonjejgabRnK
import Derived.Test.YtjffdekonjejgabFrameR
namespace Go.Proofs.Ytjffdekonjejgab
open Go.RowKit
set_option linter.unusedVariables false
set_option maxRecDepth 100000

theorem puts_ok (f c : Nat) (hc : 0 < c) : ∀ (R : List St) (D : Dsk), D.dead = false → D.fuse = -1 → f + c ≤ D.kept.length → (∀ s ∈ R, r5 s = true) →
    (puts f c D R).2 = 0 ∧ (puts f c D R).1.dead = false ∧ (puts f c D R).1.fuse = -1 ∧ (puts f c D R).1.kept = D.kept ∧ (puts f c D R).1.pend.length = D.pend.length + R.length
  | [], D, hd, hf, _, _ => ⟨rfl, hd, hf, rfl, rfl⟩
  | s :: l, D, hd, hf, hl, hr => by
    have hm := Nat.mod_lt s.q.toNat hc
    have hw := wr6 hd hf (i := f + s.q.toNat % c) (by omega) (len_put5 (r5_yes (hr s (by simp))).2.2.2.2)
    obtain ⟨h1, h2, h3, h4, h5⟩ := puts_ok f c hc l { D with pend := D.pend ++ [(f + s.q.toNat % c, put5 s)] } hd hf hl (fun x hx => hr x (by simp [hx]))
    have he : puts f c D (s :: l) = puts f c { D with pend := D.pend ++ [(f + s.q.toNat % c, put5 s)] } l := by
      rw [puts, hw, if_pos rfl]
    rw [he]
    refine ⟨h1, h2, h3, h4, ?_⟩
    rw [h5]
    simp only [List.length_append, List.length_cons, List.length_nil]
    omega
theorem cut_right6 (T : ByteArray) (e n : Nat) (hT : Cuts T e n) : ∀ x ∈ mk5 (raw5 (e : Int) (n : Int) (pcs5 T)), r5 x = true := fun x hx => by
  have hsr := SeqRow.cut (e : Int) (n : Int) T ⟨by omega, by have := hT.2.2.2.2; omega⟩
  have hlx : (mk5 (raw5 (e : Int) (n : Int) (pcs5 T))).length = (pcs5 T).length := by rw [len_mk5, len_raw5]
  obtain ⟨i, hi⟩ := List.getElem?_of_mem hx
  have hlt := (List.getElem?_eq_some_iff.1 hi).1
  rw [hlx] at hlt
  obtain ⟨a1, a2, a3⟩ := hsr i x hi
  have h1 := hT.2.1
  have h2 := hT.2.2.1
  have h3 := hT.2.2.2.2
  exact decide_eq_true ⟨by omega, by omega, by omega, by omega, a3⟩
theorem sl_new (n c q k : Nat) (h : ∀ i, i < k → (q + i) % c < n) : slots5 (fresh n) 0 c q k = [] := by
  induction k with
  | zero => rfl
  | succ k ih =>
    rw [slots5, ih (fun i hi => h i (by omega))]
    have h1 : at5 (fresh n) 0 c (q + k) = none := by
      have h2 := h k (by omega)
      unfold at5 Dsk.has fresh overw
      simp only [List.foldl_nil]
      rw [show (List.replicate n zeros).getD (0 + (q + k) % c) [] = zeros from by rw [Nat.zero_add, List.getD_eq_getElem?_getD, List.getElem?_replicate, if_pos h2]; rfl]
      exact none6
    rw [h1]; rfl
theorem top_new : top5 (fresh 20) 0 20 5 0 = 0 ∧ fnd (fresh 20) 0 20 5 0 = [] := by
  unfold top5 fnd
  rw [sl_new 20 20 5 20 (fun i _ => Nat.mod_lt _ (by decide))]
  exact ⟨rfl, rfl⟩
theorem opn_new {L : List Rc} {n E : Nat} (h : Opn (fresh 20) 0 20 5 0 L n E) : L = [] ∧ n = 5 ∧ E = 1 := by
  obtain ⟨h1, k, h2, _, _, h3⟩ := h
  rw [top_new.1] at h1
  rw [top_new.2, List.take_nil] at h3
  injection h3 with h4 h5
  exact ⟨h4.symm, by omega, by omega⟩
/-- What lies between two rounds. -/
def RmI (B : Nat) (w0 : World) (p d i : Nat) (wr : World) : Prop := ∃ (S : Nat → Prop) (vR : Value) (s n : Nat) (L : List Rc) (D : Dsk), RD S vR wr p d 0 20 s n 1 L D ∧ s ≤ n ∧ n ≤ s + 20 ∧ n ≤ 5 + 20 * i ∧ L.length ≤ i ∧ D.pend.length ≤ 20 * i ∧ D.dead = false ∧ D.fuse = -1 ∧ D.kept.length = 20 ∧ Lv B w0 (Rk S p vR) wr
theorem room_key (s n K : Nat) (h : n + K ≤ s + 20) (hs : s ≤ 10000) : (K : Int) ≤ min ((s : Int) + (20 : Nat)) 1152921504606846977 - (n : Int) := by
  have h1 : min ((s : Int) + (20 : Nat)) 1152921504606846977 = (s : Int) + (20 : Nat) := Int.min_eq_left (by omega)
  rw [h1]
  omega
theorem room_key2 (s n m K : Nat) (h : n + m = s + 20) (hs : s ≤ 10000) (hk : m < K) : min ((s : Int) + (20 : Nat)) 1152921504606846977 - (n : Int) < (K : Int) := by
  have h1 : min ((s : Int) + (20 : Nat)) 1152921504606846977 = (s : Int) + (20 : Nat) := Int.min_eq_left (by omega)
  rw [h1]
  omega
/-- A record that has room. -/
theorem room_put {B : Nat} {w0 : World} {S : Nat → Prop} {vR : Value} {w : World} {p d s n i : Nat} {L : List Rc} {D : Dsk} (h : RD S vR w p d 0 20 s n 1 L D) (hs : s ≤ n) (hn : n ≤ s + 20) (hni : n ≤ 5 + 20 * i) (hi : i ≤ 100) (hL : L.length ≤ i) (hp : D.pend.length ≤ 20 * i) (hd : D.dead = false) (hf : D.fuse = -1) (hk : D.kept.length = 20) (hv : Lv B w0 (Rk S p vR) w)
    (T : ByteArray) (hz : T.size ≤ 16384) (hfit : n + (pcs5 T).length ≤ s + 20) :
    Calls Try.prog 9 #[.pointer (some ⟨p, 0, none⟩), .string T] w fun r w' => r = .returned (.int .i64 0) ∧ ∃ S' vR' L' D', RD S' vR' w' p d 0 20 s (n + (pcs5 T).length) 1 L' D' ∧ L'.length ≤ i + 1 ∧ D'.pend.length ≤ 20 * (i + 1) ∧ D'.dead = false ∧ D'.fuse = -1 ∧ D'.kept.length = 20 ∧ Lv B w0 (Rk S' p vR') w' := by
  have hT : Cuts T (1 : Nat) (n : Nat) := ⟨hz, by decide, by decide, by omega, by omega⟩
  have hlx : (mk5 (raw5 ((1 : Nat) : Int) (n : Int) (pcs5 T))).length = (pcs5 T).length := by rw [len_mk5, len_raw5]
  obtain ⟨h1, h2, h3, h4, h5⟩ := puts_ok 0 20 (by decide) _ D hd hf (by omega) (cut_right6 T 1 n hT)
  rw [hlx] at h5
  have hroom := room_key s n (pcs5 T).length hfit (by omega)
  refine (append_put h (by decide) (by decide) (by decide) (by omega) (by omega) (by omega) (by omega) T hT hroom).mono ?_
  rintro r w' ⟨rfl, S', vR', hst, ⟨h6, _⟩ | ⟨_, h6⟩⟩
  · exact absurd h1 h6
  · refine ⟨by rw [h1], S', vR', _, _, h6, ?_, ?_, h2, h3, by rw [h4]; exact hk, hv.step hst⟩
    · rw [List.length_append]; show L.length + 1 ≤ _; omega
    · omega
theorem room_any {S : Nat → Prop} {vR : Value} {w : World} {p d s n m : Nat} {L : List Rc} {D : Dsk} (h : RD S vR w p d 0 20 s n 1 L D) (hs : s ≤ 10000) (hm : n + m = s + 20) :
    Calls Try.prog 16 #[.pointer (some ⟨p, 0, none⟩)] w fun r w' => r = .returned (.int .i64 m) ∧ w' = w.drew := by
  have H := ringRoom p d 0 20 s n 1 (by decide) (by omega) (by omega) vR w h.blk
  rw [show min ((s : Int) + (20 : Nat)) 1152921504606846977 - (n : Int) = (m : Int) from by omega] at H
  exact H
set_option maxHeartbeats 8000000 in
theorem ringRoom_in (v : Value) (L0 : List ByteArray) (w : World) (hs : Strs w w.heap.size v L0) (hn : L0.length ≤ 100) :
    Calls Try.prog 4 #[v] w fun e w' => e = .returned (.bool true) ∧ Below w.heap.size w w' := by
  have HLV := Lib.hid lives6_any
  have HNW := Lib.hid (fun w => new_dq 20 (by decide) (by decide) w)
  have HOP := Lib.hid (fun (S : Nat → Prop) (w : World) (d : Nat) (h : Dq S w d (fresh 20)) => open_any h rfl 0 20 5 (by decide) (by decide) (by decide) (by decide) 0 ⟨by decide, by decide⟩ (by rw [top_new.1]; decide))
  obtain ⟨A, cap, rfl, hr⟩ := hs
  have HR := Lib.hid hr
  clear hr
  obtain ⟨n, hN⟩ : ∃ n, L0.length = n := ⟨_, rfl⟩
  have HN := Lib.hid hN
  rw [hN] at hn ⊢
  clear hN
  have hni : ¬ (100 : Int) < (n : Int) := by omega
  go_enter Try.func4, Try.ntmps4
  go_wp2_with fail
  refine (HNW.out _).mono ?_
  rintro e w0 ⟨d, S0, rfl, hd, hS, ht⟩
  have Q0 := Lib.hid hd
  have V0 : Hid (Lv w.heap.size w S0 w0) := Lib.hid ⟨ht.below (Nat.le_refl _) (fun _ h => h.elim), ht.size, hS⟩
  clear hd hS ht
  go_wp2_with fail
  refine (HOP.out S0 w0 d Q0.out).mono ?_
  rintro e w1 ⟨p, vR, L, n5, E, rfl, hop, hr, hp, hv, ht⟩
  obtain ⟨rfl, rfl, rfl⟩ := opn_new hop
  have R1 := Lib.hid hr
  have V1 : Hid (Lv w.heap.size w (Rk S0 p vR) w1) := Lib.hid ⟨(V0.out.still ht).1, (V0.out.still ht).2.1, Rk.low V0.out.2.2 (Nat.le_trans V0.out.2.1 hp) (fun k hk => Nat.le_trans V0.out.2.1 (hv k hk))⟩
  clear hop hr hp hv ht
  go_wp2_with fail
  go_loopw [7, 8, 9, 10] (fun vi vn vr ve wr => ∃ (j : Nat), j ≤ n ∧ vi = .int .i64 j ∧ RmI w.heap.size w p d j wr) (fun vi _ _ _ _ => n - (intOf vi).toNat)
  case atStart => exact ⟨0, Nat.zero_le _, rfl, S0, vR, 5, 5, [], _, R1.out, by decide, by decide, by decide, by decide, by decide, rfl, rfl, rfl, V1.out⟩
  case round =>
    obtain ⟨j, hj, rfl, S, vS, s, q, L, D, hRD, i1, i2, i3, i4, i5, i6, i7, i8, hLv⟩ := hrel
    have RR := Lib.hid hRD
    have VV := Lib.hid hLv
    have HD := Lib.hid (And.intro i5 (And.intro i6 (And.intro i7 i8)))
    clear hRD i5 i6 i7 i8
    by_cases hlt : j < n
    · obtain ⟨T, hT⟩ : ∃ T, L0[j]? = some T := ⟨_, List.getElem?_eq_getElem (by rw [HN.out]; omega)⟩
      obtain ⟨⟨bl, ol, sl⟩, rfl, hsp, hbk, hcl⟩ := HR.out (by rw [HN.out]; omega)
      obtain rfl : sl = none := hsp
      have X0 : Hid (∀ X, Below w.heap.size w X → X.cell? ⟨bl, ol + j, none⟩ = some (.string T)) := Lib.hid (fun X hX => by
        have h1 := (hX.cell (p := (⟨bl, ol, none⟩ : Addr).add j) (by rw [block_add]; exact hbk)).trans (hcl j T hT)
        rw [Addr.add_mid] at h1
        exact h1)
      have x0 := X0.out wr hLv.1
      have hi1 : (j : Int) < (n : Int) := by omega
      have hi2 : (0 : Int) ≤ (j : Int) := by omega
      have z3 := wrap_of ((j : Int) + 1) (by omega) (by omega)
      clear hcl hT hLv
      by_cases hbig : 16384 < T.size
      · have hb1 : (16384 : Int) < (T.size : Int) := by omega
        go_wp2_with fail
        refine (HLV.out _).mono ?_
        rintro e w2 ⟨rfl, hb⟩
        have BL := Lib.hid (VV.out.1.trans (hb.mono VV.out.2.1))
        clear hb
        go_wp2_with fail
        go_ret
        exact ⟨rfl, BL.out⟩
      · have hb1 : ¬ (16384 : Int) < (T.size : Int) := by omega
        have z1 := wrap_of ((T.size : Int) + 107) (by omega) (by omega)
        obtain ⟨K, hK⟩ : ∃ K, (pcs5 T).length = K := ⟨_, rfl⟩
        have hKM : max 1 (((T.size : Int) + 107) / 108) = (K : Int) := by
          have := pcs5_count T.size T rfl
          omega
        have hK1 : 1 ≤ K ∧ K ≤ 152 := by
          have := pcs_few T (by omega)
          omega
        obtain ⟨m, hm⟩ : ∃ m : Nat, q + m = s + 20 := ⟨s + 20 - q, by omega⟩
        go_wp2_with fail
        refine (room_any RR.out (by omega) hm).mono ?_
        rintro e w2 ⟨rfl, rfl⟩
        have x1 := X0.out wr.drew VV.out.1.drew
        have R2 := Lib.hid (RR.out.quiet (Turn.refl (fun _ => False) wr).drew)
        have V2 := Lib.hid (VV.out.still (Turn.refl (fun _ => False) wr).drew)
        by_cases hfit : K ≤ m
        · have HP := Lib.hid (room_put (i := j) R2.out i1 i2 i3 (by omega) i4 HD.out.1 HD.out.2.1 HD.out.2.2.1 HD.out.2.2.2 V2.out T (by omega) (by omega))
          rw [hK] at HP
          have f1 : ¬ (m : Int) < (K : Int) := by omega
          go_wp2_with fail
          refine HP.out.mono ?_
          rintro e w3 ⟨rfl, S3, v3, L3, D3, hRD, j1, j2, j3, j4, j5, hLv⟩
          have R3 := Lib.hid hRD
          have V3 := Lib.hid hLv
          have HD3 := Lib.hid (And.intro j1 (And.intro j2 (And.intro j3 (And.intro j4 j5))))
          clear hRD hLv j1 j2 j3 j4 j5
          obtain ⟨m3, hm3⟩ : ∃ m3 : Nat, q + K + m3 = s + 20 := ⟨s + 20 - q - K, by omega⟩
          obtain ⟨x, hx⟩ : ∃ x : Nat, q + K = s + x := ⟨q + K - s, by omega⟩
          obtain ⟨q2, hq2⟩ : ∃ q2, q + K = q2 := ⟨_, rfl⟩
          rw [hq2] at R3 hm3 hx
          have z4 : IntKind.i64.wrap ((m : Int) - (K : Int)) = (m3 : Int) := (wrap_of _ (by omega) (by omega)).trans (by omega)
          have z5 : IntKind.i64.wrap ((q2 : Int) - (s : Int)) = (x : Int) := (wrap_of _ (by omega) (by omega)).trans (by omega)
          have z6 : IntKind.i64.wrap (20 - (m3 : Int)) = (x : Int) := (wrap_of _ (by omega) (by omega)).trans (by omega)
          have HRM := Lib.hid (fun W (h : RD S3 v3 W p d 0 20 s q2 1 L3 D3) => room_any h (by omega) hm3)
          have HNX := Lib.hid (fun W (h : RD S3 v3 W p d 0 20 s q2 1 L3 D3) => ringNext p d (0 : Nat) (20 : Nat) s q2 (1 : Nat) v3 W h.blk)
          have HST := Lib.hid (fun W (h : RD S3 v3 W p d 0 20 s q2 1 L3 D3) => ringStart p d (0 : Nat) (20 : Nat) s q2 (1 : Nat) v3 W h.blk)
          go_wp2_with fail
          refine (HRM.out _ R3.out).mono ?_
          rintro e w4 ⟨rfl, rfl⟩
          have R4 := Lib.hid (R3.out.quiet (Turn.refl (fun _ => False) w3).drew)
          go_wp2_with fail
          refine (HNX.out _ R4.out).mono ?_
          rintro e w4 ⟨rfl, rfl⟩
          go_wp2_with fail
          refine (HST.out _ R4.out).mono ?_
          rintro e w4 ⟨rfl, rfl⟩
          go_wp2_with fail
          refine (HRM.out _ R4.out).mono ?_
          rintro e w4 ⟨rfl, rfl⟩
          have R5 := Lib.hid (R4.out.quiet (Turn.refl (fun _ => False) w3.drew).drew)
          have V5 := Lib.hid (V3.out.still ((Turn.refl (fun _ => False) w3).drew.trans (Turn.refl (fun _ => False) w3.drew).drew))
          go_wp2_with fail
          go_roundw
          case rel => exact ⟨j + 1, hlt, by simp, S3, v3, s, q2, L3, D3, R5.out, by omega, by omega, by omega, HD3.out.1, HD3.out.2.1, HD3.out.2.2.1, HD3.out.2.2.2.1, HD3.out.2.2.2.2, V5.out⟩
          case measure => simp [intOf]; omega
        · have f1 : (m : Int) < (K : Int) := by omega
          have hT : Cuts T (1 : Nat) (q : Nat) := ⟨by omega, by decide, by decide, by omega, by rw [hK]; omega⟩
          have HF := Lib.hid (append_full R2.out (by decide) (by omega) (by omega) T hT (by rw [hK]; exact room_key2 s q m K hm (by omega) (by omega)))
          clear hT
          go_wp2_with fail
          refine HF.out.mono ?_
          rintro e w3 ⟨rfl, t3⟩
          have R3 := Lib.hid (R2.out.quiet t3)
          have V3 := Lib.hid (V2.out.still t3)
          clear t3
          have HRM := Lib.hid (fun W (h : RD S vS W p d 0 20 s q 1 L D) => room_any h (by omega) hm)
          have HNX := Lib.hid (fun W (h : RD S vS W p d 0 20 s q 1 L D) => ringNext p d (0 : Nat) (20 : Nat) s q (1 : Nat) vS W h.blk)
          have HTR := Lib.hid (fun W (h : RD S vS W p d 0 20 s q 1 L D) => h.trunc)
          have HRM2 := Lib.hid (fun W vT (h : RD S vT W p d 0 20 q q 1 [] D) => room_any (m := 20) h (by omega) rfl)
          have HRC := Lib.hid (fun W vT (h : RD S vT W p d 0 20 q q 1 [] D) => ringRecords h (by decide) (fun x hx => by cases hx))
          go_wp2_with fail
          refine (HRM.out _ R3.out).mono ?_
          rintro e w4 ⟨rfl, rfl⟩
          have R4 := Lib.hid (R3.out.quiet (Turn.refl (fun _ => False) w3).drew)
          have V4 := Lib.hid (V3.out.still (Turn.refl (fun _ => False) w3).drew)
          go_wp2_with fail
          refine (HNX.out _ R4.out).mono ?_
          rintro e w4 ⟨rfl, rfl⟩
          go_wp2_with fail
          refine (HTR.out _ R4.out).mono ?_
          rintro e w5 ⟨rfl, vT, hRD, hst⟩
          have R5 := Lib.hid hRD
          have V5 := Lib.hid (V4.out.step hst)
          clear hRD hst
          go_wp2_with fail
          refine (HRM2.out _ _ R5.out).mono ?_
          rintro e w6 ⟨rfl, rfl⟩
          have R6 := Lib.hid (R5.out.quiet (Turn.refl (fun _ => False) w5).drew)
          have V6 := Lib.hid (V5.out.still (Turn.refl (fun _ => False) w5).drew)
          go_wp2_with fail
          refine (HRC.out _ _ R6.out).mono ?_
          rintro e w7 ⟨v7, rfl, o7, t7⟩
          obtain ⟨A7, c7, rfl⟩ : ∃ A c, v7 = .slice A 0 c := by
            rcases o7.2 with ⟨h1, _⟩ | ⟨b, cc, cur, h1, _⟩
            · exact ⟨_, _, h1⟩
            · exact ⟨_, _, h1⟩
          have R7 := Lib.hid (R6.out.quiet t7)
          have V7 := Lib.hid (V6.out.still t7)
          clear o7 t7
          go_wp2_with fail
          go_roundw
          case rel => exact ⟨j + 1, hlt, by simp, S, vT, q, q, [], D, R7.out, by omega, by omega, by omega, Nat.zero_le _, Nat.le_trans HD.out.1 (by omega), HD.out.2.1, HD.out.2.2.1, HD.out.2.2.2, V7.out⟩
          case measure => simp [intOf]; omega
    · have hi1 : ¬ (j : Int) < (n : Int) := by omega
      go_wp2_with fail
      refine (HLV.out _).mono ?_
      rintro e w2 ⟨rfl, hb⟩
      have BL := Lib.hid (VV.out.1.trans (hb.mono VV.out.2.1))
      clear hb
      go_wp2_with fail
      go_ret
      exact ⟨rfl, BL.out⟩
/-- Where there are too many. -/
theorem ringRoom_out (A : Option Addr) (n c : Nat) (w : World) (hn : 100 < n) :
    Calls Try.prog 4 #[.slice A n c] w fun e w' => e = .returned (.bool true) ∧ Below w.heap.size w w' := by
  have HLV := Lib.hid lives6_any
  have HNW := Lib.hid (fun w => new_dq 20 (by decide) (by decide) w)
  have hni : (100 : Int) < (n : Int) := by omega
  go_enter Try.func4, Try.ntmps4
  go_wp2_with fail
  refine (HNW.out _).mono ?_
  rintro e w0 ⟨d, S0, rfl, hd, hS, ht⟩
  have V0 : Hid (Lv w.heap.size w S0 w0) := Lib.hid ⟨ht.below (Nat.le_refl _) (fun _ h => h.elim), ht.size, hS⟩
  clear hd hS ht
  go_wp2_with fail
  refine (HLV.out _).mono ?_
  rintro e w2 ⟨rfl, hb⟩
  have BL := Lib.hid (V0.out.1.trans (hb.mono V0.out.2.1))
  clear hb
  go_wp2_with fail
  go_ret
  exact ⟨rfl, BL.out⟩
theorem ringRoom_walk (v : Value) (L0 : List ByteArray) (w : World) (hs : Strs w w.heap.size v L0) :
    Calls Try.prog 4 #[v] w fun e w' => e = .returned (.bool true) ∧ Below w.heap.size w w' := by
  by_cases hn : L0.length ≤ 100
  · exact ringRoom_in v L0 w hs hn
  · obtain ⟨A, cap, rfl, _⟩ := hs
    exact ringRoom_out A _ cap w (by omega)
end Go.Proofs.Ytjffdekonjejgab
