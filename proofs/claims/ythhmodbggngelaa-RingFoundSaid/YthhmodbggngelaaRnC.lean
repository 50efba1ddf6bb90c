/- Layer 6: Sync; a region's write. -/
import Derived.Test.YthhmodbggngelaaRnA
import Derived.Test.YthhmodbggngelaaSltO
import Derived.Test.YthhmodbggngelaaSltD
namespace Go.Proofs.Ythhmodbggngelaa
open Go.RowKit
set_option linter.unusedVariables false
set_option maxRecDepth 100000

theorem ringSync (S : Nat → Prop) (p d : Nat) (D : Dsk) (f c s n e : Int) (vR : Value) (w : World) (h : RgB w p d f c s n e vR) (hd : Dq S w d D) (hp : D.pend.length < 1000000000) :
    Calls Try.prog 10 #[.pointer (some ⟨p, 0, none⟩)] w fun r w' => r = .returned (.int .i64 D.flush.2) ∧ ∃ S', Dq S' w' d D.flush.1 ∧ Stp S w S' w' := by
  have HM := Lib.hid (ringMade p d f c s n e vR w h)
  have HF := Lib.hid (flush_dq hd hp)
  have x0 := h.cell 0
  simp only [List.getElem?_cons_zero] at x0
  clear h hd
  generalize D.flush.2 = x at *
  go_enter Try.func10, Try.ntmps10
  go_wp2_with (first
    | (go_at_call 25; refine HM.out.mono ?_; rintro r w' ⟨rfl, rfl⟩)
    | (go_at_call 28; refine HF.out.mono ?_; rintro r w1 ⟨rfl, h1⟩))
  go_ret
  exact ⟨rfl, h1⟩
/-- Slots written at their places, in order, up to the first write that fails. -/
def puts (f c : Nat) : Dsk → List St → Dsk × Int
  | D, [] => (D, 0)
  | D, s :: l => if (D.write ((f + s.q.toNat % c : Nat) : Int) (put5 s)).2 = 0 then puts f c (D.write ((f + s.q.toNat % c : Nat) : Int) (put5 s)).1 l else D.write ((f + s.q.toNat % c : Nat) : Int) (put5 s)
theorem write_pend (D : Dsk) (i : Int) (l : List UInt8) : (D.write i l).1.pend.length ≤ D.pend.length + 1 := by
  unfold Dsk.write
  split
  · simp
  · split
    · simp
    · split
      · simp
      · split
        · show D.burnt.pend.length ≤ _
          rw [(burnt_kept D).2]; omega
        · show (D.pend ++ [_]).length ≤ _
          rw [List.length_append]; exact Nat.le_refl _
theorem row_blk5 {w : World} {base n b c : Nat} {R : List St} (h : w.ownsRow base 81 5 (.slice (some ⟨b, 0, none⟩) n c) n (R.flatMap scells)) : ∃ rest, Blk w b 81 (R.flatMap scells ++ rest) := by
  rcases h.2 with ⟨h1, _⟩ | ⟨g, cap, cur, h1, _, hh, _, _, _, ht⟩
  · cases h1
  · injection h1 with h1 _ _
    injection h1 with h1
    injection h1 with h1 _
    subst h1
    refine ⟨cur.toList.drop (n * 5), ?_⟩
    rw [← ht, List.take_append_drop]
    unfold Blk
    simpa using hh
theorem by_own {w : World} {S : Nat → Prop} {B : Nat} {v : Value} {l : List UInt8} (h : w.ownsRow B 5 1 v l.length (bv l)) (hS : ∀ k, S k → k < B) : By S w v l := by
  obtain ⟨A, cap, rfl, hr, _⟩ := rd_of_own h
  refine ⟨A, cap, rfl, fun hp => ?_⟩
  obtain ⟨ad, e, hs, hlt, hc⟩ := hr hp
  refine ⟨ad, e, hlt, fun hk => ?_, hc⟩
  have := hS _ hk
  have h2 := World.ownsRow.base5 h ad.block (by rw [e]; rfl)
  omega
theorem sbox_cells {w w' : World} {s : St} (hb : Below (w.alloc (.cells #[.int .i64 s.e, .int .i64 s.q, .bool s.f, .bool s.z, .string s.d] 81)).heap.size (w.alloc (.cells #[.int .i64 s.e, .int .i64 s.q, .bool s.f, .bool s.z, .string s.d] 81)) w') : Blk w' w.heap.size 81 (scells s) :=
  (Blk.new w 81 (scells s)).below hb (by show _ < (w.alloc _).heap.size; rw [World.size_alloc]; exact Nat.lt_succ_self _)
set_option maxHeartbeats 4000000 in
theorem regionWrite (S : Nat → Prop) (d : Nat) (D : Dsk) (f c : Nat) (hf : f ≤ 16384) (hc0 : 0 < c) (hc : c ≤ 16384) (R : List St) (hR : R.length ≤ 1000) (hr : ∀ s ∈ R, r5 s = true) (A : Option Addr) (cap : Nat) (w : World) (hd : Dq S w d D) (hp : D.pend.length < 900000000)
    (hl : 0 < R.length → ∃ b rest, A = some ⟨b, 0, none⟩ ∧ ¬ S b ∧ Blk w b 81 (R.flatMap scells ++ rest)) :
    Calls Try.prog 27 #[.agg #[.pointer (some ⟨d, 0, none⟩), .int .i64 f, .int .i64 c], .slice A R.length cap] w fun r w' => r = .returned (.int .i64 (puts f c D R).2) ∧ ∃ S', Dq S' w' d (puts f c D R).1 ∧ Stp S w S' w' := by
  have HL := Lib.hid hl
  have HRR := Lib.hid hr
  have hsl := hd.lt
  have HSL := Lib.hid hsl
  obtain ⟨n, hN⟩ : ∃ n, R.length = n := ⟨_, rfl⟩
  have HN := Lib.hid hN
  rw [hN] at hR ⊢
  clear hl hr hN
  have HT := Lib.hid ((Turn.refl (fun _ => False) w).alloc (.cells #[.pointer (some ⟨d, 0, none⟩), .int .i64 f, .int .i64 c] 43))
  have G0 := Lib.hid (Blk.new w 43 [.pointer (some ⟨d, 0, none⟩), .int .i64 f, .int .i64 c])
  have D0 := Lib.hid (hd.still HT.out)
  clear hd hsl
  have hni : (n : Int) ≤ 1000 := by omega
  go_enter Try.func27, Try.ntmps27
  go_wp2_with fail
  go_loopw [12] (fun vi wr => ∃ (j : Nat) (Dj : Dsk) (Sj : Nat → Prop), j ≤ n ∧ vi = .int .i64 j ∧ Dq Sj wr d Dj ∧ Stp S (w.alloc (.cells #[.pointer (some ⟨d, 0, none⟩), .int .i64 f, .int .i64 c] 43)) Sj wr ∧ puts f c Dj (R.drop j) = puts f c D R ∧ Dj.pend.length ≤ D.pend.length + j) (fun vi _ => n - (intOf vi).toNat)
  case atStart => exact ⟨0, D, S, Nat.zero_le _, rfl, D0.out, Stp.refl _ _, rfl, Nat.le_refl _⟩
  case round =>
    obtain ⟨j, Dj, Sj, hj, rfl, hdj, hst, hpj, hpl⟩ := hrel
    have DJ := Lib.hid hdj
    have ST := Lib.hid hst
    have PJ := Lib.hid hpj
    have PL := Lib.hid hpl
    clear hdj hst hpj hpl
    by_cases hlt : j < n
    · obtain ⟨b, rest, rfl, hbS, hbB⟩ := HL.out (by rw [HN.out]; omega)
      obtain ⟨s, hs⟩ : ∃ s, R[j]? = some s := ⟨_, List.getElem?_eq_getElem (by rw [HN.out]; omega)⟩
      have hrs := HRR.out s (List.mem_of_getElem? hs)
      have HB : Hid (∀ W, Calls Try.prog 42 #[.agg #[.int .i64 s.e, .int .i64 s.q, .bool s.f, .bool s.z, .string s.d]] W fun e w' => ∃ v, e = .returned (.tuple #[v, .int .i64 0]) ∧ w'.ownsRow W.heap.size 5 1 v 128 (bv (put5 s)) ∧ Below W.heap.size W w') := Lib.hid (fun W => bytes5_ok s hrs W)
      have hqs := (r5_yes hrs).2.2
      have LP := Lib.hid (len_put5 hqs.2.2)
      have HDR : Hid (R.drop j = s :: R.drop (j + 1)) := Lib.hid (by
        obtain ⟨h4, h5⟩ := List.getElem?_eq_some_iff.1 hs
        rw [← h5]; exact List.drop_eq_getElem_cons h4)
      have hB := (hbB.turn HT.out (fun h => h)).turn ST.out.1 hbS
      have hx : ∀ i, i < 5 → wr.cell? ⟨b, j * 5 + i, none⟩ = (scells s)[i]? := fun i hi => by
        rw [hB.cell, List.getElem?_append_left (by rw [len_scells, HN.out]; omega)]
        exact flat_at5 R j i s hs hi
      have y0 := hx 0 (by decide)
      have y1 := hx 1 (by decide)
      have y2 := hx 2 (by decide)
      have y3 := hx 3 (by decide)
      have y4 := hx 4 (by decide)
      simp only [scells, List.getElem?_cons_zero, List.getElem?_cons_succ, Nat.add_zero] at y0 y1 y2 y3 y4
      have hi1 : (j : Int) < (n : Int) := by omega
      have hi2 : (0 : Int) ≤ (j : Int) := by omega
      have z3 := wrap_of ((j : Int) + 1) (by omega) (by omega)
      have GR := Lib.hid (G0.out.turn ST.out.1 (fun h => by have := HSL.out _ h; omega))
      clear hx hB hbB hs
      go_wp2_with fail
      refine (HB.out _).mono ?_
      rintro e w2 ⟨v2, rfl, ho, hb2⟩
      have SB := Lib.hid (sbox_cells hb2)
      have hsz := hb2.size
      rw [World.size_alloc] at hsz
      have T2 := Lib.hid (((Turn.refl (fun _ => False) wr).alloc (.cells #[.int .i64 s.e, .int .i64 s.q, .bool s.f, .bool s.z, .string s.d] 81)).trans (Turn.of_below (S := fun _ => False) hb2 (fun k h1 h2 => by omega)))
      have O2 := Lib.hid (by rw [LP.out]; exact ho : w2.ownsRow (wr.alloc (.cells #[.int .i64 s.e, .int .i64 s.q, .bool s.f, .bool s.z, .string s.d] 81)).heap.size 5 1 v2 (put5 s).length (bv (put5 s)))
      have D2 := Lib.hid (DJ.out.still T2.out)
      have GR2 := Lib.hid (GR.out.turn T2.out (fun h => h))
      have hgr := GR2.out.lt
      have hgs := SB.out.lt
      have HSJ := Lib.hid DJ.out.lt
      have HSW := Lib.hid ST.out.2
      have hA2 : ∃ A2 c2, v2 = .slice A2 (put5 s).length c2 := by obtain ⟨A2, c2, e, _⟩ := rd_of_own O2.out; exact ⟨A2, c2, e⟩
      obtain ⟨A2, c2, rfl⟩ := hA2
      obtain ⟨q, hq⟩ : ∃ q : Nat, s.q = (q : Int) := ⟨s.q.toNat, by omega⟩
      clear ho hb2 y0 y1 y2 y3 y4
      go_wp2_with fail
      have HQ : Hid ((scells s)[1]? = some (.int .i64 (q : Int))) := Lib.hid (by show some (Value.int .i64 s.q) = _; rw [hq])
      have HPL : Hid (∀ W, Calls Try.prog 44 #[.agg #[.pointer (some ⟨d, 0, none⟩), .int .i64 f, .int .i64 c], .int .i64 q] W fun e w' => ∃ v, e = .returned v ∧ (v = .int .i64 ((f + q % c : Nat) : Int) ∧ w' = (W.alloc (.cells #[.pointer (some ⟨d, 0, none⟩), .int .i64 f, .int .i64 c] 43)).drew)) := Lib.hid (fun W => (place_any _ rfl f c q hf hc0 hc (by omega) W).mono (fun e w' h => ⟨_, h.1, rfl, h.2⟩))
      have HW : Hid (∀ W, Dq Sj W d Dj → By Sj W (.slice A2 (put5 s).length c2) (put5 s) → Calls Try.prog 43 #[.pointer (some ⟨d, 0, none⟩), .int .i64 ((f + q % c : Nat) : Int), .slice A2 (put5 s).length c2] W fun e w' => ∃ v, e = .returned v ∧ (v = .int .i64 (Dj.write ((f + q % c : Nat) : Int) (put5 s)).2 ∧ ∃ S', Dq S' w' d (Dj.write ((f + q % c : Nat) : Int) (put5 s)).1 ∧ Stp Sj W S' w')) := Lib.hid (fun W h1 h2 => (write_dq h1 _ _ _ h2 (by have := PL.out; omega)).mono (fun e w' h => ⟨_, h.1, rfl, h.2⟩))
      have HPU : Hid (puts f c Dj (s :: R.drop (j + 1)) = if (Dj.write ((f + q % c : Nat) : Int) (put5 s)).2 = 0 then puts f c (Dj.write ((f + q % c : Nat) : Int) (put5 s)).1 (R.drop (j + 1)) else Dj.write ((f + q % c : Nat) : Int) (put5 s)) := Lib.hid (by rw [puts, show s.q.toNat = q from by omega])
      have HPN := Lib.hid (write_pend Dj ((f + q % c : Nat) : Int) (put5 s))
      generalize Dj.write ((f + q % c : Nat) : Int) (put5 s) = X at *
      generalize put5 s = l at *
      generalize f + q % c = pl at *
      refine wp_region_noPanic ?_
      refine wp_region_held_drew (S := fun X => (X.cell? ⟨w.heap.size, 0, none⟩ = some (.pointer (some ⟨d, 0, none⟩)) ∧ X.cell? ⟨w.heap.size, 1, none⟩ = some (.int .i64 f) ∧ X.cell? ⟨w.heap.size, 2, none⟩ = some (.int .i64 c)) ∧ X.cell? ⟨wr.heap.size, 1, none⟩ = some (.int .i64 q)) (by kernel_rfl) ⟨⟨GR2.out.drew.cell 0, GR2.out.drew.cell 1, GR2.out.drew.cell 2⟩, (SB.out.drew.cell 1).trans HQ.out⟩ (fun hHeld => ?_)
      -- region
      refine wpAnyH_take (i := 0) (v := ?_) rfl (by kernel_rfl) (by kernel_rfl) (by kernel_rfl) (fun _ _ _ h => h) (Or.inl ⟨by rfl, ?_⟩) (by assumption) ?_
      rotate_left 1
      · intro w' hSw
        go_simp
        all_goals first | with_reducible rfl | (rw [if_neg (by omega)]; done) | (rw [if_pos (by omega)]; done) | (rw [if_neg (by omega)]; with_reducible rfl) | (rw [if_pos (by omega)]; with_reducible rfl)
      try simp only [List.getElem_toArray, List.getElem_cons_zero, Act.put, List.setIfInBounds_toArray, List.set_cons_zero, List.set_cons_succ]
      refine wpAnyH_take (i := 1) (v := ?_) rfl (by kernel_rfl) (by kernel_rfl) (by kernel_rfl) (fun _ _ _ h => h) (Or.inl ⟨by rfl, ?_⟩) (by assumption) ?_
      rotate_left 1
      · intro w' hSw
        obtain ⟨⟨p0, p1, p2⟩, p3⟩ := hSw
        go_simp
        all_goals first | with_reducible rfl | (rw [if_neg (by omega)]; done) | (rw [if_pos (by omega)]; done) | (rw [if_neg (by omega)]; with_reducible rfl) | (rw [if_pos (by omega)]; with_reducible rfl)
      try simp only [List.getElem_toArray, List.getElem_cons_zero, List.getElem_cons_succ, Act.put, List.setIfInBounds_toArray, List.set_cons_zero, List.set_cons_succ]
      refine wpAnyH_take (i := 2) (v := ?_) rfl (by kernel_rfl) (by kernel_rfl) (by kernel_rfl) (fun _ _ _ h => h) (Or.inl ⟨by rfl, ?_⟩) (by assumption) ?_
      rotate_left 1
      · intro w' hSw
        obtain ⟨⟨p0, p1, p2⟩, p3⟩ := hSw
        go_simp
        all_goals first | with_reducible rfl | (rw [if_neg (by omega)]; done) | (rw [if_pos (by omega)]; done) | (rw [if_neg (by omega)]; with_reducible rfl) | (rw [if_pos (by omega)]; with_reducible rfl)
      try simp only [List.getElem_toArray, List.getElem_cons_zero, List.getElem_cons_succ, Act.put, List.setIfInBounds_toArray, List.set_cons_zero, List.set_cons_succ]
      refine wpAnyH_take (i := 3) (v := ?_) rfl (by kernel_rfl) (by kernel_rfl) (by kernel_rfl) (fun _ _ _ h => h) (Or.inl ⟨by rfl, ?_⟩) (by assumption) ?_
      rotate_left 1
      · intro w' hSw
        go_simp
        all_goals first | with_reducible rfl | (rw [if_neg (by omega)]; done) | (rw [if_pos (by omega)]; done) | (rw [if_neg (by omega)]; with_reducible rfl) | (rw [if_pos (by omega)]; with_reducible rfl)
      try simp only [List.getElem_toArray, List.getElem_cons_zero, List.getElem_cons_succ, Act.put, List.setIfInBounds_toArray, List.set_cons_zero, List.set_cons_succ]
      refine wpAnyH_take (i := 4) (v := ?_) rfl (by kernel_rfl) (by kernel_rfl) (by kernel_rfl) (fun _ _ _ h => h) (Or.inl ⟨by rfl, ?_⟩) (by assumption) ?_
      rotate_left 1
      · intro w' hSw
        obtain ⟨⟨p0, p1, p2⟩, p3⟩ := hSw
        go_simp
        all_goals first | with_reducible rfl | (rw [if_neg (by omega)]; done) | (rw [if_pos (by omega)]; done) | (rw [if_neg (by omega)]; with_reducible rfl) | (rw [if_pos (by omega)]; with_reducible rfl)
      try simp only [List.getElem_toArray, List.getElem_cons_zero, List.getElem_cons_succ, Act.put, List.setIfInBounds_toArray, List.set_cons_zero, List.set_cons_succ]
      refine wpAnyH_take (i := 6) (v := ?_) rfl (by kernel_rfl) (by kernel_rfl) (by kernel_rfl) (fun _ _ _ h => h) (Or.inl ⟨by rfl, ?_⟩) (by assumption) ?_
      rotate_left 1
      · intro w' hSw
        go_simp
        all_goals first | with_reducible rfl | (rw [if_neg (by omega)]; done) | (rw [if_pos (by omega)]; done) | (rw [if_neg (by omega)]; with_reducible rfl) | (rw [if_pos (by omega)]; with_reducible rfl)
      try simp only [List.getElem_toArray, List.getElem_cons_zero, List.getElem_cons_succ, Act.put, List.setIfInBounds_toArray, List.set_cons_zero, List.set_cons_succ]
      refine wpAnyH_ready (rs := [5]) (by kernel_rfl) (by simp) ?_
      refine AllReadyH.cons rfl (fun K hK => ?_) AllReadyH.nil
      refine step_call rfl 44 Try.f44 _ _ rfl Try.func44 (by kernel_rfl) (by kernel_rfl) _ _ (HPL.out _) (by go_simp) ?_
      rintro v5 w5 ⟨rfl, rfl⟩
      have GA := Lib.hid ((GR2.out.drew.alloc (.cells #[.pointer (some ⟨d, 0, none⟩), .int .i64 f, .int .i64 c] 43)).drew)
      have SA := Lib.hid ((SB.out.drew.alloc (.cells #[.pointer (some ⟨d, 0, none⟩), .int .i64 f, .int .i64 c] 43)).drew)
      have DA := Lib.hid (D2.out.still (((Turn.refl (fun _ => False) w2).drew.alloc (.cells #[.pointer (some ⟨d, 0, none⟩), .int .i64 f, .int .i64 c] 43)).drew))
      have OA := Lib.hid ((O2.out.drew.alloc (.cells #[.pointer (some ⟨d, 0, none⟩), .int .i64 f, .int .i64 c] 43)).drew)
      have HTA := Lib.hid (((Turn.refl (fun _ => False) w2).drew.alloc (.cells #[.pointer (some ⟨d, 0, none⟩), .int .i64 f, .int .i64 c] 43)).drew)
      refine hK.out _ _ ⟨⟨GA.out.cell 0, GA.out.cell 1, GA.out.cell 2⟩, (SA.out.cell 1).trans HQ.out⟩ (fun hHeld => ?_)
      clear hK K
      try simp only [List.getElem_toArray, List.getElem_cons_zero, List.getElem_cons_succ, Act.put, List.setIfInBounds_toArray, List.set_cons_zero, List.set_cons_succ]
      refine wpAnyH_ready (rs := [7]) (by kernel_rfl) (by simp) ?_
      refine AllReadyH.cons rfl (fun K hK => ?_) AllReadyH.nil
      refine step_call rfl 43 Try.f43 _ _ rfl Try.func43 (by kernel_rfl) (by kernel_rfl) _ _ (HW.out _ DA.out (by_own OA.out (fun k hk => Nat.lt_trans (HSJ.out k hk) (by rw [World.size_alloc]; exact Nat.lt_succ_self _)))) (by go_simp) ?_
      rintro v7 w7 ⟨rfl, S7, hd7, hs7⟩
      have G7 := Lib.hid (GA.out.turn hs7.1 (fun h => by rcases HSW.out _ h with h | h; have := HSL.out _ h; omega; rw [World.size_alloc] at h; omega))
      have S7b := Lib.hid (SA.out.turn hs7.1 (fun h => by have := HSJ.out _ h; omega))
      refine hK.out _ _ ⟨⟨G7.out.cell 0, G7.out.cell 1, G7.out.cell 2⟩, (S7b.out.cell 1).trans HQ.out⟩ (fun hHeld => ?_)
      clear hK K
      try simp only [List.getElem_toArray, List.getElem_cons_zero, List.getElem_cons_succ, Act.put, List.setIfInBounds_toArray, List.set_cons_zero, List.set_cons_succ]
      refine wpAnyH_take (i := 8) (v := ?_) rfl (by kernel_rfl) (by kernel_rfl) (by kernel_rfl) (fun _ _ _ h => h) (Or.inl ⟨by rfl, ?_⟩) (by assumption) ?_
      rotate_left 1
      · intro w' hSw
        go_simp
        all_goals first | with_reducible rfl | (rw [if_neg (by omega)]; done) | (rw [if_pos (by omega)]; done) | (rw [if_neg (by omega)]; with_reducible rfl) | (rw [if_pos (by omega)]; with_reducible rfl)
      try simp only [List.getElem_toArray, List.getElem_cons_zero, List.getElem_cons_succ, Act.put, List.setIfInBounds_toArray, List.set_cons_zero, List.set_cons_succ]
      refine wpAnyH_done (by kernel_rfl) ?_ _
      refine NoPanic.normal ?_
      -- region end
      have STT := Lib.hid ((ST.out.trans (Stp.quiet T2.out)).trans ((Stp.quiet HTA.out).trans hs7))
      clear hHeld
      by_cases hx : X.2 = 0
      · have hxx : X.2 = 0 := hx
        rw [hxx]
        go_wp2_with fail
        go_roundw
        case rel => exact ⟨j + 1, X.1, S7, hlt, by simp, hd7, STT.out, by rw [← PJ.out, HDR.out, HPU.out, if_pos hx], by have := HPN.out; have := PL.out; omega⟩
        case measure => simp [intOf]; omega
      · have hxx : (X.2 != 0) = true := by simpa using hx
        go_wp2_with fail
        go_ret
        exact ⟨by rw [← PJ.out, HDR.out, HPU.out, if_neg hx]; rfl, S7, by rw [← PJ.out, HDR.out, HPU.out, if_neg hx]; exact hd7, (Stp.quiet HT.out).trans STT.out⟩
    · obtain rfl : j = n := by omega
      have HP2 : Hid (puts f c D R = (Dj, 0)) := Lib.hid (by rw [← PJ.out, List.drop_eq_nil_of_le (by rw [HN.out]; exact Nat.le_refl _)]; rfl)
      go_wp2_with fail
      go_ret
      exact ⟨by rw [HP2.out]; rfl, Sj, by rw [HP2.out]; exact DJ.out, (Stp.quiet HT.out).trans ST.out⟩
end Go.Proofs.Ythhmodbggngelaa
