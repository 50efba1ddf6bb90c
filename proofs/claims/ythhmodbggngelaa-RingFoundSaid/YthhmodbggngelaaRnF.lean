/- Layer 6: what the region's iterator hands on (begun). -/
import Derived.Test.YthhmodbggngelaaRnE
import Derived.Test.YthhmodbggngelaaSltI
import Derived.Test.YthhmodbggngelaaSltH
namespace Go.Proofs.Ythhmodbggngelaa
open Go.RowKit Go.Shelf
set_option linter.unusedVariables false
set_option maxRecDepth 100000

theorem slots_any (dv : Value) (hd : dv.oneCell' = true) (f c s : Int) (w : World) :
    Calls Try.prog 38 #[.agg #[dv, .int .i64 f, .int .i64 c], .int .i64 s] w fun e w' => e = .returned (.func (.func 52) #[] #[.pointer (some ⟨w.heap.size + 1, 0, none⟩), .pointer (some ⟨w.heap.size, 0, none⟩)]) ∧
      w' = (w.alloc (.cells #[dv, .int .i64 f, .int .i64 c] 43)).alloc (.cells #[.int .i64 s] 3) := by
  go_enter Try.func38, Try.ntmps38
  go_wp2
  go_ret
  exact ⟨rfl, rfl⟩
/-- A slot with the Seq whose place it stands at. -/
structure Sq where
  q : Nat
  s : St
  r : r5 s = true
/-- What stands at the place of a Seq. -/
def at5 (D : Dsk) (f c q : Nat) : Option St := read5 (D.has (f + q % c))
theorem read5_right {l : List UInt8} {s : St} (h : read5 l = some s) : r5 s = true := (read_is h).1
/-- The slots of the first k Seqs from q on. -/
def slots5 (D : Dsk) (f c q : Nat) : Nat → List (Nat × St)
  | 0 => []
  | k + 1 => slots5 D f c q k ++ (match at5 D f c (q + k) with | some s => [(q + k, s)] | none => [])
theorem len_slots5 (D : Dsk) (f c q k : Nat) : (slots5 D f c q k).length ≤ k := by
  induction k with
  | zero => exact Nat.le_refl _
  | succ k ih =>
    rw [slots5, List.length_append]
    cases at5 D f c (q + k) <;> simp <;> omega
/-- The iterator's and the disk's blocks stand. -/
def KpR (S : Nat → Prop) (b : Nat) (W W' : World) : Prop := Turn (fun k => ¬ (S k ∨ k = b ∨ k = b + 1)) W W'
theorem sl_of_blk {w : World} {g t n : Nat} {m : List UInt8} (h : Blk w g t (bv m)) (hl : m.length = n) (hn : n ≤ maxLen) : Sl w w.heap.size (.slice (some ⟨g, 0, none⟩) n n) m :=
  ⟨some ⟨g, 0, none⟩, n, by rw [hl], fun _ => ⟨_, rfl, rfl, h.lt, fun j c hj => by rw [Addr.add_mid, Nat.zero_add, h.cell, bv_at, hj]; rfl⟩, hn, (fun h => by cases h), by omega⟩
theorem grown_none {w w' : World} (t : Turn (fun _ => False) w w') : w.grownBy w' none := ⟨t.os, t.tape, t.output, t.size, fun k hk _ => t.block k hk (fun h => h)⟩
set_option maxHeartbeats 4000000 in
theorem slots_stops (S : Nat → Prop) (d : Nat) (D : Dsk) (hdead : D.dead = false) (f c q : Nat) (hf : f + c ≤ D.kept.length) (hc0 : 0 < c) (hc : c ≤ 16384) (hq : q ≤ 1152921504606846976) (b : Nat) (w0 : World) (hd : Dq S w0 d D)
    (hr : Blk w0 b 43 [.pointer (some ⟨d, 0, none⟩), .int .i64 f, .int .i64 c]) (hs : Blk w0 (b + 1) 3 [.int .i64 q]) (hSb : ¬ S b) :
    SeqStopsK Fence.wide 2 Try.prog 52 #[.pointer (some ⟨b + 1, 0, none⟩), .pointer (some ⟨b, 0, none⟩)] (fun x : Sq => #[.int .i64 x.q, .agg #[.int .i64 x.s.e, .int .i64 x.s.q, .bool x.s.f, .bool x.s.z, .string x.s.d]]) (KpR S b)
      (fun xs => xs.map (fun x => (x.q, x.s)) = slots5 D f c q c) (fun _ => True) c w0 := fun l J Jx W hW hJ hJx hY h0 => by
  have hmost := hd.1.most
  have HT0 : Hid (Turn (fun k => ¬ (S k ∨ k = b ∨ k = b + 1)) w0 W) := Lib.hid (Turn.of_below hW (fun k h1 h2 h3 => by omega))
  have HD := Lib.hid (fun X (h : Turn (fun k => ¬ (S k ∨ k = b ∨ k = b + 1)) w0 X) => hd.turn h (fun k hk hn => hn (.inl hk)))
  have HB := Lib.hid (fun X (h : Turn (fun k => ¬ (S k ∨ k = b ∨ k = b + 1)) w0 X) => hr.turn h (fun hn => hn (.inr (.inl rfl))))
  have HS := Lib.hid (fun X (h : Turn (fun k => ¬ (S k ∨ k = b ∨ k = b + 1)) w0 X) => hs.turn h (fun hn => hn (.inr (.inr rfl))))
  clear hW hd hr hs
  have x0 := (HS.out W HT0.out).cell 0
  simp only [List.getElem?_cons_zero] at x0
  refine callsIn_of_wp Try.func52 rfl trivial ?_ rfl
  simp only [Try.ntmps52, List.size_toArray, List.length_cons, List.length_nil, Nat.reduceAdd, Nat.reduceSub, Array.replicate_succ, Array.replicate_zero, List.push_toArray, List.append_toArray, List.nil_append, List.cons_append]
  gi_wp2
  gi_loopw [4] (fun v4 wr => ∃ (j : Nat) (pre : List Sq), j ≤ c ∧ v4 = .int .i64 ((q : Int) + j) ∧ Turn (fun k => ¬ (S k ∨ k = b ∨ k = b + 1)) w0 wr ∧ J pre wr ∧ pre.map (fun x => (x.q, x.s)) = slots5 D f c q j ∧ W.heap.size ≤ wr.heap.size) (fun v4 _ => c - (intOf v4 - q).toNat)
  case atStart => exact ⟨0, [], Nat.zero_le _, by simp, HT0.out, h0, rfl, Nat.le_refl _⟩
  case round =>
    obtain ⟨j, pre, hj, rfl, ht, hJs, hpre, hsz⟩ := hrel
    have HTR := Lib.hid ht
    have HPRE := Lib.hid hpre
    have HJS := Lib.hid hJs
    have y0 := (HS.out wr ht).cell 0
    have y1 := (HB.out wr ht).cell 0
    have y2 := (HB.out wr ht).cell 1
    have y3 := (HB.out wr ht).cell 2
    simp only [List.getElem?_cons_zero, List.getElem?_cons_succ] at y0 y1 y2 y3
    have e1 := wrap_of ((q : Int) + (c : Int)) (by omega) (by omega)
    have e2 := wrap_of ((q : Int) + (j : Int) + 1) (by omega) (by omega)
    clear ht hJs hpre
    by_cases hlt : j < c
    · have hlt2 : (q : Int) + (j : Int) < (q : Int) + (c : Int) := by omega
      gi_wp2_with fail
      refine wpIn_wide.2 ?_
      have DR := Lib.hid (HD.out wr HTR.out)
      have GB := Lib.hid (HB.out wr HTR.out)
      have hml := Nat.mod_lt (q + j) hc0
      have HPL : Hid (∀ X, Calls Try.prog 44 #[.agg #[.pointer (some ⟨d, 0, none⟩), .int .i64 f, .int .i64 c], .int .i64 ((q : Int) + (j : Int))] X fun e w' => ∃ v, e = .returned v ∧ (v = .int .i64 ((f + (q + j) % c : Nat) : Int) ∧ w' = (X.alloc (.cells #[.pointer (some ⟨d, 0, none⟩), .int .i64 f, .int .i64 c] 43)).drew)) := Lib.hid (fun X => (place_any _ rfl f c (q + j) (by omega) hc0 hc (by omega) X).mono (fun e w' h => ⟨_, h.1, rfl, h.2⟩))
      have HRD : Hid (∀ X, Dq S X d D → Calls Try.prog 53 #[.pointer (some ⟨d, 0, none⟩), .int .i64 ((f + (q + j) % c : Nat) : Int)] X fun e w' => ∃ v, e = .returned v ∧ ∃ g, v = .tuple #[.slice (some ⟨g, 0, none⟩) 128 128, .int .i64 0] ∧ Blk w' g 64 (bv (D.has (f + (q + j) % c))) ∧ Turn (fun _ => False) X w') := Lib.hid (fun X hX => (read_dq hX (f + (q + j) % c) (by omega) hdead).mono (fun e w' h => ⟨_, h.1, _, rfl, h.2.1, h.2.2⟩))
      have HLN := Lib.hid (DR.out.1.has_len (i := f + (q + j) % c) (by omega))
      have HSL : Hid (slots5 D f c q (j + 1) = slots5 D f c q j ++ (match read5 (D.has (f + (q + j) % c)) with | some s => [(q + j, s)] | none => [])) := Lib.hid rfl
      generalize D.has (f + (q + j) % c) = sec at *
      generalize f + (q + j) % c = pl at *
      refine wp_region_noPanic ?_
      refine wp_region_held_drew (S := fun X => X.cell? ⟨b, 0, none⟩ = some (.pointer (some ⟨d, 0, none⟩)) ∧ X.cell? ⟨b, 1, none⟩ = some (.int .i64 f) ∧ X.cell? ⟨b, 2, none⟩ = some (.int .i64 c)) (by kernel_rfl) ⟨GB.out.drew.cell 0, GB.out.drew.cell 1, GB.out.drew.cell 2⟩ (fun hHeld => ?_)
      -- region
      refine wpAnyH_take (i := 0) (v := ?_) rfl (by kernel_rfl) (by kernel_rfl) (by kernel_rfl) (fun _ _ _ h => h) (Or.inl ⟨by rfl, ?_⟩) (by assumption) ?_
      rotate_left 1
      · intro w' hSw
        go_simp
        all_goals first | with_reducible rfl | (rw [if_neg (by omega)]; done) | (rw [if_pos (by omega)]; done) | (rw [if_neg (by omega)]; with_reducible rfl) | (rw [if_pos (by omega)]; with_reducible rfl)
      try simp only [List.getElem_toArray, List.getElem_cons_zero, Act.put, List.setIfInBounds_toArray, List.set_cons_zero, List.set_cons_succ]
      refine wpAnyH_take (i := 1) (v := ?_) rfl (by kernel_rfl) (by kernel_rfl) (by kernel_rfl) (fun _ _ _ h => h) (Or.inl ⟨by rfl, ?_⟩) (by assumption) ?_
      rotate_left 1
      · intro w' hSw
        obtain ⟨p0, p1, p2⟩ := hSw
        go_simp
        all_goals first | with_reducible rfl | (rw [if_neg (by omega)]; done) | (rw [if_pos (by omega)]; done) | (rw [if_neg (by omega)]; with_reducible rfl) | (rw [if_pos (by omega)]; with_reducible rfl)
      try simp only [List.getElem_toArray, List.getElem_cons_zero, List.getElem_cons_succ, Act.put, List.setIfInBounds_toArray, List.set_cons_zero, List.set_cons_succ]
      refine wpAnyH_take (i := 2) (v := ?_) rfl (by kernel_rfl) (by kernel_rfl) (by kernel_rfl) (fun _ _ _ h => h) (Or.inl ⟨by rfl, ?_⟩) (by assumption) ?_
      rotate_left 1
      · intro w' hSw
        obtain ⟨p0, p1, p2⟩ := hSw
        go_simp
        all_goals first | with_reducible rfl | (rw [if_neg (by omega)]; done) | (rw [if_pos (by omega)]; done) | (rw [if_neg (by omega)]; with_reducible rfl) | (rw [if_pos (by omega)]; with_reducible rfl)
      try simp only [List.getElem_toArray, List.getElem_cons_zero, List.getElem_cons_succ, Act.put, List.setIfInBounds_toArray, List.set_cons_zero, List.set_cons_succ]
      refine wpAnyH_take (i := 3) (v := ?_) rfl (by kernel_rfl) (by kernel_rfl) (by kernel_rfl) (fun _ _ _ h => h) (Or.inl ⟨by rfl, ?_⟩) (by assumption) ?_
      rotate_left 1
      · intro w' hSw
        go_simp
        all_goals first | with_reducible rfl | (rw [if_neg (by omega)]; done) | (rw [if_pos (by omega)]; done) | (rw [if_neg (by omega)]; with_reducible rfl) | (rw [if_pos (by omega)]; with_reducible rfl)
      try simp only [List.getElem_toArray, List.getElem_cons_zero, List.getElem_cons_succ, Act.put, List.setIfInBounds_toArray, List.set_cons_zero, List.set_cons_succ]
      refine wpAnyH_ready (rs := [4]) (by kernel_rfl) (by simp) ?_
      refine AllReadyH.cons rfl (fun K hK => ?_) AllReadyH.nil
      refine step_call rfl 44 Try.f44 _ _ rfl Try.func44 (by kernel_rfl) (by kernel_rfl) _ _ (HPL.out _) (by go_simp) ?_
      rintro v4 w4 ⟨rfl, rfl⟩
      have TA := Lib.hid (((Turn.refl (fun _ => False) wr).drew.alloc (.cells #[.pointer (some ⟨d, 0, none⟩), .int .i64 f, .int .i64 c] 43)).drew)
      have GA := Lib.hid (GB.out.turn TA.out (fun h => h))
      refine hK.out _ _ ⟨GA.out.cell 0, GA.out.cell 1, GA.out.cell 2⟩ (fun hHeld => ?_)
      clear hK K
      try simp only [List.getElem_toArray, List.getElem_cons_zero, List.getElem_cons_succ, Act.put, List.setIfInBounds_toArray, List.set_cons_zero, List.set_cons_succ]
      refine wpAnyH_ready (rs := [5]) (by kernel_rfl) (by simp) ?_
      refine AllReadyH.cons rfl (fun K hK => ?_) AllReadyH.nil
      refine step_call rfl 53 Try.f53 _ _ rfl Try.func53 (by kernel_rfl) (by kernel_rfl) _ _ (HRD.out _ (DR.out.still TA.out)) (by go_simp) ?_
      rintro v5 w5 ⟨g, rfl, rb, t5⟩
      have T5 := Lib.hid (TA.out.trans t5)
      have GC := Lib.hid (GA.out.turn t5 (fun h => h))
      refine hK.out _ _ ⟨GC.out.cell 0, GC.out.cell 1, GC.out.cell 2⟩ (fun hHeld => ?_)
      clear hK K
      try simp only [List.getElem_toArray, List.getElem_cons_zero, List.getElem_cons_succ, Act.put, List.setIfInBounds_toArray, List.set_cons_zero, List.set_cons_succ]
      refine wpAnyH_take (i := 6) (v := ?_) rfl (by kernel_rfl) (by kernel_rfl) (by kernel_rfl) (fun _ _ _ h => h) (Or.inl ⟨by rfl, ?_⟩) (by assumption) ?_
      rotate_left 1
      · intro w' hSw
        go_simp
        all_goals first | with_reducible rfl | (rw [if_neg (by omega)]; done) | (rw [if_pos (by omega)]; done) | (rw [if_neg (by omega)]; with_reducible rfl) | (rw [if_pos (by omega)]; with_reducible rfl)
      try simp only [List.getElem_toArray, List.getElem_cons_zero, List.getElem_cons_succ, Act.put, List.setIfInBounds_toArray, List.set_cons_zero, List.set_cons_succ]
      refine wpAnyH_take (i := 7) (v := ?_) rfl (by kernel_rfl) (by kernel_rfl) (by kernel_rfl) (fun _ _ _ h => h) (Or.inl ⟨by rfl, ?_⟩) (by assumption) ?_
      rotate_left 1
      · intro w' hSw
        go_simp
        all_goals first | with_reducible rfl | (rw [if_neg (by omega)]; done) | (rw [if_pos (by omega)]; done) | (rw [if_neg (by omega)]; with_reducible rfl) | (rw [if_pos (by omega)]; with_reducible rfl)
      try simp only [List.getElem_toArray, List.getElem_cons_zero, List.getElem_cons_succ, Act.put, List.setIfInBounds_toArray, List.set_cons_zero, List.set_cons_succ]
      refine wpAnyH_take (i := 8) (v := ?_) rfl (by kernel_rfl) (by kernel_rfl) (by kernel_rfl) (fun _ _ _ h => h) (Or.inl ⟨by rfl, ?_⟩) (by assumption) ?_
      rotate_left 1
      · intro w' hSw
        go_simp
        all_goals first | with_reducible rfl | (rw [if_neg (by omega)]; done) | (rw [if_pos (by omega)]; done) | (rw [if_neg (by omega)]; with_reducible rfl) | (rw [if_pos (by omega)]; with_reducible rfl)
      try simp only [List.getElem_toArray, List.getElem_cons_zero, List.getElem_cons_succ, Act.put, List.setIfInBounds_toArray, List.set_cons_zero, List.set_cons_succ]
      refine wpAnyH_take (i := 9) (v := ?_) rfl (by kernel_rfl) (by kernel_rfl) (by kernel_rfl) (fun _ _ _ h => h) (Or.inl ⟨by rfl, ?_⟩) (by assumption) ?_
      rotate_left 1
      · intro w' hSw
        go_simp
        all_goals first | with_reducible rfl | (rw [if_neg (by omega)]; done) | (rw [if_pos (by omega)]; done) | (rw [if_neg (by omega)]; with_reducible rfl) | (rw [if_pos (by omega)]; with_reducible rfl)
      try simp only [List.getElem_toArray, List.getElem_cons_zero, List.getElem_cons_succ, Act.put, List.setIfInBounds_toArray, List.set_cons_zero, List.set_cons_succ]
      refine wpAnyH_take (i := 10) (v := ?_) rfl (by kernel_rfl) (by kernel_rfl) (by kernel_rfl) (fun _ _ _ h => h) (Or.inl ⟨by rfl, ?_⟩) (by assumption) ?_
      rotate_left 1
      · intro w' hSw
        go_simp
        all_goals first | with_reducible rfl | (rw [if_neg (by omega)]; done) | (rw [if_pos (by omega)]; done) | (rw [if_neg (by omega)]; with_reducible rfl) | (rw [if_pos (by omega)]; with_reducible rfl)
      try simp only [List.getElem_toArray, List.getElem_cons_zero, List.getElem_cons_succ, Act.put, List.setIfInBounds_toArray, List.set_cons_zero, List.set_cons_succ]
      refine wpAnyH_done (by kernel_rfl) ?_ _
      refine NoPanic.normal ?_
      -- region end
      have SL := Lib.hid (sl_of_blk rb HLN.out (by decide))
      clear hHeld rb t5
      gi_wp2_with fail
      refine ⟨trivial, ?_⟩
      gi_at_call 54
      refine (callsIn_wide.2 (read5_any _ sec _ SL.out)).mono ?_
      rintro e6 w6 ⟨rfl, hb6⟩
      have T6 := Lib.hid (T5.out.trans (Turn.of_below (S := fun _ => False) hb6 (fun k h1 h2 => by omega)))
      clear hb6
      cases hrd : read5 sec with
      | none =>
        have HS2 : Hid (slots5 D f c q (j + 1) = slots5 D f c q j) := Lib.hid (by rw [HSL.out, hrd]; simp)
        have T7 := Lib.hid (T6.out.alloc (.cells #[.int .i64 0, .int .i64 0, .bool false, .bool false, .string ⟨#[]⟩] 81))
        have J7 := Lib.hid (hJ _ _ _ none HJS.out (grown_none T7.out) (fun r e => by cases e))
        unfold rdo
        clear hrd
        gi_wp2
        refine ⟨(fun f h => by cases h), ?_⟩
        gi_wp2
        go_roundw
        case rel => exact ⟨j + 1, pre, hlt, by simp; omega, HTR.out.trans (T7.out.mono (fun k _ h => h.elim)), J7.out, by rw [HS2.out]; exact HPRE.out, Nat.le_trans hsz T7.out.size⟩
        case measure => simp [intOf]; omega
      | some s =>
        have HS2 : Hid (slots5 D f c q (j + 1) = slots5 D f c q j ++ [(q + j, s)]) := Lib.hid (by rw [HSL.out, hrd])
        have hrs := read5_right hrd
        have T7 := Lib.hid (T6.out.alloc (.cells #[.int .i64 s.e, .int .i64 s.q, .bool s.f, .bool s.z, .string s.d] 81))
        have J7 := Lib.hid (hJ _ _ _ none HJS.out (grown_none T7.out) (fun r e => by cases e))
        obtain ⟨fn, tmps, assign, body, hy, hR⟩ := hY pre ⟨q + j, s, hrs⟩ _ J7.out (by
          have h1 := len_slots5 D f c q j
          rw [← HPRE.out, List.length_map] at h1
          omega)
        have hy2 : (Instr.yield l #[.int .i64 ((q : Int) + (j : Int)), .agg #[.int .i64 s.e, .int .i64 s.q, .bool s.f, .bool s.z, .string s.d]]).run Try.prog (w6.alloc (.cells #[.int .i64 s.e, .int .i64 s.q, .bool s.f, .bool s.z, .string s.d] 81)) = .ok (.round l fn tmps assign body) (w6.alloc (.cells #[.int .i64 s.e, .int .i64 s.q, .bool s.f, .bool s.z, .string s.d] 81)) := hy
        unfold rdo stv
        clear hrd hy hY
        gi_wp2
        refine hR.mono ?_
        rintro e8 W3 (⟨rfl, hJ3, hk3⟩ | ⟨rfl, hJx3⟩)
        · gi_wp2
          go_roundw
          case rel => exact ⟨j + 1, pre ++ [⟨q + j, s, hrs⟩], hlt, by simp; omega, (HTR.out.trans (T7.out.mono (fun k _ h => h.elim))).trans hk3, hJ3, by rw [HS2.out, List.map_append, HPRE.out]; rfl, Nat.le_trans hsz (Nat.le_trans T7.out.size hk3.size)⟩
          case measure => simp [intOf]; omega
        · gi_wp2
          refine bodyPost_ret (results_none rfl _ _ _) rfl ?_
          exact ⟨⟨_, rfl⟩, .inr ⟨pre ++ [⟨q + j, s, hrs⟩], trivial, hJx3⟩⟩
    · obtain rfl : j = c := by omega
      gi_wp2
      go_end0
      exact ⟨⟨_, rfl⟩, .inl ⟨pre, HPRE.out, HJS.out⟩⟩
end Go.Proofs.Ythhmodbggngelaa
