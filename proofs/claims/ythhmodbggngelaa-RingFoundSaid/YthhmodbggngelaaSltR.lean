/- Layer 5: Join (begun: the round's arms are left). -/
import Derived.Test.YthhmodbggngelaaSltP
namespace Go.Proofs.Ythhmodbggngelaa
open Go.RowKit
set_option linter.unusedVariables false
set_option maxRecDepth 100000

structure Rc where
  q : Int
  n : Int
  d : ByteArray
def rcells (x : Rc) : List Value := [.int .i64 x.q, .int .i64 x.n, .string x.d]
theorem len_rcells (l : List Rc) : (l.flatMap rcells).length = l.length * 3 := by
  induction l with
  | nil => rfl
  | cons x l ih => rw [List.flatMap_cons, List.length_append, ih, List.length_cons]; simp [rcells]; omega
/-- Records of slots, from what has been read so far: records, an open one's bytes, the Seq behind, whether one is open. -/
def jn5 : List St → List Rc → List UInt8 → Int → Bool → List Rc × Int
  | [], rs, _, nx, _ => (rs, nx)
  | s :: l, rs, d, nx, op =>
    if s.f = op then (rs, nx)
    else if s.z then jn5 l (rs ++ [⟨nx, wrap64 (s.q + 1), ⟨(d ++ s.d.data.toList).toArray⟩⟩]) [] (wrap64 (s.q + 1)) false
    else jn5 l rs (d ++ s.d.data.toList) nx true
theorem Try.infoRecord : (Try.prog.info? 70).map (fun i => (i.zero, i.size, i.bytes)) = some (some (.agg #[.int .i64 0, .int .i64 0, .string ⟨#[]⟩]), 3, 32) := by kernel_rfl
theorem adv_r5 {R : List St} {i : Nat} {s : St} (h : adv5 R i = true) (hs : R[i]? = some s) : r5 s = true := by
  unfold adv5 at h
  rw [hs] at h
  simp only [Bool.and_eq_true] at h
  exact h.1
theorem Row5.take {w : World} {A : Option Addr} {cap : Nat} {R : List St} (h : Row5 w (.slice A R.length cap) R) (k : Nat) (hk : k ≤ R.length) (c : Nat) : Row5 w (.slice A k c) (R.take k) := by
  obtain ⟨A', cap', e, hr⟩ := h
  injection e with e1 e2 e3
  subst e1
  refine ⟨A, c, by rw [List.length_take, Nat.min_eq_left hk], fun hp => ?_⟩
  obtain ⟨b, rfl, hlt, hc⟩ := hr (by rw [List.length_take] at hp; omega)
  refine ⟨b, rfl, hlt, fun j s hj i hi => hc j s ?_ i hi⟩
  rw [List.getElem?_take] at hj
  split at hj
  · exact hj
  · cases hj
set_option maxHeartbeats 2000000 in
theorem join5_none (R : List St) (hR : R.length ≤ 1000000) (v : Value) (w : World) (h1 : Row5 w v R) (h0 : adv5 R 0 = false) :
    Calls Try.prog 24 #[v] w fun r w' => r = .returned (.tuple #[.slice none 0 0, .int .i64 0]) ∧ Below w.heap.size w w' := by
  have HF := Lib.hid (fun W (h : Row5 W v R) => following5 R hR v W h)
  have H1 := Lib.hid h1
  obtain ⟨A1, c1, rfl, r1⟩ := h1
  clear r1
  have HN : Hid (R.length ≤ 1000000) := Lib.hid hR
  generalize R.length = n at *
  go_enter Try.func24, Try.ntmps24
  go_wp2_with fail
  refine (HF.out _ H1.out).mono ?_
  rintro e w1 ⟨k, rfl, hk, ha, hb, hbl⟩
  obtain rfl : k = 0 := by
    rcases Nat.eq_zero_or_pos k with h | h
    · exact h
    · have := ha 0 h; rw [h0] at this; cases this
  go_wp2
  go_ret2
  exact ⟨rfl, hbl⟩
end Go.Proofs.Ythhmodbggngelaa
/- Layer 5: Join, its loop (begun). -/
namespace Go.Proofs.Ythhmodbggngelaa
open Go.RowKit
set_option linter.unusedVariables false
set_option maxRecDepth 100000

/-- Own rows of blocks of different kinds lie apart. -/
theorem own_apart5 {w : World} {base base' e e' size size' n n' : Nat} {v v' : Value} {xs xs' : List Value} (h : w.ownsRow base e size v n xs) (h' : w.ownsRow base' e' size' v' n' xs') (hne : e ≠ e') : ∀ k, v.ownBlock = some k → ¬ v'.ownBlock = some k := by
  intro k hk hk'
  rcases h.2 with ⟨rfl, _⟩ | ⟨g, cap, cur, rfl, _, hgg, _⟩
  · simp [Value.ownBlock] at hk
  · rcases h'.2 with ⟨rfl, _⟩ | ⟨g', cap', cur', rfl, _, hgg', _⟩
    · simp [Value.ownBlock] at hk'
    · simp [Value.ownBlock] at hk hk'
      subst hk
      subst hk'
      rw [hgg] at hgg'
      injection hgg' with h1
      injection h1 with h1 h2
      exact hne h2
theorem own_side5 {w w' : World} {base base' e e' size size' n n' : Nat} {v v' : Value} {xs xs' : List Value} (h : w.ownsRow base e size v n xs) (h' : w.ownsRow base' e' size' v' n' xs') (hne : e ≠ e') (ht : Turn (fun k => v'.ownBlock = some k) w w') : w'.ownsRow base e size v n xs :=
  World.ownsRow.turn5 h ht (fun k hk hk' => own_apart5 h h' hne k hk hk')
theorem own_lt5 {w : World} {base e size n : Nat} {v : Value} {xs : List Value} (h : w.ownsRow base e size v n xs) : ∀ k, v.ownBlock = some k → k < w.heap.size := by
  intro k hk
  rcases h.2 with ⟨rfl, _⟩ | ⟨g, cap, cur, rfl, _, hgg, _⟩
  · simp [Value.ownBlock] at hk
  · simp [Value.ownBlock] at hk
    subst hk
    exact (Array.getElem?_eq_some_iff.1 hgg).1
theorem own_blk5 {w : World} {base e size n g t : Nat} {v : Value} {xs cs : List Value} (h : w.ownsRow base e size v n xs) (hb : Blk w g t cs) (hne : t ≠ e) : ¬ v.ownBlock = some g := by
  intro hk
  rcases h.2 with ⟨rfl, _⟩ | ⟨g', cap, cur, rfl, _, hgg, _⟩
  · simp [Value.ownBlock] at hk
  · simp [Value.ownBlock] at hk
    subst hk
    unfold Blk at hb
    rw [hb] at hgg
    injection hgg with h1
    injection h1 with h1 h2
    exact hne h2
/-- A row of which nothing is kept but its room. -/
theorem own_none5 {w : World} {base e size n cap : Nat} {A : Option Addr} {xs : List Value} (h : w.ownsRow base e size (.slice A n cap) n xs) : w.ownsRow base e size (.slice A 0 cap) 0 [] := by
  refine ⟨by simp, ?_⟩
  rcases h.2 with ⟨h1, h2⟩ | ⟨g, c, cur, h1, h2, h3, h4, h5, h6, h7⟩
  · injection h1 with h1 h3 h4
    exact .inl ⟨by rw [h1, h4], rfl⟩
  · injection h1 with h1 h8 h9
    exact .inr ⟨g, c, cur, by rw [h1, h9], h2, h3, Nat.zero_le _, h5, h6, by simp⟩

set_option maxHeartbeats 4000000 in
theorem join5_some (R : List St) (hR : R.length ≤ 1000000) (A1 : Option Addr) (c1 : Nat) (hcap : R.length ≤ c1) (w : World) (h1 : Row5 w (.slice A1 R.length c1) R) (s0 : St) (h0 : R[0]? = some s0) (hA0 : adv5 R 0 = true) :
    Calls Try.prog 24 #[.slice A1 R.length c1] w fun r w' => ∃ k J, 0 < k ∧ k ≤ R.length ∧ (∀ i, i < k → adv5 R i = true) ∧ adv5 R k = false ∧ J = jn5 (R.take k) [] [] s0.q false ∧
      ∃ v', r = .returned (.tuple #[v', .int .i64 J.2]) ∧ w'.ownsRow w.heap.size 70 3 v' J.1.length (J.1.flatMap rcells) ∧ Below w.heap.size w w' := by
  obtain ⟨iR, hiR, hr1, hr2, hr3⟩ := info_parts Try.infoRecord
  obtain ⟨iB, hiB, hb1, hb2, hb3⟩ := info_parts Try.info5
  have HF := Lib.hid (fun W (h : Row5 W (.slice A1 R.length c1) R) => following5 R hR _ W h)
  have H1 := Lib.hid h1
  obtain ⟨A1', c1', hsl, r1⟩ := h1
  injection hsl with hs1 hs2 hs3
  subst hs1
  clear hs2 hs3
  obtain ⟨b, hA1, hlt, hc⟩ := r1 (by have := (List.getElem?_eq_some_iff.1 h0).1; omega)
  clear r1
  obtain rfl : A1 = some ⟨b, 0, none⟩ := hA1
  have HQ := Lib.hid hc
  clear hc
  obtain ⟨n, hn⟩ : ∃ n, R.length = n := ⟨_, rfl⟩
  have HN := Lib.hid hn
  rw [hn] at hR hcap HF H1 ⊢
  clear hn
  go_enter Try.func24, Try.ntmps24
  go_wp2_with fail
  refine (HF.out _ H1.out).mono ?_
  rintro e w1 ⟨k, rfl, hk, ha, hb, hbl⟩
  have hk0 : 0 < k := by
    rcases Nat.eq_zero_or_pos k with h | h
    · rw [h, hA0] at hb; cases hb
    · exact h
  have HK := Lib.hid (And.intro hk (And.intro ha hb))
  have HBL := Lib.hid hbl
  have hk0i : (0 : Int) < (k : Int) := by omega
  have hk1i : (k : Int) ≤ (n : Int) := by omega
  have hk3 : (k : Int) ≤ (c1 : Int) := by omega
  have hk4 : k ≤ c1 := by omega
  have hk2 : ((k : Int) == 0) = false := by simp; omega
  have x1 := (hbl.cell (p := ⟨b, 1, none⟩) hlt).trans (HQ.out 0 s0 h0 1 (by decide))
  simp only [scells, List.getElem?_cons_zero, List.getElem?_cons_succ] at x1
  clear ha hb
  go_wp2
  obtain ⟨J, hJ⟩ : ∃ J, jn5 (R.take k) [] [] s0.q false = J := ⟨_, rfl⟩
  have HJ := Lib.hid hJ
  go_loopw [4, 5, 6, 7, 23] (fun v4 v5 v6 v7 vi wr => ∃ (j : Nat) (RS : List Rc) (D : List UInt8) (nx : Int) (op : Bool) (A4 : Option Addr) (c4 : Nat) (A5 : Option Addr) (c5 : Nat), j ≤ k ∧ v4 = .slice A4 RS.length c4 ∧ v5 = .slice A5 D.length c5 ∧ v6 = .int .i64 nx ∧ v7 = .bool op ∧ vi = .int .i64 j ∧
    wr.ownsRow w.heap.size 70 3 (.slice A4 RS.length c4) RS.length (RS.flatMap rcells) ∧ wr.ownsRow w.heap.size 5 1 (.slice A5 D.length c5) D.length (bv D) ∧ jn5 ((R.take k).drop j) RS D nx op = J ∧ RS.length ≤ j ∧ D.length ≤ 108 * j ∧ Below w.heap.size w wr) (fun _ _ _ _ vi _ => k - (intOf vi).toNat)
  case atStart => exact ⟨0, [], [], s0.q, false, none, 0, none, 0, Nat.zero_le _, rfl, rfl, rfl, rfl, rfl, World.ownsRow_nil _ _ _ _, World.ownsRow_nil _ _ _ _, by rw [List.drop_zero]; exact HJ.out, Nat.le_refl _, Nat.le_refl _, HBL.out⟩
  case round =>
    obtain ⟨j, RS, D, nx, op, A4, c4, A5, c5, hj, rfl, rfl, rfl, rfl, rfl, o4, o5, hJn, hl1, hl2, hbr⟩ := hrel
    have O4 := Lib.hid o4
    have O5 := Lib.hid o5
    have HJN := Lib.hid hJn
    have HBR := Lib.hid hbr
    clear o4 o5 hJn
    by_cases hlt2 : j < k
    · obtain ⟨s, hs⟩ : ∃ s, R[j]? = some s := ⟨_, List.getElem?_eq_getElem (by rw [HN.out]; omega)⟩
      have hr5 := adv_r5 (HK.out.2.1 j hlt2) hs
      have hds := (r5_yes hr5).2.2.2.2
      have hqs := (r5_yes hr5).2.2.2.1
      have hqs0 := (r5_yes hr5).2.2.1
      have HDR : Hid ((R.take k).drop j = s :: (R.take k).drop (j + 1)) := Lib.hid (by
        have h3 : (R.take k)[j]? = some s := by rw [List.getElem?_take_of_lt hlt2]; exact hs
        obtain ⟨h4, h5⟩ := List.getElem?_eq_some_iff.1 h3
        rw [← h5]; exact List.drop_eq_getElem_cons h4)
      have y0 := (hbr.cell (p := ⟨b, j * 5 + 0, none⟩) hlt).trans (HQ.out j s hs 0 (by decide))
      have y1 := (hbr.cell (p := ⟨b, j * 5 + 1, none⟩) hlt).trans (HQ.out j s hs 1 (by decide))
      have y2 := (hbr.cell (p := ⟨b, j * 5 + 2, none⟩) hlt).trans (HQ.out j s hs 2 (by decide))
      have y3 := (hbr.cell (p := ⟨b, j * 5 + 3, none⟩) hlt).trans (HQ.out j s hs 3 (by decide))
      have y4 := (hbr.cell (p := ⟨b, j * 5 + 4, none⟩) hlt).trans (HQ.out j s hs 4 (by decide))
      simp only [scells, List.getElem?_cons_zero, List.getElem?_cons_succ, Nat.add_zero] at y0 y1 y2 y3 y4
      have hi1 : (j : Int) < (k : Int) := by omega
      have hi2 : (0 : Int) ≤ (j : Int) := by omega
      have z3 := wrap_of ((j : Int) + 1) (by omega) (by omega)
      have z4 := wrap_of (s.q + 1) (by omega) (by omega)
      by_cases hf : s.f = op
      · have hf2 : (s.f == op) = true := by simp [hf]
        have HJ2 : Hid (J = (RS, nx)) := Lib.hid (by rw [← HJN.out, HDR.out, jn5, if_pos hf])
        clear hf hs
        go_wp2
        go_ret2
        exact ⟨k, J, hk0, HK.out.1, HK.out.2.1, HK.out.2.2, HJ.out.symm, .slice A4 RS.length c4, by rw [HJ2.out]; rfl, by rw [HJ2.out]; exact O4.out.alloc _, HBR.out.alloc HBR.out.size _⟩
      · have hf2 : (s.f == op) = false := by rw [beq_eq_false_iff_ne]; exact hf
        have z5 : wrap64 (s.q + 1) = s.q + 1 := (IntWalk.i64_left _).symm.trans z4
        have HHS := hbr.size
        have G0 := Lib.hid (Blk.new wr 81 (scells s))
        obtain ⟨D2, hD2⟩ : ∃ D2, D ++ s.d.data.toList = D2 := ⟨_, rfl⟩
        have L2 : Hid (D.length + s.d.size = D2.length) := Lib.hid (by rw [← hD2, List.length_append, Array.length_toList]; rfl)
        have E2 : Hid (bv D ++ Lib.strCells s.d = bv D2) := Lib.hid (by rw [← hD2, bv_app]; rfl)
        have HD2 := Lib.hid hD2
        have l2 : D2.length ≤ 108 * (j + 1) := by have := L2.out; omega
        clear hD2
        rcases Bool.eq_false_or_eq_true s.z with hz | hz
        · rw [hz] at y3
          have G0 := Lib.hid (Blk.new wr 81 [.int .i64 s.e, .int .i64 s.q, .bool s.f, .bool true, .string s.d])
          go_wp2_with (first
            | (at_builtin; refine Lib.wpList_append_own_string _ rfl _ _ 53 9 rfl w.heap.size 5 iB Try.underlying53 Try.underlying9 hiB hb1 hb2 hb3 _ D.length _ rfl (O5.out.alloc _) s.d rfl (by unfold maxLen; omega) (by omega) (by rw [World.size_alloc]; omega) ?_
               intro v7 w7 ho hg _
               rw [L2.out, E2.out] at ho
               obtain ⟨A7, c7, rfl, hcv⟩ := made_str D2 ho
               have O7 := Lib.hid ho
               have T7 := Lib.hid (grown_turn5 hg)
               have P7 := Lib.hid (own_side5 (O4.out.alloc (.cells #[.int .i64 s.e, .int .i64 s.q, .bool s.f, .bool true, .string s.d] 81)) (O5.out.alloc (.cells #[.int .i64 s.e, .int .i64 s.q, .bool s.f, .bool true, .string s.d] 81)) (by decide) T7.out)
               have K7 := Lib.hid (G0.out.turn T7.out (fun h => by have := own_lt5 O5.out _ h; omega))
               have B7 := Lib.hid ((HBR.out.alloc HHS (.cells #[.int .i64 s.e, .int .i64 s.q, .bool s.f, .bool true, .string s.d] 81)).trans (T7.out.below (B := w.heap.size) (by rw [World.size_alloc]; omega) (fun k hk => World.ownsRow.base5 O5.out k hk)))
               have S7 := B7.out.size
               have c1_7 := K7.out.cell 1
               have c3_7 := K7.out.cell 3
               simp only [List.getElem?_cons_zero, List.getElem?_cons_succ] at c1_7 c3_7
               clear ho hg)
            | (at_builtin; refine wpList_append_own _ rfl _ _ 35 rfl w.heap.size 70 iR _ 3 32 Try.underlying35 hiR hr1 hr2 hr3 rfl (by decide) (.slice A4 RS.length c4) RS.length _ rfl (P7.out.alloc _) ⟨w7.heap.size, 0, none⟩ 1 1 [.int .i64 nx, .int .i64 (s.q + 1), .string ⟨D2.toArray⟩] rfl rfl (fun k u hu => by
                 rw [Addr.add_mid, Nat.zero_add]; exact ((Blk.new w7 70 [.int .i64 nx, .int .i64 (s.q + 1), .string ⟨D2.toArray⟩]).cell k).trans hu) (by simp [Value.oneCell']) (by unfold maxLen; omega) (by omega) (by rw [World.size_alloc]; omega) ?_
               intro v3 w3 ho3 hg3 hn3
               clear hn3
               have O3 := Lib.hid ho3
               have T3 := Lib.hid (grown_turn5 hg3)
               have P3 := Lib.hid (own_side5 (O7.out.alloc (.cells #[.int .i64 nx, .int .i64 (s.q + 1), .string ⟨D2.toArray⟩] 70)) (P7.out.alloc (.cells #[.int .i64 nx, .int .i64 (s.q + 1), .string ⟨D2.toArray⟩] 70)) (by decide) T3.out)
               have K3 := Lib.hid ((K7.out.alloc (.cells #[.int .i64 nx, .int .i64 (s.q + 1), .string ⟨D2.toArray⟩] 70)).turn T3.out (own_blk5 P7.out K7.out (by decide)))
               have B3 := Lib.hid ((B7.out.alloc S7 (.cells #[.int .i64 nx, .int .i64 (s.q + 1), .string ⟨D2.toArray⟩] 70)).trans (T3.out.below (B := w.heap.size) (by rw [World.size_alloc]; omega) (fun k hk => World.ownsRow.base5 P7.out k hk)))
               have c1_3 := K3.out.cell 1
               simp only [List.getElem?_cons_zero, List.getElem?_cons_succ] at c1_3
               clear ho3 hg3))
          obtain ⟨A3, c3, rfl⟩ : ∃ A3 c3, v3 = .slice A3 (RS.length + 1) c3 := by
            rcases O3.out.2 with ⟨_, e2⟩ | ⟨b, c, cur, e1, _⟩
            · omega
            · exact ⟨_, _, e1⟩
          have hc0 : (0 : Int) ≤ (c7 : Int) := by omega
          refine wp_region_still_lit (by kernel_rfl) (by kernel_rfl) ?_
          change wpStill _ _ (World.drew _) _ _ _
          repeat still_step
          refine wpStill_nil ?_
          change Exit.inBlock _ _ _ _ (World.drew _)
          go_wp2
          go_roundw
          case rel =>
            refine ⟨j + 1, RS ++ [⟨nx, wrap64 (s.q + 1), ⟨D2.toArray⟩⟩], [], s.q + 1, false, A3, c3, A7, c7, hlt2, by rw [List.length_append]; rfl, rfl, rfl, rfl, by simp, ?_, (own_none5 P3.out).drew, ?_, by rw [List.length_append, List.length_singleton]; omega, by simp, B3.out.drew⟩
            · rw [List.length_append, List.flatMap_append, z5]
              exact O3.out.drew
            · rw [← HJN.out, HDR.out, jn5, if_neg hf, hz, HD2.out, z5]
              rfl
          case measure => simp [intOf]; omega
        · rw [hz] at y3
          have G0 := Lib.hid (Blk.new wr 81 [.int .i64 s.e, .int .i64 s.q, .bool s.f, .bool false, .string s.d])
          go_wp2_with (first
            | (at_builtin; refine Lib.wpList_append_own_string _ rfl _ _ 53 9 rfl w.heap.size 5 iB Try.underlying53 Try.underlying9 hiB hb1 hb2 hb3 _ D.length _ rfl (O5.out.alloc _) s.d rfl (by unfold maxLen; omega) (by omega) (by rw [World.size_alloc]; omega) ?_
               intro v7 w7 ho hg _
               rw [L2.out, E2.out] at ho
               obtain ⟨A7, c7, rfl, hcv⟩ := made_str D2 ho
               have O7 := Lib.hid ho
               have T7 := Lib.hid (grown_turn5 hg)
               have P7 := Lib.hid (own_side5 (O4.out.alloc (.cells #[.int .i64 s.e, .int .i64 s.q, .bool s.f, .bool false, .string s.d] 81)) (O5.out.alloc (.cells #[.int .i64 s.e, .int .i64 s.q, .bool s.f, .bool false, .string s.d] 81)) (by decide) T7.out)
               have K7 := Lib.hid (G0.out.turn T7.out (fun h => by have := own_lt5 O5.out _ h; omega))
               have B7 := Lib.hid ((HBR.out.alloc HHS (.cells #[.int .i64 s.e, .int .i64 s.q, .bool s.f, .bool false, .string s.d] 81)).trans (T7.out.below (B := w.heap.size) (by rw [World.size_alloc]; omega) (fun k hk => World.ownsRow.base5 O5.out k hk)))
               have S7 := B7.out.size
               have c1_7 := K7.out.cell 1
               have c3_7 := K7.out.cell 3
               simp only [List.getElem?_cons_zero, List.getElem?_cons_succ] at c1_7 c3_7
               clear ho hg hcv c1_7))
          go_roundw
          case rel =>
            refine ⟨j + 1, RS, D2, nx, true, A4, c4, A7, c7, hlt2, rfl, rfl, rfl, rfl, by simp, P7.out, O7.out, ?_, by omega, by omega, B7.out⟩
            rw [← HJN.out, HDR.out, jn5, if_neg hf, hz, HD2.out]
            rfl
          case measure => simp [intOf]; omega
    · obtain rfl : j = k := by omega
      have HJ2 : Hid (J = (RS, nx)) := Lib.hid (by rw [← HJN.out, List.drop_eq_nil_of_le (by rw [List.length_take]; omega)]; rfl)
      go_wp2
      go_ret2
      exact ⟨j, J, hk0, HK.out.1, HK.out.2.1, HK.out.2.2, HJ.out.symm, .slice A4 RS.length c4, by rw [HJ2.out]; rfl, by rw [HJ2.out]; exact O4.out, HBR.out⟩
end Go.Proofs.Ythhmodbggngelaa
