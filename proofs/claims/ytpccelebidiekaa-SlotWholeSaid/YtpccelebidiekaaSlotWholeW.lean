/- The walk of ambrylaw05.SlotWhole. -/
import Derived.Test.YtpccelebidiekaaSltV
import Derived.Test.YtpccelebidiekaaFrameR
namespace Go.Proofs.Ytpccelebidiekaa
open Go.RowKit
set_option linter.unusedVariables false
set_option maxRecDepth 100000

theorem Try.infoInt_ : (Try.prog.info? 3).map (fun i => (i.zero, i.size, i.bytes)) = some (some (.int .i64 0), 1, 8) := by kernel_rfl
theorem whole_key (n q g : Int) : (20 < n) ∨ (n ≤ 20 ∧ q < 0) ∨ (n ≤ 20 ∧ 0 ≤ q ∧ 1125899906842624 < q) ∨ (n ≤ 20 ∧ 0 ≤ q ∧ q ≤ 1125899906842624 ∧ g < 0) ∨ (n ≤ 20 ∧ 0 ≤ q ∧ q ≤ 1125899906842624 ∧ 0 ≤ g) := by omega
/-- Where the guards let nothing through. -/
theorem whole_out (A : Option Addr) (n c : Nat) (e q g : Int) (w : World) (h : (20 < (n : Int)) ∨ ((n : Int) ≤ 20 ∧ q < 0) ∨ ((n : Int) ≤ 20 ∧ 0 ≤ q ∧ 1125899906842624 < q) ∨ ((n : Int) ≤ 20 ∧ 0 ≤ q ∧ q ≤ 1125899906842624 ∧ g < 0)) :
    Calls Try.prog 7 #[.slice A n c, .int .i64 e, .int .i64 q, .int .i64 g] w fun e w' => e = .returned (.bool true) ∧ Below w.heap.size w w' := by
  have HL := Lib.hid lives5_any
  rcases h with h | ⟨h1, h⟩ | ⟨h1, h2, h⟩ | ⟨h1, h2, h3, h⟩
  all_goals
    go_enter Try.func7, Try.ntmps7
    go_wp2_with fail
    refine (HL.out _).mono ?_
    rintro e1 w1 ⟨rfl, hb⟩
    go_wp2_with fail
    go_ret
    exact ⟨rfl, hb⟩
theorem own_up5 {w w' : World} {base e size n : Nat} {v : Value} {xs : List Value} (h : w.ownsRow base e size v n xs) (hb : Below w.heap.size w w') : w'.ownsRow base e size v n xs :=
  World.ownsRow.turn5 h (Turn.of_below (S := fun _ => False) hb (fun k h1 h2 => by omega)) (fun _ _ h => h)
theorem still_take {P : Program} {ops : Array Oper} {w : World} {Q : Act → Prop} {a : Act} {o : Oper} {rest : List Oper} (v : Value) (hw : Region.wanted o (yielded ops a.tmps) = true) (hv : (execOp a.eval o).run P w = .ok (.value v) w)
    (h : wpStill P ops w Q rest (a.put o.dst v)) : wpStill P ops w Q (o :: rest) a := by
  unfold wpStill
  rw [if_pos hw]
  unfold Oper.still
  rw [hv, Oper.stillUpon_value]
  exact h
theorem still_skip {P : Program} {ops : Array Oper} {w : World} {Q : Act → Prop} {a : Act} {o : Oper} {rest : List Oper} (hw : Region.wanted o (yielded ops a.tmps) = false) (h : wpStill P ops w Q rest (a.put o.dst undef)) : wpStill P ops w Q (o :: rest) a := by
  unfold wpStill
  rw [hw]
  exact h
theorem flat_at3 (l : List Rc) (j i : Nat) (s : Rc) (hs : l[j]? = some s) (hi : i < 3) : (l.flatMap rcells)[j * 3 + i]? = (rcells s)[i]? := by
  induction l generalizing j with
  | nil => simp at hs
  | cons x l ih =>
    rw [List.flatMap_cons]
    cases j with
    | zero =>
      simp only [List.getElem?_cons_zero, Option.some.injEq] at hs
      subst hs
      rw [List.getElem?_append_left (by simp [rcells]; omega)]
      simp
    | succ j =>
      simp only [List.getElem?_cons_succ] at hs
      rw [List.getElem?_append_right (by simp [rcells]; omega), ← ih j hs]
      congr 1
      simp [rcells]; omega
/-- What the second loop has found among the first i records. -/
def L2I (q : Int) (E : List Int) (K i : Nat) (vw vn : Value) : Prop := ∃ (M : Nat) (wv : Int), M = min i K ∧ wv = (if M = 0 then q else E.getD (M - 1) 0) ∧ vw = .int .i64 M ∧ vn = .int .i64 wv
def ivs (l : List Int) : List Value := l.map (.int .i64)
theorem take_snoc_ {α : Type} {L : List α} {j : Nat} {S : α} (h : L[j]? = some S) : L.take (j + 1) = L.take j ++ [S] := by
  rw [List.take_add_one, h]; rfl
set_option maxHeartbeats 8000000 in
theorem slotWhole_in (v : Value) (L : List ByteArray) (e q g : Int) (w : World) (hs : Strs w w.heap.size v L) (hn : L.length ≤ 20) (hq0 : 0 ≤ q) (hq1 : q ≤ 1125899906842624) (hg : 0 ≤ g) (hg1 : g ≤ 9223372036854775807) :
    Calls Try.prog 7 #[v, .int .i64 e, .int .i64 q, .int .i64 g] w fun e w' => e = .returned (.bool true) ∧ Below w.heap.size w w' := by
  have HL := Lib.hid lives5_any
  obtain ⟨iI, hiI, jz1, jz2, jz3⟩ := info_parts Try.infoInt_
  obtain ⟨iS, hiS, hs1, hs2, hs3⟩ := info_parts Try.infoSlot
  obtain ⟨A, cap, rfl, hr⟩ := hs
  have HR := Lib.hid hr
  clear hr
  obtain ⟨n, hN⟩ : ∃ n, L.length = n := ⟨_, rfl⟩
  have HN := Lib.hid hN
  rw [hN] at hn ⊢
  clear hN
  have hni : (n : Int) ≤ 20 := by omega
  go_enter Try.func7, Try.ntmps7
  go_wp2_with fail
  go_loopw [9, 10, 11, 12] (fun va ve vt vi wr => ∃ (j : Nat) (A9 : Option Addr) (c9 : Nat) (A10 : Option Addr) (c10 : Nat), j ≤ n ∧ vi = .int .i64 j ∧ va = .slice A9 (tot (L.take j)) c9 ∧ ve = .slice A10 j c10 ∧ vt = .int .i64 (q + (tot (L.take j) : Int)) ∧
    wr.ownsRow w.heap.size 23 5 (.slice A9 (tot (L.take j)) c9) (tot (L.take j)) ((rows5 e q (L.take j)).flatMap scells) ∧ wr.ownsRow w.heap.size 3 1 (.slice A10 j c10) j (ivs (ends5 q (L.take j))) ∧ (0 < j → 0 ≤ e ∧ e ≤ 2147483647) ∧ tot (L.take j) ≤ 152 * j ∧ Below w.heap.size w wr) (fun _ _ _ vi _ => n - (intOf vi).toNat)
  case atStart => exact ⟨0, none, 0, none, 0, Nat.zero_le _, rfl, rfl, rfl, by simp [tot], World.ownsRow_nil _ _ _ _, World.ownsRow_nil _ _ _ _, (fun h => absurd h (by decide)), by simp [tot], Below.refl _ _⟩
  case round =>
    obtain ⟨j, A9, c9, A10, c10, hj, rfl, rfl, rfl, rfl, o9, o10, hee, ht, hbl⟩ := hrel
    have O9 := Lib.hid o9
    have O10 := Lib.hid o10
    have HE := Lib.hid hee
    have HBL := Lib.hid hbl
    clear o9 o10 hee
    by_cases hlt : j < n
    · obtain ⟨S, hS⟩ : ∃ S, L[j]? = some S := ⟨_, List.getElem?_eq_getElem (by rw [HN.out]; omega)⟩
      obtain ⟨⟨bl, ol, sl⟩, rfl, hsp, hbk, hcl⟩ := HR.out (by rw [HN.out]; omega)
      obtain rfl : sl = none := hsp
      have x0 := (hbl.cell (p := (⟨bl, ol, none⟩ : Addr).add j) (by rw [block_add]; exact hbk)).trans (hcl j S hS)
      rw [Addr.add_mid] at x0
      have hi1 : (j : Int) < (n : Int) := by omega
      have hi2 : (0 : Int) ≤ (j : Int) := by omega
      have z3 := wrap_of ((j : Int) + 1) (by omega) (by omega)
      have TS := Lib.hid (take_snoc_ hS)
      obtain ⟨t, hT⟩ : ∃ t, tot (L.take j) = t := ⟨_, rfl⟩
      rw [hT] at ht
      have HT := Lib.hid hT
      clear hT hcl hS
      by_cases hc : Cuts S e (q + (t : Int))
      · obtain ⟨p, hp⟩ : ∃ p, (pcs5 S).length = p := ⟨_, rfl⟩
        have hcut := cut_yes S e (q + (t : Int)) hc
        have hee2 := And.intro hc.2.1 hc.2.2.1
        have hp2 := pcs_few S hc.1
        rw [hp] at hcut hp2
        have HA := Lib.hid hcut
        have lx : (mk5 (raw5 e (q + (t : Int)) (pcs5 S))).length = p := by rw [len_mk5, len_raw5, hp]
        have LX := Lib.hid lx
        have HTp : Hid (tot (L.take (j + 1)) = t + p) := Lib.hid (by rw [TS.out, tot_snoc, HT.out]; unfold pn; rw [hp])
        have HRW : Hid (rows5 e q (L.take (j + 1)) = rows5 e q (L.take j) ++ mk5 (raw5 e (q + (t : Int)) (pcs5 S))) := Lib.hid (by rw [TS.out, rows_snoc, HT.out])
        have HEN : Hid (ends5 q (L.take (j + 1)) = ends5 q (L.take j) ++ [q + (t : Int) + (p : Int)]) := Lib.hid (by rw [TS.out, ends_snoc, HT.out]; unfold pn; rw [hp])
        clear hcut hc lx hp
        generalize mk5 (raw5 e (q + (t : Int)) (pcs5 S)) = X at *
        rw [HT.out] at O9 ⊢
        generalize rows5 e q (L.take j) = R0 at *
        generalize ends5 q (L.take j) = E0 at *
        have z4 := wrap_of (q + (t : Int) + (p : Int)) (by omega) (by omega)
        go_wp2_with fail
        refine (HA.out _).mono ?_
        rintro e1 w1 ⟨b1, c1, rfl, o1, m1, n1, hb1⟩
        have O1 := Lib.hid o1
        have B1 := Lib.hid (bthen HBL.out HBL.out.size hb1)
        have Z1 : w.heap.size ≤ w1.heap.size := B1.out.size
        have O9b := Lib.hid (own_up5 O9.out hb1)
        have O10b := Lib.hid (own_up5 O10.out hb1)
        clear o1 hb1
        go_wp2_with (first
          | (at_builtin; refine wpList_append_own _ rfl _ _ 39 rfl w.heap.size 23 iS _ 5 40 Try.underlying39 hiS hs1 hs2 hs3 rfl (by decide) (.slice A9 t c9) t _ rfl O9b.out ⟨b1, 0, none⟩ p c1 (X.flatMap scells) rfl (by rw [len_scells, LX.out]) (own_news5 O1.out (Below.refl w1.heap.size w1) m1) (one_scells _) (by unfold maxLen; omega) (by omega) Z1 ?_
             intro v4 w4 ho4 hg4 hn4
             clear hn4
             have O4 := Lib.hid ho4
             have T4 := Lib.hid (grown_turn5 hg4)
             have B4 := Lib.hid (B1.out.trans (T4.out.below (B := w.heap.size) Z1 (fun k hk => World.ownsRow.base5 O9b.out k hk)))
             have Z4 : w.heap.size ≤ w4.heap.size := B4.out.size
             have O10c := Lib.hid (own_side5 O10b.out O9b.out (by decide) T4.out)
             clear ho4 hg4)
          | (at_builtin; refine wpList_append_own _ rfl _ _ 48 rfl w.heap.size 3 iI _ 1 8 Try.underlying48 hiI jz1 jz2 jz3 rfl (by decide) (.slice A10 j c10) j _ rfl (O10c.out.alloc _) ⟨w4.heap.size, 0, none⟩ 1 1 [.int .i64 (q + (t : Int) + (p : Int))] rfl rfl (fun k u hu => by rw [Addr.add_mid, Nat.zero_add]; exact ((Blk.new w4 3 [.int .i64 (q + (t : Int) + (p : Int))]).cell k).trans hu) (by simp [Value.oneCell']) (by unfold maxLen; omega) (by omega) (by rw [World.size_alloc]; omega) ?_
             intro v5 w5 ho5 hg5 hn5
             clear hn5
             have O5 := Lib.hid ho5
             have T5 := Lib.hid (grown_turn5 hg5)
             have B5 := Lib.hid ((B4.out.alloc Z4 (.cells #[.int .i64 (q + (t : Int) + (p : Int))] 3)).trans (T5.out.below (B := w.heap.size) (by rw [World.size_alloc]; omega) (fun k hk => World.ownsRow.base5 O10c.out k hk)))
             have O4c := Lib.hid (own_side5 (O4.out.alloc (.cells #[.int .i64 (q + (t : Int) + (p : Int))] 3)) (O10c.out.alloc (.cells #[.int .i64 (q + (t : Int) + (p : Int))] 3)) (by decide) T5.out)
             clear ho5 hg5))
        go_roundw
        case rel =>
          obtain ⟨g4, d4, rfl, _⟩ := own_form5 O4c.out (by omega)
          obtain ⟨g5, d5, rfl, _⟩ := own_form5 O5.out (by omega)
          refine ⟨j + 1, some ⟨g4, 0, none⟩, d4, some ⟨g5, 0, none⟩, d5, hlt, by simp, by rw [HTp.out], rfl, by rw [HTp.out]; congr 1; omega, ?_, ?_, fun _ => hee2, by rw [HTp.out]; omega, B5.out⟩
          · rw [HTp.out, HRW.out, List.flatMap_append]
            exact O4c.out
          · rw [HEN.out]
            unfold ivs
            rw [List.map_append]
            exact O5.out
        case measure => simp [intOf]; omega
      · obtain ⟨x, hx0, hxc⟩ := cut_no S e (q + (t : Int)) (by omega) (by omega) hc
        have HX := Lib.hid hxc
        clear hxc
        rw [HT.out]
        go_wp2_with fail
        refine (HX.out _).mono ?_
        rintro e1 w1 ⟨rfl, hb1⟩
        go_wp2_with fail
        refine (HL.out _).mono ?_
        rintro e2 w2 ⟨rfl, hb2⟩
        go_wp2_with fail
        go_ret
        exact ⟨rfl, bthen (bthen HBL.out HBL.out.size hb1) (Nat.le_trans HBL.out.size hb1.size) hb2⟩
    · obtain rfl : j = n := by omega
      rw [List.take_of_length_le (by rw [HN.out]; exact Nat.le_refl _)] at O9 O10 ht ⊢
      have htl : tot L ≤ 3040 := by omega
      have hee3 : 0 < tot L → 0 ≤ e ∧ e ≤ 2147483647 := fun h => HE.out (by
        rcases Nat.eq_zero_or_pos j with h0 | h0
        · rw [List.eq_nil_of_length_eq_zero (HN.out.trans h0)] at h; exact absurd h (by decide)
        · exact h0)
      have hcp : tot L ≤ c9 := by
        rcases O9.out.2 with ⟨_, h2⟩ | ⟨g9, cap9, cur9, h1, _, _, h2, _⟩
        · omega
        · injection h1 with _ _ h3; omega
      have HJ0 := Lib.hid (fun m hm A c0 c hc w ho => join_rows L e q hee3 ⟨hq0, hq1⟩ htl m hm A c0 c hc w ho)
      have R9 := Lib.hid (Row5.own O9.out (len_rows e L q))
      have HRA := Lib.hid (recs_at L q)
      have HWA := Lib.hid (want_at L q)
      have HLE := Lib.hid (len_ends L q)
      clear hee3
      generalize rows5 e q L = R at *
      generalize ends5 q L = E at *
      generalize tot L = T at *
      by_cases hgt : (T : Int) < g
      · go_wp2_with fail
        refine (HL.out _).mono ?_
        rintro e2 w2 ⟨rfl, hb2⟩
        go_wp2_with fail
        go_ret
        exact ⟨rfl, bthen HBL.out HBL.out.size hb2⟩
      · obtain ⟨m, hm, hmT⟩ : ∃ m : Nat, (T : Int) - g = (m : Int) ∧ m ≤ T := ⟨((T : Int) - g).toNat, by omega, by omega⟩
        have HJ := Lib.hid (HJ0.out m hmT A9 c9 c9 (by omega) wr R9.out)
        have hmc : (m : Int) ≤ (c9 : Int) := by omega
        have hm0 : (0 : Int) ≤ (m : Int) := by omega
        have HRM := Lib.hid (fun i => HRA.out m i)
        have HWM := Lib.hid (HWA.out m)
        generalize recs5 q L m = RC at *
        generalize want5 q L m = WT at *
        obtain ⟨K, hK⟩ : ∃ K, RC.length = K := ⟨_, rfl⟩
        have HK := Lib.hid hK
        rw [hK] at HJ HWM HRM
        clear hK
        go_wp2_with fail
        refine HJ.out.mono ?_
        rintro e3 w3 ⟨v3, nx, rfl, o3, hnx, hb3⟩
        have O3 := Lib.hid o3
        have B3 := Lib.hid (bthen HBL.out HBL.out.size hb3)
        have O10b := Lib.hid (own_up5 O10.out hb3)
        have HNX := Lib.hid hnx
        obtain ⟨A3, c3, rfl⟩ : ∃ A3 c3, v3 = .slice A3 K c3 := by
          rcases o3.2 with ⟨h1, h2⟩ | ⟨g3, cap3, cur3, h1, _⟩
          · exact ⟨none, 0, by rw [h1, h2]⟩
          · exact ⟨_, _, h1⟩
        clear o3 hb3 hnx
        go_wp2_with fail
        go_loopw [17, 18, 19] (fun vw vn vi wr2 => ∃ (i : Nat), i ≤ j ∧ L2I q E K i vw vn ∧ vi = .int .i64 i ∧ Below w3.heap.size w3 wr2) (fun _ _ vi _ => j - (intOf vi).toNat)
        case atStart => exact ⟨0, Nat.zero_le _, ⟨0, q, by simp, rfl, rfl, rfl⟩, rfl, Below.refl _ _⟩
        case round =>
          obtain ⟨i, hi, ⟨M, wv, hM, hwv, rfl, rfl⟩, rfl, hb4⟩ := hrel
          have HWV := Lib.hid hwv
          clear hwv
          have HB4 := Lib.hid hb4
          by_cases hlt : i < j
          · obtain ⟨en, hen⟩ : ∃ en, E[i]? = some en := ⟨_, List.getElem?_eq_getElem (by rw [HLE.out, HN.out]; exact hlt)⟩
            obtain ⟨S, hS⟩ : ∃ S, L[i]? = some S := ⟨_, List.getElem?_eq_getElem (by rw [HN.out]; exact hlt)⟩
            have hkey := ((HRM.out i).2 en S hen hS).1
            obtain ⟨g10, d10, hv10, _, hlt10, _⟩ := own_form5 O10b.out (by omega)
            injection hv10 with hv10 hd11 hd10
            clear hd10 hd11
            subst hv10
            have y0 := own_news5 O10b.out hb4 hlt10 i (.int .i64 en) (by unfold ivs; rw [List.getElem?_map, hen]; rfl)
            rw [Addr.add_mid, Nat.zero_add] at y0
            have ge : E.getD i 0 = en := by rw [List.getD_eq_getElem?_getD, hen]; rfl
            have GE := Lib.hid ge
            have hi1 : (i : Int) < (j : Int) := by omega
            have hi2 : (0 : Int) ≤ (i : Int) := by omega
            have z1 := wrap_of ((i : Int) + 1) (by omega) (by omega)
            have z2 := wrap_of (q + (T : Int) - g) (by omega) (by omega)
            have KEY := Lib.hid hkey
            have HMM := Lib.hid hM
            clear hkey hen hS ge hM
            by_cases hle : en ≤ q + (T : Int) - g
            · have hiK : i < K := KEY.out.1 (by omega)
              go_wp2_with fail
              refine wp_region_still_lit (by kernel_rfl) (by kernel_rfl) ?_
              change wpStill _ _ (World.drew _) _ _ _
              have y1 := (show wr.drew.cell? ⟨g10, i, none⟩ = some (.int .i64 en) from y0)
              clear y0
              repeat still_step
              refine wpStill_nil ?_
              change Exit.inBlock _ _ _ _ (World.drew _)
              go_wp2
              go_roundw
              case rel =>
                exact ⟨i + 1, hlt, ⟨i + 1, en, by omega, by rw [if_neg (Nat.succ_ne_zero i), Nat.add_sub_cancel, GE.out], by simp, rfl⟩, by simp, HB4.out.drew⟩
              case measure => simp [intOf]; omega
            · have hiK : ¬ i < K := fun h => hle (by have := KEY.out.2 h; omega)
              have hdd : decide (en ≤ q + (T : Int) - g) = false := decide_eq_false hle
              clear hle
              go_wp2_with fail
              go_roundw
              case rel => exact ⟨i + 1, hlt, ⟨M, wv, by have := HMM.out; omega, HWV.out, rfl, rfl⟩, by simp, HB4.out⟩
              case measure => simp [intOf]; omega
          · obtain rfl : i = j := by omega
            have hKi : K ≤ i := by
              rcases Nat.eq_zero_or_pos K with h0 | h0
              · omega
              · have := (HRM.out (K - 1)).1 (by omega)
                rw [HN.out] at this
                omega
            obtain rfl : M = K := by omega
            obtain rfl : wv = WT := HWV.out.trans HWM.out.symm
            have cK : ((M : Int) != (M : Int)) = false := by simp
            have B4 := Lib.hid (B3.out.trans (hb4.mono B3.out.size))
            have HG : Hid (∀ (k : Nat), k < M → ∃ en S, L[k]? = some S ∧ E[k]? = some en ∧ ((0 < k) → E[k - 1]? = some (E.getD (k - 1) 0)) ∧ RC[k]? = some ⟨(if k = 0 then q else E.getD (k - 1) 0), en, S⟩) := Lib.hid (fun k hk => by
              obtain ⟨en, hen⟩ : ∃ en, E[k]? = some en := ⟨_, List.getElem?_eq_getElem (by rw [HLE.out, HN.out]; omega)⟩
              obtain ⟨S, hS⟩ : ∃ S, L[k]? = some S := ⟨_, List.getElem?_eq_getElem (by rw [HN.out]; omega)⟩
              have h1 := ((HRM.out k).2 en S hen hS).2 hk
              refine ⟨en, S, hS, hen, fun h0 => ?_, h1⟩
              have hl : k - 1 < E.length := by rw [HLE.out, HN.out]; omega
              rw [List.getD_eq_getElem?_getD, List.getElem?_eq_getElem hl]; rfl)
            have hAll : (nx != wv) = false ∨ ((nx != wv) = true ∧ (T : Int) ≤ g ∧ nx = 0) := by
              rcases HNX.out with h1 | ⟨h1, h2⟩
              · exact .inl (by rw [h1]; simp)
              · cases h3 : (nx != wv) with
                | false => exact .inl rfl
                | true => exact .inr ⟨rfl, by omega, h2⟩
            clear hM
            rcases hAll with hA | ⟨hA, hTg, rfl⟩
            all_goals
              go_wp2_with fail
              go_loopw [20] (fun vi wr3 => ∃ (k : Nat), k ≤ M ∧ vi = .int .i64 k ∧ Below w3.heap.size w3 wr3) (fun vi _ => M - (intOf vi).toNat)
              case atStart => exact ⟨0, Nat.zero_le _, rfl, HB4.out⟩
              case round =>
                obtain ⟨k, hk, rfl, hb5⟩ := hrel
                have HB5 := Lib.hid hb5
                by_cases hlt2 : k < M
                · obtain ⟨en, S, hS, hen, hpv, hrc⟩ := HG.out k hlt2
                  obtain ⟨g3, d3, hv3, _, hlt3, _⟩ := own_form5 O3.out (by omega)
                  injection hv3 with hv3 hd11 hd10
                  clear hd10 hd11
                  subst hv3
                  obtain ⟨g10, d10, hv10, _, hlt10, _⟩ := own_form5 O10b.out (by omega)
                  injection hv10 with hv10 hd11 hd10
                  clear hd10 hd11
                  subst hv10
                  obtain ⟨⟨bl, ol, sl⟩, rfl, hsp, hbk, hcl⟩ := HR.out (by rw [HN.out]; omega)
                  obtain rfl : sl = none := hsp
                  have x0 := ((B3.out.trans (hb5.mono B3.out.size)).cell (p := (⟨bl, ol, none⟩ : Addr).add k) (by rw [block_add]; exact hbk)).trans (hcl k S hS)
                  rw [Addr.add_mid] at x0
                  have x1 := own_news5 O10b.out hb5 hlt10 k (.int .i64 en) (by unfold ivs; rw [List.getElem?_map, hen]; rfl)
                  rw [Addr.add_mid, Nat.zero_add] at x1
                  have hfl : ∀ c, c < 3 → wr.cell? ⟨g3, k * 3 + c, none⟩ = (rcells ⟨(if k = 0 then q else E.getD (k - 1) 0), en, S⟩)[c]? := fun c hc => by
                    have h1 := flat_at3 RC k c _ hrc hc
                    obtain ⟨u, hu⟩ : ∃ u, (rcells ⟨(if k = 0 then q else E.getD (k - 1) 0), en, S⟩)[c]? = some u := by
                      match c, hc with
                      | 0, _ => exact ⟨_, rfl⟩
                      | 1, _ => exact ⟨_, rfl⟩
                      | 2, _ => exact ⟨_, rfl⟩
                    have h2 := own_news5 O3.out hb5 hlt3 (k * 3 + c) u (h1.trans hu)
                    rw [Addr.add_mid, Nat.zero_add] at h2
                    rw [h2, hu]
                  have x2 := hfl 0 (by decide)
                  have x3 := hfl 1 (by decide)
                  have x4 := hfl 2 (by decide)
                  simp only [rcells, List.getElem?_cons_zero, List.getElem?_cons_succ, Nat.add_zero] at x2 x3 x4
                  have hi1 : (k : Int) < (M : Int) := by omega
                  have hi1b : (k : Int) < (i : Int) := by omega
                  have hi2 : (0 : Int) ≤ (k : Int) := by omega
                  have z1 := wrap_of ((k : Int) + 1) (by omega) (by omega)
                  have c1 : (S.toList != S.toList) = false := by simp
                  have c2 : (en != en) = false := by simp
                  have HPV := Lib.hid hpv
                  clear hfl hcl hrc hen hS hpv
                  rcases Nat.eq_zero_or_pos k with h0 | h0
                  · subst h0
                    rw [if_pos rfl] at x2
                    have hz0 : 0 < i := by omega
                    have hz1 : 0 < M := by omega
                    go_wp2_with fail
                    refine wp_region_noPanic ?_
                    refine wp_region_held_drew (S := fun X => X.cell? ⟨bl, ol, none⟩ = some (.string S) ∧ X.cell? ⟨g10, 0, none⟩ = some (.int .i64 en) ∧ X.cell? ⟨g3, 0, none⟩ = some (.int .i64 q) ∧ X.cell? ⟨g3, 1, none⟩ = some (.int .i64 en) ∧ X.cell? ⟨g3, 2, none⟩ = some (.string S)) (by kernel_rfl) ⟨x0, x1, x2, x3, x4⟩ (fun hHeld => ?_)
                    -- zero region
                    refine wpAnyH_take (i := 0) (v := ?_) rfl (by kernel_rfl) (by kernel_rfl) (by kernel_rfl) (fun _ _ _ h => h) (Or.inl ⟨by rfl, ?_⟩) (by assumption) ?_
                    rotate_left 1
                    · intro w' hSw
                      go_simp
                      all_goals first | with_reducible rfl | (rw [if_neg (by omega)]; done) | (rw [if_pos (by omega)]; done) | (rw [if_neg (by omega)]; with_reducible rfl) | (rw [if_pos (by omega)]; with_reducible rfl)
                    try simp only [List.getElem_toArray, List.getElem_cons_zero, Act.put, List.setIfInBounds_toArray, List.set_cons_zero, List.set_cons_succ]
                    refine wpAnyH_take (i := 1) (v := ?_) rfl (by kernel_rfl) (by kernel_rfl) (by kernel_rfl) (fun _ _ _ h => h) (Or.inl ⟨by rfl, ?_⟩) (by assumption) ?_
                    rotate_left 1
                    · intro w' hSw
                      go_simp
                      all_goals first | with_reducible rfl | (rw [if_neg (by omega)]; done) | (rw [if_pos (by omega)]; done) | (rw [if_neg (by omega)]; with_reducible rfl) | (rw [if_pos (by omega)]; with_reducible rfl)
                    try simp only [List.getElem_toArray, List.getElem_cons_zero, List.getElem_cons_succ, Act.put, List.setIfInBounds_toArray, List.set_cons_zero, List.set_cons_succ]
                    refine wpAnyH_take (i := 2) (v := ?_) rfl (by kernel_rfl) (by kernel_rfl) (by kernel_rfl) (fun _ _ _ h => h) (Or.inl ⟨by rfl, ?_⟩) (by assumption) ?_
                    rotate_left 1
                    · intro w' hSw
                      go_simp
                      all_goals first | with_reducible rfl | (rw [if_neg (by omega)]; done) | (rw [if_pos (by omega)]; done) | (rw [if_neg (by omega)]; with_reducible rfl) | (rw [if_pos (by omega)]; with_reducible rfl)
                    try simp only [List.getElem_toArray, List.getElem_cons_zero, List.getElem_cons_succ, Act.put, List.setIfInBounds_toArray, List.set_cons_zero, List.set_cons_succ]
                    refine wpAnyH_take (i := 3) (v := ?_) rfl (by kernel_rfl) (by kernel_rfl) (by kernel_rfl) (fun _ _ _ h => h) (Or.inl ⟨by rfl, ?_⟩) (by assumption) ?_
                    rotate_left 1
                    · intro w' hSw
                      go_simp
                      all_goals first | with_reducible rfl | (rw [if_neg (by omega)]; done) | (rw [if_pos (by omega)]; done) | (rw [if_neg (by omega)]; with_reducible rfl) | (rw [if_pos (by omega)]; with_reducible rfl)
                    try simp only [List.getElem_toArray, List.getElem_cons_zero, List.getElem_cons_succ, Act.put, List.setIfInBounds_toArray, List.set_cons_zero, List.set_cons_succ]
                    refine wpAnyH_take (i := 4) (v := ?_) rfl (by kernel_rfl) (by kernel_rfl) (by kernel_rfl) (fun _ _ _ h => h) (Or.inl ⟨by rfl, ?_⟩) (by assumption) ?_
                    rotate_left 1
                    · intro w' hSw
                      obtain ⟨y0, y1, y2, y3, y4⟩ := hSw
                      go_simp
                      all_goals first | with_reducible rfl | (rw [if_neg (by omega)]; done) | (rw [if_pos (by omega)]; done) | (rw [if_neg (by omega)]; with_reducible rfl) | (rw [if_pos (by omega)]; with_reducible rfl)
                    try simp only [List.getElem_toArray, List.getElem_cons_zero, List.getElem_cons_succ, Act.put, List.setIfInBounds_toArray, List.set_cons_zero, List.set_cons_succ]
                    refine wpAnyH_take (i := 5) (v := ?_) rfl (by kernel_rfl) (by kernel_rfl) (by kernel_rfl) (fun _ _ _ h => h) (Or.inl ⟨by rfl, ?_⟩) (by assumption) ?_
                    rotate_left 1
                    · intro w' hSw
                      go_simp
                      all_goals first | with_reducible rfl | (rw [if_neg (by omega)]; done) | (rw [if_pos (by omega)]; done) | (rw [if_neg (by omega)]; with_reducible rfl) | (rw [if_pos (by omega)]; with_reducible rfl)
                    try simp only [List.getElem_toArray, List.getElem_cons_zero, List.getElem_cons_succ, Act.put, List.setIfInBounds_toArray, List.set_cons_zero, List.set_cons_succ]
                    refine wpAnyH_take (i := 6) (v := ?_) rfl (by kernel_rfl) (by kernel_rfl) (by kernel_rfl) (fun _ _ _ h => h) (Or.inl ⟨by rfl, ?_⟩) (by assumption) ?_
                    rotate_left 1
                    · intro w' hSw
                      go_simp
                      all_goals first | with_reducible rfl | (rw [if_neg (by omega)]; done) | (rw [if_pos (by omega)]; done) | (rw [if_neg (by omega)]; with_reducible rfl) | (rw [if_pos (by omega)]; with_reducible rfl)
                    try simp only [List.getElem_toArray, List.getElem_cons_zero, List.getElem_cons_succ, Act.put, List.setIfInBounds_toArray, List.set_cons_zero, List.set_cons_succ]
                    refine wpAnyH_take (i := 7) (v := ?_) rfl (by kernel_rfl) (by kernel_rfl) (by kernel_rfl) (fun _ _ _ h => h) (Or.inl ⟨by rfl, ?_⟩) (by assumption) ?_
                    rotate_left 1
                    · intro w' hSw
                      go_simp
                      all_goals first | with_reducible rfl | (rw [if_neg (by omega)]; done) | (rw [if_pos (by omega)]; done) | (rw [if_neg (by omega)]; with_reducible rfl) | (rw [if_pos (by omega)]; with_reducible rfl)
                    try simp only [List.getElem_toArray, List.getElem_cons_zero, List.getElem_cons_succ, Act.put, List.setIfInBounds_toArray, List.set_cons_zero, List.set_cons_succ]
                    refine wpAnyH_take (i := 8) (v := ?_) rfl (by kernel_rfl) (by kernel_rfl) (by kernel_rfl) (fun _ _ _ h => h) (Or.inl ⟨by rfl, ?_⟩) (by assumption) ?_
                    rotate_left 1
                    · intro w' hSw
                      obtain ⟨y0, y1, y2, y3, y4⟩ := hSw
                      go_simp
                      all_goals first | with_reducible rfl | (rw [if_neg (by omega)]; done) | (rw [if_pos (by omega)]; done) | (rw [if_neg (by omega)]; with_reducible rfl) | (rw [if_pos (by omega)]; with_reducible rfl)
                    try simp only [List.getElem_toArray, List.getElem_cons_zero, List.getElem_cons_succ, Act.put, List.setIfInBounds_toArray, List.set_cons_zero, List.set_cons_succ]
                    refine wpAnyH_take (i := 9) (v := ?_) rfl (by kernel_rfl) (by kernel_rfl) (by kernel_rfl) (fun _ _ _ h => h) (Or.inl ⟨by rfl, ?_⟩) (by assumption) ?_
                    rotate_left 1
                    · intro w' hSw
                      go_simp
                      all_goals first | with_reducible rfl | (rw [if_neg (by omega)]; done) | (rw [if_pos (by omega)]; done) | (rw [if_neg (by omega)]; with_reducible rfl) | (rw [if_pos (by omega)]; with_reducible rfl)
                    try simp only [List.getElem_toArray, List.getElem_cons_zero, List.getElem_cons_succ, Act.put, List.setIfInBounds_toArray, List.set_cons_zero, List.set_cons_succ]
                    refine wpAnyH_take (i := 10) (v := ?_) rfl (by kernel_rfl) (by kernel_rfl) (by kernel_rfl) (fun _ _ _ h => h) (Or.inl ⟨by rfl, ?_⟩) (by assumption) ?_
                    rotate_left 1
                    · intro w' hSw
                      go_simp
                      all_goals first | with_reducible rfl | (rw [if_neg (by omega)]; done) | (rw [if_pos (by omega)]; done) | (rw [if_neg (by omega)]; with_reducible rfl) | (rw [if_pos (by omega)]; with_reducible rfl)
                    try simp only [List.getElem_toArray, List.getElem_cons_zero, List.getElem_cons_succ, Act.put, List.setIfInBounds_toArray, List.set_cons_zero, List.set_cons_succ]
                    refine wpAnyH_take (i := 11) (v := ?_) rfl (by kernel_rfl) (by kernel_rfl) (by kernel_rfl) (fun _ _ _ h => h) (Or.inl ⟨by rfl, ?_⟩) (by assumption) ?_
                    rotate_left 1
                    · intro w' hSw
                      go_simp
                      all_goals first | with_reducible rfl | (rw [if_neg (by omega)]; done) | (rw [if_pos (by omega)]; done) | (rw [if_neg (by omega)]; with_reducible rfl) | (rw [if_pos (by omega)]; with_reducible rfl)
                    try simp only [List.getElem_toArray, List.getElem_cons_zero, List.getElem_cons_succ, Act.put, List.setIfInBounds_toArray, List.set_cons_zero, List.set_cons_succ]
                    refine wpAnyH_take (i := 12) (v := ?_) rfl (by kernel_rfl) (by kernel_rfl) (by kernel_rfl) (fun _ _ _ h => h) (Or.inl ⟨by rfl, ?_⟩) (by assumption) ?_
                    rotate_left 1
                    · intro w' hSw
                      go_simp
                      all_goals first | with_reducible rfl | (rw [if_neg (by omega)]; done) | (rw [if_pos (by omega)]; done) | (rw [if_neg (by omega)]; with_reducible rfl) | (rw [if_pos (by omega)]; with_reducible rfl)
                    try simp only [List.getElem_toArray, List.getElem_cons_zero, List.getElem_cons_succ, Act.put, List.setIfInBounds_toArray, List.set_cons_zero, List.set_cons_succ]
                    refine wpAnyH_take (i := 13) (v := ?_) rfl (by kernel_rfl) (by kernel_rfl) (by kernel_rfl) (fun _ _ _ h => h) (Or.inl ⟨by rfl, ?_⟩) (by assumption) ?_
                    rotate_left 1
                    · intro w' hSw
                      go_simp
                      all_goals first | with_reducible rfl | (rw [if_neg (by omega)]; done) | (rw [if_pos (by omega)]; done) | (rw [if_neg (by omega)]; with_reducible rfl) | (rw [if_pos (by omega)]; with_reducible rfl)
                    try simp only [List.getElem_toArray, List.getElem_cons_zero, List.getElem_cons_succ, Act.put, List.setIfInBounds_toArray, List.set_cons_zero, List.set_cons_succ]
                    refine wpAnyH_take (i := 14) (v := ?_) rfl (by kernel_rfl) (by kernel_rfl) (by kernel_rfl) (fun _ _ _ h => h) (Or.inl ⟨by rfl, ?_⟩) (by assumption) ?_
                    rotate_left 1
                    · intro w' hSw
                      go_simp
                      all_goals first | with_reducible rfl | (rw [if_neg (by omega)]; done) | (rw [if_pos (by omega)]; done) | (rw [if_neg (by omega)]; with_reducible rfl) | (rw [if_pos (by omega)]; with_reducible rfl)
                    try simp only [List.getElem_toArray, List.getElem_cons_zero, List.getElem_cons_succ, Act.put, List.setIfInBounds_toArray, List.set_cons_zero, List.set_cons_succ]
                    refine wpAnyH_take (i := 15) (v := ?_) rfl (by kernel_rfl) (by kernel_rfl) (by kernel_rfl) (fun _ _ _ h => h) (Or.inl ⟨by rfl, ?_⟩) (by assumption) ?_
                    rotate_left 1
                    · intro w' hSw
                      obtain ⟨y0, y1, y2, y3, y4⟩ := hSw
                      go_simp
                      all_goals first | with_reducible rfl | (rw [if_neg (by omega)]; done) | (rw [if_pos (by omega)]; done) | (rw [if_neg (by omega)]; with_reducible rfl) | (rw [if_pos (by omega)]; with_reducible rfl)
                    try simp only [List.getElem_toArray, List.getElem_cons_zero, List.getElem_cons_succ, Act.put, List.setIfInBounds_toArray, List.set_cons_zero, List.set_cons_succ]
                    refine wpAnyH_take (i := 16) (v := ?_) rfl (by kernel_rfl) (by kernel_rfl) (by kernel_rfl) (fun _ _ _ h => h) (Or.inl ⟨by rfl, ?_⟩) (by assumption) ?_
                    rotate_left 1
                    · intro w' hSw
                      go_simp
                      all_goals first | with_reducible rfl | (rw [if_neg (by omega)]; done) | (rw [if_pos (by omega)]; done) | (rw [if_neg (by omega)]; with_reducible rfl) | (rw [if_pos (by omega)]; with_reducible rfl)
                    try simp only [List.getElem_toArray, List.getElem_cons_zero, List.getElem_cons_succ, Act.put, List.setIfInBounds_toArray, List.set_cons_zero, List.set_cons_succ]
                    refine wpAnyH_take (i := 17) (v := ?_) rfl (by kernel_rfl) (by kernel_rfl) (by kernel_rfl) (fun _ _ _ h => h) (Or.inl ⟨by rfl, ?_⟩) (by assumption) ?_
                    rotate_left 1
                    · intro w' hSw
                      go_simp
                      all_goals first | with_reducible rfl | (rw [if_neg (by omega)]; done) | (rw [if_pos (by omega)]; done) | (rw [if_neg (by omega)]; with_reducible rfl) | (rw [if_pos (by omega)]; with_reducible rfl)
                    try simp only [List.getElem_toArray, List.getElem_cons_zero, List.getElem_cons_succ, Act.put, List.setIfInBounds_toArray, List.set_cons_zero, List.set_cons_succ]
                    refine wpAnyH_take (i := 18) (v := ?_) rfl (by kernel_rfl) (by kernel_rfl) (by kernel_rfl) (fun _ _ _ h => h) (Or.inl ⟨by rfl, ?_⟩) (by assumption) ?_
                    rotate_left 1
                    · intro w' hSw
                      go_simp
                      all_goals first | with_reducible rfl | (rw [if_neg (by omega)]; done) | (rw [if_pos (by omega)]; done) | (rw [if_neg (by omega)]; with_reducible rfl) | (rw [if_pos (by omega)]; with_reducible rfl)
                    try simp only [List.getElem_toArray, List.getElem_cons_zero, List.getElem_cons_succ, Act.put, List.setIfInBounds_toArray, List.set_cons_zero, List.set_cons_succ]
                    refine wpAnyH_take (i := 19) (v := ?_) rfl (by kernel_rfl) (by kernel_rfl) (by kernel_rfl) (fun _ _ _ h => h) (Or.inl ⟨by rfl, ?_⟩) (by assumption) ?_
                    rotate_left 1
                    · intro w' hSw
                      obtain ⟨y0, y1, y2, y3, y4⟩ := hSw
                      go_simp
                      all_goals first | with_reducible rfl | (rw [if_neg (by omega)]; done) | (rw [if_pos (by omega)]; done) | (rw [if_neg (by omega)]; with_reducible rfl) | (rw [if_pos (by omega)]; with_reducible rfl)
                    try simp only [List.getElem_toArray, List.getElem_cons_zero, List.getElem_cons_succ, Act.put, List.setIfInBounds_toArray, List.set_cons_zero, List.set_cons_succ]
                    refine wpAnyH_take (i := 20) (v := ?_) rfl (by kernel_rfl) (by kernel_rfl) (by kernel_rfl) (fun _ _ _ h => h) (Or.inl ⟨by rfl, ?_⟩) (by assumption) ?_
                    rotate_left 1
                    · intro w' hSw
                      go_simp
                      all_goals first | with_reducible rfl | (rw [if_neg (by omega)]; done) | (rw [if_pos (by omega)]; done) | (rw [if_neg (by omega)]; with_reducible rfl) | (rw [if_pos (by omega)]; with_reducible rfl)
                    try simp only [List.getElem_toArray, List.getElem_cons_zero, List.getElem_cons_succ, Act.put, List.setIfInBounds_toArray, List.set_cons_zero, List.set_cons_succ]
                    refine wpAnyH_take (i := 21) (v := ?_) rfl (by kernel_rfl) (by kernel_rfl) (by kernel_rfl) (fun _ _ _ h => h) (Or.inl ⟨by rfl, ?_⟩) (by assumption) ?_
                    rotate_left 1
                    · intro w' hSw
                      go_simp
                      all_goals first | with_reducible rfl | (rw [if_neg (by omega)]; done) | (rw [if_pos (by omega)]; done) | (rw [if_neg (by omega)]; with_reducible rfl) | (rw [if_pos (by omega)]; with_reducible rfl)
                    try simp only [List.getElem_toArray, List.getElem_cons_zero, List.getElem_cons_succ, Act.put, List.setIfInBounds_toArray, List.set_cons_zero, List.set_cons_succ]
                    refine wpAnyH_take (i := 22) (v := ?_) rfl (by kernel_rfl) (by kernel_rfl) (by kernel_rfl) (fun _ _ _ h => h) (Or.inl ⟨by rfl, ?_⟩) (by assumption) ?_
                    rotate_left 1
                    · intro w' hSw
                      go_simp
                      all_goals first | with_reducible rfl | (rw [if_neg (by omega)]; done) | (rw [if_pos (by omega)]; done) | (rw [if_neg (by omega)]; with_reducible rfl) | (rw [if_pos (by omega)]; with_reducible rfl)
                    try simp only [List.getElem_toArray, List.getElem_cons_zero, List.getElem_cons_succ, Act.put, List.setIfInBounds_toArray, List.set_cons_zero, List.set_cons_succ]
                    refine wpAnyH_take (i := 23) (v := ?_) rfl (by kernel_rfl) (by kernel_rfl) (by kernel_rfl) (fun _ _ _ h => h) (Or.inl ⟨by rfl, ?_⟩) (by assumption) ?_
                    rotate_left 1
                    · intro w' hSw
                      go_simp
                      all_goals first | with_reducible rfl | (rw [if_neg (by omega)]; done) | (rw [if_pos (by omega)]; done) | (rw [if_neg (by omega)]; with_reducible rfl) | (rw [if_pos (by omega)]; with_reducible rfl)
                    try simp only [List.getElem_toArray, List.getElem_cons_zero, List.getElem_cons_succ, Act.put, List.setIfInBounds_toArray, List.set_cons_zero, List.set_cons_succ]
                    refine wpAnyH_take (i := 24) (v := ?_) rfl (by kernel_rfl) (by kernel_rfl) (by kernel_rfl) (fun _ _ _ h => h) (Or.inl ⟨by rfl, ?_⟩) (by assumption) ?_
                    rotate_left 1
                    · intro w' hSw
                      go_simp
                      all_goals first | with_reducible rfl | (rw [if_neg (by omega)]; done) | (rw [if_pos (by omega)]; done) | (rw [if_neg (by omega)]; with_reducible rfl) | (rw [if_pos (by omega)]; with_reducible rfl)
                    try simp only [List.getElem_toArray, List.getElem_cons_zero, List.getElem_cons_succ, Act.put, List.setIfInBounds_toArray, List.set_cons_zero, List.set_cons_succ]
                    refine wpAnyH_take (i := 25) (v := ?_) rfl (by kernel_rfl) (by kernel_rfl) (by kernel_rfl) (fun _ _ _ h => h) (Or.inl ⟨by rfl, ?_⟩) (by assumption) ?_
                    rotate_left 1
                    · intro w' hSw
                      go_simp
                      all_goals first | with_reducible rfl | (rw [if_neg (by omega)]; done) | (rw [if_pos (by omega)]; done) | (rw [if_neg (by omega)]; with_reducible rfl) | (rw [if_pos (by omega)]; with_reducible rfl)
                    try simp only [List.getElem_toArray, List.getElem_cons_zero, List.getElem_cons_succ, Act.put, List.setIfInBounds_toArray, List.set_cons_zero, List.set_cons_succ]
                    refine wpAnyH_take (i := 26) (v := undef) rfl (by kernel_rfl) (by kernel_rfl) (by kernel_rfl) (fun _ _ _ h => h) (Or.inr ⟨by rfl, rfl⟩) (by assumption) ?_
                    try simp only [List.getElem_toArray, List.getElem_cons_zero, List.getElem_cons_succ, Act.put, List.setIfInBounds_toArray, List.set_cons_zero, List.set_cons_succ]
                    refine wpAnyH_take (i := 27) (v := undef) rfl (by kernel_rfl) (by kernel_rfl) (by kernel_rfl) (fun _ _ _ h => h) (Or.inr ⟨by rfl, rfl⟩) (by assumption) ?_
                    try simp only [List.getElem_toArray, List.getElem_cons_zero, List.getElem_cons_succ, Act.put, List.setIfInBounds_toArray, List.set_cons_zero, List.set_cons_succ]
                    refine wpAnyH_take (i := 28) (v := undef) rfl (by kernel_rfl) (by kernel_rfl) (by kernel_rfl) (fun _ _ _ h => h) (Or.inr ⟨by rfl, rfl⟩) (by assumption) ?_
                    try simp only [List.getElem_toArray, List.getElem_cons_zero, List.getElem_cons_succ, Act.put, List.setIfInBounds_toArray, List.set_cons_zero, List.set_cons_succ]
                    refine wpAnyH_take (i := 29) (v := undef) rfl (by kernel_rfl) (by kernel_rfl) (by kernel_rfl) (fun _ _ _ h => h) (Or.inr ⟨by rfl, rfl⟩) (by assumption) ?_
                    try simp only [List.getElem_toArray, List.getElem_cons_zero, List.getElem_cons_succ, Act.put, List.setIfInBounds_toArray, List.set_cons_zero, List.set_cons_succ]
                    refine wpAnyH_take (i := 30) (v := undef) rfl (by kernel_rfl) (by kernel_rfl) (by kernel_rfl) (fun _ _ _ h => h) (Or.inr ⟨by rfl, rfl⟩) (by assumption) ?_
                    try simp only [List.getElem_toArray, List.getElem_cons_zero, List.getElem_cons_succ, Act.put, List.setIfInBounds_toArray, List.set_cons_zero, List.set_cons_succ]
                    refine wpAnyH_take (i := 31) (v := undef) rfl (by kernel_rfl) (by kernel_rfl) (by kernel_rfl) (fun _ _ _ h => h) (Or.inr ⟨by rfl, rfl⟩) (by assumption) ?_
                    try simp only [List.getElem_toArray, List.getElem_cons_zero, List.getElem_cons_succ, Act.put, List.setIfInBounds_toArray, List.set_cons_zero, List.set_cons_succ]
                    refine wpAnyH_take (i := 32) (v := undef) rfl (by kernel_rfl) (by kernel_rfl) (by kernel_rfl) (fun _ _ _ h => h) (Or.inr ⟨by rfl, rfl⟩) (by assumption) ?_
                    try simp only [List.getElem_toArray, List.getElem_cons_zero, List.getElem_cons_succ, Act.put, List.setIfInBounds_toArray, List.set_cons_zero, List.set_cons_succ]
                    refine wpAnyH_take (i := 33) (v := undef) rfl (by kernel_rfl) (by kernel_rfl) (by kernel_rfl) (fun _ _ _ h => h) (Or.inr ⟨by rfl, rfl⟩) (by assumption) ?_
                    try simp only [List.getElem_toArray, List.getElem_cons_zero, List.getElem_cons_succ, Act.put, List.setIfInBounds_toArray, List.set_cons_zero, List.set_cons_succ]
                    refine wpAnyH_take (i := 34) (v := undef) rfl (by kernel_rfl) (by kernel_rfl) (by kernel_rfl) (fun _ _ _ h => h) (Or.inr ⟨by rfl, rfl⟩) (by assumption) ?_
                    try simp only [List.getElem_toArray, List.getElem_cons_zero, List.getElem_cons_succ, Act.put, List.setIfInBounds_toArray, List.set_cons_zero, List.set_cons_succ]
                    refine wpAnyH_take (i := 35) (v := undef) rfl (by kernel_rfl) (by kernel_rfl) (by kernel_rfl) (fun _ _ _ h => h) (Or.inr ⟨by rfl, rfl⟩) (by assumption) ?_
                    try simp only [List.getElem_toArray, List.getElem_cons_zero, List.getElem_cons_succ, Act.put, List.setIfInBounds_toArray, List.set_cons_zero, List.set_cons_succ]
                    refine wpAnyH_take (i := 36) (v := undef) rfl (by kernel_rfl) (by kernel_rfl) (by kernel_rfl) (fun _ _ _ h => h) (Or.inr ⟨by rfl, rfl⟩) (by assumption) ?_
                    try simp only [List.getElem_toArray, List.getElem_cons_zero, List.getElem_cons_succ, Act.put, List.setIfInBounds_toArray, List.set_cons_zero, List.set_cons_succ]
                    refine wpAnyH_take (i := 37) (v := ?_) rfl (by kernel_rfl) (by kernel_rfl) (by kernel_rfl) (fun _ _ _ h => h) (Or.inl ⟨by rfl, ?_⟩) (by assumption) ?_
                    rotate_left 1
                    · intro w' hSw
                      go_simp
                      all_goals first | with_reducible rfl | (rw [if_neg (by omega)]; done) | (rw [if_pos (by omega)]; done) | (rw [if_neg (by omega)]; with_reducible rfl) | (rw [if_pos (by omega)]; with_reducible rfl)
                    try simp only [List.getElem_toArray, List.getElem_cons_zero, List.getElem_cons_succ, Act.put, List.setIfInBounds_toArray, List.set_cons_zero, List.set_cons_succ]
                    refine wpAnyH_take (i := 38) (v := ?_) rfl (by kernel_rfl) (by kernel_rfl) (by kernel_rfl) (fun _ _ _ h => h) (Or.inl ⟨by rfl, ?_⟩) (by assumption) ?_
                    rotate_left 1
                    · intro w' hSw
                      go_simp
                      all_goals first | with_reducible rfl | (rw [if_neg (by omega)]; done) | (rw [if_pos (by omega)]; done) | (rw [if_neg (by omega)]; with_reducible rfl) | (rw [if_pos (by omega)]; with_reducible rfl)
                    try simp only [List.getElem_toArray, List.getElem_cons_zero, List.getElem_cons_succ, Act.put, List.setIfInBounds_toArray, List.set_cons_zero, List.set_cons_succ]
                    refine wpAnyH_done (by kernel_rfl) ?_ _
                    refine NoPanic.normal ?_
                    -- zero region end
                    go_wp2_with fail
                    go_roundw
                    case rel => exact ⟨0 + 1, by omega, rfl, HB5.out.drew⟩
                    case measure => simp [intOf]; omega
                  · have x5 := own_news5 O10b.out hb5 hlt10 (k - 1) (.int .i64 (E.getD (k - 1) 0)) (by unfold ivs; rw [List.getElem?_map, HPV.out h0]; rfl)
                    rw [Addr.add_mid, Nat.zero_add] at x5
                    rw [if_neg (by omega)] at x2
                    generalize E.getD (k - 1) 0 = pv at *
                    have c3 : (pv != pv) = false := by simp
                    have hd : decide ((0 : Int) < (k : Int)) = true := by simp; omega
                    have hi6 : (0 : Int) ≤ (k : Int) - 1 := by omega
                    have hi7 : (k : Int) - 1 < (i : Int) := by omega
                    have hit : ((k : Int) - 1).toNat = k - 1 := by omega
                    have z6 := wrap_of ((k : Int) - 1) (by omega) (by omega)
                    go_wp2_with fail
                    refine wp_region_noPanic ?_
                    refine wp_region_held_drew (S := fun X => X.cell? ⟨bl, ol + k, none⟩ = some (.string S) ∧ X.cell? ⟨g10, k, none⟩ = some (.int .i64 en) ∧ X.cell? ⟨g3, k * 3, none⟩ = some (.int .i64 pv) ∧ X.cell? ⟨g3, k * 3 + 1, none⟩ = some (.int .i64 en) ∧ X.cell? ⟨g3, k * 3 + 2, none⟩ = some (.string S) ∧ X.cell? ⟨g10, k - 1, none⟩ = some (.int .i64 pv)) (by kernel_rfl) ⟨x0, x1, x2, x3, x4, x5⟩ (fun hHeld => ?_)
                    -- more region
                    refine wpAnyH_take (i := 0) (v := ?_) rfl (by kernel_rfl) (by kernel_rfl) (by kernel_rfl) (fun _ _ _ h => h) (Or.inl ⟨by rfl, ?_⟩) (by assumption) ?_
                    rotate_left 1
                    · intro w' hSw
                      go_simp
                      all_goals first | with_reducible rfl | (rw [if_neg (by omega)]; done) | (rw [if_pos (by omega)]; done) | (rw [if_neg (by omega)]; with_reducible rfl) | (rw [if_pos (by omega)]; with_reducible rfl)
                    try simp only [List.getElem_toArray, List.getElem_cons_zero, Act.put, List.setIfInBounds_toArray, List.set_cons_zero, List.set_cons_succ]
                    refine wpAnyH_take (i := 1) (v := ?_) rfl (by kernel_rfl) (by kernel_rfl) (by kernel_rfl) (fun _ _ _ h => h) (Or.inl ⟨by rfl, ?_⟩) (by assumption) ?_
                    rotate_left 1
                    · intro w' hSw
                      go_simp
                      all_goals first | with_reducible rfl | (rw [if_neg (by omega)]; done) | (rw [if_pos (by omega)]; done) | (rw [if_neg (by omega)]; with_reducible rfl) | (rw [if_pos (by omega)]; with_reducible rfl)
                    try simp only [List.getElem_toArray, List.getElem_cons_zero, List.getElem_cons_succ, Act.put, List.setIfInBounds_toArray, List.set_cons_zero, List.set_cons_succ]
                    refine wpAnyH_take (i := 2) (v := ?_) rfl (by kernel_rfl) (by kernel_rfl) (by kernel_rfl) (fun _ _ _ h => h) (Or.inl ⟨by rfl, ?_⟩) (by assumption) ?_
                    rotate_left 1
                    · intro w' hSw
                      go_simp
                      all_goals first | with_reducible rfl | (rw [if_neg (by omega)]; done) | (rw [if_pos (by omega)]; done) | (rw [if_neg (by omega)]; with_reducible rfl) | (rw [if_pos (by omega)]; with_reducible rfl)
                    try simp only [List.getElem_toArray, List.getElem_cons_zero, List.getElem_cons_succ, Act.put, List.setIfInBounds_toArray, List.set_cons_zero, List.set_cons_succ]
                    refine wpAnyH_take (i := 3) (v := ?_) rfl (by kernel_rfl) (by kernel_rfl) (by kernel_rfl) (fun _ _ _ h => h) (Or.inl ⟨by rfl, ?_⟩) (by assumption) ?_
                    rotate_left 1
                    · intro w' hSw
                      go_simp
                      all_goals first | with_reducible rfl | (rw [if_neg (by omega)]; done) | (rw [if_pos (by omega)]; done) | (rw [if_neg (by omega)]; with_reducible rfl) | (rw [if_pos (by omega)]; with_reducible rfl)
                    try simp only [List.getElem_toArray, List.getElem_cons_zero, List.getElem_cons_succ, Act.put, List.setIfInBounds_toArray, List.set_cons_zero, List.set_cons_succ]
                    refine wpAnyH_take (i := 4) (v := ?_) rfl (by kernel_rfl) (by kernel_rfl) (by kernel_rfl) (fun _ _ _ h => h) (Or.inl ⟨by rfl, ?_⟩) (by assumption) ?_
                    rotate_left 1
                    · intro w' hSw
                      obtain ⟨y0, y1, y2, y3, y4, y5⟩ := hSw
                      go_simp
                      all_goals first | with_reducible rfl | (rw [if_neg (by omega)]; done) | (rw [if_pos (by omega)]; done) | (rw [if_neg (by omega)]; with_reducible rfl) | (rw [if_pos (by omega)]; with_reducible rfl)
                    try simp only [List.getElem_toArray, List.getElem_cons_zero, List.getElem_cons_succ, Act.put, List.setIfInBounds_toArray, List.set_cons_zero, List.set_cons_succ]
                    refine wpAnyH_take (i := 5) (v := ?_) rfl (by kernel_rfl) (by kernel_rfl) (by kernel_rfl) (fun _ _ _ h => h) (Or.inl ⟨by rfl, ?_⟩) (by assumption) ?_
                    rotate_left 1
                    · intro w' hSw
                      go_simp
                      all_goals first | with_reducible rfl | (rw [if_neg (by omega)]; done) | (rw [if_pos (by omega)]; done) | (rw [if_neg (by omega)]; with_reducible rfl) | (rw [if_pos (by omega)]; with_reducible rfl)
                    try simp only [List.getElem_toArray, List.getElem_cons_zero, List.getElem_cons_succ, Act.put, List.setIfInBounds_toArray, List.set_cons_zero, List.set_cons_succ]
                    refine wpAnyH_take (i := 6) (v := ?_) rfl (by kernel_rfl) (by kernel_rfl) (by kernel_rfl) (fun _ _ _ h => h) (Or.inl ⟨by rfl, ?_⟩) (by assumption) ?_
                    rotate_left 1
                    · intro w' hSw
                      go_simp
                      all_goals first | with_reducible rfl | (rw [if_neg (by omega)]; done) | (rw [if_pos (by omega)]; done) | (rw [if_neg (by omega)]; with_reducible rfl) | (rw [if_pos (by omega)]; with_reducible rfl)
                    try simp only [List.getElem_toArray, List.getElem_cons_zero, List.getElem_cons_succ, Act.put, List.setIfInBounds_toArray, List.set_cons_zero, List.set_cons_succ]
                    refine wpAnyH_take (i := 7) (v := ?_) rfl (by kernel_rfl) (by kernel_rfl) (by kernel_rfl) (fun _ _ _ h => h) (Or.inl ⟨by rfl, ?_⟩) (by assumption) ?_
                    rotate_left 1
                    · intro w' hSw
                      go_simp
                      all_goals first | with_reducible rfl | (rw [if_neg (by omega)]; done) | (rw [if_pos (by omega)]; done) | (rw [if_neg (by omega)]; with_reducible rfl) | (rw [if_pos (by omega)]; with_reducible rfl)
                    try simp only [List.getElem_toArray, List.getElem_cons_zero, List.getElem_cons_succ, Act.put, List.setIfInBounds_toArray, List.set_cons_zero, List.set_cons_succ]
                    refine wpAnyH_take (i := 8) (v := ?_) rfl (by kernel_rfl) (by kernel_rfl) (by kernel_rfl) (fun _ _ _ h => h) (Or.inl ⟨by rfl, ?_⟩) (by assumption) ?_
                    rotate_left 1
                    · intro w' hSw
                      obtain ⟨y0, y1, y2, y3, y4, y5⟩ := hSw
                      go_simp
                      all_goals first | with_reducible rfl | (rw [if_neg (by omega)]; done) | (rw [if_pos (by omega)]; done) | (rw [if_neg (by omega)]; with_reducible rfl) | (rw [if_pos (by omega)]; with_reducible rfl)
                    try simp only [List.getElem_toArray, List.getElem_cons_zero, List.getElem_cons_succ, Act.put, List.setIfInBounds_toArray, List.set_cons_zero, List.set_cons_succ]
                    refine wpAnyH_take (i := 9) (v := ?_) rfl (by kernel_rfl) (by kernel_rfl) (by kernel_rfl) (fun _ _ _ h => h) (Or.inl ⟨by rfl, ?_⟩) (by assumption) ?_
                    rotate_left 1
                    · intro w' hSw
                      go_simp
                      all_goals first | with_reducible rfl | (rw [if_neg (by omega)]; done) | (rw [if_pos (by omega)]; done) | (rw [if_neg (by omega)]; with_reducible rfl) | (rw [if_pos (by omega)]; with_reducible rfl)
                    try simp only [List.getElem_toArray, List.getElem_cons_zero, List.getElem_cons_succ, Act.put, List.setIfInBounds_toArray, List.set_cons_zero, List.set_cons_succ]
                    refine wpAnyH_take (i := 10) (v := ?_) rfl (by kernel_rfl) (by kernel_rfl) (by kernel_rfl) (fun _ _ _ h => h) (Or.inl ⟨by rfl, ?_⟩) (by assumption) ?_
                    rotate_left 1
                    · intro w' hSw
                      go_simp
                      all_goals first | with_reducible rfl | (rw [if_neg (by omega)]; done) | (rw [if_pos (by omega)]; done) | (rw [if_neg (by omega)]; with_reducible rfl) | (rw [if_pos (by omega)]; with_reducible rfl)
                    try simp only [List.getElem_toArray, List.getElem_cons_zero, List.getElem_cons_succ, Act.put, List.setIfInBounds_toArray, List.set_cons_zero, List.set_cons_succ]
                    refine wpAnyH_take (i := 11) (v := ?_) rfl (by kernel_rfl) (by kernel_rfl) (by kernel_rfl) (fun _ _ _ h => h) (Or.inl ⟨by rfl, ?_⟩) (by assumption) ?_
                    rotate_left 1
                    · intro w' hSw
                      go_simp
                      all_goals first | with_reducible rfl | (rw [if_neg (by omega)]; done) | (rw [if_pos (by omega)]; done) | (rw [if_neg (by omega)]; with_reducible rfl) | (rw [if_pos (by omega)]; with_reducible rfl)
                    try simp only [List.getElem_toArray, List.getElem_cons_zero, List.getElem_cons_succ, Act.put, List.setIfInBounds_toArray, List.set_cons_zero, List.set_cons_succ]
                    refine wpAnyH_take (i := 12) (v := ?_) rfl (by kernel_rfl) (by kernel_rfl) (by kernel_rfl) (fun _ _ _ h => h) (Or.inl ⟨by rfl, ?_⟩) (by assumption) ?_
                    rotate_left 1
                    · intro w' hSw
                      go_simp
                      all_goals first | with_reducible rfl | (rw [if_neg (by omega)]; done) | (rw [if_pos (by omega)]; done) | (rw [if_neg (by omega)]; with_reducible rfl) | (rw [if_pos (by omega)]; with_reducible rfl)
                    try simp only [List.getElem_toArray, List.getElem_cons_zero, List.getElem_cons_succ, Act.put, List.setIfInBounds_toArray, List.set_cons_zero, List.set_cons_succ]
                    refine wpAnyH_take (i := 13) (v := ?_) rfl (by kernel_rfl) (by kernel_rfl) (by kernel_rfl) (fun _ _ _ h => h) (Or.inl ⟨by rfl, ?_⟩) (by assumption) ?_
                    rotate_left 1
                    · intro w' hSw
                      go_simp
                      all_goals first | with_reducible rfl | (rw [if_neg (by omega)]; done) | (rw [if_pos (by omega)]; done) | (rw [if_neg (by omega)]; with_reducible rfl) | (rw [if_pos (by omega)]; with_reducible rfl)
                    try simp only [List.getElem_toArray, List.getElem_cons_zero, List.getElem_cons_succ, Act.put, List.setIfInBounds_toArray, List.set_cons_zero, List.set_cons_succ]
                    refine wpAnyH_take (i := 14) (v := ?_) rfl (by kernel_rfl) (by kernel_rfl) (by kernel_rfl) (fun _ _ _ h => h) (Or.inl ⟨by rfl, ?_⟩) (by assumption) ?_
                    rotate_left 1
                    · intro w' hSw
                      go_simp
                      all_goals first | with_reducible rfl | (rw [if_neg (by omega)]; done) | (rw [if_pos (by omega)]; done) | (rw [if_neg (by omega)]; with_reducible rfl) | (rw [if_pos (by omega)]; with_reducible rfl)
                    try simp only [List.getElem_toArray, List.getElem_cons_zero, List.getElem_cons_succ, Act.put, List.setIfInBounds_toArray, List.set_cons_zero, List.set_cons_succ]
                    refine wpAnyH_take (i := 15) (v := ?_) rfl (by kernel_rfl) (by kernel_rfl) (by kernel_rfl) (fun _ _ _ h => h) (Or.inl ⟨by rfl, ?_⟩) (by assumption) ?_
                    rotate_left 1
                    · intro w' hSw
                      obtain ⟨y0, y1, y2, y3, y4, y5⟩ := hSw
                      go_simp
                      all_goals first | with_reducible rfl | (rw [if_neg (by omega)]; done) | (rw [if_pos (by omega)]; done) | (rw [if_neg (by omega)]; with_reducible rfl) | (rw [if_pos (by omega)]; with_reducible rfl)
                    try simp only [List.getElem_toArray, List.getElem_cons_zero, List.getElem_cons_succ, Act.put, List.setIfInBounds_toArray, List.set_cons_zero, List.set_cons_succ]
                    refine wpAnyH_take (i := 16) (v := ?_) rfl (by kernel_rfl) (by kernel_rfl) (by kernel_rfl) (fun _ _ _ h => h) (Or.inl ⟨by rfl, ?_⟩) (by assumption) ?_
                    rotate_left 1
                    · intro w' hSw
                      go_simp
                      all_goals first | with_reducible rfl | (rw [if_neg (by omega)]; done) | (rw [if_pos (by omega)]; done) | (rw [if_neg (by omega)]; with_reducible rfl) | (rw [if_pos (by omega)]; with_reducible rfl)
                    try simp only [List.getElem_toArray, List.getElem_cons_zero, List.getElem_cons_succ, Act.put, List.setIfInBounds_toArray, List.set_cons_zero, List.set_cons_succ]
                    refine wpAnyH_take (i := 17) (v := ?_) rfl (by kernel_rfl) (by kernel_rfl) (by kernel_rfl) (fun _ _ _ h => h) (Or.inl ⟨by rfl, ?_⟩) (by assumption) ?_
                    rotate_left 1
                    · intro w' hSw
                      go_simp
                      all_goals first | with_reducible rfl | (rw [if_neg (by omega)]; done) | (rw [if_pos (by omega)]; done) | (rw [if_neg (by omega)]; with_reducible rfl) | (rw [if_pos (by omega)]; with_reducible rfl)
                    try simp only [List.getElem_toArray, List.getElem_cons_zero, List.getElem_cons_succ, Act.put, List.setIfInBounds_toArray, List.set_cons_zero, List.set_cons_succ]
                    refine wpAnyH_take (i := 18) (v := ?_) rfl (by kernel_rfl) (by kernel_rfl) (by kernel_rfl) (fun _ _ _ h => h) (Or.inl ⟨by rfl, ?_⟩) (by assumption) ?_
                    rotate_left 1
                    · intro w' hSw
                      go_simp
                      all_goals first | with_reducible rfl | (rw [if_neg (by omega)]; done) | (rw [if_pos (by omega)]; done) | (rw [if_neg (by omega)]; with_reducible rfl) | (rw [if_pos (by omega)]; with_reducible rfl)
                    try simp only [List.getElem_toArray, List.getElem_cons_zero, List.getElem_cons_succ, Act.put, List.setIfInBounds_toArray, List.set_cons_zero, List.set_cons_succ]
                    refine wpAnyH_take (i := 19) (v := ?_) rfl (by kernel_rfl) (by kernel_rfl) (by kernel_rfl) (fun _ _ _ h => h) (Or.inl ⟨by rfl, ?_⟩) (by assumption) ?_
                    rotate_left 1
                    · intro w' hSw
                      obtain ⟨y0, y1, y2, y3, y4, y5⟩ := hSw
                      go_simp
                      all_goals first | with_reducible rfl | (rw [if_neg (by omega)]; done) | (rw [if_pos (by omega)]; done) | (rw [if_neg (by omega)]; with_reducible rfl) | (rw [if_pos (by omega)]; with_reducible rfl)
                    try simp only [List.getElem_toArray, List.getElem_cons_zero, List.getElem_cons_succ, Act.put, List.setIfInBounds_toArray, List.set_cons_zero, List.set_cons_succ]
                    refine wpAnyH_take (i := 20) (v := ?_) rfl (by kernel_rfl) (by kernel_rfl) (by kernel_rfl) (fun _ _ _ h => h) (Or.inl ⟨by rfl, ?_⟩) (by assumption) ?_
                    rotate_left 1
                    · intro w' hSw
                      go_simp
                      all_goals first | with_reducible rfl | (rw [if_neg (by omega)]; done) | (rw [if_pos (by omega)]; done) | (rw [if_neg (by omega)]; with_reducible rfl) | (rw [if_pos (by omega)]; with_reducible rfl)
                    try simp only [List.getElem_toArray, List.getElem_cons_zero, List.getElem_cons_succ, Act.put, List.setIfInBounds_toArray, List.set_cons_zero, List.set_cons_succ]
                    refine wpAnyH_take (i := 21) (v := ?_) rfl (by kernel_rfl) (by kernel_rfl) (by kernel_rfl) (fun _ _ _ h => h) (Or.inl ⟨by rfl, ?_⟩) (by assumption) ?_
                    rotate_left 1
                    · intro w' hSw
                      go_simp
                      all_goals first | with_reducible rfl | (rw [if_neg (by omega)]; done) | (rw [if_pos (by omega)]; done) | (rw [if_neg (by omega)]; with_reducible rfl) | (rw [if_pos (by omega)]; with_reducible rfl)
                    try simp only [List.getElem_toArray, List.getElem_cons_zero, List.getElem_cons_succ, Act.put, List.setIfInBounds_toArray, List.set_cons_zero, List.set_cons_succ]
                    refine wpAnyH_take (i := 22) (v := ?_) rfl (by kernel_rfl) (by kernel_rfl) (by kernel_rfl) (fun _ _ _ h => h) (Or.inl ⟨by rfl, ?_⟩) (by assumption) ?_
                    rotate_left 1
                    · intro w' hSw
                      go_simp
                      all_goals first | with_reducible rfl | (rw [if_neg (by omega)]; done) | (rw [if_pos (by omega)]; done) | (rw [if_neg (by omega)]; with_reducible rfl) | (rw [if_pos (by omega)]; with_reducible rfl)
                    try simp only [List.getElem_toArray, List.getElem_cons_zero, List.getElem_cons_succ, Act.put, List.setIfInBounds_toArray, List.set_cons_zero, List.set_cons_succ]
                    refine wpAnyH_take (i := 23) (v := ?_) rfl (by kernel_rfl) (by kernel_rfl) (by kernel_rfl) (fun _ _ _ h => h) (Or.inl ⟨by rfl, ?_⟩) (by assumption) ?_
                    rotate_left 1
                    · intro w' hSw
                      go_simp
                      all_goals first | with_reducible rfl | (rw [if_neg (by omega)]; done) | (rw [if_pos (by omega)]; done) | (rw [if_neg (by omega)]; with_reducible rfl) | (rw [if_pos (by omega)]; with_reducible rfl)
                    try simp only [List.getElem_toArray, List.getElem_cons_zero, List.getElem_cons_succ, Act.put, List.setIfInBounds_toArray, List.set_cons_zero, List.set_cons_succ]
                    refine wpAnyH_take (i := 24) (v := ?_) rfl (by kernel_rfl) (by kernel_rfl) (by kernel_rfl) (fun _ _ _ h => h) (Or.inl ⟨by rfl, ?_⟩) (by assumption) ?_
                    rotate_left 1
                    · intro w' hSw
                      go_simp
                      all_goals first | with_reducible rfl | (rw [if_neg (by omega)]; done) | (rw [if_pos (by omega)]; done) | (rw [if_neg (by omega)]; with_reducible rfl) | (rw [if_pos (by omega)]; with_reducible rfl)
                    try simp only [List.getElem_toArray, List.getElem_cons_zero, List.getElem_cons_succ, Act.put, List.setIfInBounds_toArray, List.set_cons_zero, List.set_cons_succ]
                    refine wpAnyH_take (i := 25) (v := ?_) rfl (by kernel_rfl) (by kernel_rfl) (by kernel_rfl) (fun _ _ _ h => h) (Or.inl ⟨by rfl, ?_⟩) (by assumption) ?_
                    rotate_left 1
                    · intro w' hSw
                      go_simp
                      all_goals first | with_reducible rfl | (rw [if_neg (by omega)]; done) | (rw [if_pos (by omega)]; done) | (rw [if_neg (by omega)]; with_reducible rfl) | (rw [if_pos (by omega)]; with_reducible rfl)
                    try simp only [List.getElem_toArray, List.getElem_cons_zero, List.getElem_cons_succ, Act.put, List.setIfInBounds_toArray, List.set_cons_zero, List.set_cons_succ]
                    refine wpAnyH_take (i := 26) (v := ?_) rfl (by kernel_rfl) (by kernel_rfl) (by kernel_rfl) (fun _ _ _ h => h) (Or.inl ⟨by rfl, ?_⟩) (by assumption) ?_
                    rotate_left 1
                    · intro w' hSw
                      go_simp
                      all_goals first | with_reducible rfl | (rw [if_neg (by omega)]; done) | (rw [if_pos (by omega)]; done) | (rw [if_neg (by omega)]; with_reducible rfl) | (rw [if_pos (by omega)]; with_reducible rfl)
                    try simp only [List.getElem_toArray, List.getElem_cons_zero, List.getElem_cons_succ, Act.put, List.setIfInBounds_toArray, List.set_cons_zero, List.set_cons_succ]
                    refine wpAnyH_take (i := 27) (v := ?_) rfl (by kernel_rfl) (by kernel_rfl) (by kernel_rfl) (fun _ _ _ h => h) (Or.inl ⟨by rfl, ?_⟩) (by assumption) ?_
                    rotate_left 1
                    · intro w' hSw
                      go_simp
                      all_goals first | with_reducible rfl | (rw [if_neg (by omega)]; done) | (rw [if_pos (by omega)]; done) | (rw [if_neg (by omega)]; with_reducible rfl) | (rw [if_pos (by omega)]; with_reducible rfl)
                    try simp only [List.getElem_toArray, List.getElem_cons_zero, List.getElem_cons_succ, Act.put, List.setIfInBounds_toArray, List.set_cons_zero, List.set_cons_succ]
                    refine wpAnyH_take (i := 28) (v := ?_) rfl (by kernel_rfl) (by kernel_rfl) (by kernel_rfl) (fun _ _ _ h => h) (Or.inl ⟨by rfl, ?_⟩) (by assumption) ?_
                    rotate_left 1
                    · intro w' hSw
                      go_simp
                      all_goals first | with_reducible rfl | (rw [if_neg (by omega)]; done) | (rw [if_pos (by omega)]; done) | (rw [if_neg (by omega)]; with_reducible rfl) | (rw [if_pos (by omega)]; with_reducible rfl)
                    try simp only [List.getElem_toArray, List.getElem_cons_zero, List.getElem_cons_succ, Act.put, List.setIfInBounds_toArray, List.set_cons_zero, List.set_cons_succ]
                    refine wpAnyH_take (i := 29) (v := ?_) rfl (by kernel_rfl) (by kernel_rfl) (by kernel_rfl) (fun _ _ _ h => h) (Or.inl ⟨by rfl, ?_⟩) (by assumption) ?_
                    rotate_left 1
                    · intro w' hSw
                      go_simp
                      all_goals first | with_reducible rfl | (rw [if_neg (by omega)]; done) | (rw [if_pos (by omega)]; done) | (rw [if_neg (by omega)]; with_reducible rfl) | (rw [if_pos (by omega)]; with_reducible rfl)
                    try simp only [List.getElem_toArray, List.getElem_cons_zero, List.getElem_cons_succ, Act.put, List.setIfInBounds_toArray, List.set_cons_zero, List.set_cons_succ]
                    refine wpAnyH_take (i := 30) (v := ?_) rfl (by kernel_rfl) (by kernel_rfl) (by kernel_rfl) (fun _ _ _ h => h) (Or.inl ⟨by rfl, ?_⟩) (by assumption) ?_
                    rotate_left 1
                    · intro w' hSw
                      obtain ⟨y0, y1, y2, y3, y4, y5⟩ := hSw
                      go_simp
                      all_goals first | with_reducible rfl | (rw [if_neg (by omega)]; done) | (rw [if_pos (by omega)]; done) | (rw [if_neg (by omega)]; with_reducible rfl) | (rw [if_pos (by omega)]; with_reducible rfl)
                    try simp only [List.getElem_toArray, List.getElem_cons_zero, List.getElem_cons_succ, Act.put, List.setIfInBounds_toArray, List.set_cons_zero, List.set_cons_succ]
                    refine wpAnyH_take (i := 31) (v := ?_) rfl (by kernel_rfl) (by kernel_rfl) (by kernel_rfl) (fun _ _ _ h => h) (Or.inl ⟨by rfl, ?_⟩) (by assumption) ?_
                    rotate_left 1
                    · intro w' hSw
                      go_simp
                      all_goals first | with_reducible rfl | (rw [if_neg (by omega)]; done) | (rw [if_pos (by omega)]; done) | (rw [if_neg (by omega)]; with_reducible rfl) | (rw [if_pos (by omega)]; with_reducible rfl)
                    try simp only [List.getElem_toArray, List.getElem_cons_zero, List.getElem_cons_succ, Act.put, List.setIfInBounds_toArray, List.set_cons_zero, List.set_cons_succ]
                    refine wpAnyH_take (i := 32) (v := ?_) rfl (by kernel_rfl) (by kernel_rfl) (by kernel_rfl) (fun _ _ _ h => h) (Or.inl ⟨by rfl, ?_⟩) (by assumption) ?_
                    rotate_left 1
                    · intro w' hSw
                      go_simp
                      all_goals first | with_reducible rfl | (rw [if_neg (by omega)]; done) | (rw [if_pos (by omega)]; done) | (rw [if_neg (by omega)]; with_reducible rfl) | (rw [if_pos (by omega)]; with_reducible rfl)
                    try simp only [List.getElem_toArray, List.getElem_cons_zero, List.getElem_cons_succ, Act.put, List.setIfInBounds_toArray, List.set_cons_zero, List.set_cons_succ]
                    refine wpAnyH_take (i := 33) (v := ?_) rfl (by kernel_rfl) (by kernel_rfl) (by kernel_rfl) (fun _ _ _ h => h) (Or.inl ⟨by rfl, ?_⟩) (by assumption) ?_
                    rotate_left 1
                    · intro w' hSw
                      go_simp
                      all_goals first | with_reducible rfl | (rw [if_neg (by omega)]; done) | (rw [if_pos (by omega)]; done) | (rw [if_neg (by omega)]; with_reducible rfl) | (rw [if_pos (by omega)]; with_reducible rfl)
                    try simp only [List.getElem_toArray, List.getElem_cons_zero, List.getElem_cons_succ, Act.put, List.setIfInBounds_toArray, List.set_cons_zero, List.set_cons_succ]
                    refine wpAnyH_take (i := 34) (v := ?_) rfl (by kernel_rfl) (by kernel_rfl) (by kernel_rfl) (fun _ _ _ h => h) (Or.inl ⟨by rfl, ?_⟩) (by assumption) ?_
                    rotate_left 1
                    · intro w' hSw
                      go_simp
                      all_goals first | with_reducible rfl | (rw [if_neg (by omega)]; done) | (rw [if_pos (by omega)]; done) | (rw [if_neg (by omega)]; with_reducible rfl) | (rw [if_pos (by omega)]; with_reducible rfl)
                    try simp only [List.getElem_toArray, List.getElem_cons_zero, List.getElem_cons_succ, Act.put, List.setIfInBounds_toArray, List.set_cons_zero, List.set_cons_succ]
                    refine wpAnyH_take (i := 35) (v := ?_) rfl (by kernel_rfl) (by kernel_rfl) (by kernel_rfl) (fun _ _ _ h => h) (Or.inl ⟨by rfl, ?_⟩) (by assumption) ?_
                    rotate_left 1
                    · intro w' hSw
                      obtain ⟨y0, y1, y2, y3, y4, y5⟩ := hSw
                      go_simp
                      all_goals first | with_reducible rfl | (rw [if_neg (by omega)]; done) | (rw [if_pos (by omega)]; done) | (rw [if_neg (by omega)]; with_reducible rfl) | (rw [if_pos (by omega)]; with_reducible rfl)
                    try simp only [List.getElem_toArray, List.getElem_cons_zero, List.getElem_cons_succ, Act.put, List.setIfInBounds_toArray, List.set_cons_zero, List.set_cons_succ]
                    refine wpAnyH_take (i := 36) (v := ?_) rfl (by kernel_rfl) (by kernel_rfl) (by kernel_rfl) (fun _ _ _ h => h) (Or.inl ⟨by rfl, ?_⟩) (by assumption) ?_
                    rotate_left 1
                    · intro w' hSw
                      go_simp
                      all_goals first | with_reducible rfl | (rw [if_neg (by omega)]; done) | (rw [if_pos (by omega)]; done) | (rw [if_neg (by omega)]; with_reducible rfl) | (rw [if_pos (by omega)]; with_reducible rfl)
                    try simp only [List.getElem_toArray, List.getElem_cons_zero, List.getElem_cons_succ, Act.put, List.setIfInBounds_toArray, List.set_cons_zero, List.set_cons_succ]
                    refine wpAnyH_take (i := 37) (v := ?_) rfl (by kernel_rfl) (by kernel_rfl) (by kernel_rfl) (fun _ _ _ h => h) (Or.inl ⟨by rfl, ?_⟩) (by assumption) ?_
                    rotate_left 1
                    · intro w' hSw
                      go_simp
                      all_goals first | with_reducible rfl | (rw [if_neg (by omega)]; done) | (rw [if_pos (by omega)]; done) | (rw [if_neg (by omega)]; with_reducible rfl) | (rw [if_pos (by omega)]; with_reducible rfl)
                    try simp only [List.getElem_toArray, List.getElem_cons_zero, List.getElem_cons_succ, Act.put, List.setIfInBounds_toArray, List.set_cons_zero, List.set_cons_succ]
                    refine wpAnyH_take (i := 38) (v := ?_) rfl (by kernel_rfl) (by kernel_rfl) (by kernel_rfl) (fun _ _ _ h => h) (Or.inl ⟨by rfl, ?_⟩) (by assumption) ?_
                    rotate_left 1
                    · intro w' hSw
                      go_simp
                      all_goals first | with_reducible rfl | (rw [if_neg (by omega)]; done) | (rw [if_pos (by omega)]; done) | (rw [if_neg (by omega)]; with_reducible rfl) | (rw [if_pos (by omega)]; with_reducible rfl)
                    try simp only [List.getElem_toArray, List.getElem_cons_zero, List.getElem_cons_succ, Act.put, List.setIfInBounds_toArray, List.set_cons_zero, List.set_cons_succ]
                    refine wpAnyH_done (by kernel_rfl) ?_ _
                    refine NoPanic.normal ?_
                    -- more region end
                    go_wp2_with fail
                    go_roundw
                    case rel => exact ⟨k + 1, by omega, by simp, HB5.out.drew⟩
                    case measure => simp [intOf]; omega
                · obtain rfl : k = M := by omega
                  go_wp2_with fail
                  refine (HL.out _).mono ?_
                  rintro e9 w9 ⟨rfl, hb9⟩
                  have B9 := Lib.hid (bthen (B3.out.trans (hb5.mono B3.out.size)) (Nat.le_trans B3.out.size hb5.size) hb9)
                  clear hb9
                  go_wp2_with fail
                  go_ret
                  exact ⟨rfl, B9.out⟩
theorem slotWhole_walk (v : Value) (L : List ByteArray) (e q g : Int) (w : World) (hs : Strs w w.heap.size v L) (_ : (Lit.int .i64 e).wf = true) (_ : (Lit.int .i64 q).wf = true) (hg : (Lit.int .i64 g).wf = true) :
    Calls Try.prog 7 #[v, .int .i64 e, .int .i64 q, .int .i64 g] w fun e w' => e = .returned (.bool true) ∧ Below w.heap.size w w' := by
  have hv := hs
  obtain ⟨A, c, rfl, _⟩ := hv
  rcases whole_key (L.length : Int) q g with h | h | h | h | ⟨h1, h2, h3, h4⟩
  · exact whole_out A L.length c e q g w (.inl h)
  · exact whole_out A L.length c e q g w (.inr (.inl h))
  · exact whole_out A L.length c e q g w (.inr (.inr (.inl h)))
  · exact whole_out A L.length c e q g w (.inr (.inr (.inr h)))
  · exact slotWhole_in _ L e q g w hs (by omega) h2 h3 h4 (wf_i64 hg).2
end Go.Proofs.Ytpccelebidiekaa
